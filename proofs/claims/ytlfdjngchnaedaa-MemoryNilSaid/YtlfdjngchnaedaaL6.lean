import Derived.Test.YtlfdjngchnaedaaH
namespace Go.Proofs.Ytlfdjngchnaedaa
open Go.ChangeShapes Go.WideShapes Go.ChangeAt Go.RowKit
open Cp (cp arr mt)
set_option linter.unusedVariables false
theorem law6n (n a p y e b t : Nat) (g : Bool) (w : World) :
    Calls Try.prog 6 #[.int .u32 (n : Int), cp g a p y e b t, .bool false] w fun en w' => en = .returned (.bool true) ∧ Below w.heap.size w w' := by
  have l0 : w.heap.size < w.heap.size + 1 := by omega
  go_enter Try.func6, Try.ntmps6
  go_wp2_with fail
  refine (nLoad none _ n (Nope.nil _)).mono ?_
  rintro _ _ ⟨rfl, rfl⟩
  go_wp2_with fail
  refine (nLoadCap none n _ (fun _ => Nope.nil _)).mono ?_
  rintro _ w1 ⟨rfl, q1⟩
  have z1 := q1.size
  simp at z1
  have o1 : Below w.heap.size w w1 := ((Below.refl _ _).alloc (Nat.le_refl _) _).trans (q1.mono (by simp))
  have l1 : w.heap.size < w1.heap.size := by omega
  obtain ⟨hc1, hf1⟩ := bcell q1
  have O1 := Lib.hid o1
  clear q1 o1
  go_wp2_with fail
  refine (nBytes none _ 0 1 (Nope.nil _)).mono ?_
  rintro _ _ ⟨rfl, rfl⟩
  go_wp2_with fail
  refine (nTags none _ 0 1 (Nope.nil _)).mono ?_
  rintro _ _ ⟨rfl, rfl⟩
  go_wp2_with fail
  refine (nStore none _ n 1 1 (Nope.nil _)).mono ?_
  rintro _ _ ⟨rfl, rfl⟩
  go_wp2_with fail
  refine (nStoreCap none n _ _ _ _ _ _ _ _ (fun _ => Nope.nil _)).mono ?_
  rintro _ w2 ⟨rfl, q2⟩
  have o2 : Below w.heap.size w w2 := (O1.out.alloc (by omega) _).trans (q2.mono (by simp; omega))
  have O2 := Lib.hid o2
  clear q2 o2
  go_wp2_with fail
  refine (nCopy none _ (Nope.nil _)).mono ?_
  rintro _ _ ⟨rfl, rfl⟩
  go_wp2_with fail
  refine (lives _).mono ?_
  rintro _ w3 ⟨rfl, q3⟩
  go_wp2_with fail
  go_ret
  exact ⟨rfl, O2.out.trans (q3.mono O2.out.size)⟩
theorem law6z (n a p y e b t : Nat) (g : Bool) (w : World) :
    Calls Try.prog 6 #[.int .u32 (n : Int), cp g a p y e b t, .bool true] w fun en w' => en = .returned (.bool true) ∧ Below w.heap.size w w' := by
  have l0 : w.heap.size < w.heap.size + 1 := by omega
  have hz := zeroValue64
  go_enter Try.func6, Try.ntmps6
  go_wp2_with fail
  have hB : Blk ((w.alloc (.cells #[.bool g, .int .u32 (a : Int), .int .u8 (p : Int), .int .u8 (y : Int), .int .u8 (e : Int), .int .u16 (b : Int), .int .u16 (t : Int)] 35)).alloc (.cells Z 64)) (w.heap.size + 1) 64 Z := by
    have := Blk.new (w.alloc (.cells #[.bool g, .int .u32 (a : Int), .int .u8 (p : Int), .int .u8 (y : Int), .int .u8 (e : Int), .int .u16 (b : Int), .int .u16 (t : Int)] 35)) 64 Z
    simpa using this
  have HB := Lib.hid hB
  clear hB hz
  refine (nLoad _ _ n (Nope.zero HB.out Z0)).mono ?_
  rintro _ _ ⟨rfl, rfl⟩
  go_wp2_with fail
  refine (nLoadCap _ n _ (fun _ => Nope.zero (HB.out.alloc _) Z0)).mono ?_
  rintro _ w1 ⟨rfl, q1⟩
  have z1 := q1.size
  simp at z1
  have o1 : Below w.heap.size w w1 := (((Below.refl _ _).alloc (Nat.le_refl _) _).alloc (by simp) _).trans (q1.mono (by simp; omega))
  have l1 : w.heap.size < w1.heap.size := by omega
  have l2 : w.heap.size < w.heap.size + 1 + 1 := by omega
  have b1 : Blk w1 (w.heap.size + 1) 64 Z := HB.out.below q1 (by simp)
  obtain ⟨hc1, hf1⟩ := bcell q1
  have O1 := Lib.hid o1; have B1 := Lib.hid b1
  clear q1 o1 b1
  go_wp2_with fail
  refine (nBytes _ _ 0 1 (Nope.zero (B1.out.alloc _) Z0)).mono ?_
  rintro _ _ ⟨rfl, rfl⟩
  go_wp2_with fail
  refine (nTags _ _ 0 1 (Nope.zero (B1.out.alloc _) Z0)).mono ?_
  rintro _ _ ⟨rfl, rfl⟩
  go_wp2_with fail
  refine (nStore _ _ n 1 1 (Nope.zero (B1.out.alloc _) Z0)).mono ?_
  rintro _ _ ⟨rfl, rfl⟩
  go_wp2_with fail
  refine (nStoreCap _ n _ _ _ _ _ _ _ _ (fun _ => Nope.zero ((B1.out.alloc _).alloc _) Z0)).mono ?_
  rintro _ w2 ⟨rfl, q2⟩
  have o2 : Below w.heap.size w w2 := (O1.out.alloc (by omega) _).trans (q2.mono (by simp; omega))
  have b2 : Blk w2 (w.heap.size + 1) 64 Z := (B1.out.alloc _).below q2 (B1.out.alloc _).lt
  have O2 := Lib.hid o2; have B2 := Lib.hid b2
  clear q2 o2 b2
  go_wp2_with fail
  refine (nCopy _ _ (Nope.zero B2.out Z0)).mono ?_
  rintro _ _ ⟨rfl, rfl⟩
  go_wp2_with fail
  refine (lives _).mono ?_
  rintro _ w3 ⟨rfl, q3⟩
  go_wp2_with fail
  go_ret
  exact ⟨rfl, O2.out.trans (q3.mono O2.out.size)⟩
theorem law6 (n a p y e b t : Nat) (g z : Bool) (w : World) :
    Calls Try.prog 6 #[.int .u32 (n : Int), cp g a p y e b t, .bool z] w fun en w' => en = .returned (.bool true) ∧ Below w.heap.size w w' := by
  cases z
  · exact law6n n a p y e b t g w
  · exact law6z n a p y e b t g w
end Go.Proofs.Ytlfdjngchnaedaa
