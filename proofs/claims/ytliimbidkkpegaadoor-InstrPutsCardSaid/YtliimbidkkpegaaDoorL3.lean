import Derived.Test.YtliimbidkkpegaaDoorN
import Derived.Test.YtliimbidkkpegaaDoorYd
import Derived.Test.YtliimbidkkpegaaDoorZ
namespace Go.Proofs.YtliimbidkkpegaaDoor
open Go.ChangeShapes Go.WideShapes Go.ChangeAt Go.RowKit
set_option linter.unusedVariables false
set_option maxHeartbeats 1000000 in
theorem walk3 (o d a b m W E o2 d2 a2 b2 E2 : Nat) (n n2 : Int) (w : World) (hg : Glob w)
    (K7 : Hid (∀ w : World, Glob w → Calls Tryd.prog 7 #[.agg #[.int .u8 (o : Int), .int .u8 (d : Int), .int .u8 (a : Int), .int .u8 (b : Int), .int .i32 n]] w fun en w' => en = .returned (.tuple #[.int .u32 (W : Int), .int .i64 (E : Int)]) ∧ Below w.heap.size w w'))
    (K8 : Hid (∀ w : World, Calls Tryd.prog 8 #[.agg #[.int .u8 (o : Int), .int .u8 (d : Int), .int .u8 (a : Int), .int .u8 (b : Int), .int .i32 n]] w fun en w' => en = .returned (.tuple #[.int .u32 (W : Int), .int .i64 (E : Int)]) ∧ Below w.heap.size w w'))
    (K9 : Hid (∀ w : World, Glob w → Calls Tryd.prog 9 #[.int .u32 (m : Int)] w fun en w' => en = .returned (.tuple #[.agg #[.int .u8 (o2 : Int), .int .u8 (d2 : Int), .int .u8 (a2 : Int), .int .u8 (b2 : Int), .int .i32 n2], .int .i64 (E2 : Int)]) ∧ Below w.heap.size w w'))
    (K10 : Hid (∀ w : World, Calls Tryd.prog 10 #[.int .u32 (m : Int)] w fun en w' => en = .returned (.tuple #[.agg #[.int .u8 (o2 : Int), .int .u8 (d2 : Int), .int .u8 (a2 : Int), .int .u8 (b2 : Int), .int .i32 n2], .int .i64 (E2 : Int)]) ∧ Below w.heap.size w w'))
    (KE : Hid (∀ wz : World, (Op.equalIn 10000 24 (.agg #[.int .u8 (o2 : Int), .int .u8 (d2 : Int), .int .u8 (a2 : Int), .int .u8 (b2 : Int), .int .i32 n2]) (.agg #[.int .u8 (o2 : Int), .int .u8 (d2 : Int), .int .u8 (a2 : Int), .int .u8 (b2 : Int), .int .i32 n2])).run Tryd.prog wz = .ok true wz)) :
    Calls Tryd.prog 3 #[.agg #[.int .u8 (o : Int), .int .u8 (d : Int), .int .u8 (a : Int), .int .u8 (b : Int), .int .i32 n], .int .u32 (m : Int)] w fun en w' => en = .returned (.bool true) ∧ Below w.heap.size w w' := by
  have H := Lib.hid hg
  have hs := hg.size
  clear hg
  go_enter Tryd.func3, Tryd.ntmps3
  go_wp2_with fail
  refine (K7.out _ (H.out.below ((Below.refl _ _).alloc (Nat.le_refl _) _) hs)).mono ?_
  rintro _ w1 ⟨rfl, q1⟩
  have s1 := q1.size
  simp at s1
  have e1 : Below w.heap.size w w1 := ((Below.refl _ _).alloc (Nat.le_refl _) _).trans (q1.mono (by simp))
  have l1 : w.heap.size < w1.heap.size := by omega
  have l0 : w.heap.size < w.heap.size + 1 := by omega
  obtain ⟨hc1, hf1⟩ := bcell q1
  clear q1
  go_wp2_with fail
  refine (K8.out _).mono ?_
  rintro _ w2 ⟨rfl, q2⟩
  have e2 : Below w.heap.size w w2 := e1.trans (q2.mono (by omega))
  clear q2 hc1 hf1
  go_wp2_with fail
  refine (K9.out _ (H.out.below e2 hs)).mono ?_
  rintro _ w3 ⟨rfl, q3⟩
  have e3 : Below w.heap.size w w3 := e2.trans (q3.mono e2.size)
  clear q3
  go_wp2_with fail
  refine (K10.out _).mono ?_
  rintro _ w4 ⟨rfl, q4⟩
  have s4 := q4.size
  simp at s4
  have l3 : w3.heap.size < w4.heap.size := by omega
  have l5 : w3.heap.size < w3.heap.size + 1 := by omega
  have e4 : Below w.heap.size w w4 := (e3.alloc e3.size _).trans (q4.mono (by have := e3.size; simp; omega))
  obtain ⟨hc4, hf4⟩ := bcell q4
  clear q4
  have kE := KE.out
  go_wp2_with fail
  refine (works _ (H.out.below (e4.alloc e4.size _) hs)).mono ?_
  rintro _ w5 ⟨rfl, q5⟩
  go_wp2_with fail
  go_ret
  exact ⟨rfl, (e4.alloc e4.size _).trans (q5.mono (e4.alloc e4.size _).size)⟩
theorem law3 (o d a b : Nat) (n : Int) (m : Nat) (ho : o < 256) (hd : d < 256) (ha : a < 256) (hb : b < 256) (hn : i32 n) (hm : m < 4294967296) (w : World) (hg : Glob w) :
    Calls Tryd.prog 3 #[.agg #[.int .u8 (o : Int), .int .u8 (d : Int), .int .u8 (a : Int), .int .u8 (b : Int), .int .i32 n], .int .u32 (m : Int)] w fun en w' => en = .returned (.bool true) ∧ Below w.heap.size w w' := by
  have h7 := c7 o d a b n ho hd ha hb hn
  have h8 := c8 o d a b n ho hd ha hb hn
  have h9 := c9 m hm
  have h10 := c10 (fun o d a b n h1 h2 h3 h4 h5 w => c8 o d a b n h1 h2 h3 h4 h5 w) m hm
  generalize put o d a b n = r at *
  generalize get m = g at *
  obtain ⟨W, E⟩ := r
  obtain ⟨i, E2⟩ := g
  exact walk3 o d a b m W E i.o i.d i.a i.b E2 n i.m w hg (Lib.hid h7) (Lib.hid h8) (Lib.hid h9) (Lib.hid h10) (Lib.hid (eqSame i.o i.d i.a i.b i.m))
end Go.Proofs.YtliimbidkkpegaaDoor
