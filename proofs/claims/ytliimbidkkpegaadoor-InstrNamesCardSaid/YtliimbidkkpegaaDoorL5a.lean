import Derived.Test.YtliimbidkkpegaaDoorW
namespace Go.Proofs.YtliimbidkkpegaaDoor
open Go.ChangeShapes Go.WideShapes Go.ChangeAt Go.RowKit
set_option linter.unusedVariables false
set_option maxHeartbeats 1000000 in
theorem w5AA (o d a b m x : Nat) (n : Int) (hm : m < 4294967296) (w : World) (hg : Glob w) (o2 d2 a2 b2 : Nat) (n2 : Int)
    (KP : Hid (∀ w : World, Glob w → Calls Tryd.prog 7 #[.agg #[.int .u8 (o : Int), .int .u8 (d : Int), .int .u8 (a : Int), .int .u8 (b : Int), .int .i32 n]] w fun en w' => en = .returned (.tuple #[.int .u32 (x : Int), .int .i64 0]) ∧ Below w.heap.size w w'))
    (KG : Hid (∀ w : World, Glob w → Calls Tryd.prog 9 #[.int .u32 (x : Int)] w fun en w' => en = .returned (.tuple #[.agg #[.int .u8 (o : Int), .int .u8 (d : Int), .int .u8 (a : Int), .int .u8 (b : Int), .int .i32 n], .int .i64 0]) ∧ Below w.heap.size w w')) (KE : Hid (∀ wz : World, (Op.equalIn 10000 24 (.agg #[.int .u8 (o : Int), .int .u8 (d : Int), .int .u8 (a : Int), .int .u8 (b : Int), .int .i32 n]) (.agg #[.int .u8 (o : Int), .int .u8 (d : Int), .int .u8 (a : Int), .int .u8 (b : Int), .int .i32 n])).run Tryd.prog wz = .ok true wz))
    (KH : Hid (∀ w : World, Glob w → Calls Tryd.prog 9 #[.int .u32 (m : Int)] w fun en w' => en = .returned (.tuple #[.agg #[.int .u8 (o2 : Int), .int .u8 (d2 : Int), .int .u8 (a2 : Int), .int .u8 (b2 : Int), .int .i32 n2], .int .i64 0]) ∧ Below w.heap.size w w')) (KQ : Hid (∀ w : World, Glob w → Calls Tryd.prog 7 #[.agg #[.int .u8 (o2 : Int), .int .u8 (d2 : Int), .int .u8 (a2 : Int), .int .u8 (b2 : Int), .int .i32 n2]] w fun en w' => en = .returned (.tuple #[.int .u32 (m : Int), .int .i64 0]) ∧ Below w.heap.size w w'))
    : Calls Tryd.prog 5 #[.agg #[.int .u8 (o : Int), .int .u8 (d : Int), .int .u8 (a : Int), .int .u8 (b : Int), .int .i32 n], .int .u32 (m : Int)] w fun en w' => en = .returned (.bool true) ∧ Below w.heap.size w w' := by
  have H := Lib.hid hg
  have hs := hg.size
  clear hg
  go_enter Tryd.func5, Tryd.ntmps5
  go_wp2_with fail
  refine (KP.out _ (H.out.below ((Below.refl _ _).alloc (Nat.le_refl _) _) hs)).mono ?_
  rintro _ w1 ⟨rfl, b1⟩
  have G1 := Lib.hid (H.out.below (((Below.refl _ _).alloc (Nat.le_refl _) _).trans (b1.mono (by simp))) hs)
  have q1 := b1.size
  simp at q1
  have e1 : Below w.heap.size w w1 := ((Below.refl _ _).alloc (Nat.le_refl _) _).trans (b1.mono (by simp))
  have l1 : w.heap.size < w1.heap.size := by omega
  have l0 : w.heap.size < w.heap.size + 1 := by omega
  obtain ⟨hc1, hf1⟩ := bcell b1
  clear b1
  go_wp2_with fail
  refine (KG.out _ G1.out).mono ?_
  rintro _ w2 ⟨rfl, b2⟩
  have G2 := Lib.hid (G1.out.below (b2.alloc b2.size (.cells #[.int .u8 (o : Int), .int .u8 (d : Int), .int .u8 (a : Int), .int .u8 (b : Int), .int .i32 n] 24)) G1.out.size)
  have q2 := b2.size
  have l2 : w.heap.size < w2.heap.size := by omega
  obtain ⟨hc2, hf2⟩ := bcell b2
  have e2 : Below w.heap.size w w2 := e1.trans (b2.mono (by omega))
  clear b2
  have kE := KE.out
  go_wp2_with fail
  refine (KH.out _ G2.out).mono ?_
  rintro _ w3 ⟨rfl, b3⟩
  have e3 : Below w.heap.size w w3 := (e2.alloc (by omega) _).trans (b3.mono (by simp; omega))
  have G3 := Lib.hid (G2.out.below b3 G2.out.size)
  clear b3
  have l3 : w.heap.size ≤ w3.heap.size := e3.size
  go_wp2_with fail
  refine (KQ.out _ (G3.out.below ((Below.refl _ _).alloc (Nat.le_refl _) _) G3.out.size)).mono ?_
  rintro _ w4 ⟨rfl, b4⟩
  have e4 : Below w.heap.size w w4 := (e3.alloc l3 _).trans (b4.mono (by simp; omega))
  have G4 := Lib.hid (G3.out.below (((Below.refl _ _).alloc (Nat.le_refl _) _).trans (b4.mono (by simp))) G3.out.size)
  clear b4
  go_wp2_with fail
  refine (works _ G4.out).mono ?_
  rintro _ w5 ⟨rfl, b5⟩
  go_wp2_with fail
  go_ret
  exact ⟨rfl, e4.trans (b5.mono e4.size)⟩
set_option maxHeartbeats 1000000 in
theorem w5AB (o d a b m x : Nat) (n : Int) (hm : m < 4294967296) (w : World) (hg : Glob w)
    (KP : Hid (∀ w : World, Glob w → Calls Tryd.prog 7 #[.agg #[.int .u8 (o : Int), .int .u8 (d : Int), .int .u8 (a : Int), .int .u8 (b : Int), .int .i32 n]] w fun en w' => en = .returned (.tuple #[.int .u32 (x : Int), .int .i64 0]) ∧ Below w.heap.size w w'))
    (KG : Hid (∀ w : World, Glob w → Calls Tryd.prog 9 #[.int .u32 (x : Int)] w fun en w' => en = .returned (.tuple #[.agg #[.int .u8 (o : Int), .int .u8 (d : Int), .int .u8 (a : Int), .int .u8 (b : Int), .int .i32 n], .int .i64 0]) ∧ Below w.heap.size w w')) (KE : Hid (∀ wz : World, (Op.equalIn 10000 24 (.agg #[.int .u8 (o : Int), .int .u8 (d : Int), .int .u8 (a : Int), .int .u8 (b : Int), .int .i32 n]) (.agg #[.int .u8 (o : Int), .int .u8 (d : Int), .int .u8 (a : Int), .int .u8 (b : Int), .int .i32 n])).run Tryd.prog wz = .ok true wz))
    (KH : Hid (∀ w : World, Glob w → Calls Tryd.prog 9 #[.int .u32 (m : Int)] w fun en w' => en = .returned (.tuple #[.agg #[.int .u8 0, .int .u8 0, .int .u8 0, .int .u8 0, .int .i32 0], .int .i64 5]) ∧ Below w.heap.size w w')) (KZ : Hid (∀ wz : World, (Op.equalIn 10000 24 (.agg #[.int .u8 0, .int .u8 0, .int .u8 0, .int .u8 0, .int .i32 0]) (.agg #[.int .u8 0, .int .u8 0, .int .u8 0, .int .u8 0, .int .i32 0])).run Tryd.prog wz = .ok true wz))
    : Calls Tryd.prog 5 #[.agg #[.int .u8 (o : Int), .int .u8 (d : Int), .int .u8 (a : Int), .int .u8 (b : Int), .int .i32 n], .int .u32 (m : Int)] w fun en w' => en = .returned (.bool true) ∧ Below w.heap.size w w' := by
  have H := Lib.hid hg
  have hs := hg.size
  clear hg
  go_enter Tryd.func5, Tryd.ntmps5
  go_wp2_with fail
  refine (KP.out _ (H.out.below ((Below.refl _ _).alloc (Nat.le_refl _) _) hs)).mono ?_
  rintro _ w1 ⟨rfl, b1⟩
  have G1 := Lib.hid (H.out.below (((Below.refl _ _).alloc (Nat.le_refl _) _).trans (b1.mono (by simp))) hs)
  have q1 := b1.size
  simp at q1
  have e1 : Below w.heap.size w w1 := ((Below.refl _ _).alloc (Nat.le_refl _) _).trans (b1.mono (by simp))
  have l1 : w.heap.size < w1.heap.size := by omega
  have l0 : w.heap.size < w.heap.size + 1 := by omega
  obtain ⟨hc1, hf1⟩ := bcell b1
  clear b1
  go_wp2_with fail
  refine (KG.out _ G1.out).mono ?_
  rintro _ w2 ⟨rfl, b2⟩
  have G2 := Lib.hid (G1.out.below (b2.alloc b2.size (.cells #[.int .u8 (o : Int), .int .u8 (d : Int), .int .u8 (a : Int), .int .u8 (b : Int), .int .i32 n] 24)) G1.out.size)
  have q2 := b2.size
  have l2 : w.heap.size < w2.heap.size := by omega
  obtain ⟨hc2, hf2⟩ := bcell b2
  have e2 : Below w.heap.size w w2 := e1.trans (b2.mono (by omega))
  clear b2
  have kE := KE.out
  go_wp2_with fail
  refine (KH.out _ G2.out).mono ?_
  rintro _ w3 ⟨rfl, b3⟩
  have e3 : Below w.heap.size w w3 := (e2.alloc (by omega) _).trans (b3.mono (by simp; omega))
  have G3 := Lib.hid (G2.out.below b3 G2.out.size)
  clear b3
  have l3 : w.heap.size ≤ w3.heap.size := e3.size
  have kZ := KZ.out
  go_wp2_with fail
  refine (works _ (G3.out.below ((Below.refl _ _).alloc (Nat.le_refl _) _) G3.out.size)).mono ?_
  rintro _ w5 ⟨rfl, b5⟩
  go_wp2_with fail
  go_ret
  exact ⟨rfl, (e3.alloc l3 _).trans (b5.mono (e3.alloc l3 _).size)⟩
set_option maxHeartbeats 1000000 in
theorem w5BA (o d a b m x : Nat) (n : Int) (hm : m < 4294967296) (w : World) (hg : Glob w) (o2 d2 a2 b2 : Nat) (n2 : Int)
    (KP : Hid (∀ w : World, Glob w → Calls Tryd.prog 7 #[.agg #[.int .u8 (o : Int), .int .u8 (d : Int), .int .u8 (a : Int), .int .u8 (b : Int), .int .i32 n]] w fun en w' => en = .returned (.tuple #[.int .u32 0, .int .i64 2]) ∧ Below w.heap.size w w'))
    (KH : Hid (∀ w : World, Glob w → Calls Tryd.prog 9 #[.int .u32 (m : Int)] w fun en w' => en = .returned (.tuple #[.agg #[.int .u8 (o2 : Int), .int .u8 (d2 : Int), .int .u8 (a2 : Int), .int .u8 (b2 : Int), .int .i32 n2], .int .i64 0]) ∧ Below w.heap.size w w')) (KQ : Hid (∀ w : World, Glob w → Calls Tryd.prog 7 #[.agg #[.int .u8 (o2 : Int), .int .u8 (d2 : Int), .int .u8 (a2 : Int), .int .u8 (b2 : Int), .int .i32 n2]] w fun en w' => en = .returned (.tuple #[.int .u32 (m : Int), .int .i64 0]) ∧ Below w.heap.size w w'))
    : Calls Tryd.prog 5 #[.agg #[.int .u8 (o : Int), .int .u8 (d : Int), .int .u8 (a : Int), .int .u8 (b : Int), .int .i32 n], .int .u32 (m : Int)] w fun en w' => en = .returned (.bool true) ∧ Below w.heap.size w w' := by
  have H := Lib.hid hg
  have hs := hg.size
  clear hg
  go_enter Tryd.func5, Tryd.ntmps5
  go_wp2_with fail
  refine (KP.out _ (H.out.below ((Below.refl _ _).alloc (Nat.le_refl _) _) hs)).mono ?_
  rintro _ w1 ⟨rfl, b1⟩
  have G1 := Lib.hid (H.out.below (((Below.refl _ _).alloc (Nat.le_refl _) _).trans (b1.mono (by simp))) hs)
  have q1 := b1.size
  simp at q1
  have e1 : Below w.heap.size w w1 := ((Below.refl _ _).alloc (Nat.le_refl _) _).trans (b1.mono (by simp))
  have l1 : w.heap.size < w1.heap.size := by omega
  have l0 : w.heap.size < w.heap.size + 1 := by omega
  obtain ⟨hc1, hf1⟩ := bcell b1
  clear b1
  go_wp2_with fail
  refine (KH.out _ G1.out).mono ?_
  rintro _ w3 ⟨rfl, b3⟩
  have e3 : Below w.heap.size w w3 := e1.trans (b3.mono (by omega))
  have G3 := Lib.hid (G1.out.below b3 G1.out.size)
  clear b3
  have l3 : w.heap.size ≤ w3.heap.size := e3.size
  go_wp2_with fail
  refine (KQ.out _ (G3.out.below ((Below.refl _ _).alloc (Nat.le_refl _) _) G3.out.size)).mono ?_
  rintro _ w4 ⟨rfl, b4⟩
  have e4 : Below w.heap.size w w4 := (e3.alloc l3 _).trans (b4.mono (by simp; omega))
  have G4 := Lib.hid (G3.out.below (((Below.refl _ _).alloc (Nat.le_refl _) _).trans (b4.mono (by simp))) G3.out.size)
  clear b4
  go_wp2_with fail
  refine (works _ G4.out).mono ?_
  rintro _ w5 ⟨rfl, b5⟩
  go_wp2_with fail
  go_ret
  exact ⟨rfl, e4.trans (b5.mono e4.size)⟩
set_option maxHeartbeats 1000000 in
theorem w5BB (o d a b m x : Nat) (n : Int) (hm : m < 4294967296) (w : World) (hg : Glob w)
    (KP : Hid (∀ w : World, Glob w → Calls Tryd.prog 7 #[.agg #[.int .u8 (o : Int), .int .u8 (d : Int), .int .u8 (a : Int), .int .u8 (b : Int), .int .i32 n]] w fun en w' => en = .returned (.tuple #[.int .u32 0, .int .i64 2]) ∧ Below w.heap.size w w'))
    (KH : Hid (∀ w : World, Glob w → Calls Tryd.prog 9 #[.int .u32 (m : Int)] w fun en w' => en = .returned (.tuple #[.agg #[.int .u8 0, .int .u8 0, .int .u8 0, .int .u8 0, .int .i32 0], .int .i64 5]) ∧ Below w.heap.size w w')) (KZ : Hid (∀ wz : World, (Op.equalIn 10000 24 (.agg #[.int .u8 0, .int .u8 0, .int .u8 0, .int .u8 0, .int .i32 0]) (.agg #[.int .u8 0, .int .u8 0, .int .u8 0, .int .u8 0, .int .i32 0])).run Tryd.prog wz = .ok true wz))
    : Calls Tryd.prog 5 #[.agg #[.int .u8 (o : Int), .int .u8 (d : Int), .int .u8 (a : Int), .int .u8 (b : Int), .int .i32 n], .int .u32 (m : Int)] w fun en w' => en = .returned (.bool true) ∧ Below w.heap.size w w' := by
  have H := Lib.hid hg
  have hs := hg.size
  clear hg
  go_enter Tryd.func5, Tryd.ntmps5
  go_wp2_with fail
  refine (KP.out _ (H.out.below ((Below.refl _ _).alloc (Nat.le_refl _) _) hs)).mono ?_
  rintro _ w1 ⟨rfl, b1⟩
  have G1 := Lib.hid (H.out.below (((Below.refl _ _).alloc (Nat.le_refl _) _).trans (b1.mono (by simp))) hs)
  have q1 := b1.size
  simp at q1
  have e1 : Below w.heap.size w w1 := ((Below.refl _ _).alloc (Nat.le_refl _) _).trans (b1.mono (by simp))
  have l1 : w.heap.size < w1.heap.size := by omega
  have l0 : w.heap.size < w.heap.size + 1 := by omega
  obtain ⟨hc1, hf1⟩ := bcell b1
  clear b1
  go_wp2_with fail
  refine (KH.out _ G1.out).mono ?_
  rintro _ w3 ⟨rfl, b3⟩
  have e3 : Below w.heap.size w w3 := e1.trans (b3.mono (by omega))
  have G3 := Lib.hid (G1.out.below b3 G1.out.size)
  clear b3
  have l3 : w.heap.size ≤ w3.heap.size := e3.size
  have kZ := KZ.out
  go_wp2_with fail
  refine (works _ (G3.out.below ((Below.refl _ _).alloc (Nat.le_refl _) _) G3.out.size)).mono ?_
  rintro _ w5 ⟨rfl, b5⟩
  go_wp2_with fail
  go_ret
  exact ⟨rfl, (e3.alloc l3 _).trans (b5.mono (e3.alloc l3 _).size)⟩
end Go.Proofs.YtliimbidkkpegaaDoor
