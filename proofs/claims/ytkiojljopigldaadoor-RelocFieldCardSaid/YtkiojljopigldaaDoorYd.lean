import Derived.Test.YtkiojljopigldaaDoorYa
import Derived.Test.YtkiojljopigldaaDoorYb
import Derived.Test.YtkiojljopigldaaDoorYc
namespace Go.Proofs.YtkiojljopigldaaDoor
open Go.ChangeShapes Go.WideShapes Go.ChangeAt Go.RowKit
set_option linter.unusedVariables false
def refT (f W rc r3 rx : Nat) : Bool :=
  match f with
  | 10 => decide (r3 = 0 ∧ W = rc ∧ rc < 4294967296)
  | 0 => decide (rc < 128 ∧ r3 = 0 ∧ W = rc)
  | 1 => decide (rc < 128 ∧ r3 = 0 ∧ W = rc)
  | 2 => decide (rc < 128 ∧ r3 < 8 ∧ W = rc + r3 * 4096)
  | 3 => decide (rc < 128 ∧ r3 < 8 ∧ W = rc + r3 * 4096)
  | 5 => decide (rc < 128 ∧ r3 < 8 ∧ W = rc + r3 * 4096)
  | 6 => decide (rc < 128 ∧ r3 < 8 ∧ W = rc + r3 * 4096)
  | 8 => decide (rc < 128 ∧ r3 < 8 ∧ rx < 4096 ∧ W = rc + r3 * 4096 + rx * 1048576)
  | _ => decide (rc < 128 ∧ r3 < 8 ∧ rx < 128 ∧ W = rc + r3 * 4096 + rx * 33554432)
theorem RQ_ok : ∀ q : Fin 68, (RQ q.val).2.1 = FL q.val ∧ refT (FL q.val) (WL q.val) (RQ q.val).2.2.1 (RQ q.val).2.2.2.1 (RQ q.val).2.2.2.2 = true := by decide +kernel
set_option maxHeartbeats 1000000 in
set_option maxRecDepth 100000 in
theorem refNo (o d a b : Nat) (n : Int) (ho : o = 0 ∨ 68 < o) (ho2 : o < 256) (w : World) : Calls Tryd.prog 8 #[insV o d a b n] w fun en w' => en = .returned (weV (0, 2)) ∧ Below w.heap.size w w' := by
  have k := fun w => c18 o ho2 w
  have e : row18 o = .tuple #[.agg #[.int .u8 0, .string ⟨#[]⟩, .int .i64 0, .int .u32 0, .int .u32 0, .int .u32 0], .bool false] := by unfold row18; rw [if_pos ho]
  rw [e] at k
  have K := Lib.hid k
  clear k e ho
  unfold insV
  go_enter Tryd.func8, Tryd.ntmps8
  go_wp2_with fail
  refine (K.out _).mono ?_
  rintro _ w1 ⟨rfl, b1⟩
  have q1 := b1.size
  simp at q1
  have f1 : Below w.heap.size w w1 := ((Below.refl _ _).alloc (Nat.le_refl _) _).trans (b1.mono (by simp))
  clear b1
  go_wp2_with fail
  go_ret2
  exact ⟨rfl, f1.alloc (by omega) _⟩
theorem c8 (o d a b : Nat) (n : Int) (ho : o < 256) (hd : d < 256) (ha : a < 256) (hb : b < 256) (hn : i32 n) (w : World) :
    Calls Tryd.prog 8 #[insV o d a b n] w fun en w' => en = .returned (weV (put o d a b n)) ∧ Below w.heap.size w w' := by
  by_cases h0 : o = 0 ∨ 68 < o
  · have e : put o d a b n = (0, 2) := by unfold put; rw [if_pos h0]
    rw [e]
    exact refNo o d a b n h0 ho w
  obtain ⟨q, rfl⟩ : ∃ q, o = q + 1 := ⟨o - 1, by omega⟩
  rw [weV_put q d a b n (by omega)]
  obtain ⟨h1, h2⟩ := RQ_ok ⟨q, by omega⟩
  have hle := (FL_free ⟨q, by omega⟩).2
  simp only at h1 h2 hle
  obtain ⟨rn, rf, rc, r3, rx, hRQ⟩ : ∃ (rn : List UInt8) (rf rc r3 rx : Nat), RQ q = (rn, rf, rc, r3, rx) := ⟨_, _, _, _, _, rfl⟩
  rw [hRQ] at h1 h2
  simp only at h1 h2
  have k : ∀ w : World, Calls Tryd.prog 17 #[.int .u8 ((q : Int) + 1)] w fun en w' => en = .returned (.tuple #[.agg #[.int .u8 ((q : Int) + 1), .string ⟨rn.toArray⟩, .int .i64 (FL q : Int), .int .u32 (rc : Int), .int .u32 (r3 : Int), .int .u32 (rx : Int)], .bool true]) ∧ Below w.heap.size w w' := fun w => by
    have := c18 (q + 1) (by omega) w
    unfold row18 rowV at this
    rw [if_neg (by omega), Nat.add_sub_cancel, hRQ, h1, Int.natCast_add] at this
    exact this
  unfold insV
  rw [Int.natCast_add]
  clear hRQ h1
  generalize FL q = f at *
  generalize WL q = W at *
  have hf : f = 0 ∨ f = 1 ∨ f = 2 ∨ f = 3 ∨ f = 4 ∨ f = 5 ∨ f = 6 ∨ f = 7 ∨ f = 8 ∨ f = 9 ∨ f = 10 := by omega
  rcases hf with rfl | rfl | rfl | rfl | rfl | rfl | rfl | rfl | rfl | rfl | rfl
  · exact refPut0 q W d a b rc r3 rx rn n (by omega) hd ha hb hn (of_decide_eq_true h2) (Lib.hid k) w
  · exact refPut1 q W d a b rc r3 rx rn n (by omega) hd ha hb hn (of_decide_eq_true h2) (Lib.hid k) w
  · exact refPut2 q W d a b rc r3 rx rn n (by omega) hd ha hb hn (of_decide_eq_true h2) (Lib.hid k) w
  · exact refPut3 q W d a b rc r3 rx rn n (by omega) hd ha hb hn (of_decide_eq_true h2) (Lib.hid k) w
  · exact refPut4 q W d a b rc r3 rx rn n (by omega) hd ha hb hn (of_decide_eq_true h2) (Lib.hid k) w
  · exact refPut5 q W d a b rc r3 rx rn n (by omega) hd ha hb hn (of_decide_eq_true h2) (Lib.hid k) w
  · exact refPut6 q W d a b rc r3 rx rn n (by omega) hd ha hb hn (of_decide_eq_true h2) (Lib.hid k) w
  · exact refPut7 q W d a b rc r3 rx rn n (by omega) hd ha hb hn (of_decide_eq_true h2) (Lib.hid k) w
  · exact refPut8 q W d a b rc r3 rx rn n (by omega) hd ha hb hn (of_decide_eq_true h2) (Lib.hid k) w
  · exact refPut9 q W d a b rc r3 rx rn n (by omega) hd ha hb hn (of_decide_eq_true h2) (Lib.hid k) w
  · exact refPut10 q W d a b rc r3 rx rn n (by omega) hd ha hb hn (of_decide_eq_true h2) (Lib.hid k) w
end Go.Proofs.YtkiojljopigldaaDoor
