import Derived.Test.YtleabbhoedddlaaY
namespace Go.Proofs.Ytleabbhoedddlaa
open Go.ChangeShapes Go.WideShapes Go.ChangeAt Go.RowKit
open Cp (cp arr mt num4)
set_option linter.unusedVariables false
theorem mLoadCap (b at_ : Nat) (B : Nat → Nat) (T : Nat → Bool) (w : World) (hm : Mem w b B T) (hw : granB at_ = true) :
    Calls Try.prog 18 #[.pointer (some ⟨b, 0, none⟩), .int .u32 (at_ : Int)] w fun en w' => en = .returned (.tuple #[ofV (B at_) (B (at_ + 1)) (B (at_ + 2)) (B (at_ + 3)) (B (at_ + 4)) (B (at_ + 5)) (B (at_ + 6)) (B (at_ + 7)) (T (at_ / 8)), .int .i64 0]) ∧ Below w.heap.size w w' := by
  obtain ⟨C, hC, r⟩ := hm
  have h8 : at_ < 65536 ∧ at_ % 8 = 0 := by
    unfold granB at hw
    simpa using hw
  have K13 := fun w => Cp.cb13 (B at_) (B (at_ + 1)) (B (at_ + 2)) (B (at_ + 3)) (B (at_ + 4)) (B (at_ + 5)) (B (at_ + 6)) (B (at_ + 7)) (T (at_ / 8)) (r.lt _) (r.lt _) (r.lt _) (r.lt _) (r.lt _) (r.lt _) (r.lt _) (r.lt _) w
  refine loadCap b at_ C (T (at_ / 8)) _ _ _ _ _ _ _ _ _ _ _ _ _ _ w (Mem.me hC r) (by omega) hw ?_ (r.tags _ (by omega)) (Lib.hid K13)
  intro j v hj
  have hlt : j < 8 := by
    rcases Nat.lt_or_ge j 8 with h | h
    · exact h
    · rw [List.getElem?_eq_none (by simp [bytes8]; omega)] at hj; cases hj
  have : j = 0 ∨ j = 1 ∨ j = 2 ∨ j = 3 ∨ j = 4 ∨ j = 5 ∨ j = 6 ∨ j = 7 := by omega
  rcases this with rfl | rfl | rfl | rfl | rfl | rfl | rfl | rfl
  all_goals
    rw [Nat.add_assoc, r.bytes _ (by omega)]
    exact hj
theorem mLoadCapNo (b at_ : Nat) (B : Nat → Nat) (T : Nat → Bool) (w : World) (hm : Mem w b B T) (hw : granB at_ = false) :
    Calls Try.prog 18 #[.pointer (some ⟨b, 0, none⟩), .int .u32 (at_ : Int)] w fun en w' => en = .returned (.tuple #[cp false 0 0 0 0 0 0, .int .i64 2]) ∧ Below w.heap.size w w' := by
  obtain ⟨C, hC, r⟩ := hm
  have K := Lib.hid (c31 at_)
  rw [hw] at K
  have HM := Lib.hid (Mem.me hC r)
  clear hw hC r
  go_enter Try.func18, Try.ntmps18
  go_wp2_with fail
  refine (Me.there (C := C) (w := w.alloc _) ⟨HM.out.1.alloc _, HM.out.2⟩).mono ?_
  rintro _ _ ⟨rfl, rfl⟩
  go_wp2_with fail
  refine (K.out _).mono ?_
  rintro _ _ ⟨rfl, rfl⟩
  go_wp2_with fail
  refine bodyPost_ret (v := .tuple #[.agg #[.bool false, .int .u32 0, .int .u8 0, .int .u8 0, .int .u8 0, .int .u16 0, .int .u16 0], .int .i64 2]) (by simp [results, Try.results18, go_sem]) rfl ⟨rfl, ?_⟩
  first | exact (Below.refl _ _).alloc (Nat.le_refl _) _ | exact ((((((((Below.refl _ _).alloc (Nat.le_refl _) _).setCell (Nat.le_refl _) _).setCell (Nat.le_refl _) _).setCell (Nat.le_refl _) _).setCell (Nat.le_refl _) _).setCell (Nat.le_refl _) _).setCell (Nat.le_refl _) _).setCell (Nat.le_refl _) _
end Go.Proofs.Ytleabbhoedddlaa
