import Derived.Test.YtliimbidkkpegaaDoorM
import Derived.Laws.StructEq
namespace Go.Proofs.YtliimbidkkpegaaDoor
open Go.ChangeShapes Go.WideShapes Go.ChangeAt Go.RowKit
set_option linter.unusedVariables false
theorem P1 (w : World) (hg : Glob w) : Calls Tryd.prog 7 #[.agg #[.int .u8 21, .int .u8 1, .int .u8 0, .int .u8 0, .int .i32 5]] w fun en w' => en = .returned (.tuple #[.int .u32 5243027, .int .i64 0]) ∧ Below w.heap.size w w' := by
  have h := c7 21 1 0 0 5 (by omega) (by omega) (by omega) (by omega) (by unfold i32; omega) w hg
  rw [show put 21 1 0 0 5 = (5243027, 0) by decide +kernel] at h
  exact h
theorem P2 (w : World) (hg : Glob w) : Calls Tryd.prog 7 #[.agg #[.int .u8 1, .int .u8 2, .int .u8 0, .int .u8 0, .int .i32 4096]] w fun en w' => en = .returned (.tuple #[.int .u32 4407, .int .i64 0]) ∧ Below w.heap.size w w' := by
  have h := c7 1 2 0 0 4096 (by omega) (by omega) (by omega) (by omega) (by unfold i32; omega) w hg
  rw [show put 1 2 0 0 4096 = (4407, 0) by decide +kernel] at h
  exact h
theorem P3 (w : World) (hg : Glob w) : Calls Tryd.prog 7 #[.agg #[.int .u8 5, .int .u8 0, .int .u8 1, .int .u8 2, .int .i32 (-4)]] w fun en w' => en = .returned (.tuple #[.int .u32 4263546595, .int .i64 0]) ∧ Below w.heap.size w w' := by
  have h := c7 5 0 1 2 (-4) (by omega) (by omega) (by omega) (by omega) (by unfold i32; omega) w hg
  rw [show put 5 0 1 2 (-4) = (4263546595, 0) by decide +kernel] at h
  exact h
theorem P4 (w : World) (hg : Glob w) : Calls Tryd.prog 7 #[.agg #[.int .u8 3, .int .u8 1, .int .u8 0, .int .u8 0, .int .i32 8]] w fun en w' => en = .returned (.tuple #[.int .u32 8388847, .int .i64 0]) ∧ Below w.heap.size w w' := by
  have h := c7 3 1 0 0 8 (by omega) (by omega) (by omega) (by omega) (by unfold i32; omega) w hg
  rw [show put 3 1 0 0 8 = (8388847, 0) by decide +kernel] at h
  exact h
theorem P5 (w : World) (hg : Glob w) : Calls Tryd.prog 9 #[.int .u32 0] w fun en w' => en = .returned (.tuple #[.agg #[.int .u8 0, .int .u8 0, .int .u8 0, .int .u8 0, .int .i32 0], .int .i64 5]) ∧ Below w.heap.size w w' := by
  have h := c9 0 (by omega) w hg
  have ho : opL 0 68 = 0 := by decide +kernel
  rw [show get 0 = (Ins.zero, 5) by unfold get; rw [if_pos ho]] at h
  exact h
theorem P6 (w : World) (hg : Glob w) : Calls Tryd.prog 7 #[.agg #[.int .u8 21, .int .u8 0, .int .u8 0, .int .u8 0, .int .i32 2048]] w fun en w' => en = .returned (.tuple #[.int .u32 0, .int .i64 2]) ∧ Below w.heap.size w w' := by
  have h := c7 21 0 0 0 2048 (by omega) (by omega) (by omega) (by omega) (by unfold i32; omega) w hg
  rw [show put 21 0 0 0 2048 = (0, 2) by decide +kernel] at h
  exact h
theorem works (w : World) (hg : Glob w) : Calls Tryd.prog 11 #[] w fun en w' => en = .returned (.bool true) ∧ Below w.heap.size w w' := by
  have H := Lib.hid hg
  clear hg
  go_enter Tryd.func11, Tryd.ntmps11
  go_wp2_with fail
  refine (P1 _ H.out).mono ?_
  rintro _ w1 ⟨rfl, b1⟩
  have g1 := Lib.hid (H.out.below b1 H.out.size)
  go_wp2_with fail
  refine (P2 _ g1.out).mono ?_
  rintro _ w2 ⟨rfl, b2⟩
  have g2 := Lib.hid (g1.out.below b2 g1.out.size)
  go_wp2_with fail
  refine (P3 _ g2.out).mono ?_
  rintro _ w3 ⟨rfl, b3⟩
  have g3 := Lib.hid (g2.out.below b3 g2.out.size)
  go_wp2_with fail
  refine (P4 _ g3.out).mono ?_
  rintro _ w4 ⟨rfl, b4⟩
  have g4 := Lib.hid (g3.out.below b4 g3.out.size)
  go_wp2_with fail
  refine (P5 _ g4.out).mono ?_
  rintro _ w5 ⟨rfl, b5⟩
  have g5 := Lib.hid (g4.out.below b5 g4.out.size)
  have e5 : Below w.heap.size w w5 := b1.trans ((b2.mono b1.size).trans ((b3.mono (Nat.le_trans b1.size b2.size)).trans ((b4.mono (Nat.le_trans b1.size (Nat.le_trans b2.size b3.size))).trans (b5.mono (Nat.le_trans b1.size (Nat.le_trans b2.size (Nat.le_trans b3.size b4.size)))))))
  clear b1 b2 b3 b4 b5
  go_wp2_with fail
  refine (P6 _ (g5.out.below ((Below.refl _ _).alloc (Nat.le_refl _) _) g5.out.size)).mono ?_
  rintro _ w6 ⟨rfl, b6⟩
  go_wp2_with fail
  go_ret
  exact ⟨rfl, (e5.alloc e5.size _).trans (b6.mono (e5.alloc e5.size _).size)⟩
end Go.Proofs.YtliimbidkkpegaaDoor
