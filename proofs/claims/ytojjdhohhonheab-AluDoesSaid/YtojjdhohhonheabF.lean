import Derived.Test.YtojjdhohhonheabB
import Derived.Test.YtojjdhohhonheabC
import Derived.Test.YtojjdhohhonheabE
namespace Go.Proofs.Ytojjdhohhonheab
open Go.ChangeShapes Go.WideShapes Go.ChangeAt Go.RowKit
set_option linter.unusedVariables false
theorem W1 (w : World) : Calls Try.prog 7 #[.int .u8 44, .int .u32 2147483648, .int .u32 4294967295] w fun en w' => en = .returned (.tuple #[.int .u32 2147483648, .int .i64 0]) ∧ w = w' := by
  have h := do44 2147483648 4294967295 (by omega) (by omega) w
  rw [show qv 2147483648 4294967295 = 2147483648 by decide +kernel] at h
  exact h
theorem W2 (w : World) : Calls Try.prog 7 #[.int .u8 46, .int .u32 7, .int .u32 0] w fun en w' => en = .returned (.tuple #[.int .u32 7, .int .i64 0]) ∧ w = w' := by
  have h := do46 7 0 (by omega) (by omega) w
  rw [show (((7 : Nat) : Int) - qv 7 0 * ((0 : Nat) : Int)) % 4294967296 = 7 by decide +kernel] at h
  exact h
theorem W3 (w : World) : Calls Try.prog 7 #[.int .u8 42, .int .u32 4294967295, .int .u32 2] w fun en w' => en = .returned (.tuple #[.int .u32 4294967295, .int .i64 0]) ∧ w = w' := by
  have h := do42 4294967295 2 (by omega) (by omega) w
  rw [show wrap32 ((4294967295 : Nat) : Int) * ((2 : Nat) : Int) / 4294967296 % 4294967296 = 4294967295 by decide +kernel] at h
  exact h
theorem W4 (w : World) : Calls Try.prog 7 #[.int .u8 37, .int .u32 2147483648, .int .u32 31] w fun en w' => en = .returned (.tuple #[.int .u32 4294967295, .int .i64 0]) ∧ w = w' := by
  have h := do37 2147483648 31 (by omega) (by omega) w
  rw [show wrap32 ((2147483648 : Nat) : Int) / 2 ^ (31 % 32) % 4294967296 = 4294967295 by decide +kernel] at h
  exact h
theorem W5 (w : World) : Calls Try.prog 7 #[.int .u8 5, .int .u32 1, .int .u32 1] w fun en w' => en = .returned (.tuple #[.int .u32 0, .int .i64 2]) ∧ w = w' := by
  have h := do5 1 1 (by omega) (by omega) w
  exact h
theorem W6 (w : World) : Calls Try.prog 9 #[.int .u8 9, .int .u32 1, .int .u32 2147483648] w fun en w' => en = .returned (.tuple #[.bool true, .int .i64 0]) ∧ w = w' := by
  have h := is9 1 2147483648 (by omega) (by omega) w
  rw [show decide (1 < 2147483648) = true by decide +kernel] at h
  exact h
set_option maxHeartbeats 1000000 in
theorem works (w : World) : Calls Try.prog 11 #[] w fun en w' => en = .returned (.bool true) ∧ w = w' := by
  go_enter Try.func11, Try.ntmps11
  go_wp2_with fail
  refine (W1 _).mono ?_
  rintro _ _ ⟨rfl, rfl⟩
  go_wp2_with fail
  refine (W2 _).mono ?_
  rintro _ _ ⟨rfl, rfl⟩
  go_wp2_with fail
  refine (W3 _).mono ?_
  rintro _ _ ⟨rfl, rfl⟩
  go_wp2_with fail
  refine (W4 _).mono ?_
  rintro _ _ ⟨rfl, rfl⟩
  go_wp2_with fail
  refine (W5 _).mono ?_
  rintro _ _ ⟨rfl, rfl⟩
  go_wp2_with fail
  refine (W6 _).mono ?_
  rintro _ _ ⟨rfl, rfl⟩
  go_wp2_with fail
  go_ret
  exact ⟨rfl, rfl⟩
end Go.Proofs.Ytojjdhohhonheab
