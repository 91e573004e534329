import Derived.Test.YtkiojljopigldaaDoorQc
namespace Go.Proofs.YtkiojljopigldaaDoor.Rel
open Go.ChangeShapes Go.WideShapes Go.ChangeAt Go.RowKit
set_option linter.unusedVariables false
theorem W0 (w : World) : Calls Tryd.prog 16 #[.int .u8 26, .int .u32 2048, .int .u32 0, .int .u32 0, .int .u32 0] w fun en w' => en = .returned (.tuple #[.int .i32 4096, .int .i64 0]) ∧ w = w' := by
  have h := val26 2048 0 0 0 (by omega) (by omega) (by omega) (by omega) w
  rw [show wrap32 (H ((2048 + 0) % 4294967296) : Int) = 4096 by decide +kernel] at h
  exact h
theorem W1 (w : World) : Calls Tryd.prog 16 #[.int .u8 27, .int .u32 2048, .int .u32 0, .int .u32 0, .int .u32 0] w fun en w' => en = .returned (.tuple #[.int .i32 (-2048), .int .i64 0]) ∧ w = w' := by
  have h := val27 2048 0 0 0 (by omega) (by omega) (by omega) (by omega) w
  rw [show wrap32 ((((2048 + 0) % 4294967296 : Nat) : Int) - (H ((2048 + 0) % 4294967296) : Int)) = -2048 by decide +kernel] at h
  exact h
theorem W2 (w : World) : Calls Tryd.prog 16 #[.int .u8 16, .int .u32 8, .int .u32 0, .int .u32 0, .int .u32 0] w fun en w' => en = .returned (.tuple #[.int .i32 8, .int .i64 0]) ∧ w = w' := by
  have h := val16 8 0 0 0 (by omega) (by omega) (by omega) (by omega) w
  rw [show ((8 + 0) % 4294967296 + 4294967296 - 0) % 4294967296 = 8 from rfl, show fe 8 4096 2 = true by decide +kernel, show ckV true 8 = .tuple #[.int .i32 (wrap32 ((8 : Nat) : Int)), .int .i64 0] from rfl, show wrap32 ((8 : Nat) : Int) = 8 by decide +kernel] at h
  exact h
theorem W3 (w : World) : Calls Tryd.prog 16 #[.int .u8 16, .int .u32 8, .int .u32 1, .int .u32 0, .int .u32 0] w fun en w' => en = .returned (.tuple #[.int .i32 0, .int .i64 3]) ∧ w = w' := by
  have h := val16 8 1 0 0 (by omega) (by omega) (by omega) (by omega) w
  rw [show ((8 + 1) % 4294967296 + 4294967296 - 0) % 4294967296 = 9 from rfl, show fe 9 4096 2 = false by decide +kernel, show ckV false 9 = .tuple #[.int .i32 0, .int .i64 3] from rfl] at h
  exact h
theorem W4 (w : World) : Calls Tryd.prog 16 #[.int .u8 1, .int .u32 5, .int .u32 6, .int .u32 7, .int .u32 8] w fun en w' => en = .returned (.tuple #[.int .i32 11, .int .i64 0]) ∧ w = w' := by
  have h := val1 5 6 7 8 (by omega) (by omega) (by omega) (by omega) w
  rw [show wrap32 (((5 + 6) % 4294967296 : Nat) : Int) = 11 by decide +kernel] at h
  exact h
theorem W5 (w : World) : Calls Tryd.prog 16 #[.int .u8 193, .int .u32 4096, .int .u32 0, .int .u32 0, .int .u32 4090] w fun en w' => en = .returned (.tuple #[.int .i32 6, .int .i64 0]) ∧ w = w' := by
  have h := val193 4096 0 0 4090 (by omega) (by omega) (by omega) (by omega) w
  rw [show ((4096 + 0) % 4294967296 + 4294967296 - 4090) % 4294967296 = 6 from rfl, show fe 6 2048 1 = true by decide +kernel, show ckV true 6 = .tuple #[.int .i32 (wrap32 ((6 : Nat) : Int)), .int .i64 0] from rfl, show wrap32 ((6 : Nat) : Int) = 6 by decide +kernel] at h
  exact h
set_option maxHeartbeats 1000000 in
theorem works (w : World) : Calls Tryd.prog 7 #[] w fun en w' => en = .returned (.bool true) ∧ w = w' := by
  go_enter Tryd.func7, Tryd.ntmps7
  go_wp2_with fail
  refine (W0 _).mono ?_
  rintro _ _ ⟨rfl, rfl⟩
  go_wp2_with fail
  refine (W1 _).mono ?_
  rintro _ _ ⟨rfl, rfl⟩
  go_wp2_with fail
  refine (W2 _).mono ?_
  rintro _ _ ⟨rfl, rfl⟩
  go_wp2_with fail
  refine (W3 _).mono ?_
  rintro _ _ ⟨rfl, rfl⟩
  go_wp2_with fail
  refine (W4 _).mono ?_
  rintro _ _ ⟨rfl, rfl⟩
  go_wp2_with fail
  refine (W5 _).mono ?_
  rintro _ _ ⟨rfl, rfl⟩
  go_wp2_with fail
  go_ret
  exact ⟨rfl, rfl⟩
end Go.Proofs.YtkiojljopigldaaDoor.Rel
