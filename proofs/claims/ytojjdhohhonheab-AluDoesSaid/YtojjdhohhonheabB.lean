import Derived.Test.YtojjdhohhonheabA
namespace Go.Proofs.Ytojjdhohhonheab
open Go.ChangeShapes Go.WideShapes Go.ChangeAt Go.RowKit
set_option linter.unusedVariables false
theorem do21 (a b : Nat) (ha : a < 4294967296) (hb : b < 4294967296) (w : World) : Calls Try.prog 7 #[.int .u8 21, .int .u32 (a : Int), .int .u32 (b : Int)] w fun en w' => en = .returned (.tuple #[.int .u32 (((a : Int) + (b : Int)) % 4294967296), .int .i64 0]) ∧ w = w' := by
  go_enter Try.func7, Try.ntmps7
  go_wp2
  go_ret2
  exact ⟨ret2 rfl rfl, rfl⟩
theorem do30 (a b : Nat) (ha : a < 4294967296) (hb : b < 4294967296) (w : World) : Calls Try.prog 7 #[.int .u8 30, .int .u32 (a : Int), .int .u32 (b : Int)] w fun en w' => en = .returned (.tuple #[.int .u32 (((a : Int) + (b : Int)) % 4294967296), .int .i64 0]) ∧ w = w' := by
  go_enter Try.func7, Try.ntmps7
  go_wp2
  go_ret2
  exact ⟨ret2 rfl rfl, rfl⟩
theorem do31 (a b : Nat) (ha : a < 4294967296) (hb : b < 4294967296) (w : World) : Calls Try.prog 7 #[.int .u8 31, .int .u32 (a : Int), .int .u32 (b : Int)] w fun en w' => en = .returned (.tuple #[.int .u32 (((a : Int) - (b : Int)) % 4294967296), .int .i64 0]) ∧ w = w' := by
  go_enter Try.func7, Try.ntmps7
  go_wp2
  go_ret2
  exact ⟨ret2 rfl rfl, rfl⟩
theorem do22 (a b : Nat) (ha : a < 4294967296) (hb : b < 4294967296) (w : World) : Calls Try.prog 7 #[.int .u8 22, .int .u32 (a : Int), .int .u32 (b : Int)] w fun en w' => en = .returned (.tuple #[.int .u32 (b2i (decide (wrap32 (a : Int) < wrap32 (b : Int)))), .int .i64 0]) ∧ w = w' := by
  go_enter Try.func7, Try.ntmps7
  go_wp2_with (go_at_call 12; refine (flag12 _ _).mono ?_; rintro _ _ ⟨rfl, rfl⟩)
  go_ret2
  exact ⟨ret2 rfl rfl, rfl⟩
theorem do33 (a b : Nat) (ha : a < 4294967296) (hb : b < 4294967296) (w : World) : Calls Try.prog 7 #[.int .u8 33, .int .u32 (a : Int), .int .u32 (b : Int)] w fun en w' => en = .returned (.tuple #[.int .u32 (b2i (decide (wrap32 (a : Int) < wrap32 (b : Int)))), .int .i64 0]) ∧ w = w' := by
  go_enter Try.func7, Try.ntmps7
  go_wp2_with (go_at_call 12; refine (flag12 _ _).mono ?_; rintro _ _ ⟨rfl, rfl⟩)
  go_ret2
  exact ⟨ret2 rfl rfl, rfl⟩
theorem do23 (a b : Nat) (ha : a < 4294967296) (hb : b < 4294967296) (w : World) : Calls Try.prog 7 #[.int .u8 23, .int .u32 (a : Int), .int .u32 (b : Int)] w fun en w' => en = .returned (.tuple #[.int .u32 (b2i (decide (a < b))), .int .i64 0]) ∧ w = w' := by
  go_enter Try.func7, Try.ntmps7
  go_wp2_with (go_at_call 12; refine (flag12 _ _).mono ?_; rintro _ _ ⟨rfl, rfl⟩)
  go_ret2
  exact ⟨ret2 rfl rfl, rfl⟩
theorem do34 (a b : Nat) (ha : a < 4294967296) (hb : b < 4294967296) (w : World) : Calls Try.prog 7 #[.int .u8 34, .int .u32 (a : Int), .int .u32 (b : Int)] w fun en w' => en = .returned (.tuple #[.int .u32 (b2i (decide (a < b))), .int .i64 0]) ∧ w = w' := by
  go_enter Try.func7, Try.ntmps7
  go_wp2_with (go_at_call 12; refine (flag12 _ _).mono ?_; rintro _ _ ⟨rfl, rfl⟩)
  go_ret2
  exact ⟨ret2 rfl rfl, rfl⟩
theorem do24 (a b : Nat) (ha : a < 4294967296) (hb : b < 4294967296) (w : World) : Calls Try.prog 7 #[.int .u8 24, .int .u32 (a : Int), .int .u32 (b : Int)] w fun en w' => en = .returned (.tuple #[.int .u32 (bits .xor .u32 (a : Int) (b : Int)), .int .i64 0]) ∧ w = w' := by
  go_enter Try.func7, Try.ntmps7
  go_wp2
  go_ret2
  exact ⟨ret2 rfl rfl, rfl⟩
theorem do35 (a b : Nat) (ha : a < 4294967296) (hb : b < 4294967296) (w : World) : Calls Try.prog 7 #[.int .u8 35, .int .u32 (a : Int), .int .u32 (b : Int)] w fun en w' => en = .returned (.tuple #[.int .u32 (bits .xor .u32 (a : Int) (b : Int)), .int .i64 0]) ∧ w = w' := by
  go_enter Try.func7, Try.ntmps7
  go_wp2
  go_ret2
  exact ⟨ret2 rfl rfl, rfl⟩
end Go.Proofs.Ytojjdhohhonheab
