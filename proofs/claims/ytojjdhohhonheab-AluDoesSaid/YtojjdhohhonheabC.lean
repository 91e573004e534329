import Derived.Test.YtojjdhohhonheabA
namespace Go.Proofs.Ytojjdhohhonheab
open Go.ChangeShapes Go.WideShapes Go.ChangeAt Go.RowKit
set_option linter.unusedVariables false
theorem do25 (a b : Nat) (ha : a < 4294967296) (hb : b < 4294967296) (w : World) : Calls Try.prog 7 #[.int .u8 25, .int .u32 (a : Int), .int .u32 (b : Int)] w fun en w' => en = .returned (.tuple #[.int .u32 (bits .or .u32 (a : Int) (b : Int)), .int .i64 0]) ∧ w = w' := by
  go_enter Try.func7, Try.ntmps7
  go_wp2
  go_ret2
  exact ⟨ret2 rfl rfl, rfl⟩
theorem do38 (a b : Nat) (ha : a < 4294967296) (hb : b < 4294967296) (w : World) : Calls Try.prog 7 #[.int .u8 38, .int .u32 (a : Int), .int .u32 (b : Int)] w fun en w' => en = .returned (.tuple #[.int .u32 (bits .or .u32 (a : Int) (b : Int)), .int .i64 0]) ∧ w = w' := by
  go_enter Try.func7, Try.ntmps7
  go_wp2
  go_ret2
  exact ⟨ret2 rfl rfl, rfl⟩
theorem do26 (a b : Nat) (ha : a < 4294967296) (hb : b < 4294967296) (w : World) : Calls Try.prog 7 #[.int .u8 26, .int .u32 (a : Int), .int .u32 (b : Int)] w fun en w' => en = .returned (.tuple #[.int .u32 (bits .and .u32 (a : Int) (b : Int)), .int .i64 0]) ∧ w = w' := by
  go_enter Try.func7, Try.ntmps7
  go_wp2
  go_ret2
  exact ⟨ret2 rfl rfl, rfl⟩
theorem do39 (a b : Nat) (ha : a < 4294967296) (hb : b < 4294967296) (w : World) : Calls Try.prog 7 #[.int .u8 39, .int .u32 (a : Int), .int .u32 (b : Int)] w fun en w' => en = .returned (.tuple #[.int .u32 (bits .and .u32 (a : Int) (b : Int)), .int .i64 0]) ∧ w = w' := by
  go_enter Try.func7, Try.ntmps7
  go_wp2
  go_ret2
  exact ⟨ret2 rfl rfl, rfl⟩
theorem do27 (a b : Nat) (ha : a < 4294967296) (hb : b < 4294967296) (w : World) : Calls Try.prog 7 #[.int .u8 27, .int .u32 (a : Int), .int .u32 (b : Int)] w fun en w' => en = .returned (.tuple #[.int .u32 ((a : Int) * 2 ^ (b % 32) % 4294967296), .int .i64 0]) ∧ w = w' := by
  have k := and31 b hb
  have l : b % 32 < 32 := by omega
  generalize b % 32 = s at *
  go_enter Try.func7, Try.ntmps7
  go_wp2
  go_ret2
  exact ⟨ret2 rfl rfl, rfl⟩
theorem do32 (a b : Nat) (ha : a < 4294967296) (hb : b < 4294967296) (w : World) : Calls Try.prog 7 #[.int .u8 32, .int .u32 (a : Int), .int .u32 (b : Int)] w fun en w' => en = .returned (.tuple #[.int .u32 ((a : Int) * 2 ^ (b % 32) % 4294967296), .int .i64 0]) ∧ w = w' := by
  have k := and31 b hb
  have l : b % 32 < 32 := by omega
  generalize b % 32 = s at *
  go_enter Try.func7, Try.ntmps7
  go_wp2
  go_ret2
  exact ⟨ret2 rfl rfl, rfl⟩
theorem do28 (a b : Nat) (ha : a < 4294967296) (hb : b < 4294967296) (w : World) : Calls Try.prog 7 #[.int .u8 28, .int .u32 (a : Int), .int .u32 (b : Int)] w fun en w' => en = .returned (.tuple #[.int .u32 ((a : Int) / 2 ^ (b % 32)), .int .i64 0]) ∧ w = w' := by
  have k := and31 b hb
  have l : b % 32 < 32 := by omega
  generalize b % 32 = s at *
  go_enter Try.func7, Try.ntmps7
  go_wp2
  go_ret2
  exact ⟨ret2 rfl rfl, rfl⟩
theorem do36 (a b : Nat) (ha : a < 4294967296) (hb : b < 4294967296) (w : World) : Calls Try.prog 7 #[.int .u8 36, .int .u32 (a : Int), .int .u32 (b : Int)] w fun en w' => en = .returned (.tuple #[.int .u32 ((a : Int) / 2 ^ (b % 32)), .int .i64 0]) ∧ w = w' := by
  have k := and31 b hb
  have l : b % 32 < 32 := by omega
  generalize b % 32 = s at *
  go_enter Try.func7, Try.ntmps7
  go_wp2
  go_ret2
  exact ⟨ret2 rfl rfl, rfl⟩
theorem do29 (a b : Nat) (ha : a < 4294967296) (hb : b < 4294967296) (w : World) : Calls Try.prog 7 #[.int .u8 29, .int .u32 (a : Int), .int .u32 (b : Int)] w fun en w' => en = .returned (.tuple #[.int .u32 (wrap32 (a : Int) / 2 ^ (b % 32) % 4294967296), .int .i64 0]) ∧ w = w' := by
  have k := and31 b hb
  have l : b % 32 < 32 := by omega
  generalize b % 32 = s at *
  go_enter Try.func7, Try.ntmps7
  go_wp2
  go_ret2
  exact ⟨ret2 rfl rfl, rfl⟩
theorem do37 (a b : Nat) (ha : a < 4294967296) (hb : b < 4294967296) (w : World) : Calls Try.prog 7 #[.int .u8 37, .int .u32 (a : Int), .int .u32 (b : Int)] w fun en w' => en = .returned (.tuple #[.int .u32 (wrap32 (a : Int) / 2 ^ (b % 32) % 4294967296), .int .i64 0]) ∧ w = w' := by
  have k := and31 b hb
  have l : b % 32 < 32 := by omega
  generalize b % 32 = s at *
  go_enter Try.func7, Try.ntmps7
  go_wp2
  go_ret2
  exact ⟨ret2 rfl rfl, rfl⟩
end Go.Proofs.Ytojjdhohhonheab
