import Derived.Test.YtojjdhohhonheabD
namespace Go.Proofs.Ytojjdhohhonheab
open Go.ChangeShapes Go.WideShapes Go.ChangeAt Go.RowKit
set_option linter.unusedVariables false
theorem do40 (a b : Nat) (ha : a < 4294967296) (hb : b < 4294967296) (w : World) : Calls Try.prog 7 #[.int .u8 40, .int .u32 (a : Int), .int .u32 (b : Int)] w fun en w' => en = .returned (.tuple #[.int .u32 ((a : Int) * (b : Int) % 4294967296), .int .i64 0]) ∧ w = w' := by
  have k := mu40 a b ha hb
  generalize ((a : Int) * (b : Int) % 4294967296) = x at *
  have K := Lib.hid k
  clear k
  go_enter Try.func7, Try.ntmps7
  go_wp2_with fail
  refine (K.out _).mono ?_
  rintro _ _ ⟨rfl, rfl⟩
  go_wp2_with fail
  go_ret2
  exact ⟨ret2 rfl rfl, rfl⟩
theorem do41 (a b : Nat) (ha : a < 4294967296) (hb : b < 4294967296) (w : World) : Calls Try.prog 7 #[.int .u8 41, .int .u32 (a : Int), .int .u32 (b : Int)] w fun en w' => en = .returned (.tuple #[.int .u32 (wrap32 (a : Int) * wrap32 (b : Int) / 4294967296 % 4294967296), .int .i64 0]) ∧ w = w' := by
  have k := mu41 a b ha hb
  generalize (wrap32 (a : Int) * wrap32 (b : Int) / 4294967296 % 4294967296) = x at *
  have K := Lib.hid k
  clear k
  go_enter Try.func7, Try.ntmps7
  go_wp2_with fail
  refine (K.out _).mono ?_
  rintro _ _ ⟨rfl, rfl⟩
  go_wp2_with fail
  go_ret2
  exact ⟨ret2 rfl rfl, rfl⟩
theorem do42 (a b : Nat) (ha : a < 4294967296) (hb : b < 4294967296) (w : World) : Calls Try.prog 7 #[.int .u8 42, .int .u32 (a : Int), .int .u32 (b : Int)] w fun en w' => en = .returned (.tuple #[.int .u32 (wrap32 (a : Int) * (b : Int) / 4294967296 % 4294967296), .int .i64 0]) ∧ w = w' := by
  have k := mu42 a b ha hb
  generalize (wrap32 (a : Int) * (b : Int) / 4294967296 % 4294967296) = x at *
  have K := Lib.hid k
  clear k
  go_enter Try.func7, Try.ntmps7
  go_wp2_with fail
  refine (K.out _).mono ?_
  rintro _ _ ⟨rfl, rfl⟩
  go_wp2_with fail
  go_ret2
  exact ⟨ret2 rfl rfl, rfl⟩
theorem do43 (a b : Nat) (ha : a < 4294967296) (hb : b < 4294967296) (w : World) : Calls Try.prog 7 #[.int .u8 43, .int .u32 (a : Int), .int .u32 (b : Int)] w fun en w' => en = .returned (.tuple #[.int .u32 ((a : Int) * (b : Int) / 4294967296), .int .i64 0]) ∧ w = w' := by
  have k := mu43 a b ha hb
  generalize ((a : Int) * (b : Int) / 4294967296) = x at *
  have K := Lib.hid k
  clear k
  go_enter Try.func7, Try.ntmps7
  go_wp2_with fail
  refine (K.out _).mono ?_
  rintro _ _ ⟨rfl, rfl⟩
  go_wp2_with fail
  go_ret2
  exact ⟨ret2 rfl rfl, rfl⟩
theorem do44 (a b : Nat) (ha : a < 4294967296) (hb : b < 4294967296) (w : World) : Calls Try.prog 7 #[.int .u8 44, .int .u32 (a : Int), .int .u32 (b : Int)] w fun en w' => en = .returned (.tuple #[.int .u32 (qv a b), .int .i64 0]) ∧ w = w' := by
  have k := mu44 a b ha hb
  generalize (qv a b) = x at *
  have K := Lib.hid k
  clear k
  go_enter Try.func7, Try.ntmps7
  go_wp2_with fail
  refine (K.out _).mono ?_
  rintro _ _ ⟨rfl, rfl⟩
  go_wp2_with fail
  go_ret2
  exact ⟨ret2 rfl rfl, rfl⟩
theorem do46 (a b : Nat) (ha : a < 4294967296) (hb : b < 4294967296) (w : World) : Calls Try.prog 7 #[.int .u8 46, .int .u32 (a : Int), .int .u32 (b : Int)] w fun en w' => en = .returned (.tuple #[.int .u32 (((a : Int) - qv a b * (b : Int)) % 4294967296), .int .i64 0]) ∧ w = w' := by
  have k := mu46 a b ha hb
  generalize (((a : Int) - qv a b * (b : Int)) % 4294967296) = x at *
  have K := Lib.hid k
  clear k
  go_enter Try.func7, Try.ntmps7
  go_wp2_with fail
  refine (K.out _).mono ?_
  rintro _ _ ⟨rfl, rfl⟩
  go_wp2_with fail
  go_ret2
  exact ⟨ret2 rfl rfl, rfl⟩
theorem do45 (a b : Nat) (ha : a < 4294967296) (hb : b < 4294967296) (w : World) : Calls Try.prog 7 #[.int .u8 45, .int .u32 (a : Int), .int .u32 (b : Int)] w fun en w' => en = .returned (.tuple #[.int .u32 (if b = 0 then 4294967295 else (a : Int) / (b : Int)), .int .i64 0]) ∧ w = w' := by
  have k := mu45 a b ha hb
  generalize (if b = 0 then 4294967295 else (a : Int) / (b : Int)) = x at *
  have K := Lib.hid k
  clear k
  go_enter Try.func7, Try.ntmps7
  go_wp2_with fail
  refine (K.out _).mono ?_
  rintro _ _ ⟨rfl, rfl⟩
  go_wp2_with fail
  go_ret2
  exact ⟨ret2 rfl rfl, rfl⟩
theorem do47 (a b : Nat) (ha : a < 4294967296) (hb : b < 4294967296) (w : World) : Calls Try.prog 7 #[.int .u8 47, .int .u32 (a : Int), .int .u32 (b : Int)] w fun en w' => en = .returned (.tuple #[.int .u32 (if b = 0 then (a : Int) else (a : Int) % (b : Int)), .int .i64 0]) ∧ w = w' := by
  have k := mu47 a b ha hb
  generalize (if b = 0 then (a : Int) else (a : Int) % (b : Int)) = x at *
  have K := Lib.hid k
  clear k
  go_enter Try.func7, Try.ntmps7
  go_wp2_with fail
  refine (K.out _).mono ?_
  rintro _ _ ⟨rfl, rfl⟩
  go_wp2_with fail
  go_ret2
  exact ⟨ret2 rfl rfl, rfl⟩
theorem mu5 (a b : Nat) (ha : a < 4294967296) (hb : b < 4294967296) (w : World) : Calls Try.prog 13 #[.int .u8 5, .int .u32 (a : Int), .int .u32 (b : Int)] w fun en w' => en = .returned (.tuple #[.int .u32 0, .int .i64 2]) ∧ w = w' := by
  go_enter Try.func13, Try.ntmps13
  go_wp2
  go_ret2
  exact ⟨ret2 rfl rfl, rfl⟩
theorem do5 (a b : Nat) (ha : a < 4294967296) (hb : b < 4294967296) (w : World) : Calls Try.prog 7 #[.int .u8 5, .int .u32 (a : Int), .int .u32 (b : Int)] w fun en w' => en = .returned (.tuple #[.int .u32 0, .int .i64 2]) ∧ w = w' := by
  have K := Lib.hid (mu5 a b ha hb)
  go_enter Try.func7, Try.ntmps7
  go_wp2_with fail
  refine (K.out _).mono ?_
  rintro _ _ ⟨rfl, rfl⟩
  go_wp2_with fail
  go_ret2
  exact ⟨ret2 rfl rfl, rfl⟩
end Go.Proofs.Ytojjdhohhonheab
