import Derived.Test.YtkiojljopigldaaDoorS
namespace Go.Proofs.YtkiojljopigldaaDoor
open Go.ChangeShapes Go.WideShapes Go.ChangeAt Go.RowKit
set_option linter.unusedVariables false
theorem bs_0_5 (n : Nat) (hn : n < 4294967296) (w : World) : Calls Tryd.prog 19 #[.int .u32 (n : Int), .int .u64 0, .int .u64 5] w fun en w' => en = .returned (.int .u32 ((n / 1 % 32 : Nat) : Int)) ∧ w = w' := by
  have e := and32 (n / 1) 5 (by omega) (by omega) 31 rfl
  rw [show (2 : Nat) ^ 5 = 32 from rfl, Nat.div_one] at e
  have l : n / 1 % 32 < 32 := Nat.mod_lt _ (by omega)
  have E := Lib.hid e
  clear e
  go_enter Tryd.func19, Tryd.ntmps19
  go_wp2
  all_goals
    go_ret
    refine ⟨ret1 ?_, rfl⟩
    have e := E.out
    simp only [Nat.div_one] at e l ⊢
    rw [e]
theorem bs_0_12 (n : Nat) (hn : n < 4294967296) (w : World) : Calls Tryd.prog 19 #[.int .u32 (n : Int), .int .u64 0, .int .u64 12] w fun en w' => en = .returned (.int .u32 ((n / 1 % 4096 : Nat) : Int)) ∧ w = w' := by
  have e := and32 (n / 1) 12 (by omega) (by omega) 4095 rfl
  rw [show (2 : Nat) ^ 12 = 4096 from rfl, Nat.div_one] at e
  have l : n / 1 % 4096 < 4096 := Nat.mod_lt _ (by omega)
  have E := Lib.hid e
  clear e
  go_enter Tryd.func19, Tryd.ntmps19
  go_wp2
  all_goals
    go_ret
    refine ⟨ret1 ?_, rfl⟩
    have e := E.out
    simp only [Nat.div_one] at e l ⊢
    rw [e]
theorem bs_1_4 (n : Nat) (hn : n < 4294967296) (w : World) : Calls Tryd.prog 19 #[.int .u32 (n : Int), .int .u64 1, .int .u64 4] w fun en w' => en = .returned (.int .u32 ((n / 2 % 16 : Nat) : Int)) ∧ w = w' := by
  have e := and32 (n / 2) 4 (by omega) (by omega) 15 rfl
  rw [show (2 : Nat) ^ 4 = 16 from rfl] at e
  have l : n / 2 % 16 < 16 := Nat.mod_lt _ (by omega)
  have E := Lib.hid e
  clear e
  go_enter Tryd.func19, Tryd.ntmps19
  go_wp2
  all_goals
    go_ret
    refine ⟨ret1 ?_, rfl⟩
    have e := E.out
    rw [show ((n / 2 : Nat) : Int) = (n : Int) / 2 from rfl] at e
    rw [e]
theorem bs_1_10 (n : Nat) (hn : n < 4294967296) (w : World) : Calls Tryd.prog 19 #[.int .u32 (n : Int), .int .u64 1, .int .u64 10] w fun en w' => en = .returned (.int .u32 ((n / 2 % 1024 : Nat) : Int)) ∧ w = w' := by
  have e := and32 (n / 2) 10 (by omega) (by omega) 1023 rfl
  rw [show (2 : Nat) ^ 10 = 1024 from rfl] at e
  have l : n / 2 % 1024 < 1024 := Nat.mod_lt _ (by omega)
  have E := Lib.hid e
  clear e
  go_enter Tryd.func19, Tryd.ntmps19
  go_wp2
  all_goals
    go_ret
    refine ⟨ret1 ?_, rfl⟩
    have e := E.out
    rw [show ((n / 2 : Nat) : Int) = (n : Int) / 2 from rfl] at e
    rw [e]
theorem bs_5_6 (n : Nat) (hn : n < 4294967296) (w : World) : Calls Tryd.prog 19 #[.int .u32 (n : Int), .int .u64 5, .int .u64 6] w fun en w' => en = .returned (.int .u32 ((n / 32 % 64 : Nat) : Int)) ∧ w = w' := by
  have e := and32 (n / 32) 6 (by omega) (by omega) 63 rfl
  rw [show (2 : Nat) ^ 6 = 64 from rfl] at e
  have l : n / 32 % 64 < 64 := Nat.mod_lt _ (by omega)
  have E := Lib.hid e
  clear e
  go_enter Tryd.func19, Tryd.ntmps19
  go_wp2
  all_goals
    go_ret
    refine ⟨ret1 ?_, rfl⟩
    have e := E.out
    rw [show ((n / 32 : Nat) : Int) = (n : Int) / 32 from rfl] at e
    rw [e]
theorem bs_5_7 (n : Nat) (hn : n < 4294967296) (w : World) : Calls Tryd.prog 19 #[.int .u32 (n : Int), .int .u64 5, .int .u64 7] w fun en w' => en = .returned (.int .u32 ((n / 32 % 128 : Nat) : Int)) ∧ w = w' := by
  have e := and32 (n / 32) 7 (by omega) (by omega) 127 rfl
  rw [show (2 : Nat) ^ 7 = 128 from rfl] at e
  have l : n / 32 % 128 < 128 := Nat.mod_lt _ (by omega)
  have E := Lib.hid e
  clear e
  go_enter Tryd.func19, Tryd.ntmps19
  go_wp2
  all_goals
    go_ret
    refine ⟨ret1 ?_, rfl⟩
    have e := E.out
    rw [show ((n / 32 : Nat) : Int) = (n : Int) / 32 from rfl] at e
    rw [e]
theorem bs_7_1 (n : Nat) (hn : n < 4294967296) (w : World) : Calls Tryd.prog 19 #[.int .u32 (n : Int), .int .u64 7, .int .u64 1] w fun en w' => en = .returned (.int .u32 ((n / 128 % 2 : Nat) : Int)) ∧ w = w' := by
  have e := and32 (n / 128) 1 (by omega) (by omega) 1 rfl
  rw [show (2 : Nat) ^ 1 = 2 from rfl] at e
  have l : n / 128 % 2 < 2 := Nat.mod_lt _ (by omega)
  have E := Lib.hid e
  clear e
  go_enter Tryd.func19, Tryd.ntmps19
  go_wp2
  all_goals
    go_ret
    refine ⟨ret1 ?_, rfl⟩
    have e := E.out
    rw [show ((n / 128 : Nat) : Int) = (n : Int) / 128 from rfl] at e
    rw [e]
theorem bs_7_5 (n : Nat) (hn : n < 4294967296) (w : World) : Calls Tryd.prog 19 #[.int .u32 (n : Int), .int .u64 7, .int .u64 5] w fun en w' => en = .returned (.int .u32 ((n / 128 % 32 : Nat) : Int)) ∧ w = w' := by
  have e := and32 (n / 128) 5 (by omega) (by omega) 31 rfl
  rw [show (2 : Nat) ^ 5 = 32 from rfl] at e
  have l : n / 128 % 32 < 32 := Nat.mod_lt _ (by omega)
  have E := Lib.hid e
  clear e
  go_enter Tryd.func19, Tryd.ntmps19
  go_wp2
  all_goals
    go_ret
    refine ⟨ret1 ?_, rfl⟩
    have e := E.out
    rw [show ((n / 128 : Nat) : Int) = (n : Int) / 128 from rfl] at e
    rw [e]
theorem bs_8_4 (n : Nat) (hn : n < 4294967296) (w : World) : Calls Tryd.prog 19 #[.int .u32 (n : Int), .int .u64 8, .int .u64 4] w fun en w' => en = .returned (.int .u32 ((n / 256 % 16 : Nat) : Int)) ∧ w = w' := by
  have e := and32 (n / 256) 4 (by omega) (by omega) 15 rfl
  rw [show (2 : Nat) ^ 4 = 16 from rfl] at e
  have l : n / 256 % 16 < 16 := Nat.mod_lt _ (by omega)
  have E := Lib.hid e
  clear e
  go_enter Tryd.func19, Tryd.ntmps19
  go_wp2
  all_goals
    go_ret
    refine ⟨ret1 ?_, rfl⟩
    have e := E.out
    rw [show ((n / 256 : Nat) : Int) = (n : Int) / 256 from rfl] at e
    rw [e]
theorem bs_11_1 (n : Nat) (hn : n < 4294967296) (w : World) : Calls Tryd.prog 19 #[.int .u32 (n : Int), .int .u64 11, .int .u64 1] w fun en w' => en = .returned (.int .u32 ((n / 2048 % 2 : Nat) : Int)) ∧ w = w' := by
  have e := and32 (n / 2048) 1 (by omega) (by omega) 1 rfl
  rw [show (2 : Nat) ^ 1 = 2 from rfl] at e
  have l : n / 2048 % 2 < 2 := Nat.mod_lt _ (by omega)
  have E := Lib.hid e
  clear e
  go_enter Tryd.func19, Tryd.ntmps19
  go_wp2
  all_goals
    go_ret
    refine ⟨ret1 ?_, rfl⟩
    have e := E.out
    rw [show ((n / 2048 : Nat) : Int) = (n : Int) / 2048 from rfl] at e
    rw [e]
theorem bs_12_1 (n : Nat) (hn : n < 4294967296) (w : World) : Calls Tryd.prog 19 #[.int .u32 (n : Int), .int .u64 12, .int .u64 1] w fun en w' => en = .returned (.int .u32 ((n / 4096 % 2 : Nat) : Int)) ∧ w = w' := by
  have e := and32 (n / 4096) 1 (by omega) (by omega) 1 rfl
  rw [show (2 : Nat) ^ 1 = 2 from rfl] at e
  have l : n / 4096 % 2 < 2 := Nat.mod_lt _ (by omega)
  have E := Lib.hid e
  clear e
  go_enter Tryd.func19, Tryd.ntmps19
  go_wp2
  all_goals
    go_ret
    refine ⟨ret1 ?_, rfl⟩
    have e := E.out
    rw [show ((n / 4096 : Nat) : Int) = (n : Int) / 4096 from rfl] at e
    rw [e]
theorem bs_12_8 (n : Nat) (hn : n < 4294967296) (w : World) : Calls Tryd.prog 19 #[.int .u32 (n : Int), .int .u64 12, .int .u64 8] w fun en w' => en = .returned (.int .u32 ((n / 4096 % 256 : Nat) : Int)) ∧ w = w' := by
  have e := and32 (n / 4096) 8 (by omega) (by omega) 255 rfl
  rw [show (2 : Nat) ^ 8 = 256 from rfl] at e
  have l : n / 4096 % 256 < 256 := Nat.mod_lt _ (by omega)
  have E := Lib.hid e
  clear e
  go_enter Tryd.func19, Tryd.ntmps19
  go_wp2
  all_goals
    go_ret
    refine ⟨ret1 ?_, rfl⟩
    have e := E.out
    rw [show ((n / 4096 : Nat) : Int) = (n : Int) / 4096 from rfl] at e
    rw [e]
theorem bs_15_5 (n : Nat) (hn : n < 4294967296) (w : World) : Calls Tryd.prog 19 #[.int .u32 (n : Int), .int .u64 15, .int .u64 5] w fun en w' => en = .returned (.int .u32 ((n / 32768 % 32 : Nat) : Int)) ∧ w = w' := by
  have e := and32 (n / 32768) 5 (by omega) (by omega) 31 rfl
  rw [show (2 : Nat) ^ 5 = 32 from rfl] at e
  have l : n / 32768 % 32 < 32 := Nat.mod_lt _ (by omega)
  have E := Lib.hid e
  clear e
  go_enter Tryd.func19, Tryd.ntmps19
  go_wp2
  all_goals
    go_ret
    refine ⟨ret1 ?_, rfl⟩
    have e := E.out
    rw [show ((n / 32768 : Nat) : Int) = (n : Int) / 32768 from rfl] at e
    rw [e]
theorem bs_20_1 (n : Nat) (hn : n < 4294967296) (w : World) : Calls Tryd.prog 19 #[.int .u32 (n : Int), .int .u64 20, .int .u64 1] w fun en w' => en = .returned (.int .u32 ((n / 1048576 % 2 : Nat) : Int)) ∧ w = w' := by
  have e := and32 (n / 1048576) 1 (by omega) (by omega) 1 rfl
  rw [show (2 : Nat) ^ 1 = 2 from rfl] at e
  have l : n / 1048576 % 2 < 2 := Nat.mod_lt _ (by omega)
  have E := Lib.hid e
  clear e
  go_enter Tryd.func19, Tryd.ntmps19
  go_wp2
  all_goals
    go_ret
    refine ⟨ret1 ?_, rfl⟩
    have e := E.out
    rw [show ((n / 1048576 : Nat) : Int) = (n : Int) / 1048576 from rfl] at e
    rw [e]
theorem bs_20_5 (n : Nat) (hn : n < 4294967296) (w : World) : Calls Tryd.prog 19 #[.int .u32 (n : Int), .int .u64 20, .int .u64 5] w fun en w' => en = .returned (.int .u32 ((n / 1048576 % 32 : Nat) : Int)) ∧ w = w' := by
  have e := and32 (n / 1048576) 5 (by omega) (by omega) 31 rfl
  rw [show (2 : Nat) ^ 5 = 32 from rfl] at e
  have l : n / 1048576 % 32 < 32 := Nat.mod_lt _ (by omega)
  have E := Lib.hid e
  clear e
  go_enter Tryd.func19, Tryd.ntmps19
  go_wp2
  all_goals
    go_ret
    refine ⟨ret1 ?_, rfl⟩
    have e := E.out
    rw [show ((n / 1048576 : Nat) : Int) = (n : Int) / 1048576 from rfl] at e
    rw [e]
theorem bs_20_12 (n : Nat) (hn : n < 4294967296) (w : World) : Calls Tryd.prog 19 #[.int .u32 (n : Int), .int .u64 20, .int .u64 12] w fun en w' => en = .returned (.int .u32 ((n / 1048576 % 4096 : Nat) : Int)) ∧ w = w' := by
  have e := and32 (n / 1048576) 12 (by omega) (by omega) 4095 rfl
  rw [show (2 : Nat) ^ 12 = 4096 from rfl] at e
  have l : n / 1048576 % 4096 < 4096 := Nat.mod_lt _ (by omega)
  have E := Lib.hid e
  clear e
  go_enter Tryd.func19, Tryd.ntmps19
  go_wp2
  all_goals
    go_ret
    refine ⟨ret1 ?_, rfl⟩
    have e := E.out
    rw [show ((n / 1048576 : Nat) : Int) = (n : Int) / 1048576 from rfl] at e
    rw [e]
theorem bs_21_10 (n : Nat) (hn : n < 4294967296) (w : World) : Calls Tryd.prog 19 #[.int .u32 (n : Int), .int .u64 21, .int .u64 10] w fun en w' => en = .returned (.int .u32 ((n / 2097152 % 1024 : Nat) : Int)) ∧ w = w' := by
  have e := and32 (n / 2097152) 10 (by omega) (by omega) 1023 rfl
  rw [show (2 : Nat) ^ 10 = 1024 from rfl] at e
  have l : n / 2097152 % 1024 < 1024 := Nat.mod_lt _ (by omega)
  have E := Lib.hid e
  clear e
  go_enter Tryd.func19, Tryd.ntmps19
  go_wp2
  all_goals
    go_ret
    refine ⟨ret1 ?_, rfl⟩
    have e := E.out
    rw [show ((n / 2097152 : Nat) : Int) = (n : Int) / 2097152 from rfl] at e
    rw [e]
theorem bs_25_6 (n : Nat) (hn : n < 4294967296) (w : World) : Calls Tryd.prog 19 #[.int .u32 (n : Int), .int .u64 25, .int .u64 6] w fun en w' => en = .returned (.int .u32 ((n / 33554432 % 64 : Nat) : Int)) ∧ w = w' := by
  have e := and32 (n / 33554432) 6 (by omega) (by omega) 63 rfl
  rw [show (2 : Nat) ^ 6 = 64 from rfl] at e
  have l : n / 33554432 % 64 < 64 := Nat.mod_lt _ (by omega)
  have E := Lib.hid e
  clear e
  go_enter Tryd.func19, Tryd.ntmps19
  go_wp2
  all_goals
    go_ret
    refine ⟨ret1 ?_, rfl⟩
    have e := E.out
    rw [show ((n / 33554432 : Nat) : Int) = (n : Int) / 33554432 from rfl] at e
    rw [e]
theorem bs_25_7 (n : Nat) (hn : n < 4294967296) (w : World) : Calls Tryd.prog 19 #[.int .u32 (n : Int), .int .u64 25, .int .u64 7] w fun en w' => en = .returned (.int .u32 ((n / 33554432 % 128 : Nat) : Int)) ∧ w = w' := by
  have e := and32 (n / 33554432) 7 (by omega) (by omega) 127 rfl
  rw [show (2 : Nat) ^ 7 = 128 from rfl] at e
  have l : n / 33554432 % 128 < 128 := Nat.mod_lt _ (by omega)
  have E := Lib.hid e
  clear e
  go_enter Tryd.func19, Tryd.ntmps19
  go_wp2
  all_goals
    go_ret
    refine ⟨ret1 ?_, rfl⟩
    have e := E.out
    rw [show ((n / 33554432 : Nat) : Int) = (n : Int) / 33554432 from rfl] at e
    rw [e]
theorem bs_31_1 (n : Nat) (hn : n < 4294967296) (w : World) : Calls Tryd.prog 19 #[.int .u32 (n : Int), .int .u64 31, .int .u64 1] w fun en w' => en = .returned (.int .u32 ((n / 2147483648 % 2 : Nat) : Int)) ∧ w = w' := by
  have e := and32 (n / 2147483648) 1 (by omega) (by omega) 1 rfl
  rw [show (2 : Nat) ^ 1 = 2 from rfl] at e
  have l : n / 2147483648 % 2 < 2 := Nat.mod_lt _ (by omega)
  have E := Lib.hid e
  clear e
  go_enter Tryd.func19, Tryd.ntmps19
  go_wp2
  all_goals
    go_ret
    refine ⟨ret1 ?_, rfl⟩
    have e := E.out
    rw [show ((n / 2147483648 : Nat) : Int) = (n : Int) / 2147483648 from rfl] at e
    rw [e]
theorem imm0 (n : Int) (hn : i32 n) (w : World) : Calls Tryd.prog 30 #[.int .i64 0, .int .i32 n] w fun en w' => en = .returned (.bool (mayF 0 n)) ∧ w = w' := by
  obtain ⟨hn1, hn2⟩ := hn
  go_enter Tryd.func30, Tryd.ntmps30
  go_wp2
  all_goals
    go_ret
    refine ⟨retb ?_, rfl⟩
    rw [Bool.eq_iff_iff]
    simp only [mayF, tm0, decide_eq_true_eq]
    try simp
    try omega
theorem imm1 (n : Int) (hn : i32 n) (w : World) : Calls Tryd.prog 30 #[.int .i64 1, .int .i32 n] w fun en w' => en = .returned (.bool (mayF 1 n)) ∧ w = w' := by
  obtain ⟨hn1, hn2⟩ := hn
  go_enter Tryd.func30, Tryd.ntmps30
  go_wp2
  all_goals
    go_ret
    refine ⟨retb ?_, rfl⟩
    rw [Bool.eq_iff_iff]
    simp only [mayF, tm0, decide_eq_true_eq]
    try simp
    try omega
theorem imm2 (n : Int) (hn : i32 n) (w : World) : Calls Tryd.prog 30 #[.int .i64 2, .int .i32 n] w fun en w' => en = .returned (.bool (mayF 2 n)) ∧ w = w' := by
  obtain ⟨hn1, hn2⟩ := hn
  go_enter Tryd.func30, Tryd.ntmps30
  go_wp2
  all_goals
    go_ret
    refine ⟨retb ?_, rfl⟩
    rw [Bool.eq_iff_iff]
    simp only [mayF, decide_eq_true_eq]
    try simp
    try omega
theorem imm3 (n : Int) (hn : i32 n) (w : World) : Calls Tryd.prog 30 #[.int .i64 3, .int .i32 n] w fun en w' => en = .returned (.bool (mayF 3 n)) ∧ w = w' := by
  obtain ⟨hn1, hn2⟩ := hn
  go_enter Tryd.func30, Tryd.ntmps30
  go_wp2
  all_goals
    go_ret
    refine ⟨retb ?_, rfl⟩
    rw [Bool.eq_iff_iff]
    simp only [mayF, decide_eq_true_eq]
    try simp
    try omega
theorem imm4 (n : Int) (hn : i32 n) (w : World) : Calls Tryd.prog 30 #[.int .i64 4, .int .i32 n] w fun en w' => en = .returned (.bool (mayF 4 n)) ∧ w = w' := by
  obtain ⟨hn1, hn2⟩ := hn
  go_enter Tryd.func30, Tryd.ntmps30
  go_wp2
  all_goals
    go_ret
    refine ⟨retb ?_, rfl⟩
    rw [Bool.eq_iff_iff]
    simp only [mayF, decide_eq_true_eq]
    try simp
    try omega
theorem imm5 (n : Int) (hn : i32 n) (w : World) : Calls Tryd.prog 30 #[.int .i64 5, .int .i32 n] w fun en w' => en = .returned (.bool (mayF 5 n)) ∧ w = w' := by
  obtain ⟨hn1, hn2⟩ := hn
  go_enter Tryd.func30, Tryd.ntmps30
  go_wp2
  all_goals
    go_ret
    refine ⟨retb ?_, rfl⟩
    rw [Bool.eq_iff_iff]
    simp only [mayF, decide_eq_true_eq]
    try simp
    try omega
theorem imm6 (n : Int) (hn : i32 n) (w : World) : Calls Tryd.prog 30 #[.int .i64 6, .int .i32 n] w fun en w' => en = .returned (.bool (mayF 6 n)) ∧ w = w' := by
  obtain ⟨hn1, hn2⟩ := hn
  go_enter Tryd.func30, Tryd.ntmps30
  go_wp2
  all_goals
    go_ret
    refine ⟨retb ?_, rfl⟩
    rw [Bool.eq_iff_iff]
    simp only [mayF, tm0, decide_eq_true_eq]
    try simp
    try omega
theorem imm7 (n : Int) (hn : i32 n) (w : World) : Calls Tryd.prog 30 #[.int .i64 7, .int .i32 n] w fun en w' => en = .returned (.bool (mayF 7 n)) ∧ w = w' := by
  obtain ⟨hn1, hn2⟩ := hn
  go_enter Tryd.func30, Tryd.ntmps30
  go_wp2
  all_goals
    go_ret
    refine ⟨retb ?_, rfl⟩
    rw [Bool.eq_iff_iff]
    simp only [mayF, decide_eq_true_eq]
    try simp
    try omega
theorem imm8 (n : Int) (hn : i32 n) (w : World) : Calls Tryd.prog 30 #[.int .i64 8, .int .i32 n] w fun en w' => en = .returned (.bool (mayF 8 n)) ∧ w = w' := by
  obtain ⟨hn1, hn2⟩ := hn
  go_enter Tryd.func30, Tryd.ntmps30
  go_wp2
  all_goals
    go_ret
    refine ⟨retb ?_, rfl⟩
    rw [Bool.eq_iff_iff]
    simp only [mayF, decide_eq_true_eq]
    try simp
    try omega
theorem imm9 (n : Int) (hn : i32 n) (w : World) : Calls Tryd.prog 30 #[.int .i64 9, .int .i32 n] w fun en w' => en = .returned (.bool (mayF 9 n)) ∧ w = w' := by
  obtain ⟨hn1, hn2⟩ := hn
  go_enter Tryd.func30, Tryd.ntmps30
  go_wp2
  all_goals
    go_ret
    refine ⟨retb ?_, rfl⟩
    rw [Bool.eq_iff_iff]
    simp only [mayF, decide_eq_true_eq]
    try simp
    try omega
theorem imm10 (n : Int) (hn : i32 n) (w : World) : Calls Tryd.prog 30 #[.int .i64 10, .int .i32 n] w fun en w' => en = .returned (.bool (mayF 10 n)) ∧ w = w' := by
  obtain ⟨hn1, hn2⟩ := hn
  go_enter Tryd.func30, Tryd.ntmps30
  go_wp2
  all_goals
    go_ret
    refine ⟨retb ?_, rfl⟩
    rw [Bool.eq_iff_iff]
    simp only [mayF, decide_eq_true_eq]
    try simp
    try omega
end Go.Proofs.YtkiojljopigldaaDoor
