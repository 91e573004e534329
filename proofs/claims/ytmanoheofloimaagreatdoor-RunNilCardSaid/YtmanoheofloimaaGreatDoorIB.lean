import Derived.Test.YtmanoheofloimaaGreatDoorIA
namespace Go.Proofs.YtmanoheofloimaaGreatDoor.In
open Go.ChangeShapes Go.WideShapes Go.ChangeAt Go.RowKit
set_option linter.unusedVariables false
set_option maxRecDepth 100000
def i32 (n : Int) : Prop := -2147483648 ≤ n ∧ n ≤ 2147483647
/-- may an Imm be, of a form? -/
def mayF (f : Nat) (n : Int) : Bool :=
  match f with
  | 0 => decide (n % 4096 = 0)
  | 1 => decide (-1048576 ≤ n ∧ n < 1048576 ∧ n % 2 = 0)
  | 2 => decide (-2048 ≤ n ∧ n < 2048)
  | 3 => decide (0 ≤ n ∧ n ≤ 4095)
  | 4 => decide (0 ≤ n ∧ n ≤ 31)
  | 5 => decide (-2048 ≤ n ∧ n < 2048)
  | 6 => decide (-4096 ≤ n ∧ n < 4096 ∧ n % 2 = 0)
  | 9 => decide (27 ≤ n ∧ n ≤ 31)
  | _ => decide (n = 0)
/-- a number's word -/
def u32 (n : Int) : Nat := (n % 4294967296).toNat
/-- an Imm's bits in a word -/
def putF (f : Nat) (n : Int) : Nat :=
  match f with
  | 0 => u32 n
  | 1 => u32 n / 1048576 % 2 * 2147483648 + u32 n / 2 % 1024 * 2097152 + u32 n / 2048 % 2 * 1048576 + u32 n / 4096 % 256 * 4096
  | 2 => u32 n % 4096 * 1048576
  | 3 => u32 n % 4096 * 1048576
  | 4 => u32 n % 4096 * 1048576
  | 5 => u32 n / 32 % 128 * 33554432 + u32 n % 32 * 128
  | 6 => u32 n / 4096 % 2 * 2147483648 + u32 n / 32 % 64 * 33554432 + u32 n / 2 % 16 * 256 + u32 n / 2048 % 2 * 128
  | 9 => u32 n % 4096 * 1048576
  | _ => u32 n
/-- the number of so many bits with its sign -/
def sgn (x h : Nat) : Int := if x < h then (x : Int) else (x : Int) - 2 * (h : Int)
/-- a word's Imm -/
def getF (f : Nat) (w : Nat) : Int :=
  match f with
  | 0 => sgn (w / 4096 * 4096) 2147483648
  | 1 => sgn (w / 2147483648 % 2 * 1048576 + w / 4096 % 256 * 4096 + w / 1048576 % 2 * 2048 + w / 2097152 % 1024 * 2) 1048576
  | 2 => sgn (w / 1048576) 2048
  | 3 => ((w / 1048576 : Nat) : Int)
  | 4 => ((w / 1048576 % 32 : Nat) : Int)
  | 5 => sgn (w / 33554432 * 32 + w / 128 % 32) 2048
  | 6 => sgn (w / 2147483648 * 4096 + w / 128 % 2 * 2048 + w / 33554432 % 64 * 32 + w / 256 % 16 * 2) 4096
  | 9 => ((w / 1048576 % 32 : Nat) : Int)
  | _ => 0
theorem u32_cast (n : Int) : n % 4294967296 = ((u32 n : Nat) : Int) := by unfold u32; omega
theorem u32_lt (n : Int) : u32 n < 4294967296 := by unfold u32; omega
theorem tm0 (a b : Int) : (a.tmod b == 0) = decide (a % b = 0) := by
  rw [Bool.eq_iff_iff, beq_iff_eq, decide_eq_true_eq, ← Int.dvd_iff_tmod_eq_zero, ← Int.dvd_iff_emod_eq_zero]
theorem may0 (n : Int) (b0 : Nat) (hn : i32 n) (w : World) (h0 : w.cell? ⟨b0, 0, none⟩ = some (.int .i32 4096)) : Calls Tryz.prog 108 #[.int .i32 n, .pointer (some ⟨b0, 0, none⟩)] w fun en w' => en = .returned (.bool (mayF 0 n)) ∧ w = w' := by
  obtain ⟨hn1, hn2⟩ := hn
  go_enter Tryz.func108, Tryz.ntmps108
  go_wp2
  all_goals
    go_ret
    refine ⟨retb ?_, rfl⟩
    rw [Bool.eq_iff_iff]
    simp only [mayF, tm0, decide_eq_true_eq]
theorem may1 (n : Int) (b0 b1 : Nat) (hn : i32 n) (w : World) (h0 : w.cell? ⟨b0, 0, none⟩ = some (.int .u64 21)) (h1 : w.cell? ⟨b1, 0, none⟩ = some (.int .i32 2)) : Calls Tryz.prog 110 #[.int .i32 n, .pointer (some ⟨b0, 0, none⟩), .pointer (some ⟨b1, 0, none⟩)] w fun en w' => en = .returned (.bool (mayF 1 n)) ∧ w = w' := by
  obtain ⟨hn1, hn2⟩ := hn
  go_enter Tryz.func110, Tryz.ntmps110
  go_wp2
  all_goals
    go_ret
    refine ⟨retb ?_, rfl⟩
    rw [Bool.eq_iff_iff]
    simp only [mayF, tm0, decide_eq_true_eq]
    try simp
    try omega
theorem may2 (n : Int) (b0 b1 : Nat) (hn : i32 n) (w : World) (h0 : w.cell? ⟨b0, 0, none⟩ = some (.int .u64 12)) (h1 : w.cell? ⟨b1, 0, none⟩ = some (.int .i32 1)) : Calls Tryz.prog 110 #[.int .i32 n, .pointer (some ⟨b0, 0, none⟩), .pointer (some ⟨b1, 0, none⟩)] w fun en w' => en = .returned (.bool (mayF 2 n)) ∧ w = w' := by
  obtain ⟨hn1, hn2⟩ := hn
  go_enter Tryz.func110, Tryz.ntmps110
  go_wp2
  all_goals
    go_ret
    refine ⟨retb ?_, rfl⟩
    rw [Bool.eq_iff_iff]
    simp only [mayF, decide_eq_true_eq]
    try simp
    try omega
theorem may6 (n : Int) (b0 b1 : Nat) (hn : i32 n) (w : World) (h0 : w.cell? ⟨b0, 0, none⟩ = some (.int .u64 13)) (h1 : w.cell? ⟨b1, 0, none⟩ = some (.int .i32 2)) : Calls Tryz.prog 110 #[.int .i32 n, .pointer (some ⟨b0, 0, none⟩), .pointer (some ⟨b1, 0, none⟩)] w fun en w' => en = .returned (.bool (mayF 6 n)) ∧ w = w' := by
  obtain ⟨hn1, hn2⟩ := hn
  go_enter Tryz.func110, Tryz.ntmps110
  go_wp2
  all_goals
    go_ret
    refine ⟨retb ?_, rfl⟩
    rw [Bool.eq_iff_iff]
    simp only [mayF, tm0, decide_eq_true_eq]
    try simp
    try omega
theorem may3 (n : Int) (b0 b1 : Nat) (hn : i32 n) (w : World) (h0 : w.cell? ⟨b0, 0, none⟩ = some (.int .i32 0)) (h1 : w.cell? ⟨b1, 0, none⟩ = some (.int .i32 4095)) : Calls Tryz.prog 113 #[.int .i32 n, .pointer (some ⟨b0, 0, none⟩), .pointer (some ⟨b1, 0, none⟩)] w fun en w' => en = .returned (.bool (mayF 3 n)) ∧ w = w' := by
  obtain ⟨hn1, hn2⟩ := hn
  go_enter Tryz.func113, Tryz.ntmps113
  go_wp2
  all_goals
    go_ret
    refine ⟨retb ?_, rfl⟩
    rw [Bool.eq_iff_iff]
    simp only [mayF, decide_eq_true_eq]
    try simp
    try omega
theorem may4 (n : Int) (b0 b1 : Nat) (hn : i32 n) (w : World) (h0 : w.cell? ⟨b0, 0, none⟩ = some (.int .i32 0)) (h1 : w.cell? ⟨b1, 0, none⟩ = some (.int .i32 31)) : Calls Tryz.prog 113 #[.int .i32 n, .pointer (some ⟨b0, 0, none⟩), .pointer (some ⟨b1, 0, none⟩)] w fun en w' => en = .returned (.bool (mayF 4 n)) ∧ w = w' := by
  obtain ⟨hn1, hn2⟩ := hn
  go_enter Tryz.func113, Tryz.ntmps113
  go_wp2
  all_goals
    go_ret
    refine ⟨retb ?_, rfl⟩
    rw [Bool.eq_iff_iff]
    simp only [mayF, decide_eq_true_eq]
    try simp
    try omega
theorem may7 (n : Int) (b0 b1 : Nat) (hn : i32 n) (w : World) (h0 : w.cell? ⟨b0, 0, none⟩ = some (.int .i32 0)) (h1 : w.cell? ⟨b1, 0, none⟩ = some (.int .i32 0)) : Calls Tryz.prog 113 #[.int .i32 n, .pointer (some ⟨b0, 0, none⟩), .pointer (some ⟨b1, 0, none⟩)] w fun en w' => en = .returned (.bool (mayF 7 n)) ∧ w = w' := by
  obtain ⟨hn1, hn2⟩ := hn
  go_enter Tryz.func113, Tryz.ntmps113
  go_wp2
  all_goals
    go_ret
    refine ⟨retb ?_, rfl⟩
    rw [Bool.eq_iff_iff]
    simp only [mayF, decide_eq_true_eq]
    try simp
    try omega
theorem may9 (n : Int) (b0 b1 : Nat) (hn : i32 n) (w : World) (h0 : w.cell? ⟨b0, 0, none⟩ = some (.int .i32 27)) (h1 : w.cell? ⟨b1, 0, none⟩ = some (.int .i32 31)) : Calls Tryz.prog 113 #[.int .i32 n, .pointer (some ⟨b0, 0, none⟩), .pointer (some ⟨b1, 0, none⟩)] w fun en w' => en = .returned (.bool (mayF 9 n)) ∧ w = w' := by
  obtain ⟨hn1, hn2⟩ := hn
  go_enter Tryz.func113, Tryz.ntmps113
  go_wp2
  all_goals
    go_ret
    refine ⟨retb ?_, rfl⟩
    rw [Bool.eq_iff_iff]
    simp only [mayF, decide_eq_true_eq]
    try simp
    try omega
theorem put0 (n : Int) (b0 : Nat) (hn : i32 n) (w : World) (h0 : w.cell? ⟨b0, 0, none⟩ = some (.int .u64 0)) : Calls Tryz.prog 109 #[.int .i32 n, .pointer (some ⟨b0, 0, none⟩)] w fun en w' => en = .returned (.int .u32 (putF 0 n : Int)) ∧ w = w' := by
  obtain ⟨hn1, hn2⟩ := hn
  go_enter Tryz.func109, Tryz.ntmps109
  go_wp2
  all_goals
    go_ret
    refine ⟨ret1 ?_, rfl⟩
    simp only [putF]
    have := u32_cast n
    have := u32_lt n
    omega
theorem put2 (n : Int) (b0 : Nat) (hn : i32 n) (w : World) (h0 : w.cell? ⟨b0, 0, none⟩ = some (.int .u64 20)) : Calls Tryz.prog 109 #[.int .i32 n, .pointer (some ⟨b0, 0, none⟩)] w fun en w' => en = .returned (.int .u32 (putF 2 n : Int)) ∧ w = w' := by
  obtain ⟨hn1, hn2⟩ := hn
  go_enter Tryz.func109, Tryz.ntmps109
  go_wp2
  all_goals
    go_ret
    refine ⟨ret1 ?_, rfl⟩
    simp only [putF]
    have := u32_cast n
    have := u32_lt n
    omega
theorem bit_20_31 (n : Nat) (hn : n < 4294967296) (w : World) : Calls Tryz.prog 111 #[.int .u32 (n : Int), .int .u64 20, .int .u64 31] w fun en w' => en = .returned (.int .u32 ((n / 1048576 % 2 * 2147483648 : Nat) : Int)) ∧ w = w' := by
  have e := and32 (n / 1048576) 1 (by omega) (by omega) 1 rfl
  rw [show (2 : Nat) ^ 1 = 2 from rfl] at e
  have l : n / 1048576 % 2 < 2 := Nat.mod_lt _ (by omega)
  have E := Lib.hid e
  clear e
  go_enter Tryz.func111, Tryz.ntmps111
  go_wp2
  all_goals
    go_ret
    refine ⟨ret1 ?_, rfl⟩
    have e := E.out
    rw [show ((n / 1048576 : Nat) : Int) = (n : Int) / 1048576 from rfl] at e
    rw [e]
    omega
theorem bit_11_20 (n : Nat) (hn : n < 4294967296) (w : World) : Calls Tryz.prog 111 #[.int .u32 (n : Int), .int .u64 11, .int .u64 20] w fun en w' => en = .returned (.int .u32 ((n / 2048 % 2 * 1048576 : Nat) : Int)) ∧ w = w' := by
  have e := and32 (n / 2048) 1 (by omega) (by omega) 1 rfl
  rw [show (2 : Nat) ^ 1 = 2 from rfl] at e
  have l : n / 2048 % 2 < 2 := Nat.mod_lt _ (by omega)
  have E := Lib.hid e
  clear e
  go_enter Tryz.func111, Tryz.ntmps111
  go_wp2
  all_goals
    go_ret
    refine ⟨ret1 ?_, rfl⟩
    have e := E.out
    rw [show ((n / 2048 : Nat) : Int) = (n : Int) / 2048 from rfl] at e
    rw [e]
    omega
theorem bit_20_11 (n : Nat) (hn : n < 4294967296) (w : World) : Calls Tryz.prog 111 #[.int .u32 (n : Int), .int .u64 20, .int .u64 11] w fun en w' => en = .returned (.int .u32 ((n / 1048576 % 2 * 2048 : Nat) : Int)) ∧ w = w' := by
  have e := and32 (n / 1048576) 1 (by omega) (by omega) 1 rfl
  rw [show (2 : Nat) ^ 1 = 2 from rfl] at e
  have l : n / 1048576 % 2 < 2 := Nat.mod_lt _ (by omega)
  have E := Lib.hid e
  clear e
  go_enter Tryz.func111, Tryz.ntmps111
  go_wp2
  all_goals
    go_ret
    refine ⟨ret1 ?_, rfl⟩
    have e := E.out
    rw [show ((n / 1048576 : Nat) : Int) = (n : Int) / 1048576 from rfl] at e
    rw [e]
    omega
theorem bit_12_31 (n : Nat) (hn : n < 4294967296) (w : World) : Calls Tryz.prog 111 #[.int .u32 (n : Int), .int .u64 12, .int .u64 31] w fun en w' => en = .returned (.int .u32 ((n / 4096 % 2 * 2147483648 : Nat) : Int)) ∧ w = w' := by
  have e := and32 (n / 4096) 1 (by omega) (by omega) 1 rfl
  rw [show (2 : Nat) ^ 1 = 2 from rfl] at e
  have l : n / 4096 % 2 < 2 := Nat.mod_lt _ (by omega)
  have E := Lib.hid e
  clear e
  go_enter Tryz.func111, Tryz.ntmps111
  go_wp2
  all_goals
    go_ret
    refine ⟨ret1 ?_, rfl⟩
    have e := E.out
    rw [show ((n / 4096 : Nat) : Int) = (n : Int) / 4096 from rfl] at e
    rw [e]
    omega
theorem bit_11_7 (n : Nat) (hn : n < 4294967296) (w : World) : Calls Tryz.prog 111 #[.int .u32 (n : Int), .int .u64 11, .int .u64 7] w fun en w' => en = .returned (.int .u32 ((n / 2048 % 2 * 128 : Nat) : Int)) ∧ w = w' := by
  have e := and32 (n / 2048) 1 (by omega) (by omega) 1 rfl
  rw [show (2 : Nat) ^ 1 = 2 from rfl] at e
  have l : n / 2048 % 2 < 2 := Nat.mod_lt _ (by omega)
  have E := Lib.hid e
  clear e
  go_enter Tryz.func111, Tryz.ntmps111
  go_wp2
  all_goals
    go_ret
    refine ⟨ret1 ?_, rfl⟩
    have e := E.out
    rw [show ((n / 2048 : Nat) : Int) = (n : Int) / 2048 from rfl] at e
    rw [e]
    omega
theorem bit_7_11 (n : Nat) (hn : n < 4294967296) (w : World) : Calls Tryz.prog 111 #[.int .u32 (n : Int), .int .u64 7, .int .u64 11] w fun en w' => en = .returned (.int .u32 ((n / 128 % 2 * 2048 : Nat) : Int)) ∧ w = w' := by
  have e := and32 (n / 128) 1 (by omega) (by omega) 1 rfl
  rw [show (2 : Nat) ^ 1 = 2 from rfl] at e
  have l : n / 128 % 2 < 2 := Nat.mod_lt _ (by omega)
  have E := Lib.hid e
  clear e
  go_enter Tryz.func111, Tryz.ntmps111
  go_wp2
  all_goals
    go_ret
    refine ⟨ret1 ?_, rfl⟩
    have e := E.out
    rw [show ((n / 128 : Nat) : Int) = (n : Int) / 128 from rfl] at e
    rw [e]
    omega
theorem fld_1_10_21 (n : Nat) (hn : n < 4294967296) (w : World) : Calls Tryz.prog 112 #[.int .u32 (n : Int), .int .u64 1, .int .u64 10, .int .u64 21] w fun en w' => en = .returned (.int .u32 ((n / 2 % 1024 * 2097152 : Nat) : Int)) ∧ w = w' := by
  have e := and32 (n / 2) 10 (by omega) (by omega) 1023 rfl
  rw [show (2 : Nat) ^ 10 = 1024 from rfl] at e
  have l : n / 2 % 1024 < 1024 := Nat.mod_lt _ (by omega)
  have E := Lib.hid e
  clear e
  go_enter Tryz.func112, Tryz.ntmps112
  go_wp2
  all_goals
    go_ret
    refine ⟨ret1 ?_, rfl⟩
    have e := E.out
    rw [show ((n / 2 : Nat) : Int) = (n : Int) / 2 from rfl] at e
    rw [e]
    omega
theorem fld_12_8_12 (n : Nat) (hn : n < 4294967296) (w : World) : Calls Tryz.prog 112 #[.int .u32 (n : Int), .int .u64 12, .int .u64 8, .int .u64 12] w fun en w' => en = .returned (.int .u32 ((n / 4096 % 256 * 4096 : Nat) : Int)) ∧ w = w' := by
  have e := and32 (n / 4096) 8 (by omega) (by omega) 255 rfl
  rw [show (2 : Nat) ^ 8 = 256 from rfl] at e
  have l : n / 4096 % 256 < 256 := Nat.mod_lt _ (by omega)
  have E := Lib.hid e
  clear e
  go_enter Tryz.func112, Tryz.ntmps112
  go_wp2
  all_goals
    go_ret
    refine ⟨ret1 ?_, rfl⟩
    have e := E.out
    rw [show ((n / 4096 : Nat) : Int) = (n : Int) / 4096 from rfl] at e
    rw [e]
    omega
theorem fld_21_10_1 (n : Nat) (hn : n < 4294967296) (w : World) : Calls Tryz.prog 112 #[.int .u32 (n : Int), .int .u64 21, .int .u64 10, .int .u64 1] w fun en w' => en = .returned (.int .u32 ((n / 2097152 % 1024 * 2 : Nat) : Int)) ∧ w = w' := by
  have e := and32 (n / 2097152) 10 (by omega) (by omega) 1023 rfl
  rw [show (2 : Nat) ^ 10 = 1024 from rfl] at e
  have l : n / 2097152 % 1024 < 1024 := Nat.mod_lt _ (by omega)
  have E := Lib.hid e
  clear e
  go_enter Tryz.func112, Tryz.ntmps112
  go_wp2
  all_goals
    go_ret
    refine ⟨ret1 ?_, rfl⟩
    have e := E.out
    rw [show ((n / 2097152 : Nat) : Int) = (n : Int) / 2097152 from rfl] at e
    rw [e]
    omega
theorem fld_5_7_25 (n : Nat) (hn : n < 4294967296) (w : World) : Calls Tryz.prog 112 #[.int .u32 (n : Int), .int .u64 5, .int .u64 7, .int .u64 25] w fun en w' => en = .returned (.int .u32 ((n / 32 % 128 * 33554432 : Nat) : Int)) ∧ w = w' := by
  have e := and32 (n / 32) 7 (by omega) (by omega) 127 rfl
  rw [show (2 : Nat) ^ 7 = 128 from rfl] at e
  have l : n / 32 % 128 < 128 := Nat.mod_lt _ (by omega)
  have E := Lib.hid e
  clear e
  go_enter Tryz.func112, Tryz.ntmps112
  go_wp2
  all_goals
    go_ret
    refine ⟨ret1 ?_, rfl⟩
    have e := E.out
    rw [show ((n / 32 : Nat) : Int) = (n : Int) / 32 from rfl] at e
    rw [e]
    omega
theorem fld_0_5_7 (n : Nat) (hn : n < 4294967296) (w : World) : Calls Tryz.prog 112 #[.int .u32 (n : Int), .int .u64 0, .int .u64 5, .int .u64 7] w fun en w' => en = .returned (.int .u32 ((n / 1 % 32 * 128 : Nat) : Int)) ∧ w = w' := by
  have e := and32 (n / 1) 5 (by omega) (by omega) 31 rfl
  rw [show (2 : Nat) ^ 5 = 32 from rfl, Nat.div_one] at e
  have l : n / 1 % 32 < 32 := Nat.mod_lt _ (by omega)
  have E := Lib.hid e
  clear e
  go_enter Tryz.func112, Tryz.ntmps112
  go_wp2
  all_goals
    go_ret
    refine ⟨ret1 ?_, rfl⟩
    have e := E.out
    simp only [Nat.div_one] at e l ⊢
    rw [e]
    omega
theorem fld_7_5_0 (n : Nat) (hn : n < 4294967296) (w : World) : Calls Tryz.prog 112 #[.int .u32 (n : Int), .int .u64 7, .int .u64 5, .int .u64 0] w fun en w' => en = .returned (.int .u32 ((n / 128 % 32 * 1 : Nat) : Int)) ∧ w = w' := by
  have e := and32 (n / 128) 5 (by omega) (by omega) 31 rfl
  rw [show (2 : Nat) ^ 5 = 32 from rfl] at e
  have l : n / 128 % 32 < 32 := Nat.mod_lt _ (by omega)
  have E := Lib.hid e
  clear e
  go_enter Tryz.func112, Tryz.ntmps112
  go_wp2
  all_goals
    go_ret
    refine ⟨ret1 ?_, rfl⟩
    have e := E.out
    rw [show ((n / 128 : Nat) : Int) = (n : Int) / 128 from rfl] at e
    rw [e]
    omega
theorem fld_5_6_25 (n : Nat) (hn : n < 4294967296) (w : World) : Calls Tryz.prog 112 #[.int .u32 (n : Int), .int .u64 5, .int .u64 6, .int .u64 25] w fun en w' => en = .returned (.int .u32 ((n / 32 % 64 * 33554432 : Nat) : Int)) ∧ w = w' := by
  have e := and32 (n / 32) 6 (by omega) (by omega) 63 rfl
  rw [show (2 : Nat) ^ 6 = 64 from rfl] at e
  have l : n / 32 % 64 < 64 := Nat.mod_lt _ (by omega)
  have E := Lib.hid e
  clear e
  go_enter Tryz.func112, Tryz.ntmps112
  go_wp2
  all_goals
    go_ret
    refine ⟨ret1 ?_, rfl⟩
    have e := E.out
    rw [show ((n / 32 : Nat) : Int) = (n : Int) / 32 from rfl] at e
    rw [e]
    omega
theorem fld_1_4_8 (n : Nat) (hn : n < 4294967296) (w : World) : Calls Tryz.prog 112 #[.int .u32 (n : Int), .int .u64 1, .int .u64 4, .int .u64 8] w fun en w' => en = .returned (.int .u32 ((n / 2 % 16 * 256 : Nat) : Int)) ∧ w = w' := by
  have e := and32 (n / 2) 4 (by omega) (by omega) 15 rfl
  rw [show (2 : Nat) ^ 4 = 16 from rfl] at e
  have l : n / 2 % 16 < 16 := Nat.mod_lt _ (by omega)
  have E := Lib.hid e
  clear e
  go_enter Tryz.func112, Tryz.ntmps112
  go_wp2
  all_goals
    go_ret
    refine ⟨ret1 ?_, rfl⟩
    have e := E.out
    rw [show ((n / 2 : Nat) : Int) = (n : Int) / 2 from rfl] at e
    rw [e]
    omega
theorem fld_25_6_5 (n : Nat) (hn : n < 4294967296) (w : World) : Calls Tryz.prog 112 #[.int .u32 (n : Int), .int .u64 25, .int .u64 6, .int .u64 5] w fun en w' => en = .returned (.int .u32 ((n / 33554432 % 64 * 32 : Nat) : Int)) ∧ w = w' := by
  have e := and32 (n / 33554432) 6 (by omega) (by omega) 63 rfl
  rw [show (2 : Nat) ^ 6 = 64 from rfl] at e
  have l : n / 33554432 % 64 < 64 := Nat.mod_lt _ (by omega)
  have E := Lib.hid e
  clear e
  go_enter Tryz.func112, Tryz.ntmps112
  go_wp2
  all_goals
    go_ret
    refine ⟨ret1 ?_, rfl⟩
    have e := E.out
    rw [show ((n / 33554432 : Nat) : Int) = (n : Int) / 33554432 from rfl] at e
    rw [e]
    omega
theorem fld_8_4_1 (n : Nat) (hn : n < 4294967296) (w : World) : Calls Tryz.prog 112 #[.int .u32 (n : Int), .int .u64 8, .int .u64 4, .int .u64 1] w fun en w' => en = .returned (.int .u32 ((n / 256 % 16 * 2 : Nat) : Int)) ∧ w = w' := by
  have e := and32 (n / 256) 4 (by omega) (by omega) 15 rfl
  rw [show (2 : Nat) ^ 4 = 16 from rfl] at e
  have l : n / 256 % 16 < 16 := Nat.mod_lt _ (by omega)
  have E := Lib.hid e
  clear e
  go_enter Tryz.func112, Tryz.ntmps112
  go_wp2
  all_goals
    go_ret
    refine ⟨ret1 ?_, rfl⟩
    have e := E.out
    rw [show ((n / 256 : Nat) : Int) = (n : Int) / 256 from rfl] at e
    rw [e]
    omega
theorem get3 (n b0 b1 : Nat) (hn : n < 4294967296) (w : World) (h0 : w.cell? ⟨b0, 0, none⟩ = some (.int .u64 20)) (h1 : w.cell? ⟨b1, 0, none⟩ = some (.int .u64 12)) : Calls Tryz.prog 114 #[.int .u32 (n : Int), .pointer (some ⟨b0, 0, none⟩), .pointer (some ⟨b1, 0, none⟩)] w fun en w' => en = .returned (.int .i32 (getF 3 n)) ∧ w = w' := by
  have e := and32 (n / 1048576) 12 (by omega) (by omega) 4095 rfl
  rw [show (2 : Nat) ^ 12 = 4096 from rfl] at e
  have E := Lib.hid e
  clear e
  go_enter Tryz.func114, Tryz.ntmps114
  go_wp2
  all_goals
    go_ret
    refine ⟨ret1 ?_, rfl⟩
    have e := E.out
    rw [show ((n / 1048576 : Nat) : Int) = (n : Int) / 1048576 from rfl] at e
    rw [e]
    simp only [getF, wrap32]
    omega
theorem get4 (n b0 b1 : Nat) (hn : n < 4294967296) (w : World) (h0 : w.cell? ⟨b0, 0, none⟩ = some (.int .u64 20)) (h1 : w.cell? ⟨b1, 0, none⟩ = some (.int .u64 5)) : Calls Tryz.prog 114 #[.int .u32 (n : Int), .pointer (some ⟨b0, 0, none⟩), .pointer (some ⟨b1, 0, none⟩)] w fun en w' => en = .returned (.int .i32 (getF 4 n)) ∧ w = w' := by
  have e := and32 (n / 1048576) 5 (by omega) (by omega) 31 rfl
  rw [show (2 : Nat) ^ 5 = 32 from rfl] at e
  have E := Lib.hid e
  clear e
  go_enter Tryz.func114, Tryz.ntmps114
  go_wp2
  all_goals
    go_ret
    refine ⟨ret1 ?_, rfl⟩
    have e := E.out
    rw [show ((n / 1048576 : Nat) : Int) = (n : Int) / 1048576 from rfl] at e
    rw [e]
    simp only [getF, wrap32]
    omega
theorem get7 (n b0 b1 : Nat) (hn : n < 4294967296) (w : World) (h0 : w.cell? ⟨b0, 0, none⟩ = some (.int .u64 0)) (h1 : w.cell? ⟨b1, 0, none⟩ = some (.int .u64 0)) : Calls Tryz.prog 114 #[.int .u32 (n : Int), .pointer (some ⟨b0, 0, none⟩), .pointer (some ⟨b1, 0, none⟩)] w fun en w' => en = .returned (.int .i32 (getF 7 n)) ∧ w = w' := by
  have e := and32 (n / 1) 0 (by omega) (by omega) 0 rfl
  rw [show (2 : Nat) ^ 0 = 1 from rfl] at e
  have E := Lib.hid e
  clear e
  go_enter Tryz.func114, Tryz.ntmps114
  go_wp2
  all_goals
    go_ret
    refine ⟨ret1 ?_, rfl⟩
    have e := E.out
    simp only [Nat.div_one] at e
    rw [e]
    simp only [getF, wrap32]
    omega
end Go.Proofs.YtmanoheofloimaaGreatDoor.In

