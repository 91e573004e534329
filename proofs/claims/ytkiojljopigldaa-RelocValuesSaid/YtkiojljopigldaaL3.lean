import Derived.Test.YtkiojljopigldaaF
namespace Go.Proofs.Ytkiojljopigldaa
open Go.ChangeShapes Go.WideShapes Go.ChangeAt Go.RowKit
set_option linter.unusedVariables false
theorem val24 (s a p g : Nat) (hs : s < 4294967296) (ha : a < 4294967296) (hp : p < 4294967296) (hg : g < 4294967296) (w : World) : Calls Try.prog 5 #[.int .u8 24, .int .u32 (s : Int), .int .u32 (a : Int), .int .u32 (p : Int), .int .u32 (g : Int)] w fun en w' => en = .returned (.tuple #[.int .i32 0, .int .i64 5]) ∧ w = w' := by
  go_enter Try.func5, Try.ntmps5
  go_wp2
  go_ret2
  exact ⟨ret2 rfl rfl, rfl⟩
theorem val25 (s a p g : Nat) (hs : s < 4294967296) (ha : a < 4294967296) (hp : p < 4294967296) (hg : g < 4294967296) (w : World) : Calls Try.prog 5 #[.int .u8 25, .int .u32 (s : Int), .int .u32 (a : Int), .int .u32 (p : Int), .int .u32 (g : Int)] w fun en w' => en = .returned (.tuple #[.int .i32 0, .int .i64 5]) ∧ w = w' := by
  go_enter Try.func5, Try.ntmps5
  go_wp2
  go_ret2
  exact ⟨ret2 rfl rfl, rfl⟩
theorem valNo (k : Nat) (h0 : k ≠ 0) (h1 : k ≠ 1) (h16 : k ≠ 16) (h17 : k ≠ 17) (h23 : k ≠ 23) (h24 : k ≠ 24) (h25 : k ≠ 25) (h26 : k ≠ 26) (h27 : k ≠ 27) (h28 : k ≠ 28) (h51 : k ≠ 51) (h193 : k ≠ 193) (h194 : k ≠ 194) (s a p g : Nat) (hs : s < 4294967296) (ha : a < 4294967296) (hp : p < 4294967296) (hg : g < 4294967296) (w : World) : Calls Try.prog 5 #[.int .u8 (k : Int), .int .u32 (s : Int), .int .u32 (a : Int), .int .u32 (p : Int), .int .u32 (g : Int)] w fun en w' => en = .returned (.tuple #[.int .i32 0, .int .i64 5]) ∧ w = w' := by
  have t0 : ((k : Int) == 0) = false := by simp; omega
  have t1 : ((k : Int) == 1) = false := by simp; omega
  have t16 : ((k : Int) == 16) = false := by simp; omega
  have t17 : ((k : Int) == 17) = false := by simp; omega
  have t23 : ((k : Int) == 23) = false := by simp; omega
  have t24 : ((k : Int) == 24) = false := by simp; omega
  have t25 : ((k : Int) == 25) = false := by simp; omega
  have t26 : ((k : Int) == 26) = false := by simp; omega
  have t27 : ((k : Int) == 27) = false := by simp; omega
  have t28 : ((k : Int) == 28) = false := by simp; omega
  have t51 : ((k : Int) == 51) = false := by simp; omega
  have t193 : ((k : Int) == 193) = false := by simp; omega
  have t194 : ((k : Int) == 194) = false := by simp; omega
  clear h0 h1 h16 h17 h23 h24 h25 h26 h27 h28 h51 h193 h194
  go_enter Try.func5, Try.ntmps5
  go_wp2
  go_ret2
  exact ⟨ret2 rfl rfl, rfl⟩
theorem rval24 (s a p g : Nat) (hs : s < 4294967296) (ha : a < 4294967296) (hp : p < 4294967296) (hg : g < 4294967296) (w : World) : Calls Try.prog 6 #[.int .u8 24, .int .u32 (s : Int), .int .u32 (a : Int), .int .u32 (p : Int), .int .u32 (g : Int)] w fun en w' => en = .returned (.tuple #[.int .i32 0, .int .i64 5]) ∧ w = w' := by
  go_enter Try.func6, Try.ntmps6
  go_wp2
  go_ret2
  exact ⟨ret2 rfl rfl, rfl⟩
theorem rval25 (s a p g : Nat) (hs : s < 4294967296) (ha : a < 4294967296) (hp : p < 4294967296) (hg : g < 4294967296) (w : World) : Calls Try.prog 6 #[.int .u8 25, .int .u32 (s : Int), .int .u32 (a : Int), .int .u32 (p : Int), .int .u32 (g : Int)] w fun en w' => en = .returned (.tuple #[.int .i32 0, .int .i64 5]) ∧ w = w' := by
  go_enter Try.func6, Try.ntmps6
  go_wp2
  go_ret2
  exact ⟨ret2 rfl rfl, rfl⟩
theorem rvalNo (k : Nat) (h0 : k ≠ 0) (h1 : k ≠ 1) (h16 : k ≠ 16) (h17 : k ≠ 17) (h23 : k ≠ 23) (h24 : k ≠ 24) (h25 : k ≠ 25) (h26 : k ≠ 26) (h27 : k ≠ 27) (h28 : k ≠ 28) (h51 : k ≠ 51) (h193 : k ≠ 193) (h194 : k ≠ 194) (s a p g : Nat) (hs : s < 4294967296) (ha : a < 4294967296) (hp : p < 4294967296) (hg : g < 4294967296) (w : World) : Calls Try.prog 6 #[.int .u8 (k : Int), .int .u32 (s : Int), .int .u32 (a : Int), .int .u32 (p : Int), .int .u32 (g : Int)] w fun en w' => en = .returned (.tuple #[.int .i32 0, .int .i64 5]) ∧ w = w' := by
  have t0 : ((k : Int) == 0) = false := by simp; omega
  have t1 : ((k : Int) == 1) = false := by simp; omega
  have t16 : ((k : Int) == 16) = false := by simp; omega
  have t17 : ((k : Int) == 17) = false := by simp; omega
  have t23 : ((k : Int) == 23) = false := by simp; omega
  have t24 : ((k : Int) == 24) = false := by simp; omega
  have t25 : ((k : Int) == 25) = false := by simp; omega
  have t26 : ((k : Int) == 26) = false := by simp; omega
  have t27 : ((k : Int) == 27) = false := by simp; omega
  have t28 : ((k : Int) == 28) = false := by simp; omega
  have t51 : ((k : Int) == 51) = false := by simp; omega
  have t193 : ((k : Int) == 193) = false := by simp; omega
  have t194 : ((k : Int) == 194) = false := by simp; omega
  clear h0 h1 h16 h17 h23 h24 h25 h26 h27 h28 h51 h193 h194
  go_enter Try.func6, Try.ntmps6
  go_wp2
  go_ret2
  exact ⟨ret2 rfl rfl, rfl⟩
theorem is0 (w : World) : Calls Try.prog 7 #[.int .u8 0] w fun en w' => en = .returned (.bool true) ∧ w = w' := by
  have K : ∀ w : World, Calls Try.prog 5 #[.int .u8 0, .int .u32 0, .int .u32 0, .int .u32 0, .int .u32 0] w fun en w' => en = .returned (.tuple #[.int .i32 0, .int .i64 0]) ∧ w = w' := fun w => (val0 0 0 0 0 (by omega) (by omega) (by omega) (by omega) w).mono fun e w' ⟨h1, h2⟩ => ⟨h1.trans (by kernel_rfl), h2⟩
  have K := Lib.hid K
  go_enter Try.func7, Try.ntmps7
  go_wp2_with fail
  refine (K.out _).mono ?_
  rintro _ _ ⟨rfl, rfl⟩
  go_wp2_with fail
  go_ret
  exact ⟨rfl, rfl⟩
theorem ris0 (w : World) : Calls Try.prog 8 #[.int .u8 0] w fun en w' => en = .returned (.bool true) ∧ w = w' := by
  go_enter Try.func8, Try.ntmps8
  go_wp2
  go_ret
  exact ⟨rfl, rfl⟩
theorem is1 (w : World) : Calls Try.prog 7 #[.int .u8 1] w fun en w' => en = .returned (.bool true) ∧ w = w' := by
  have K : ∀ w : World, Calls Try.prog 5 #[.int .u8 1, .int .u32 0, .int .u32 0, .int .u32 0, .int .u32 0] w fun en w' => en = .returned (.tuple #[.int .i32 0, .int .i64 0]) ∧ w = w' := fun w => (val1 0 0 0 0 (by omega) (by omega) (by omega) (by omega) w).mono fun e w' ⟨h1, h2⟩ => ⟨h1.trans (by kernel_rfl), h2⟩
  have K := Lib.hid K
  go_enter Try.func7, Try.ntmps7
  go_wp2_with fail
  refine (K.out _).mono ?_
  rintro _ _ ⟨rfl, rfl⟩
  go_wp2_with fail
  go_ret
  exact ⟨rfl, rfl⟩
theorem ris1 (w : World) : Calls Try.prog 8 #[.int .u8 1] w fun en w' => en = .returned (.bool true) ∧ w = w' := by
  go_enter Try.func8, Try.ntmps8
  go_wp2
  go_ret
  exact ⟨rfl, rfl⟩
theorem is16 (w : World) : Calls Try.prog 7 #[.int .u8 16] w fun en w' => en = .returned (.bool true) ∧ w = w' := by
  have K : ∀ w : World, Calls Try.prog 5 #[.int .u8 16, .int .u32 0, .int .u32 0, .int .u32 0, .int .u32 0] w fun en w' => en = .returned (.tuple #[.int .i32 0, .int .i64 0]) ∧ w = w' := fun w => (val16 0 0 0 0 (by omega) (by omega) (by omega) (by omega) w).mono fun e w' ⟨h1, h2⟩ => ⟨h1.trans (by kernel_rfl), h2⟩
  have K := Lib.hid K
  go_enter Try.func7, Try.ntmps7
  go_wp2_with fail
  refine (K.out _).mono ?_
  rintro _ _ ⟨rfl, rfl⟩
  go_wp2_with fail
  go_ret
  exact ⟨rfl, rfl⟩
theorem ris16 (w : World) : Calls Try.prog 8 #[.int .u8 16] w fun en w' => en = .returned (.bool true) ∧ w = w' := by
  go_enter Try.func8, Try.ntmps8
  go_wp2
  go_ret
  exact ⟨rfl, rfl⟩
theorem is17 (w : World) : Calls Try.prog 7 #[.int .u8 17] w fun en w' => en = .returned (.bool true) ∧ w = w' := by
  have K : ∀ w : World, Calls Try.prog 5 #[.int .u8 17, .int .u32 0, .int .u32 0, .int .u32 0, .int .u32 0] w fun en w' => en = .returned (.tuple #[.int .i32 0, .int .i64 0]) ∧ w = w' := fun w => (val17 0 0 0 0 (by omega) (by omega) (by omega) (by omega) w).mono fun e w' ⟨h1, h2⟩ => ⟨h1.trans (by kernel_rfl), h2⟩
  have K := Lib.hid K
  go_enter Try.func7, Try.ntmps7
  go_wp2_with fail
  refine (K.out _).mono ?_
  rintro _ _ ⟨rfl, rfl⟩
  go_wp2_with fail
  go_ret
  exact ⟨rfl, rfl⟩
theorem ris17 (w : World) : Calls Try.prog 8 #[.int .u8 17] w fun en w' => en = .returned (.bool true) ∧ w = w' := by
  go_enter Try.func8, Try.ntmps8
  go_wp2
  go_ret
  exact ⟨rfl, rfl⟩
theorem is23 (w : World) : Calls Try.prog 7 #[.int .u8 23] w fun en w' => en = .returned (.bool true) ∧ w = w' := by
  have K : ∀ w : World, Calls Try.prog 5 #[.int .u8 23, .int .u32 0, .int .u32 0, .int .u32 0, .int .u32 0] w fun en w' => en = .returned (.tuple #[.int .i32 0, .int .i64 0]) ∧ w = w' := fun w => (val23 0 0 0 0 (by omega) (by omega) (by omega) (by omega) w).mono fun e w' ⟨h1, h2⟩ => ⟨h1.trans (by kernel_rfl), h2⟩
  have K := Lib.hid K
  go_enter Try.func7, Try.ntmps7
  go_wp2_with fail
  refine (K.out _).mono ?_
  rintro _ _ ⟨rfl, rfl⟩
  go_wp2_with fail
  go_ret
  exact ⟨rfl, rfl⟩
theorem ris23 (w : World) : Calls Try.prog 8 #[.int .u8 23] w fun en w' => en = .returned (.bool true) ∧ w = w' := by
  go_enter Try.func8, Try.ntmps8
  go_wp2
  go_ret
  exact ⟨rfl, rfl⟩
theorem is24 (w : World) : Calls Try.prog 7 #[.int .u8 24] w fun en w' => en = .returned (.bool true) ∧ w = w' := by
  go_enter Try.func7, Try.ntmps7
  go_wp2
  go_ret
  exact ⟨rfl, rfl⟩
theorem ris24 (w : World) : Calls Try.prog 8 #[.int .u8 24] w fun en w' => en = .returned (.bool true) ∧ w = w' := by
  go_enter Try.func8, Try.ntmps8
  go_wp2
  go_ret
  exact ⟨rfl, rfl⟩
theorem is25 (w : World) : Calls Try.prog 7 #[.int .u8 25] w fun en w' => en = .returned (.bool true) ∧ w = w' := by
  go_enter Try.func7, Try.ntmps7
  go_wp2
  go_ret
  exact ⟨rfl, rfl⟩
theorem ris25 (w : World) : Calls Try.prog 8 #[.int .u8 25] w fun en w' => en = .returned (.bool true) ∧ w = w' := by
  go_enter Try.func8, Try.ntmps8
  go_wp2
  go_ret
  exact ⟨rfl, rfl⟩
theorem is26 (w : World) : Calls Try.prog 7 #[.int .u8 26] w fun en w' => en = .returned (.bool true) ∧ w = w' := by
  have K : ∀ w : World, Calls Try.prog 5 #[.int .u8 26, .int .u32 0, .int .u32 0, .int .u32 0, .int .u32 0] w fun en w' => en = .returned (.tuple #[.int .i32 0, .int .i64 0]) ∧ w = w' := fun w => (val26 0 0 0 0 (by omega) (by omega) (by omega) (by omega) w).mono fun e w' ⟨h1, h2⟩ => ⟨h1.trans (by kernel_rfl), h2⟩
  have K := Lib.hid K
  go_enter Try.func7, Try.ntmps7
  go_wp2_with fail
  refine (K.out _).mono ?_
  rintro _ _ ⟨rfl, rfl⟩
  go_wp2_with fail
  go_ret
  exact ⟨rfl, rfl⟩
theorem ris26 (w : World) : Calls Try.prog 8 #[.int .u8 26] w fun en w' => en = .returned (.bool true) ∧ w = w' := by
  go_enter Try.func8, Try.ntmps8
  go_wp2
  go_ret
  exact ⟨rfl, rfl⟩
theorem is27 (w : World) : Calls Try.prog 7 #[.int .u8 27] w fun en w' => en = .returned (.bool true) ∧ w = w' := by
  have K : ∀ w : World, Calls Try.prog 5 #[.int .u8 27, .int .u32 0, .int .u32 0, .int .u32 0, .int .u32 0] w fun en w' => en = .returned (.tuple #[.int .i32 0, .int .i64 0]) ∧ w = w' := fun w => (val27 0 0 0 0 (by omega) (by omega) (by omega) (by omega) w).mono fun e w' ⟨h1, h2⟩ => ⟨h1.trans (by kernel_rfl), h2⟩
  have K := Lib.hid K
  go_enter Try.func7, Try.ntmps7
  go_wp2_with fail
  refine (K.out _).mono ?_
  rintro _ _ ⟨rfl, rfl⟩
  go_wp2_with fail
  go_ret
  exact ⟨rfl, rfl⟩
theorem ris27 (w : World) : Calls Try.prog 8 #[.int .u8 27] w fun en w' => en = .returned (.bool true) ∧ w = w' := by
  go_enter Try.func8, Try.ntmps8
  go_wp2
  go_ret
  exact ⟨rfl, rfl⟩
theorem is28 (w : World) : Calls Try.prog 7 #[.int .u8 28] w fun en w' => en = .returned (.bool true) ∧ w = w' := by
  have K : ∀ w : World, Calls Try.prog 5 #[.int .u8 28, .int .u32 0, .int .u32 0, .int .u32 0, .int .u32 0] w fun en w' => en = .returned (.tuple #[.int .i32 0, .int .i64 0]) ∧ w = w' := fun w => (val28 0 0 0 0 (by omega) (by omega) (by omega) (by omega) w).mono fun e w' ⟨h1, h2⟩ => ⟨h1.trans (by kernel_rfl), h2⟩
  have K := Lib.hid K
  go_enter Try.func7, Try.ntmps7
  go_wp2_with fail
  refine (K.out _).mono ?_
  rintro _ _ ⟨rfl, rfl⟩
  go_wp2_with fail
  go_ret
  exact ⟨rfl, rfl⟩
theorem ris28 (w : World) : Calls Try.prog 8 #[.int .u8 28] w fun en w' => en = .returned (.bool true) ∧ w = w' := by
  go_enter Try.func8, Try.ntmps8
  go_wp2
  go_ret
  exact ⟨rfl, rfl⟩
theorem is51 (w : World) : Calls Try.prog 7 #[.int .u8 51] w fun en w' => en = .returned (.bool true) ∧ w = w' := by
  have K : ∀ w : World, Calls Try.prog 5 #[.int .u8 51, .int .u32 0, .int .u32 0, .int .u32 0, .int .u32 0] w fun en w' => en = .returned (.tuple #[.int .i32 0, .int .i64 0]) ∧ w = w' := fun w => (val51 0 0 0 0 (by omega) (by omega) (by omega) (by omega) w).mono fun e w' ⟨h1, h2⟩ => ⟨h1.trans (by kernel_rfl), h2⟩
  have K := Lib.hid K
  go_enter Try.func7, Try.ntmps7
  go_wp2_with fail
  refine (K.out _).mono ?_
  rintro _ _ ⟨rfl, rfl⟩
  go_wp2_with fail
  go_ret
  exact ⟨rfl, rfl⟩
theorem ris51 (w : World) : Calls Try.prog 8 #[.int .u8 51] w fun en w' => en = .returned (.bool true) ∧ w = w' := by
  go_enter Try.func8, Try.ntmps8
  go_wp2
  go_ret
  exact ⟨rfl, rfl⟩
theorem is193 (w : World) : Calls Try.prog 7 #[.int .u8 193] w fun en w' => en = .returned (.bool true) ∧ w = w' := by
  have K : ∀ w : World, Calls Try.prog 5 #[.int .u8 193, .int .u32 0, .int .u32 0, .int .u32 0, .int .u32 0] w fun en w' => en = .returned (.tuple #[.int .i32 0, .int .i64 0]) ∧ w = w' := fun w => (val193 0 0 0 0 (by omega) (by omega) (by omega) (by omega) w).mono fun e w' ⟨h1, h2⟩ => ⟨h1.trans (by kernel_rfl), h2⟩
  have K := Lib.hid K
  go_enter Try.func7, Try.ntmps7
  go_wp2_with fail
  refine (K.out _).mono ?_
  rintro _ _ ⟨rfl, rfl⟩
  go_wp2_with fail
  go_ret
  exact ⟨rfl, rfl⟩
theorem ris193 (w : World) : Calls Try.prog 8 #[.int .u8 193] w fun en w' => en = .returned (.bool true) ∧ w = w' := by
  go_enter Try.func8, Try.ntmps8
  go_wp2
  go_ret
  exact ⟨rfl, rfl⟩
theorem is194 (w : World) : Calls Try.prog 7 #[.int .u8 194] w fun en w' => en = .returned (.bool true) ∧ w = w' := by
  have K : ∀ w : World, Calls Try.prog 5 #[.int .u8 194, .int .u32 0, .int .u32 0, .int .u32 0, .int .u32 0] w fun en w' => en = .returned (.tuple #[.int .i32 0, .int .i64 0]) ∧ w = w' := fun w => (val194 0 0 0 0 (by omega) (by omega) (by omega) (by omega) w).mono fun e w' ⟨h1, h2⟩ => ⟨h1.trans (by kernel_rfl), h2⟩
  have K := Lib.hid K
  go_enter Try.func7, Try.ntmps7
  go_wp2_with fail
  refine (K.out _).mono ?_
  rintro _ _ ⟨rfl, rfl⟩
  go_wp2_with fail
  go_ret
  exact ⟨rfl, rfl⟩
theorem ris194 (w : World) : Calls Try.prog 8 #[.int .u8 194] w fun en w' => en = .returned (.bool true) ∧ w = w' := by
  go_enter Try.func8, Try.ntmps8
  go_wp2
  go_ret
  exact ⟨rfl, rfl⟩
theorem isNo (k : Nat) (h0 : k ≠ 0) (h1 : k ≠ 1) (h16 : k ≠ 16) (h17 : k ≠ 17) (h23 : k ≠ 23) (h24 : k ≠ 24) (h25 : k ≠ 25) (h26 : k ≠ 26) (h27 : k ≠ 27) (h28 : k ≠ 28) (h51 : k ≠ 51) (h193 : k ≠ 193) (h194 : k ≠ 194) (w : World) : Calls Try.prog 7 #[.int .u8 (k : Int)] w fun en w' => en = .returned (.bool false) ∧ w = w' := by
  have K : ∀ w : World, Calls Try.prog 5 #[.int .u8 (k : Int), .int .u32 0, .int .u32 0, .int .u32 0, .int .u32 0] w fun en w' => en = .returned (.tuple #[.int .i32 0, .int .i64 5]) ∧ w = w' := fun w => valNo k h0 h1 h16 h17 h23 h24 h25 h26 h27 h28 h51 h193 h194 0 0 0 0 (by omega) (by omega) (by omega) (by omega) w
  have K := Lib.hid K
  have t24 : ((k : Int) == 24) = false := by simp; omega
  have t25 : ((k : Int) == 25) = false := by simp; omega
  clear h0 h1 h16 h17 h23 h24 h25 h26 h27 h28 h51 h193 h194
  go_enter Try.func7, Try.ntmps7
  go_wp2_with fail
  refine (K.out _).mono ?_
  rintro _ _ ⟨rfl, rfl⟩
  go_wp2_with fail
  go_ret
  exact ⟨rfl, rfl⟩
theorem risNo (k : Nat) (h0 : k ≠ 0) (h1 : k ≠ 1) (h16 : k ≠ 16) (h17 : k ≠ 17) (h23 : k ≠ 23) (h24 : k ≠ 24) (h25 : k ≠ 25) (h26 : k ≠ 26) (h27 : k ≠ 27) (h28 : k ≠ 28) (h51 : k ≠ 51) (h193 : k ≠ 193) (h194 : k ≠ 194) (w : World) : Calls Try.prog 8 #[.int .u8 (k : Int)] w fun en w' => en = .returned (.bool false) ∧ w = w' := by
  have t0 : ((k : Int) == 0) = false := by simp; omega
  have t1 : ((k : Int) == 1) = false := by simp; omega
  have t16 : ((k : Int) == 16) = false := by simp; omega
  have t17 : ((k : Int) == 17) = false := by simp; omega
  have t23 : ((k : Int) == 23) = false := by simp; omega
  have t24 : ((k : Int) == 24) = false := by simp; omega
  have t25 : ((k : Int) == 25) = false := by simp; omega
  have t26 : ((k : Int) == 26) = false := by simp; omega
  have t27 : ((k : Int) == 27) = false := by simp; omega
  have t28 : ((k : Int) == 28) = false := by simp; omega
  have t51 : ((k : Int) == 51) = false := by simp; omega
  have t193 : ((k : Int) == 193) = false := by simp; omega
  have t194 : ((k : Int) == 194) = false := by simp; omega
  clear h0 h1 h16 h17 h23 h24 h25 h26 h27 h28 h51 h193 h194
  go_enter Try.func8, Try.ntmps8
  go_wp2
  go_ret
  exact ⟨rfl, rfl⟩
theorem walk3 (K : Int) (s a p g : Nat) (x y : Int) (z : Bool) (w : World)
    (k5 : Hid (∀ w : World, Calls Try.prog 5 #[.int .u8 K, .int .u32 (s : Int), .int .u32 (a : Int), .int .u32 (p : Int), .int .u32 (g : Int)] w fun en w' => en = .returned (.tuple #[.int .i32 x, .int .i64 y]) ∧ w = w'))
    (k6 : Hid (∀ w : World, Calls Try.prog 6 #[.int .u8 K, .int .u32 (s : Int), .int .u32 (a : Int), .int .u32 (p : Int), .int .u32 (g : Int)] w fun en w' => en = .returned (.tuple #[.int .i32 x, .int .i64 y]) ∧ w = w'))
    (k7 : Hid (∀ w : World, Calls Try.prog 7 #[.int .u8 K] w fun en w' => en = .returned (.bool z) ∧ w = w'))
    (k8 : Hid (∀ w : World, Calls Try.prog 8 #[.int .u8 K] w fun en w' => en = .returned (.bool z) ∧ w = w')) :
    Calls Try.prog 3 #[.int .u8 K, .int .u32 (s : Int), .int .u32 (a : Int), .int .u32 (p : Int), .int .u32 (g : Int)] w fun en w' => en = .returned (.bool true) ∧ Below w.heap.size w w' := by
  go_enter Try.func3, Try.ntmps3
  go_wp2_with fail
  refine (k5.out _).mono ?_
  rintro _ _ ⟨rfl, rfl⟩
  go_wp2_with fail
  refine (k6.out _).mono ?_
  rintro _ _ ⟨rfl, rfl⟩
  go_wp2_with fail
  refine (k7.out _).mono ?_
  rintro _ _ ⟨rfl, rfl⟩
  go_wp2_with fail
  refine (k8.out _).mono ?_
  rintro _ _ ⟨rfl, rfl⟩
  cases z
  all_goals
    go_wp2_with fail
    refine (works _).mono ?_
    rintro _ _ ⟨rfl, rfl⟩
    go_wp2_with fail
    go_ret
    exact ⟨rfl, Below.refl _ _⟩
theorem ckV_tup (b : Bool) (n : Nat) : ∃ x y, ckV b n = .tuple #[.int .i32 x, .int .i64 y] := by unfold ckV; split <;> exact ⟨_, _, rfl⟩
theorem law3 (k s a p g : Nat) (hk : k < 256) (hs : s < 4294967296) (ha : a < 4294967296) (hp : p < 4294967296) (hg : g < 4294967296) (w : World) :
    Calls Try.prog 3 #[.int .u8 (k : Int), .int .u32 (s : Int), .int .u32 (a : Int), .int .u32 (p : Int), .int .u32 (g : Int)] w fun en w' => en = .returned (.bool true) ∧ Below w.heap.size w w' := by
  by_cases h0 : k = 0
  · subst h0
    have k5 := fun w => val0 s a p g hs ha hp hg w
    have k6 := fun w => rval0 s a p g hs ha hp hg w
    exact walk3 0 s a p g _ _ _ w (Lib.hid k5) (Lib.hid k6) (Lib.hid fun w => is0 w) (Lib.hid fun w => ris0 w)
  by_cases h1 : k = 1
  · subst h1
    have k5 := fun w => val1 s a p g hs ha hp hg w
    have k6 := fun w => rval1 s a p g hs ha hp hg w
    exact walk3 1 s a p g _ _ _ w (Lib.hid k5) (Lib.hid k6) (Lib.hid fun w => is1 w) (Lib.hid fun w => ris1 w)
  by_cases h16 : k = 16
  · subst h16
    have k5 := fun w => val16 s a p g hs ha hp hg w
    have k6 := fun w => rval16 s a p g hs ha hp hg w
    obtain ⟨x, y, e⟩ := ckV_tup (fe ((((s + a) % 4294967296) + 4294967296 - p) % 4294967296) 4096 2) ((((s + a) % 4294967296) + 4294967296 - p) % 4294967296)
    rw [e] at k5 k6
    exact walk3 16 s a p g _ _ _ w (Lib.hid k5) (Lib.hid k6) (Lib.hid fun w => is16 w) (Lib.hid fun w => ris16 w)
  by_cases h17 : k = 17
  · subst h17
    have k5 := fun w => val17 s a p g hs ha hp hg w
    have k6 := fun w => rval17 s a p g hs ha hp hg w
    obtain ⟨x, y, e⟩ := ckV_tup (fe ((((s + a) % 4294967296) + 4294967296 - p) % 4294967296) 1048576 2) ((((s + a) % 4294967296) + 4294967296 - p) % 4294967296)
    rw [e] at k5 k6
    exact walk3 17 s a p g _ _ _ w (Lib.hid k5) (Lib.hid k6) (Lib.hid fun w => is17 w) (Lib.hid fun w => ris17 w)
  by_cases h23 : k = 23
  · subst h23
    have k5 := fun w => val23 s a p g hs ha hp hg w
    have k6 := fun w => rval23 s a p g hs ha hp hg w
    exact walk3 23 s a p g _ _ _ w (Lib.hid k5) (Lib.hid k6) (Lib.hid fun w => is23 w) (Lib.hid fun w => ris23 w)
  by_cases h24 : k = 24
  · subst h24
    have k5 := fun w => val24 s a p g hs ha hp hg w
    have k6 := fun w => rval24 s a p g hs ha hp hg w
    exact walk3 24 s a p g _ _ _ w (Lib.hid k5) (Lib.hid k6) (Lib.hid fun w => is24 w) (Lib.hid fun w => ris24 w)
  by_cases h25 : k = 25
  · subst h25
    have k5 := fun w => val25 s a p g hs ha hp hg w
    have k6 := fun w => rval25 s a p g hs ha hp hg w
    exact walk3 25 s a p g _ _ _ w (Lib.hid k5) (Lib.hid k6) (Lib.hid fun w => is25 w) (Lib.hid fun w => ris25 w)
  by_cases h26 : k = 26
  · subst h26
    have k5 := fun w => val26 s a p g hs ha hp hg w
    have k6 := fun w => rval26 s a p g hs ha hp hg w
    exact walk3 26 s a p g _ _ _ w (Lib.hid k5) (Lib.hid k6) (Lib.hid fun w => is26 w) (Lib.hid fun w => ris26 w)
  by_cases h27 : k = 27
  · subst h27
    have k5 := fun w => val27 s a p g hs ha hp hg w
    have k6 := fun w => rval27 s a p g hs ha hp hg w
    exact walk3 27 s a p g _ _ _ w (Lib.hid k5) (Lib.hid k6) (Lib.hid fun w => is27 w) (Lib.hid fun w => ris27 w)
  by_cases h28 : k = 28
  · subst h28
    have k5 := fun w => val28 s a p g hs ha hp hg w
    have k6 := fun w => rval28 s a p g hs ha hp hg w
    exact walk3 28 s a p g _ _ _ w (Lib.hid k5) (Lib.hid k6) (Lib.hid fun w => is28 w) (Lib.hid fun w => ris28 w)
  by_cases h51 : k = 51
  · subst h51
    have k5 := fun w => val51 s a p g hs ha hp hg w
    have k6 := fun w => rval51 s a p g hs ha hp hg w
    exact walk3 51 s a p g _ _ _ w (Lib.hid k5) (Lib.hid k6) (Lib.hid fun w => is51 w) (Lib.hid fun w => ris51 w)
  by_cases h193 : k = 193
  · subst h193
    have k5 := fun w => val193 s a p g hs ha hp hg w
    have k6 := fun w => rval193 s a p g hs ha hp hg w
    obtain ⟨x, y, e⟩ := ckV_tup (fe ((((s + a) % 4294967296) + 4294967296 - g) % 4294967296) 2048 1) ((((s + a) % 4294967296) + 4294967296 - g) % 4294967296)
    rw [e] at k5 k6
    exact walk3 193 s a p g _ _ _ w (Lib.hid k5) (Lib.hid k6) (Lib.hid fun w => is193 w) (Lib.hid fun w => ris193 w)
  by_cases h194 : k = 194
  · subst h194
    have k5 := fun w => val194 s a p g hs ha hp hg w
    have k6 := fun w => rval194 s a p g hs ha hp hg w
    obtain ⟨x, y, e⟩ := ckV_tup (fe ((((s + a) % 4294967296) + 4294967296 - g) % 4294967296) 2048 1) ((((s + a) % 4294967296) + 4294967296 - g) % 4294967296)
    rw [e] at k5 k6
    exact walk3 194 s a p g _ _ _ w (Lib.hid k5) (Lib.hid k6) (Lib.hid fun w => is194 w) (Lib.hid fun w => ris194 w)
  exact walk3 k s a p g _ _ _ w (Lib.hid fun w => valNo k h0 h1 h16 h17 h23 h24 h25 h26 h27 h28 h51 h193 h194 s a p g hs ha hp hg w) (Lib.hid fun w => rvalNo k h0 h1 h16 h17 h23 h24 h25 h26 h27 h28 h51 h193 h194 s a p g hs ha hp hg w) (Lib.hid fun w => isNo k h0 h1 h16 h17 h23 h24 h25 h26 h27 h28 h51 h193 h194 w) (Lib.hid fun w => risNo k h0 h1 h16 h17 h23 h24 h25 h26 h27 h28 h51 h193 h194 w)
end Go.Proofs.Ytkiojljopigldaa
