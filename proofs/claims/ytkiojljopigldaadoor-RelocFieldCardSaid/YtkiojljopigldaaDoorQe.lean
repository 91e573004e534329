import Derived.Test.YtkiojljopigldaaDoorQd
namespace Go.Proofs.YtkiojljopigldaaDoor.Rel
open Go.ChangeShapes Go.WideShapes Go.ChangeAt Go.RowKit
set_option linter.unusedVariables false
theorem val24 (s a p g : Nat) (hs : s < 4294967296) (ha : a < 4294967296) (hp : p < 4294967296) (hg : g < 4294967296) (w : World) : Calls Tryd.prog 16 #[.int .u8 24, .int .u32 (s : Int), .int .u32 (a : Int), .int .u32 (p : Int), .int .u32 (g : Int)] w fun en w' => en = .returned (.tuple #[.int .i32 0, .int .i64 5]) ∧ w = w' := by
  go_enter Tryd.func16, Tryd.ntmps16
  go_wp2
  go_ret2
  exact ⟨ret2 rfl rfl, rfl⟩
theorem val25 (s a p g : Nat) (hs : s < 4294967296) (ha : a < 4294967296) (hp : p < 4294967296) (hg : g < 4294967296) (w : World) : Calls Tryd.prog 16 #[.int .u8 25, .int .u32 (s : Int), .int .u32 (a : Int), .int .u32 (p : Int), .int .u32 (g : Int)] w fun en w' => en = .returned (.tuple #[.int .i32 0, .int .i64 5]) ∧ w = w' := by
  go_enter Tryd.func16, Tryd.ntmps16
  go_wp2
  go_ret2
  exact ⟨ret2 rfl rfl, rfl⟩
theorem valNo (k : Nat) (h0 : k ≠ 0) (h1 : k ≠ 1) (h16 : k ≠ 16) (h17 : k ≠ 17) (h23 : k ≠ 23) (h24 : k ≠ 24) (h25 : k ≠ 25) (h26 : k ≠ 26) (h27 : k ≠ 27) (h28 : k ≠ 28) (h51 : k ≠ 51) (h193 : k ≠ 193) (h194 : k ≠ 194) (s a p g : Nat) (hs : s < 4294967296) (ha : a < 4294967296) (hp : p < 4294967296) (hg : g < 4294967296) (w : World) : Calls Tryd.prog 16 #[.int .u8 (k : Int), .int .u32 (s : Int), .int .u32 (a : Int), .int .u32 (p : Int), .int .u32 (g : Int)] w fun en w' => en = .returned (.tuple #[.int .i32 0, .int .i64 5]) ∧ w = w' := by
  have t0 : ((k : Int) == 0) = false := by simp; omega
  have t1 : ((k : Int) == 1) = false := by simp; omega
  have t16 : ((k : Int) == 16) = false := by simp; omega
  have t17 : ((k : Int) == 17) = false := by simp; omega
  have t23 : ((k : Int) == 23) = false := by simp; omega
  have t24 : ((k : Int) == 24) = false := by simp; omega
  have t25 : ((k : Int) == 25) = false := by simp; omega
  have t26 : ((k : Int) == 26) = false := by simp; omega
  have t27 : ((k : Int) == 27) = false := by simp; omega
  have t28 : ((k : Int) == 28) = false := by simp; omega
  have t51 : ((k : Int) == 51) = false := by simp; omega
  have t193 : ((k : Int) == 193) = false := by simp; omega
  have t194 : ((k : Int) == 194) = false := by simp; omega
  clear h0 h1 h16 h17 h23 h24 h25 h26 h27 h28 h51 h193 h194
  go_enter Tryd.func16, Tryd.ntmps16
  go_wp2
  go_ret2
  exact ⟨ret2 rfl rfl, rfl⟩
theorem is0 (w : World) : Calls Tryd.prog 10 #[.int .u8 0] w fun en w' => en = .returned (.bool true) ∧ w = w' := by
  have K : ∀ w : World, Calls Tryd.prog 16 #[.int .u8 0, .int .u32 0, .int .u32 0, .int .u32 0, .int .u32 0] w fun en w' => en = .returned (.tuple #[.int .i32 0, .int .i64 0]) ∧ w = w' := fun w => (val0 0 0 0 0 (by omega) (by omega) (by omega) (by omega) w).mono fun e w' ⟨h1, h2⟩ => ⟨h1.trans (by kernel_rfl), h2⟩
  have K := Lib.hid K
  go_enter Tryd.func10, Tryd.ntmps10
  go_wp2_with fail
  refine (K.out _).mono ?_
  rintro _ _ ⟨rfl, rfl⟩
  go_wp2_with fail
  go_ret
  exact ⟨rfl, rfl⟩
theorem ris0 (w : World) : Calls Tryd.prog 14 #[.int .u8 0] w fun en w' => en = .returned (.bool true) ∧ w = w' := by
  go_enter Tryd.func14, Tryd.ntmps14
  go_wp2
  go_ret
  exact ⟨rfl, rfl⟩
theorem is1 (w : World) : Calls Tryd.prog 10 #[.int .u8 1] w fun en w' => en = .returned (.bool true) ∧ w = w' := by
  have K : ∀ w : World, Calls Tryd.prog 16 #[.int .u8 1, .int .u32 0, .int .u32 0, .int .u32 0, .int .u32 0] w fun en w' => en = .returned (.tuple #[.int .i32 0, .int .i64 0]) ∧ w = w' := fun w => (val1 0 0 0 0 (by omega) (by omega) (by omega) (by omega) w).mono fun e w' ⟨h1, h2⟩ => ⟨h1.trans (by kernel_rfl), h2⟩
  have K := Lib.hid K
  go_enter Tryd.func10, Tryd.ntmps10
  go_wp2_with fail
  refine (K.out _).mono ?_
  rintro _ _ ⟨rfl, rfl⟩
  go_wp2_with fail
  go_ret
  exact ⟨rfl, rfl⟩
theorem ris1 (w : World) : Calls Tryd.prog 14 #[.int .u8 1] w fun en w' => en = .returned (.bool true) ∧ w = w' := by
  go_enter Tryd.func14, Tryd.ntmps14
  go_wp2
  go_ret
  exact ⟨rfl, rfl⟩
theorem is16 (w : World) : Calls Tryd.prog 10 #[.int .u8 16] w fun en w' => en = .returned (.bool true) ∧ w = w' := by
  have K : ∀ w : World, Calls Tryd.prog 16 #[.int .u8 16, .int .u32 0, .int .u32 0, .int .u32 0, .int .u32 0] w fun en w' => en = .returned (.tuple #[.int .i32 0, .int .i64 0]) ∧ w = w' := fun w => (val16 0 0 0 0 (by omega) (by omega) (by omega) (by omega) w).mono fun e w' ⟨h1, h2⟩ => ⟨h1.trans (by kernel_rfl), h2⟩
  have K := Lib.hid K
  go_enter Tryd.func10, Tryd.ntmps10
  go_wp2_with fail
  refine (K.out _).mono ?_
  rintro _ _ ⟨rfl, rfl⟩
  go_wp2_with fail
  go_ret
  exact ⟨rfl, rfl⟩
theorem ris16 (w : World) : Calls Tryd.prog 14 #[.int .u8 16] w fun en w' => en = .returned (.bool true) ∧ w = w' := by
  go_enter Tryd.func14, Tryd.ntmps14
  go_wp2
  go_ret
  exact ⟨rfl, rfl⟩
theorem is17 (w : World) : Calls Tryd.prog 10 #[.int .u8 17] w fun en w' => en = .returned (.bool true) ∧ w = w' := by
  have K : ∀ w : World, Calls Tryd.prog 16 #[.int .u8 17, .int .u32 0, .int .u32 0, .int .u32 0, .int .u32 0] w fun en w' => en = .returned (.tuple #[.int .i32 0, .int .i64 0]) ∧ w = w' := fun w => (val17 0 0 0 0 (by omega) (by omega) (by omega) (by omega) w).mono fun e w' ⟨h1, h2⟩ => ⟨h1.trans (by kernel_rfl), h2⟩
  have K := Lib.hid K
  go_enter Tryd.func10, Tryd.ntmps10
  go_wp2_with fail
  refine (K.out _).mono ?_
  rintro _ _ ⟨rfl, rfl⟩
  go_wp2_with fail
  go_ret
  exact ⟨rfl, rfl⟩
theorem ris17 (w : World) : Calls Tryd.prog 14 #[.int .u8 17] w fun en w' => en = .returned (.bool true) ∧ w = w' := by
  go_enter Tryd.func14, Tryd.ntmps14
  go_wp2
  go_ret
  exact ⟨rfl, rfl⟩
theorem is23 (w : World) : Calls Tryd.prog 10 #[.int .u8 23] w fun en w' => en = .returned (.bool true) ∧ w = w' := by
  have K : ∀ w : World, Calls Tryd.prog 16 #[.int .u8 23, .int .u32 0, .int .u32 0, .int .u32 0, .int .u32 0] w fun en w' => en = .returned (.tuple #[.int .i32 0, .int .i64 0]) ∧ w = w' := fun w => (val23 0 0 0 0 (by omega) (by omega) (by omega) (by omega) w).mono fun e w' ⟨h1, h2⟩ => ⟨h1.trans (by kernel_rfl), h2⟩
  have K := Lib.hid K
  go_enter Tryd.func10, Tryd.ntmps10
  go_wp2_with fail
  refine (K.out _).mono ?_
  rintro _ _ ⟨rfl, rfl⟩
  go_wp2_with fail
  go_ret
  exact ⟨rfl, rfl⟩
theorem ris23 (w : World) : Calls Tryd.prog 14 #[.int .u8 23] w fun en w' => en = .returned (.bool true) ∧ w = w' := by
  go_enter Tryd.func14, Tryd.ntmps14
  go_wp2
  go_ret
  exact ⟨rfl, rfl⟩
theorem is24 (w : World) : Calls Tryd.prog 10 #[.int .u8 24] w fun en w' => en = .returned (.bool true) ∧ w = w' := by
  go_enter Tryd.func10, Tryd.ntmps10
  go_wp2
  go_ret
  exact ⟨rfl, rfl⟩
theorem ris24 (w : World) : Calls Tryd.prog 14 #[.int .u8 24] w fun en w' => en = .returned (.bool true) ∧ w = w' := by
  go_enter Tryd.func14, Tryd.ntmps14
  go_wp2
  go_ret
  exact ⟨rfl, rfl⟩
theorem is25 (w : World) : Calls Tryd.prog 10 #[.int .u8 25] w fun en w' => en = .returned (.bool true) ∧ w = w' := by
  go_enter Tryd.func10, Tryd.ntmps10
  go_wp2
  go_ret
  exact ⟨rfl, rfl⟩
theorem ris25 (w : World) : Calls Tryd.prog 14 #[.int .u8 25] w fun en w' => en = .returned (.bool true) ∧ w = w' := by
  go_enter Tryd.func14, Tryd.ntmps14
  go_wp2
  go_ret
  exact ⟨rfl, rfl⟩
theorem is26 (w : World) : Calls Tryd.prog 10 #[.int .u8 26] w fun en w' => en = .returned (.bool true) ∧ w = w' := by
  have K : ∀ w : World, Calls Tryd.prog 16 #[.int .u8 26, .int .u32 0, .int .u32 0, .int .u32 0, .int .u32 0] w fun en w' => en = .returned (.tuple #[.int .i32 0, .int .i64 0]) ∧ w = w' := fun w => (val26 0 0 0 0 (by omega) (by omega) (by omega) (by omega) w).mono fun e w' ⟨h1, h2⟩ => ⟨h1.trans (by kernel_rfl), h2⟩
  have K := Lib.hid K
  go_enter Tryd.func10, Tryd.ntmps10
  go_wp2_with fail
  refine (K.out _).mono ?_
  rintro _ _ ⟨rfl, rfl⟩
  go_wp2_with fail
  go_ret
  exact ⟨rfl, rfl⟩
theorem ris26 (w : World) : Calls Tryd.prog 14 #[.int .u8 26] w fun en w' => en = .returned (.bool true) ∧ w = w' := by
  go_enter Tryd.func14, Tryd.ntmps14
  go_wp2
  go_ret
  exact ⟨rfl, rfl⟩
theorem is27 (w : World) : Calls Tryd.prog 10 #[.int .u8 27] w fun en w' => en = .returned (.bool true) ∧ w = w' := by
  have K : ∀ w : World, Calls Tryd.prog 16 #[.int .u8 27, .int .u32 0, .int .u32 0, .int .u32 0, .int .u32 0] w fun en w' => en = .returned (.tuple #[.int .i32 0, .int .i64 0]) ∧ w = w' := fun w => (val27 0 0 0 0 (by omega) (by omega) (by omega) (by omega) w).mono fun e w' ⟨h1, h2⟩ => ⟨h1.trans (by kernel_rfl), h2⟩
  have K := Lib.hid K
  go_enter Tryd.func10, Tryd.ntmps10
  go_wp2_with fail
  refine (K.out _).mono ?_
  rintro _ _ ⟨rfl, rfl⟩
  go_wp2_with fail
  go_ret
  exact ⟨rfl, rfl⟩
theorem ris27 (w : World) : Calls Tryd.prog 14 #[.int .u8 27] w fun en w' => en = .returned (.bool true) ∧ w = w' := by
  go_enter Tryd.func14, Tryd.ntmps14
  go_wp2
  go_ret
  exact ⟨rfl, rfl⟩
theorem is28 (w : World) : Calls Tryd.prog 10 #[.int .u8 28] w fun en w' => en = .returned (.bool true) ∧ w = w' := by
  have K : ∀ w : World, Calls Tryd.prog 16 #[.int .u8 28, .int .u32 0, .int .u32 0, .int .u32 0, .int .u32 0] w fun en w' => en = .returned (.tuple #[.int .i32 0, .int .i64 0]) ∧ w = w' := fun w => (val28 0 0 0 0 (by omega) (by omega) (by omega) (by omega) w).mono fun e w' ⟨h1, h2⟩ => ⟨h1.trans (by kernel_rfl), h2⟩
  have K := Lib.hid K
  go_enter Tryd.func10, Tryd.ntmps10
  go_wp2_with fail
  refine (K.out _).mono ?_
  rintro _ _ ⟨rfl, rfl⟩
  go_wp2_with fail
  go_ret
  exact ⟨rfl, rfl⟩
theorem ris28 (w : World) : Calls Tryd.prog 14 #[.int .u8 28] w fun en w' => en = .returned (.bool true) ∧ w = w' := by
  go_enter Tryd.func14, Tryd.ntmps14
  go_wp2
  go_ret
  exact ⟨rfl, rfl⟩
theorem is51 (w : World) : Calls Tryd.prog 10 #[.int .u8 51] w fun en w' => en = .returned (.bool true) ∧ w = w' := by
  have K : ∀ w : World, Calls Tryd.prog 16 #[.int .u8 51, .int .u32 0, .int .u32 0, .int .u32 0, .int .u32 0] w fun en w' => en = .returned (.tuple #[.int .i32 0, .int .i64 0]) ∧ w = w' := fun w => (val51 0 0 0 0 (by omega) (by omega) (by omega) (by omega) w).mono fun e w' ⟨h1, h2⟩ => ⟨h1.trans (by kernel_rfl), h2⟩
  have K := Lib.hid K
  go_enter Tryd.func10, Tryd.ntmps10
  go_wp2_with fail
  refine (K.out _).mono ?_
  rintro _ _ ⟨rfl, rfl⟩
  go_wp2_with fail
  go_ret
  exact ⟨rfl, rfl⟩
theorem ris51 (w : World) : Calls Tryd.prog 14 #[.int .u8 51] w fun en w' => en = .returned (.bool true) ∧ w = w' := by
  go_enter Tryd.func14, Tryd.ntmps14
  go_wp2
  go_ret
  exact ⟨rfl, rfl⟩
theorem is193 (w : World) : Calls Tryd.prog 10 #[.int .u8 193] w fun en w' => en = .returned (.bool true) ∧ w = w' := by
  have K : ∀ w : World, Calls Tryd.prog 16 #[.int .u8 193, .int .u32 0, .int .u32 0, .int .u32 0, .int .u32 0] w fun en w' => en = .returned (.tuple #[.int .i32 0, .int .i64 0]) ∧ w = w' := fun w => (val193 0 0 0 0 (by omega) (by omega) (by omega) (by omega) w).mono fun e w' ⟨h1, h2⟩ => ⟨h1.trans (by kernel_rfl), h2⟩
  have K := Lib.hid K
  go_enter Tryd.func10, Tryd.ntmps10
  go_wp2_with fail
  refine (K.out _).mono ?_
  rintro _ _ ⟨rfl, rfl⟩
  go_wp2_with fail
  go_ret
  exact ⟨rfl, rfl⟩
theorem ris193 (w : World) : Calls Tryd.prog 14 #[.int .u8 193] w fun en w' => en = .returned (.bool true) ∧ w = w' := by
  go_enter Tryd.func14, Tryd.ntmps14
  go_wp2
  go_ret
  exact ⟨rfl, rfl⟩
theorem is194 (w : World) : Calls Tryd.prog 10 #[.int .u8 194] w fun en w' => en = .returned (.bool true) ∧ w = w' := by
  have K : ∀ w : World, Calls Tryd.prog 16 #[.int .u8 194, .int .u32 0, .int .u32 0, .int .u32 0, .int .u32 0] w fun en w' => en = .returned (.tuple #[.int .i32 0, .int .i64 0]) ∧ w = w' := fun w => (val194 0 0 0 0 (by omega) (by omega) (by omega) (by omega) w).mono fun e w' ⟨h1, h2⟩ => ⟨h1.trans (by kernel_rfl), h2⟩
  have K := Lib.hid K
  go_enter Tryd.func10, Tryd.ntmps10
  go_wp2_with fail
  refine (K.out _).mono ?_
  rintro _ _ ⟨rfl, rfl⟩
  go_wp2_with fail
  go_ret
  exact ⟨rfl, rfl⟩
theorem ris194 (w : World) : Calls Tryd.prog 14 #[.int .u8 194] w fun en w' => en = .returned (.bool true) ∧ w = w' := by
  go_enter Tryd.func14, Tryd.ntmps14
  go_wp2
  go_ret
  exact ⟨rfl, rfl⟩
theorem isNo (k : Nat) (h0 : k ≠ 0) (h1 : k ≠ 1) (h16 : k ≠ 16) (h17 : k ≠ 17) (h23 : k ≠ 23) (h24 : k ≠ 24) (h25 : k ≠ 25) (h26 : k ≠ 26) (h27 : k ≠ 27) (h28 : k ≠ 28) (h51 : k ≠ 51) (h193 : k ≠ 193) (h194 : k ≠ 194) (w : World) : Calls Tryd.prog 10 #[.int .u8 (k : Int)] w fun en w' => en = .returned (.bool false) ∧ w = w' := by
  have K : ∀ w : World, Calls Tryd.prog 16 #[.int .u8 (k : Int), .int .u32 0, .int .u32 0, .int .u32 0, .int .u32 0] w fun en w' => en = .returned (.tuple #[.int .i32 0, .int .i64 5]) ∧ w = w' := fun w => valNo k h0 h1 h16 h17 h23 h24 h25 h26 h27 h28 h51 h193 h194 0 0 0 0 (by omega) (by omega) (by omega) (by omega) w
  have K := Lib.hid K
  have t24 : ((k : Int) == 24) = false := by simp; omega
  have t25 : ((k : Int) == 25) = false := by simp; omega
  clear h0 h1 h16 h17 h23 h24 h25 h26 h27 h28 h51 h193 h194
  go_enter Tryd.func10, Tryd.ntmps10
  go_wp2_with fail
  refine (K.out _).mono ?_
  rintro _ _ ⟨rfl, rfl⟩
  go_wp2_with fail
  go_ret
  exact ⟨rfl, rfl⟩
theorem risNo (k : Nat) (h0 : k ≠ 0) (h1 : k ≠ 1) (h16 : k ≠ 16) (h17 : k ≠ 17) (h23 : k ≠ 23) (h24 : k ≠ 24) (h25 : k ≠ 25) (h26 : k ≠ 26) (h27 : k ≠ 27) (h28 : k ≠ 28) (h51 : k ≠ 51) (h193 : k ≠ 193) (h194 : k ≠ 194) (w : World) : Calls Tryd.prog 14 #[.int .u8 (k : Int)] w fun en w' => en = .returned (.bool false) ∧ w = w' := by
  have t0 : ((k : Int) == 0) = false := by simp; omega
  have t1 : ((k : Int) == 1) = false := by simp; omega
  have t16 : ((k : Int) == 16) = false := by simp; omega
  have t17 : ((k : Int) == 17) = false := by simp; omega
  have t23 : ((k : Int) == 23) = false := by simp; omega
  have t24 : ((k : Int) == 24) = false := by simp; omega
  have t25 : ((k : Int) == 25) = false := by simp; omega
  have t26 : ((k : Int) == 26) = false := by simp; omega
  have t27 : ((k : Int) == 27) = false := by simp; omega
  have t28 : ((k : Int) == 28) = false := by simp; omega
  have t51 : ((k : Int) == 51) = false := by simp; omega
  have t193 : ((k : Int) == 193) = false := by simp; omega
  have t194 : ((k : Int) == 194) = false := by simp; omega
  clear h0 h1 h16 h17 h23 h24 h25 h26 h27 h28 h51 h193 h194
  go_enter Tryd.func14, Tryd.ntmps14
  go_wp2
  go_ret
  exact ⟨rfl, rfl⟩
end Go.Proofs.YtkiojljopigldaaDoor.Rel