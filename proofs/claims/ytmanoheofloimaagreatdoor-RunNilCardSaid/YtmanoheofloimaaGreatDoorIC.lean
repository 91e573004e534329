import Derived.Test.YtmanoheofloimaaGreatDoorIB
namespace Go.Proofs.YtmanoheofloimaaGreatDoor.In
open Go.ChangeShapes Go.WideShapes Go.ChangeAt Go.RowKit
set_option linter.unusedVariables false
set_option maxRecDepth 100000
theorem or32' (x m i k P Q X : Nat) (hP : P = 2 ^ i) (hQ : Q = 2 ^ k) (hX : X = m * P) (hx : x / P % Q = 0) (hm : m < Q) (hs : x + X < 4294967296) : ∃ S : Nat, S = x + X ∧ bits .or .u32 (x : Int) (X : Int) = (S : Int) := by
  subst hP hQ hX
  exact ⟨_, rfl, or32 x m i k hx hm hs _ rfl⟩
theorem w31 (n : Nat) (hn : n < 4294967296) : ∃ s : Nat, s = n / 2147483648 ∧ (s = 0 ∧ wrap32 (n : Int) / 2147483648 = 0 ∨ s = 1 ∧ wrap32 (n : Int) / 2147483648 = -1) := by
  by_cases h : n < 2147483648
  · refine ⟨_, rfl, Or.inl ⟨Nat.div_eq_of_lt h, ?_⟩⟩
    have : wrap32 (n : Int) = n := by unfold wrap32; omega
    rw [this]
    omega
  · refine ⟨_, rfl, Or.inr ⟨by omega, ?_⟩⟩
    have : wrap32 (n : Int) = n - 4294967296 := by unfold wrap32; omega
    rw [this]
    omega
theorem put1 (n : Int) (hn : i32 n) (w : World) : Calls Tryz.prog 88 #[.int .i32 n] w fun en w' => en = .returned (.int .u32 (putF 1 n : Int)) ∧ w = w' := by
  obtain ⟨hn1, hn2⟩ := hn
  have hu := u32_cast n
  have hl := u32_lt n
  have hp : putF 1 n = u32 n / 1048576 % 2 * 2147483648 + u32 n / 2 % 1024 * 2097152 + u32 n / 2048 % 2 * 1048576 + u32 n / 4096 % 256 * 4096 := rfl
  generalize u32 n = u at *
  obtain ⟨m0, X0, hm0, hb0, hX0, k0⟩ : ∃ m X : Nat, m = u / 1048576 % 2 ∧ m < 2 ∧ X = m * 2147483648 ∧ ∀ w, Calls Tryz.prog 111 #[.int .u32 (u : Int), .int .u64 20, .int .u64 31] w fun en w' => en = .returned (.int .u32 (X : Int)) ∧ w = w' :=
    ⟨_, _, rfl, Nat.mod_lt _ (by omega), rfl, fun w => bit_20_31 u hl w⟩
  obtain ⟨m1, X1, hm1, hb1, hX1, k1⟩ : ∃ m X : Nat, m = u / 2 % 1024 ∧ m < 1024 ∧ X = m * 2097152 ∧ ∀ w, Calls Tryz.prog 112 #[.int .u32 (u : Int), .int .u64 1, .int .u64 10, .int .u64 21] w fun en w' => en = .returned (.int .u32 (X : Int)) ∧ w = w' :=
    ⟨_, _, rfl, Nat.mod_lt _ (by omega), rfl, fun w => fld_1_10_21 u hl w⟩
  obtain ⟨m2, X2, hm2, hb2, hX2, k2⟩ : ∃ m X : Nat, m = u / 2048 % 2 ∧ m < 2 ∧ X = m * 1048576 ∧ ∀ w, Calls Tryz.prog 111 #[.int .u32 (u : Int), .int .u64 11, .int .u64 20] w fun en w' => en = .returned (.int .u32 (X : Int)) ∧ w = w' :=
    ⟨_, _, rfl, Nat.mod_lt _ (by omega), rfl, fun w => bit_11_20 u hl w⟩
  obtain ⟨m3, X3, hm3, hb3, hX3, k3⟩ : ∃ m X : Nat, m = u / 4096 % 256 ∧ m < 256 ∧ X = m * 4096 ∧ ∀ w, Calls Tryz.prog 112 #[.int .u32 (u : Int), .int .u64 12, .int .u64 8, .int .u64 12] w fun en w' => en = .returned (.int .u32 (X : Int)) ∧ w = w' :=
    ⟨_, _, rfl, Nat.mod_lt _ (by omega), rfl, fun w => fld_12_8_12 u hl w⟩
  have hS0 : X0 = X0 := rfl
  have M0 := Lib.hid hm0
  have M1 := Lib.hid hm1
  have M2 := Lib.hid hm2
  have M3 := Lib.hid hm3
  clear hm0 hm1 hm2 hm3
  obtain ⟨S1, hS1, e1⟩ := or32' X0 m1 21 10 2097152 1024 X1 rfl rfl hX1 (by omega) hb1 (by omega)
  obtain ⟨S2, hS2, e2⟩ := or32' S1 m2 20 1 1048576 2 X2 rfl rfl hX2 (by omega) hb2 (by omega)
  obtain ⟨S3, hS3, e3⟩ := or32' S2 m3 12 8 4096 256 X3 rfl rfl hX3 (by omega) hb3 (by omega)
  have K0 := Lib.hid k0
  clear k0
  have K1 := Lib.hid k1
  clear k1
  have K2 := Lib.hid k2
  clear k2
  have K3 := Lib.hid k3
  clear k3
  have hm0 := M0.out; have hm1 := M1.out; have hm2 := M2.out; have hm3 := M3.out
  have hq : putF 1 n = S3 := by omega
  rw [hq]
  clear hq hp hm0 hX0 hS0 hm1 hX1 hS1 hm2 hX2 hS2 hm3 hX3 hS3
  go_enter Tryz.func88, Tryz.ntmps88
  go_wp2_with fail
  refine (K0.out _).mono ?_
  rintro _ _ ⟨rfl, rfl⟩
  go_wp2_with fail
  refine (K1.out _).mono ?_
  rintro _ _ ⟨rfl, rfl⟩
  go_wp2_with fail
  refine (K2.out _).mono ?_
  rintro _ _ ⟨rfl, rfl⟩
  go_wp2_with fail
  refine (K3.out _).mono ?_
  rintro _ _ ⟨rfl, rfl⟩
  go_wp2_with fail
  go_ret
  exact ⟨rfl, rfl⟩
theorem put5 (n : Int) (hn : i32 n) (w : World) : Calls Tryz.prog 93 #[.int .i32 n] w fun en w' => en = .returned (.int .u32 (putF 5 n : Int)) ∧ w = w' := by
  obtain ⟨hn1, hn2⟩ := hn
  have hu := u32_cast n
  have hl := u32_lt n
  have hp : putF 5 n = u32 n / 32 % 128 * 33554432 + u32 n / 1 % 32 * 128 := by simp only [putF, Nat.div_one]
  generalize u32 n = u at *
  obtain ⟨m0, X0, hm0, hb0, hX0, k0⟩ : ∃ m X : Nat, m = u / 32 % 128 ∧ m < 128 ∧ X = m * 33554432 ∧ ∀ w, Calls Tryz.prog 112 #[.int .u32 (u : Int), .int .u64 5, .int .u64 7, .int .u64 25] w fun en w' => en = .returned (.int .u32 (X : Int)) ∧ w = w' :=
    ⟨_, _, rfl, Nat.mod_lt _ (by omega), rfl, fun w => fld_5_7_25 u hl w⟩
  obtain ⟨m1, X1, hm1, hb1, hX1, k1⟩ : ∃ m X : Nat, m = u / 1 % 32 ∧ m < 32 ∧ X = m * 128 ∧ ∀ w, Calls Tryz.prog 112 #[.int .u32 (u : Int), .int .u64 0, .int .u64 5, .int .u64 7] w fun en w' => en = .returned (.int .u32 (X : Int)) ∧ w = w' :=
    ⟨_, _, rfl, Nat.mod_lt _ (by omega), rfl, fun w => fld_0_5_7 u hl w⟩
  have hS0 : X0 = X0 := rfl
  have M0 := Lib.hid hm0
  have M1 := Lib.hid hm1
  clear hm0 hm1
  obtain ⟨S1, hS1, e1⟩ := or32' X0 m1 7 5 128 32 X1 rfl rfl hX1 (by omega) hb1 (by omega)
  have K0 := Lib.hid k0
  clear k0
  have K1 := Lib.hid k1
  clear k1
  have hm0 := M0.out; have hm1 := M1.out
  have hq : putF 5 n = S1 := by omega
  rw [hq]
  clear hq hp hm0 hX0 hS0 hm1 hX1 hS1
  go_enter Tryz.func93, Tryz.ntmps93
  go_wp2_with fail
  refine (K0.out _).mono ?_
  rintro _ _ ⟨rfl, rfl⟩
  go_wp2_with fail
  refine (K1.out _).mono ?_
  rintro _ _ ⟨rfl, rfl⟩
  go_wp2_with fail
  go_ret
  exact ⟨rfl, rfl⟩
theorem put6 (n : Int) (hn : i32 n) (w : World) : Calls Tryz.prog 95 #[.int .i32 n] w fun en w' => en = .returned (.int .u32 (putF 6 n : Int)) ∧ w = w' := by
  obtain ⟨hn1, hn2⟩ := hn
  have hu := u32_cast n
  have hl := u32_lt n
  have hp : putF 6 n = u32 n / 4096 % 2 * 2147483648 + u32 n / 32 % 64 * 33554432 + u32 n / 2 % 16 * 256 + u32 n / 2048 % 2 * 128 := rfl
  generalize u32 n = u at *
  obtain ⟨m0, X0, hm0, hb0, hX0, k0⟩ : ∃ m X : Nat, m = u / 4096 % 2 ∧ m < 2 ∧ X = m * 2147483648 ∧ ∀ w, Calls Tryz.prog 111 #[.int .u32 (u : Int), .int .u64 12, .int .u64 31] w fun en w' => en = .returned (.int .u32 (X : Int)) ∧ w = w' :=
    ⟨_, _, rfl, Nat.mod_lt _ (by omega), rfl, fun w => bit_12_31 u hl w⟩
  obtain ⟨m1, X1, hm1, hb1, hX1, k1⟩ : ∃ m X : Nat, m = u / 32 % 64 ∧ m < 64 ∧ X = m * 33554432 ∧ ∀ w, Calls Tryz.prog 112 #[.int .u32 (u : Int), .int .u64 5, .int .u64 6, .int .u64 25] w fun en w' => en = .returned (.int .u32 (X : Int)) ∧ w = w' :=
    ⟨_, _, rfl, Nat.mod_lt _ (by omega), rfl, fun w => fld_5_6_25 u hl w⟩
  obtain ⟨m2, X2, hm2, hb2, hX2, k2⟩ : ∃ m X : Nat, m = u / 2 % 16 ∧ m < 16 ∧ X = m * 256 ∧ ∀ w, Calls Tryz.prog 112 #[.int .u32 (u : Int), .int .u64 1, .int .u64 4, .int .u64 8] w fun en w' => en = .returned (.int .u32 (X : Int)) ∧ w = w' :=
    ⟨_, _, rfl, Nat.mod_lt _ (by omega), rfl, fun w => fld_1_4_8 u hl w⟩
  obtain ⟨m3, X3, hm3, hb3, hX3, k3⟩ : ∃ m X : Nat, m = u / 2048 % 2 ∧ m < 2 ∧ X = m * 128 ∧ ∀ w, Calls Tryz.prog 111 #[.int .u32 (u : Int), .int .u64 11, .int .u64 7] w fun en w' => en = .returned (.int .u32 (X : Int)) ∧ w = w' :=
    ⟨_, _, rfl, Nat.mod_lt _ (by omega), rfl, fun w => bit_11_7 u hl w⟩
  have hS0 : X0 = X0 := rfl
  have M0 := Lib.hid hm0
  have M1 := Lib.hid hm1
  have M2 := Lib.hid hm2
  have M3 := Lib.hid hm3
  clear hm0 hm1 hm2 hm3
  obtain ⟨S1, hS1, e1⟩ := or32' X0 m1 25 6 33554432 64 X1 rfl rfl hX1 (by omega) hb1 (by omega)
  obtain ⟨S2, hS2, e2⟩ := or32' S1 m2 8 4 256 16 X2 rfl rfl hX2 (by omega) hb2 (by omega)
  obtain ⟨S3, hS3, e3⟩ := or32' S2 m3 7 1 128 2 X3 rfl rfl hX3 (by omega) hb3 (by omega)
  have K0 := Lib.hid k0
  clear k0
  have K1 := Lib.hid k1
  clear k1
  have K2 := Lib.hid k2
  clear k2
  have K3 := Lib.hid k3
  clear k3
  have hm0 := M0.out; have hm1 := M1.out; have hm2 := M2.out; have hm3 := M3.out
  have hq : putF 6 n = S3 := by omega
  rw [hq]
  clear hq hp hm0 hX0 hS0 hm1 hX1 hS1 hm2 hX2 hS2 hm3 hX3 hS3
  go_enter Tryz.func95, Tryz.ntmps95
  go_wp2_with fail
  refine (K0.out _).mono ?_
  rintro _ _ ⟨rfl, rfl⟩
  go_wp2_with fail
  refine (K1.out _).mono ?_
  rintro _ _ ⟨rfl, rfl⟩
  go_wp2_with fail
  refine (K2.out _).mono ?_
  rintro _ _ ⟨rfl, rfl⟩
  go_wp2_with fail
  refine (K3.out _).mono ?_
  rintro _ _ ⟨rfl, rfl⟩
  go_wp2_with fail
  go_ret
  exact ⟨rfl, rfl⟩
theorem get2 (n : Nat) (hn : n < 4294967296) (w : World) : Calls Tryz.prog 90 #[.int .u32 (n : Int)] w fun en w' => en = .returned (.int .i32 (getF 2 n)) ∧ w = w' := by
  go_enter Tryz.func90, Tryz.ntmps90
  go_wp2
  go_ret
  refine ⟨ret1 ?_, rfl⟩
  simp only [getF, wrap32, sgn]
  split <;> omega
theorem get0 (n : Nat) (hn : n < 4294967296) (w : World) : Calls Tryz.prog 86 #[.int .u32 (n : Int)] w fun en w' => en = .returned (.int .i32 (getF 0 n)) ∧ w = w' := by
  have e := Lib.hid (andNot n hn)
  go_enter Tryz.func86, Tryz.ntmps86
  go_wp2
  go_ret
  refine ⟨ret1 ?_, rfl⟩
  rw [e.out]
  simp only [getF, wrap32, sgn]
  split <;> omega
set_option maxHeartbeats 1000000 in
theorem get1 (n : Nat) (hl : n < 4294967296) (w : World) : Calls Tryz.prog 89 #[.int .u32 (n : Int)] w fun en w' => en = .returned (.int .i32 (getF 1 n)) ∧ w = w' := by
  obtain ⟨m0, X0, hm0, hb0, hX0, k0⟩ : ∃ m X : Nat, m = n / 2097152 % 1024 ∧ m < 1024 ∧ X = m * 2 ∧ ∀ w, Calls Tryz.prog 112 #[.int .u32 (n : Int), .int .u64 21, .int .u64 10, .int .u64 1] w fun en w' => en = .returned (.int .u32 (X : Int)) ∧ w = w' :=
    ⟨_, _, rfl, Nat.mod_lt _ (by omega), rfl, fun w => fld_21_10_1 n hl w⟩
  obtain ⟨m1, X1, hm1, hb1, hX1, k1⟩ : ∃ m X : Nat, m = n / 1048576 % 2 ∧ m < 2 ∧ X = m * 2048 ∧ ∀ w, Calls Tryz.prog 111 #[.int .u32 (n : Int), .int .u64 20, .int .u64 11] w fun en w' => en = .returned (.int .u32 (X : Int)) ∧ w = w' :=
    ⟨_, _, rfl, Nat.mod_lt _ (by omega), rfl, fun w => bit_20_11 n hl w⟩
  obtain ⟨m2, X2, hm2, hb2, hX2, k2⟩ : ∃ m X : Nat, m = n / 4096 % 256 ∧ m < 256 ∧ X = m * 4096 ∧ ∀ w, Calls Tryz.prog 112 #[.int .u32 (n : Int), .int .u64 12, .int .u64 8, .int .u64 12] w fun en w' => en = .returned (.int .u32 (X : Int)) ∧ w = w' :=
    ⟨_, _, rfl, Nat.mod_lt _ (by omega), rfl, fun w => fld_12_8_12 n hl w⟩
  have hS0 : X0 = X0 := rfl
  have M0 := Lib.hid hm0
  have M1 := Lib.hid hm1
  have M2 := Lib.hid hm2
  clear hm0 hm1 hm2
  obtain ⟨S1, hS1, e1⟩ := or32' X0 m1 11 1 2048 2 X1 rfl rfl hX1 (by omega) hb1 (by omega)
  obtain ⟨S2, hS2, e2⟩ := or32' S1 m2 12 8 4096 256 X2 rfl rfl hX2 (by rw [Nat.div_eq_of_lt (by omega)]) hb2 (by omega)
  have K0 := Lib.hid k0
  clear k0
  have K1 := Lib.hid k1
  clear k1
  have K2 := Lib.hid k2
  clear k2
  have hb : S2 < 1048576 := by omega
  have z : wrap32 (S2 : Int) = (S2 : Int) := by unfold wrap32; omega
  obtain ⟨s, hs, hs1⟩ := w31 n hl
  have hsb : s ≤ 1 := by rcases hs1 with h | h <;> omega
  have Hs1 := Lib.hid hs1
  clear hs1
  have hm0 := M0.out; have hm1 := M1.out; have hm2 := M2.out
  have hf : getF 1 n = -(s : Int) * 1048576 + (S2 : Int) := by
    simp only [getF, sgn, ← hs]
    split <;> omega
  rw [hf]
  have o0 := or_i0 S2 (by omega)
  have o1 := or_neg20 S2 (by omega)
  clear hf hs hm0 hX0 hS0 hm1 hX1 hS1 hm2 hX2 hS2
  rcases Hs1.out with ⟨rfl, hq⟩ | ⟨rfl, hq⟩
  · clear Hs1
    go_enter Tryz.func89, Tryz.ntmps89
    go_wp2_with fail
    refine (K0.out _).mono ?_
    rintro _ _ ⟨rfl, rfl⟩
    go_wp2_with fail
    refine (K1.out _).mono ?_
    rintro _ _ ⟨rfl, rfl⟩
    go_wp2_with fail
    refine (K2.out _).mono ?_
    rintro _ _ ⟨rfl, rfl⟩
    go_wp2_with fail
    go_ret
    exact ⟨ret1 (by omega), rfl⟩
  · clear Hs1
    go_enter Tryz.func89, Tryz.ntmps89
    go_wp2_with fail
    refine (K0.out _).mono ?_
    rintro _ _ ⟨rfl, rfl⟩
    go_wp2_with fail
    refine (K1.out _).mono ?_
    rintro _ _ ⟨rfl, rfl⟩
    go_wp2_with fail
    refine (K2.out _).mono ?_
    rintro _ _ ⟨rfl, rfl⟩
    go_wp2_with fail
    go_ret
    exact ⟨ret1 (by omega), rfl⟩
set_option maxHeartbeats 1000000 in
theorem get6 (n : Nat) (hl : n < 4294967296) (w : World) : Calls Tryz.prog 96 #[.int .u32 (n : Int)] w fun en w' => en = .returned (.int .i32 (getF 6 n)) ∧ w = w' := by
  obtain ⟨m0, X0, hm0, hb0, hX0, k0⟩ : ∃ m X : Nat, m = n / 33554432 % 64 ∧ m < 64 ∧ X = m * 32 ∧ ∀ w, Calls Tryz.prog 112 #[.int .u32 (n : Int), .int .u64 25, .int .u64 6, .int .u64 5] w fun en w' => en = .returned (.int .u32 (X : Int)) ∧ w = w' :=
    ⟨_, _, rfl, Nat.mod_lt _ (by omega), rfl, fun w => fld_25_6_5 n hl w⟩
  obtain ⟨m1, X1, hm1, hb1, hX1, k1⟩ : ∃ m X : Nat, m = n / 256 % 16 ∧ m < 16 ∧ X = m * 2 ∧ ∀ w, Calls Tryz.prog 112 #[.int .u32 (n : Int), .int .u64 8, .int .u64 4, .int .u64 1] w fun en w' => en = .returned (.int .u32 (X : Int)) ∧ w = w' :=
    ⟨_, _, rfl, Nat.mod_lt _ (by omega), rfl, fun w => fld_8_4_1 n hl w⟩
  obtain ⟨m2, X2, hm2, hb2, hX2, k2⟩ : ∃ m X : Nat, m = n / 128 % 2 ∧ m < 2 ∧ X = m * 2048 ∧ ∀ w, Calls Tryz.prog 111 #[.int .u32 (n : Int), .int .u64 7, .int .u64 11] w fun en w' => en = .returned (.int .u32 (X : Int)) ∧ w = w' :=
    ⟨_, _, rfl, Nat.mod_lt _ (by omega), rfl, fun w => bit_7_11 n hl w⟩
  have hS0 : X0 = X0 := rfl
  have M0 := Lib.hid hm0
  have M1 := Lib.hid hm1
  have M2 := Lib.hid hm2
  clear hm0 hm1 hm2
  obtain ⟨S1, hS1, e1⟩ := or32' X0 m1 1 4 2 16 X1 rfl rfl hX1 (by omega) hb1 (by omega)
  obtain ⟨S2, hS2, e2⟩ := or32' S1 m2 11 1 2048 2 X2 rfl rfl hX2 (by rw [Nat.div_eq_of_lt (by omega)]) hb2 (by omega)
  have K0 := Lib.hid k0
  clear k0
  have K1 := Lib.hid k1
  clear k1
  have K2 := Lib.hid k2
  clear k2
  have hb : S2 < 4096 := by omega
  have z : wrap32 (S2 : Int) = (S2 : Int) := by unfold wrap32; omega
  obtain ⟨s, hs, hs1⟩ := w31 n hl
  have hsb : s ≤ 1 := by rcases hs1 with h | h <;> omega
  have Hs1 := Lib.hid hs1
  clear hs1
  have hm0 := M0.out; have hm1 := M1.out; have hm2 := M2.out
  have hf : getF 6 n = -(s : Int) * 4096 + (S2 : Int) := by
    simp only [getF, sgn, ← hs]
    split <;> omega
  rw [hf]
  have o0 := or_i0 S2 (by omega)
  have o1 := or_neg12 S2 (by omega)
  clear hf hs hm0 hX0 hS0 hm1 hX1 hS1 hm2 hX2 hS2
  rcases Hs1.out with ⟨rfl, hq⟩ | ⟨rfl, hq⟩
  · clear Hs1
    go_enter Tryz.func96, Tryz.ntmps96
    go_wp2_with fail
    refine (K0.out _).mono ?_
    rintro _ _ ⟨rfl, rfl⟩
    go_wp2_with fail
    refine (K1.out _).mono ?_
    rintro _ _ ⟨rfl, rfl⟩
    go_wp2_with fail
    refine (K2.out _).mono ?_
    rintro _ _ ⟨rfl, rfl⟩
    go_wp2_with fail
    go_ret
    exact ⟨ret1 (by omega), rfl⟩
  · clear Hs1
    go_enter Tryz.func96, Tryz.ntmps96
    go_wp2_with fail
    refine (K0.out _).mono ?_
    rintro _ _ ⟨rfl, rfl⟩
    go_wp2_with fail
    refine (K1.out _).mono ?_
    rintro _ _ ⟨rfl, rfl⟩
    go_wp2_with fail
    refine (K2.out _).mono ?_
    rintro _ _ ⟨rfl, rfl⟩
    go_wp2_with fail
    go_ret
    exact ⟨ret1 (by omega), rfl⟩
theorem or_q32 (q : Int) (b : Nat) (hq : -64 ≤ q ∧ q < 64) (hb : b < 32) : bits .or .i32 (q * 32) (b : Int) = q * 32 + (b : Int) := by
  show IntKind.i32.wrap ((BitVec.ofInt 32 (q * 32) ||| BitVec.ofInt 32 (b : Int)).toNat : Int) = _
  rw [BitVec.toNat_or, ofInt_u32 b (by omega), i32wrap, BitVec.toNat_ofInt]
  obtain ⟨m, hm, hm2⟩ : ∃ m : Nat, (q * 32 % ((2 ^ 32 : Nat) : Int)).toNat = m ∧ (m : Int) = q * 32 % 4294967296 := ⟨_, rfl, by omega⟩
  rw [hm, nat_join 5 m b (by omega) hb]
  unfold wrap32; omega
theorem w25 (n : Nat) (hn : n < 4294967296) : ∃ q : Int, wrap32 (n : Int) / 33554432 = q ∧ -64 ≤ q ∧ q < 64 ∧ ((n / 33554432 < 64 ∧ q = ((n / 33554432 : Nat) : Int)) ∨ 64 ≤ n / 33554432 ∧ q = ((n / 33554432 : Nat) : Int) - 128) := by
  by_cases h : n < 2147483648
  · have : wrap32 (n : Int) = n := by unfold wrap32; omega
    rw [this]
    exact ⟨_, rfl, by omega, by omega, by omega⟩
  · have : wrap32 (n : Int) = n - 4294967296 := by unfold wrap32; omega
    rw [this]
    exact ⟨_, rfl, by omega, by omega, by omega⟩
theorem get5 (n : Nat) (hn : n < 4294967296) (w : World) : Calls Tryz.prog 94 #[.int .u32 (n : Int)] w fun en w' => en = .returned (.int .i32 (getF 5 n)) ∧ w = w' := by
  obtain ⟨q, hq, hq1, hq2, hq3⟩ := w25 n hn
  obtain ⟨m, hm, hb, k⟩ : ∃ m : Nat, m = n / 128 % 32 ∧ m < 32 ∧ ∀ w, Calls Tryz.prog 112 #[.int .u32 (n : Int), .int .u64 7, .int .u64 5, .int .u64 0] w fun en w' => en = .returned (.int .u32 (m : Int)) ∧ w = w' :=
    ⟨_, rfl, Nat.mod_lt _ (by omega), fun w => by have := fld_7_5_0 n hn w; simp only [Nat.mul_one] at this; exact this⟩
  have hf : getF 5 n = q * 32 + (m : Int) := by
    simp only [getF, sgn, ← hm]
    generalize n / 33554432 = t at *
    split <;> omega
  rw [hf]
  have o := or_q32 q m ⟨hq1, hq2⟩ hb
  have z : wrap32 (m : Int) = (m : Int) := by unfold wrap32; omega
  have z2 : wrap32 (q * 32) = q * 32 := by unfold wrap32; omega
  clear hf hq3 hm
  have K := Lib.hid k
  clear k
  go_enter Tryz.func94, Tryz.ntmps94
  go_wp2_with fail
  refine (K.out _).mono ?_
  rintro _ _ ⟨rfl, rfl⟩
  go_wp2_with fail
  go_ret
  exact ⟨ret1 (by omega), rfl⟩
theorem reg (n s : Nat) (hn : n < 4294967296) (hs : s = 7 ∨ s = 15 ∨ s = 20) (b : Bool) (w : World) : Calls Tryz.prog 57 #[.int .u32 (n : Int), .int .u64 (s : Int), .bool b] w fun en w' => en = .returned (.int .u8 ((if b then n / 2 ^ s % 32 else 0 : Nat) : Int)) ∧ w = w' := by
  cases b
  · go_enter Tryz.func57, Tryz.ntmps57
    go_wp2
    go_ret
    exact ⟨rfl, rfl⟩
  · obtain ⟨q, hq, e⟩ : ∃ q : Nat, q = n / 2 ^ s ∧ bits .and .u32 (q : Int) 31 = ((q % 32 : Nat) : Int) := ⟨_, rfl, and32 _ 5 (Nat.lt_of_le_of_lt (Nat.div_le_self _ _) hn) (by omega) 31 rfl⟩
    rw [← hq, if_pos rfl]
    have hl : q % 32 < 32 := Nat.mod_lt _ (by omega)
    generalize q % 32 = r at *
    rcases hs with rfl | rfl | rfl
    · have hq2 : (n : Int) / 128 = (q : Int) := by rw [hq]; rfl
      clear hq
      go_enter Tryz.func57, Tryz.ntmps57
      go_wp2
      go_ret
      exact ⟨ret1 (by omega), rfl⟩
    · have hq2 : (n : Int) / 32768 = (q : Int) := by rw [hq]; rfl
      clear hq
      go_enter Tryz.func57, Tryz.ntmps57
      go_wp2
      go_ret
      exact ⟨ret1 (by omega), rfl⟩
    · have hq2 : (n : Int) / 1048576 = (q : Int) := by rw [hq]; rfl
      clear hq
      go_enter Tryz.func57, Tryz.ntmps57
      go_wp2
      go_ret
      exact ⟨ret1 (by omega), rfl⟩
theorem have17 (r : Nat) (hr : r < 256) (b : Bool) (w : World) : Calls Tryz.prog 97 #[.int .u8 (r : Int), .bool b] w fun en w' => en = .returned (.bool (decide (r = 0) || (b && decide (r < 16)))) ∧ w = w' := by
  by_cases h0 : r = 0
  · subst h0
    go_enter Tryz.func97, Tryz.ntmps97
    go_wp2
    go_ret
    exact ⟨retb (by simp), rfl⟩
  · have t : ((r : Int) == 0) = false := by simp; omega
    cases b
    all_goals
      go_enter Tryz.func97, Tryz.ntmps97
      go_wp2
      go_ret
      exact ⟨retb (by simp [h0]; try omega), rfl⟩
end Go.Proofs.YtmanoheofloimaaGreatDoor.In

