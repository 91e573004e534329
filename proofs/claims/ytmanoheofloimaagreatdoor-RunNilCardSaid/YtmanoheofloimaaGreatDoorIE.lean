import Derived.Test.YtmanoheofloimaaGreatDoorID
namespace Go.Proofs.YtmanoheofloimaaGreatDoor.In
open Go.ChangeShapes Go.WideShapes Go.ChangeAt Go.RowKit
set_option linter.unusedVariables false
set_option maxRecDepth 100000
def hasD (f : Nat) : Bool := f == 0 || f == 1 || f == 2 || f == 3 || f == 4 || f == 7 || f == 8 || f == 9
def hasA (f : Nat) : Bool := f == 2 || f == 3 || f == 4 || f == 5 || f == 6 || f == 7 || f == 8 || f == 9
def hasB (f : Nat) : Bool := f == 5 || f == 6 || f == 7
def regOk (has : Bool) (r : Nat) : Bool := decide (r = 0) || (has && decide (r < 16))
def okF (f d a b : Nat) (n : Int) : Bool := regOk (hasD f) d && (regOk (hasA f) a && (regOk (hasB f) b && mayF f n))
/-- the bits of a form's fields are free -/
def freeF (f W : Nat) : Bool :=
  decide (W < 4294967296) && (!hasD f || decide (W / 128 % 32 = 0)) && (!hasA f || decide (W / 32768 % 32 = 0)) && (!hasB f || decide (W / 1048576 % 32 = 0)) &&
  (match f with
  | 0 => decide (W / 4096 = 0)
  | 1 => decide (W / 4096 = 0)
  | 2 => decide (W / 1048576 = 0)
  | 3 => decide (W / 1048576 = 0)
  | 4 => decide (W / 1048576 % 32 = 0)
  | 5 => decide (W / 33554432 = 0 ∧ W / 128 % 32 = 0)
  | 6 => decide (W / 33554432 = 0 ∧ W / 128 % 32 = 0)
  | 9 => decide (W / 1048576 % 32 = 0)
  | _ => true)
def wordF (f W d a b : Nat) (n : Int) : Nat := W + d * 128 + a * 32768 + b * 1048576 + putF f n
theorem regOk_lt (h : Bool) (r : Nat) (k : regOk h r = true) : r < 16 := by unfold regOk at k; cases h <;> simp at k <;> omega
theorem regOk_no (r : Nat) (k : regOk false r = true) : r = 0 := by unfold regOk at k; simpa using k
theorem digits (W : Nat) (h : W < 4294967296) : ∃ w0 w1 w2 w3 w4 w5 : Nat, W = w0 + 128 * w1 + 4096 * w2 + 32768 * w3 + 1048576 * w4 + 33554432 * w5 ∧ w0 < 128 ∧ w1 < 32 ∧ w2 < 8 ∧ w3 < 32 ∧ w4 < 32 ∧ w5 < 128 ∧
    w1 = W / 128 % 32 ∧ w2 = W / 4096 % 8 ∧ w3 = W / 32768 % 32 ∧ w4 = W / 1048576 % 32 ∧ w5 = W / 33554432 :=
  ⟨W % 128, W / 128 % 32, W / 4096 % 8, W / 32768 % 32, W / 1048576 % 32, W / 33554432, by omega, by omega, by omega, by omega, by omega, by omega, by omega, rfl, rfl, rfl, rfl, rfl⟩
/-- one register's bits -/
theorem orReg (x m i P X : Nat) (hP : P = 2 ^ i) (hX : X = m * P) (hm : m < 32) (hx : m = 0 ∨ x / P % 32 = 0) (hs : x + X < 4294967296) : bits .or .u32 (x : Int) (X : Int) = ((x + X : Nat) : Int) := by
  rcases hx with rfl | hx
  · rw [Nat.zero_mul] at hX
    subst hX
    rw [u32_or_nat x 0 (by omega) (by omega), Nat.or_zero, Nat.add_zero]
  · subst hP
    obtain ⟨S, h1, h2⟩ := or32' x m i 5 (2 ^ i) 32 X rfl rfl hX hx hm hs
    rw [h2, h1]
theorem orTwo (x p q : Nat) (hp : p < 128) (hq : q < 32) (h1 : x / 33554432 % 128 = 0) (h2 : x / 128 % 32 = 0) (hs : x < 33554432) : bits .or .u32 (x : Int) ((p * 33554432 + q * 128 : Nat) : Int) = ((x + (p * 33554432 + q * 128) : Nat) : Int) := by
  have j1 : p * 2 ^ 25 ||| q * 2 ^ 7 = p * 2 ^ 25 + q * 2 ^ 7 := nat_join 25 _ _ (Nat.mul_mod_left _ _) (by omega)
  have j2 : x ||| p * 2 ^ 25 = x + p * 2 ^ 25 := or_field x p 25 7 h1 hp
  have j3 : (x + p * 2 ^ 25) ||| q * 2 ^ 7 = (x + p * 2 ^ 25) + q * 2 ^ 7 := or_field _ q 7 5 (by omega) hq
  rw [u32_or_nat _ _ (by omega) (by omega), show p * 33554432 + q * 128 = p * 2 ^ 25 + q * 2 ^ 7 from rfl, ← j1, ← Nat.or_assoc, j2, j3, j1]
  congr 1
  omega
theorem putF_0 (n : Int) (h : mayF 0 n = true) : ∃ m, putF 0 n = m * 4096 ∧ m < 1048576 := by
  have hl := u32_lt n
  have hu := u32_cast n
  simp only [mayF, decide_eq_true_eq] at h
  exact ⟨u32 n / 4096, by show u32 n = _; omega, by omega⟩
theorem putF_1 (n : Int) (h : mayF 1 n = true) : ∃ m, putF 1 n = m * 4096 ∧ m < 1048576 := by
  have hl := u32_lt n
  have hu := u32_cast n
  simp only [mayF, decide_eq_true_eq] at h
  generalize hk : u32 n = u at *
  exact ⟨u / 1048576 % 2 * 524288 + u / 2 % 1024 * 512 + u / 2048 % 2 * 256 + u / 4096 % 256, by simp only [putF, hk]; omega, by omega⟩
theorem putF_2 (n : Int) (h : mayF 2 n = true) : ∃ m, putF 2 n = m * 1048576 ∧ m < 4096 := by
  have hl := u32_lt n
  have hu := u32_cast n
  simp only [mayF, decide_eq_true_eq] at h
  exact ⟨u32 n % 4096, rfl, by omega⟩
theorem putF_3 (n : Int) (h : mayF 3 n = true) : ∃ m, putF 3 n = m * 1048576 ∧ m < 4096 := by
  have hl := u32_lt n
  have hu := u32_cast n
  simp only [mayF, decide_eq_true_eq] at h
  exact ⟨u32 n % 4096, rfl, by omega⟩
theorem putF_4 (n : Int) (h : mayF 4 n = true) : ∃ m, putF 4 n = m * 1048576 ∧ m < 32 := by
  have hl := u32_lt n
  have hu := u32_cast n
  simp only [mayF, decide_eq_true_eq] at h
  exact ⟨u32 n % 4096, rfl, by omega⟩
theorem putF_5 (n : Int) (h : mayF 5 n = true) : ∃ p q, putF 5 n = p * 33554432 + q * 128 ∧ p < 128 ∧ q < 32 := by
  have hl := u32_lt n
  have hu := u32_cast n
  simp only [mayF, decide_eq_true_eq] at h
  exact ⟨u32 n / 32 % 128, u32 n % 32, rfl, by omega, by omega⟩
theorem putF_6 (n : Int) (h : mayF 6 n = true) : ∃ p q, putF 6 n = p * 33554432 + q * 128 ∧ p < 128 ∧ q < 32 := by
  have hl := u32_lt n
  have hu := u32_cast n
  simp only [mayF, decide_eq_true_eq] at h
  generalize hk : u32 n = u at *
  exact ⟨u / 4096 % 2 * 64 + u / 32 % 64, u / 2 % 16 * 2 + u / 2048 % 2, by simp only [putF, hk]; omega, by omega, by omega⟩
theorem putF_7 (n : Int) (h : mayF 7 n = true) : putF 7 n = 0 := by
  have hl := u32_lt n
  have hu := u32_cast n
  simp only [mayF, decide_eq_true_eq] at h
  show u32 n = 0
  omega
theorem putF_8 (n : Int) (h : mayF 8 n = true) : putF 8 n = 0 := by
  have hl := u32_lt n
  have hu := u32_cast n
  simp only [mayF, decide_eq_true_eq] at h
  show u32 n = 0
  omega
theorem putF_9 (n : Int) (h : mayF 9 n = true) : ∃ m, putF 9 n = m * 1048576 ∧ m < 32 := by
  have hl := u32_lt n
  have hu := u32_cast n
  simp only [mayF, decide_eq_true_eq] at h
  exact ⟨u32 n % 4096, rfl, by omega⟩
theorem putF_10 (n : Int) (h : mayF 10 n = true) : putF 10 n = 0 := by
  have hl := u32_lt n
  have hu := u32_cast n
  simp only [mayF, decide_eq_true_eq] at h
  show u32 n = 0
  omega
theorem ors0 (W d a b : Nat) (n : Int) (hW : freeF 0 W = true) (hk : okF 0 d a b n = true) : ∃ S1 S2 S3 S4 : Nat, bits .or .u32 (W : Int) ((d : Int) * 128) = (S1 : Int) ∧ bits .or .u32 (S1 : Int) ((a : Int) * 32768) = (S2 : Int) ∧ bits .or .u32 (S2 : Int) ((b : Int) * 1048576) = (S3 : Int) ∧ bits .or .u32 (S3 : Int) (putF 0 n : Int) = (S4 : Int) ∧ S4 = wordF 0 W d a b n ∧ d < 16 ∧ a < 16 ∧ b < 16 := by
  simp only [okF, Bool.and_eq_true] at hk
  obtain ⟨kd, ka, kb, km⟩ := hk
  have ld := regOk_lt _ _ kd
  have la := regOk_lt _ _ ka
  have lb := regOk_lt _ _ kb
  obtain rfl := regOk_no _ ka
  obtain rfl := regOk_no _ kb
  have hW2 := hW
  simp [freeF, hasD, hasA, hasB] at hW2
  obtain ⟨m, hP, hm⟩ := putF_0 n km
  unfold wordF
  rw [hP]
  obtain ⟨w0, w1, w2, w3, w4, w5, e0, l0, l1, l2, l3, l4, l5, e1, e2, e3, e4, e5⟩ := digits W (by omega)
  have z1 : w1 = 0 := by omega
  have z2 : w2 = 0 := by omega
  have z3 : w3 = 0 := by omega
  have z4 : w4 = 0 := by omega
  have z5 : w5 = 0 := by omega
  clear hW hW2 e1 e2 e3 e4 e5 kd ka kb km hP
  subst z1 z2 z3 z4 z5
  refine ⟨W + d * 128, W + d * 128 + 0 * 32768, W + d * 128 + 0 * 32768 + 0 * 1048576, W + d * 128 + 0 * 32768 + 0 * 1048576 + (m * 4096), ?_, ?_, ?_, ?_, rfl, ld, la, lb⟩
  · exact orReg W d 7 128 (d * 128) rfl rfl (by omega) (Or.inr (by omega)) (by omega)
  · exact orReg _ 0 15 32768 (0 * 32768) rfl rfl (by omega) (Or.inl rfl) (by omega)
  · exact orReg _ 0 20 1048576 (0 * 1048576) rfl rfl (by omega) (Or.inl rfl) (by omega)
  · obtain ⟨S, g1, g2⟩ := or32' (W + d * 128 + 0 * 32768 + 0 * 1048576) m 12 20 4096 1048576 (m * 4096) rfl rfl rfl (by omega) hm (by omega)
    rw [g2, g1]
theorem ors1 (W d a b : Nat) (n : Int) (hW : freeF 1 W = true) (hk : okF 1 d a b n = true) : ∃ S1 S2 S3 S4 : Nat, bits .or .u32 (W : Int) ((d : Int) * 128) = (S1 : Int) ∧ bits .or .u32 (S1 : Int) ((a : Int) * 32768) = (S2 : Int) ∧ bits .or .u32 (S2 : Int) ((b : Int) * 1048576) = (S3 : Int) ∧ bits .or .u32 (S3 : Int) (putF 1 n : Int) = (S4 : Int) ∧ S4 = wordF 1 W d a b n ∧ d < 16 ∧ a < 16 ∧ b < 16 := by
  simp only [okF, Bool.and_eq_true] at hk
  obtain ⟨kd, ka, kb, km⟩ := hk
  have ld := regOk_lt _ _ kd
  have la := regOk_lt _ _ ka
  have lb := regOk_lt _ _ kb
  obtain rfl := regOk_no _ ka
  obtain rfl := regOk_no _ kb
  have hW2 := hW
  simp [freeF, hasD, hasA, hasB] at hW2
  obtain ⟨m, hP, hm⟩ := putF_1 n km
  unfold wordF
  rw [hP]
  obtain ⟨w0, w1, w2, w3, w4, w5, e0, l0, l1, l2, l3, l4, l5, e1, e2, e3, e4, e5⟩ := digits W (by omega)
  have z1 : w1 = 0 := by omega
  have z2 : w2 = 0 := by omega
  have z3 : w3 = 0 := by omega
  have z4 : w4 = 0 := by omega
  have z5 : w5 = 0 := by omega
  clear hW hW2 e1 e2 e3 e4 e5 kd ka kb km hP
  subst z1 z2 z3 z4 z5
  refine ⟨W + d * 128, W + d * 128 + 0 * 32768, W + d * 128 + 0 * 32768 + 0 * 1048576, W + d * 128 + 0 * 32768 + 0 * 1048576 + (m * 4096), ?_, ?_, ?_, ?_, rfl, ld, la, lb⟩
  · exact orReg W d 7 128 (d * 128) rfl rfl (by omega) (Or.inr (by omega)) (by omega)
  · exact orReg _ 0 15 32768 (0 * 32768) rfl rfl (by omega) (Or.inl rfl) (by omega)
  · exact orReg _ 0 20 1048576 (0 * 1048576) rfl rfl (by omega) (Or.inl rfl) (by omega)
  · obtain ⟨S, g1, g2⟩ := or32' (W + d * 128 + 0 * 32768 + 0 * 1048576) m 12 20 4096 1048576 (m * 4096) rfl rfl rfl (by omega) hm (by omega)
    rw [g2, g1]
theorem ors2 (W d a b : Nat) (n : Int) (hW : freeF 2 W = true) (hk : okF 2 d a b n = true) : ∃ S1 S2 S3 S4 : Nat, bits .or .u32 (W : Int) ((d : Int) * 128) = (S1 : Int) ∧ bits .or .u32 (S1 : Int) ((a : Int) * 32768) = (S2 : Int) ∧ bits .or .u32 (S2 : Int) ((b : Int) * 1048576) = (S3 : Int) ∧ bits .or .u32 (S3 : Int) (putF 2 n : Int) = (S4 : Int) ∧ S4 = wordF 2 W d a b n ∧ d < 16 ∧ a < 16 ∧ b < 16 := by
  simp only [okF, Bool.and_eq_true] at hk
  obtain ⟨kd, ka, kb, km⟩ := hk
  have ld := regOk_lt _ _ kd
  have la := regOk_lt _ _ ka
  have lb := regOk_lt _ _ kb
  obtain rfl := regOk_no _ kb
  have hW2 := hW
  simp [freeF, hasD, hasA, hasB] at hW2
  obtain ⟨m, hP, hm⟩ := putF_2 n km
  unfold wordF
  rw [hP]
  obtain ⟨w0, w1, w2, w3, w4, w5, e0, l0, l1, l2, l3, l4, l5, e1, e2, e3, e4, e5⟩ := digits W (by omega)
  have z1 : w1 = 0 := by omega
  have z3 : w3 = 0 := by omega
  have z4 : w4 = 0 := by omega
  have z5 : w5 = 0 := by omega
  clear hW hW2 e1 e2 e3 e4 e5 kd ka kb km hP
  subst z1 z3 z4 z5
  refine ⟨W + d * 128, W + d * 128 + a * 32768, W + d * 128 + a * 32768 + 0 * 1048576, W + d * 128 + a * 32768 + 0 * 1048576 + (m * 1048576), ?_, ?_, ?_, ?_, rfl, ld, la, lb⟩
  · exact orReg W d 7 128 (d * 128) rfl rfl (by omega) (Or.inr (by omega)) (by omega)
  · exact orReg _ a 15 32768 (a * 32768) rfl rfl (by omega) (Or.inr (by omega)) (by omega)
  · exact orReg _ 0 20 1048576 (0 * 1048576) rfl rfl (by omega) (Or.inl rfl) (by omega)
  · obtain ⟨S, g1, g2⟩ := or32' (W + d * 128 + a * 32768 + 0 * 1048576) m 20 12 1048576 4096 (m * 1048576) rfl rfl rfl (by omega) hm (by omega)
    rw [g2, g1]
theorem ors3 (W d a b : Nat) (n : Int) (hW : freeF 3 W = true) (hk : okF 3 d a b n = true) : ∃ S1 S2 S3 S4 : Nat, bits .or .u32 (W : Int) ((d : Int) * 128) = (S1 : Int) ∧ bits .or .u32 (S1 : Int) ((a : Int) * 32768) = (S2 : Int) ∧ bits .or .u32 (S2 : Int) ((b : Int) * 1048576) = (S3 : Int) ∧ bits .or .u32 (S3 : Int) (putF 3 n : Int) = (S4 : Int) ∧ S4 = wordF 3 W d a b n ∧ d < 16 ∧ a < 16 ∧ b < 16 := by
  simp only [okF, Bool.and_eq_true] at hk
  obtain ⟨kd, ka, kb, km⟩ := hk
  have ld := regOk_lt _ _ kd
  have la := regOk_lt _ _ ka
  have lb := regOk_lt _ _ kb
  obtain rfl := regOk_no _ kb
  have hW2 := hW
  simp [freeF, hasD, hasA, hasB] at hW2
  obtain ⟨m, hP, hm⟩ := putF_3 n km
  unfold wordF
  rw [hP]
  obtain ⟨w0, w1, w2, w3, w4, w5, e0, l0, l1, l2, l3, l4, l5, e1, e2, e3, e4, e5⟩ := digits W (by omega)
  have z1 : w1 = 0 := by omega
  have z3 : w3 = 0 := by omega
  have z4 : w4 = 0 := by omega
  have z5 : w5 = 0 := by omega
  clear hW hW2 e1 e2 e3 e4 e5 kd ka kb km hP
  subst z1 z3 z4 z5
  refine ⟨W + d * 128, W + d * 128 + a * 32768, W + d * 128 + a * 32768 + 0 * 1048576, W + d * 128 + a * 32768 + 0 * 1048576 + (m * 1048576), ?_, ?_, ?_, ?_, rfl, ld, la, lb⟩
  · exact orReg W d 7 128 (d * 128) rfl rfl (by omega) (Or.inr (by omega)) (by omega)
  · exact orReg _ a 15 32768 (a * 32768) rfl rfl (by omega) (Or.inr (by omega)) (by omega)
  · exact orReg _ 0 20 1048576 (0 * 1048576) rfl rfl (by omega) (Or.inl rfl) (by omega)
  · obtain ⟨S, g1, g2⟩ := or32' (W + d * 128 + a * 32768 + 0 * 1048576) m 20 12 1048576 4096 (m * 1048576) rfl rfl rfl (by omega) hm (by omega)
    rw [g2, g1]
theorem ors4 (W d a b : Nat) (n : Int) (hW : freeF 4 W = true) (hk : okF 4 d a b n = true) : ∃ S1 S2 S3 S4 : Nat, bits .or .u32 (W : Int) ((d : Int) * 128) = (S1 : Int) ∧ bits .or .u32 (S1 : Int) ((a : Int) * 32768) = (S2 : Int) ∧ bits .or .u32 (S2 : Int) ((b : Int) * 1048576) = (S3 : Int) ∧ bits .or .u32 (S3 : Int) (putF 4 n : Int) = (S4 : Int) ∧ S4 = wordF 4 W d a b n ∧ d < 16 ∧ a < 16 ∧ b < 16 := by
  simp only [okF, Bool.and_eq_true] at hk
  obtain ⟨kd, ka, kb, km⟩ := hk
  have ld := regOk_lt _ _ kd
  have la := regOk_lt _ _ ka
  have lb := regOk_lt _ _ kb
  obtain rfl := regOk_no _ kb
  have hW2 := hW
  simp [freeF, hasD, hasA, hasB] at hW2
  obtain ⟨m, hP, hm⟩ := putF_4 n km
  unfold wordF
  rw [hP]
  obtain ⟨w0, w1, w2, w3, w4, w5, e0, l0, l1, l2, l3, l4, l5, e1, e2, e3, e4, e5⟩ := digits W (by omega)
  have z1 : w1 = 0 := by omega
  have z3 : w3 = 0 := by omega
  have z4 : w4 = 0 := by omega
  clear hW hW2 e1 e2 e3 e4 e5 kd ka kb km hP
  subst z1 z3 z4
  refine ⟨W + d * 128, W + d * 128 + a * 32768, W + d * 128 + a * 32768 + 0 * 1048576, W + d * 128 + a * 32768 + 0 * 1048576 + (m * 1048576), ?_, ?_, ?_, ?_, rfl, ld, la, lb⟩
  · exact orReg W d 7 128 (d * 128) rfl rfl (by omega) (Or.inr (by omega)) (by omega)
  · exact orReg _ a 15 32768 (a * 32768) rfl rfl (by omega) (Or.inr (by omega)) (by omega)
  · exact orReg _ 0 20 1048576 (0 * 1048576) rfl rfl (by omega) (Or.inl rfl) (by omega)
  · exact orReg _ m 20 1048576 (m * 1048576) rfl rfl hm (Or.inr (by omega)) (by omega)
theorem ors5 (W d a b : Nat) (n : Int) (hW : freeF 5 W = true) (hk : okF 5 d a b n = true) : ∃ S1 S2 S3 S4 : Nat, bits .or .u32 (W : Int) ((d : Int) * 128) = (S1 : Int) ∧ bits .or .u32 (S1 : Int) ((a : Int) * 32768) = (S2 : Int) ∧ bits .or .u32 (S2 : Int) ((b : Int) * 1048576) = (S3 : Int) ∧ bits .or .u32 (S3 : Int) (putF 5 n : Int) = (S4 : Int) ∧ S4 = wordF 5 W d a b n ∧ d < 16 ∧ a < 16 ∧ b < 16 := by
  simp only [okF, Bool.and_eq_true] at hk
  obtain ⟨kd, ka, kb, km⟩ := hk
  have ld := regOk_lt _ _ kd
  have la := regOk_lt _ _ ka
  have lb := regOk_lt _ _ kb
  obtain rfl := regOk_no _ kd
  have hW2 := hW
  simp [freeF, hasD, hasA, hasB] at hW2
  obtain ⟨p, q, hP, hp, hq⟩ := putF_5 n km
  unfold wordF
  rw [hP]
  obtain ⟨w0, w1, w2, w3, w4, w5, e0, l0, l1, l2, l3, l4, l5, e1, e2, e3, e4, e5⟩ := digits W (by omega)
  have z1 : w1 = 0 := by omega
  have z3 : w3 = 0 := by omega
  have z4 : w4 = 0 := by omega
  have z5 : w5 = 0 := by omega
  clear hW hW2 e1 e2 e3 e4 e5 kd ka kb km hP
  subst z1 z3 z4 z5
  refine ⟨W + 0 * 128, W + 0 * 128 + a * 32768, W + 0 * 128 + a * 32768 + b * 1048576, W + 0 * 128 + a * 32768 + b * 1048576 + (p * 33554432 + q * 128), ?_, ?_, ?_, ?_, rfl, ld, la, lb⟩
  · exact orReg W 0 7 128 (0 * 128) rfl rfl (by omega) (Or.inl rfl) (by omega)
  · exact orReg _ a 15 32768 (a * 32768) rfl rfl (by omega) (Or.inr (by omega)) (by omega)
  · exact orReg _ b 20 1048576 (b * 1048576) rfl rfl (by omega) (Or.inr (by omega)) (by omega)
  · exact orTwo _ p q hp hq (by omega) (by omega) (by omega)
theorem ors6 (W d a b : Nat) (n : Int) (hW : freeF 6 W = true) (hk : okF 6 d a b n = true) : ∃ S1 S2 S3 S4 : Nat, bits .or .u32 (W : Int) ((d : Int) * 128) = (S1 : Int) ∧ bits .or .u32 (S1 : Int) ((a : Int) * 32768) = (S2 : Int) ∧ bits .or .u32 (S2 : Int) ((b : Int) * 1048576) = (S3 : Int) ∧ bits .or .u32 (S3 : Int) (putF 6 n : Int) = (S4 : Int) ∧ S4 = wordF 6 W d a b n ∧ d < 16 ∧ a < 16 ∧ b < 16 := by
  simp only [okF, Bool.and_eq_true] at hk
  obtain ⟨kd, ka, kb, km⟩ := hk
  have ld := regOk_lt _ _ kd
  have la := regOk_lt _ _ ka
  have lb := regOk_lt _ _ kb
  obtain rfl := regOk_no _ kd
  have hW2 := hW
  simp [freeF, hasD, hasA, hasB] at hW2
  obtain ⟨p, q, hP, hp, hq⟩ := putF_6 n km
  unfold wordF
  rw [hP]
  obtain ⟨w0, w1, w2, w3, w4, w5, e0, l0, l1, l2, l3, l4, l5, e1, e2, e3, e4, e5⟩ := digits W (by omega)
  have z1 : w1 = 0 := by omega
  have z3 : w3 = 0 := by omega
  have z4 : w4 = 0 := by omega
  have z5 : w5 = 0 := by omega
  clear hW hW2 e1 e2 e3 e4 e5 kd ka kb km hP
  subst z1 z3 z4 z5
  refine ⟨W + 0 * 128, W + 0 * 128 + a * 32768, W + 0 * 128 + a * 32768 + b * 1048576, W + 0 * 128 + a * 32768 + b * 1048576 + (p * 33554432 + q * 128), ?_, ?_, ?_, ?_, rfl, ld, la, lb⟩
  · exact orReg W 0 7 128 (0 * 128) rfl rfl (by omega) (Or.inl rfl) (by omega)
  · exact orReg _ a 15 32768 (a * 32768) rfl rfl (by omega) (Or.inr (by omega)) (by omega)
  · exact orReg _ b 20 1048576 (b * 1048576) rfl rfl (by omega) (Or.inr (by omega)) (by omega)
  · exact orTwo _ p q hp hq (by omega) (by omega) (by omega)
theorem ors7 (W d a b : Nat) (n : Int) (hW : freeF 7 W = true) (hk : okF 7 d a b n = true) : ∃ S1 S2 S3 S4 : Nat, bits .or .u32 (W : Int) ((d : Int) * 128) = (S1 : Int) ∧ bits .or .u32 (S1 : Int) ((a : Int) * 32768) = (S2 : Int) ∧ bits .or .u32 (S2 : Int) ((b : Int) * 1048576) = (S3 : Int) ∧ bits .or .u32 (S3 : Int) (putF 7 n : Int) = (S4 : Int) ∧ S4 = wordF 7 W d a b n ∧ d < 16 ∧ a < 16 ∧ b < 16 := by
  simp only [okF, Bool.and_eq_true] at hk
  obtain ⟨kd, ka, kb, km⟩ := hk
  have ld := regOk_lt _ _ kd
  have la := regOk_lt _ _ ka
  have lb := regOk_lt _ _ kb
  have hW2 := hW
  simp [freeF, hasD, hasA, hasB] at hW2
  have hP := putF_7 n km
  unfold wordF
  rw [hP]
  obtain ⟨w0, w1, w2, w3, w4, w5, e0, l0, l1, l2, l3, l4, l5, e1, e2, e3, e4, e5⟩ := digits W (by omega)
  have z1 : w1 = 0 := by omega
  have z3 : w3 = 0 := by omega
  have z4 : w4 = 0 := by omega
  clear hW hW2 e1 e2 e3 e4 e5 kd ka kb km hP
  subst z1 z3 z4
  refine ⟨W + d * 128, W + d * 128 + a * 32768, W + d * 128 + a * 32768 + b * 1048576, W + d * 128 + a * 32768 + b * 1048576 + (0), ?_, ?_, ?_, ?_, rfl, ld, la, lb⟩
  · exact orReg W d 7 128 (d * 128) rfl rfl (by omega) (Or.inr (by omega)) (by omega)
  · exact orReg _ a 15 32768 (a * 32768) rfl rfl (by omega) (Or.inr (by omega)) (by omega)
  · exact orReg _ b 20 1048576 (b * 1048576) rfl rfl (by omega) (Or.inr (by omega)) (by omega)
  · rw [show ((0 : Nat) : Int) = 0 from rfl]; exact orReg _ 0 20 1048576 0 rfl rfl (by omega) (Or.inl rfl) (by omega)
theorem ors8 (W d a b : Nat) (n : Int) (hW : freeF 8 W = true) (hk : okF 8 d a b n = true) : ∃ S1 S2 S3 S4 : Nat, bits .or .u32 (W : Int) ((d : Int) * 128) = (S1 : Int) ∧ bits .or .u32 (S1 : Int) ((a : Int) * 32768) = (S2 : Int) ∧ bits .or .u32 (S2 : Int) ((b : Int) * 1048576) = (S3 : Int) ∧ bits .or .u32 (S3 : Int) (putF 8 n : Int) = (S4 : Int) ∧ S4 = wordF 8 W d a b n ∧ d < 16 ∧ a < 16 ∧ b < 16 := by
  simp only [okF, Bool.and_eq_true] at hk
  obtain ⟨kd, ka, kb, km⟩ := hk
  have ld := regOk_lt _ _ kd
  have la := regOk_lt _ _ ka
  have lb := regOk_lt _ _ kb
  obtain rfl := regOk_no _ kb
  have hW2 := hW
  simp [freeF, hasD, hasA, hasB] at hW2
  have hP := putF_8 n km
  unfold wordF
  rw [hP]
  obtain ⟨w0, w1, w2, w3, w4, w5, e0, l0, l1, l2, l3, l4, l5, e1, e2, e3, e4, e5⟩ := digits W (by omega)
  have z1 : w1 = 0 := by omega
  have z3 : w3 = 0 := by omega
  clear hW hW2 e1 e2 e3 e4 e5 kd ka kb km hP
  subst z1 z3
  refine ⟨W + d * 128, W + d * 128 + a * 32768, W + d * 128 + a * 32768 + 0 * 1048576, W + d * 128 + a * 32768 + 0 * 1048576 + (0), ?_, ?_, ?_, ?_, rfl, ld, la, lb⟩
  · exact orReg W d 7 128 (d * 128) rfl rfl (by omega) (Or.inr (by omega)) (by omega)
  · exact orReg _ a 15 32768 (a * 32768) rfl rfl (by omega) (Or.inr (by omega)) (by omega)
  · exact orReg _ 0 20 1048576 (0 * 1048576) rfl rfl (by omega) (Or.inl rfl) (by omega)
  · rw [show ((0 : Nat) : Int) = 0 from rfl]; exact orReg _ 0 20 1048576 0 rfl rfl (by omega) (Or.inl rfl) (by omega)
theorem ors9 (W d a b : Nat) (n : Int) (hW : freeF 9 W = true) (hk : okF 9 d a b n = true) : ∃ S1 S2 S3 S4 : Nat, bits .or .u32 (W : Int) ((d : Int) * 128) = (S1 : Int) ∧ bits .or .u32 (S1 : Int) ((a : Int) * 32768) = (S2 : Int) ∧ bits .or .u32 (S2 : Int) ((b : Int) * 1048576) = (S3 : Int) ∧ bits .or .u32 (S3 : Int) (putF 9 n : Int) = (S4 : Int) ∧ S4 = wordF 9 W d a b n ∧ d < 16 ∧ a < 16 ∧ b < 16 := by
  simp only [okF, Bool.and_eq_true] at hk
  obtain ⟨kd, ka, kb, km⟩ := hk
  have ld := regOk_lt _ _ kd
  have la := regOk_lt _ _ ka
  have lb := regOk_lt _ _ kb
  obtain rfl := regOk_no _ kb
  have hW2 := hW
  simp [freeF, hasD, hasA, hasB] at hW2
  obtain ⟨m, hP, hm⟩ := putF_9 n km
  unfold wordF
  rw [hP]
  obtain ⟨w0, w1, w2, w3, w4, w5, e0, l0, l1, l2, l3, l4, l5, e1, e2, e3, e4, e5⟩ := digits W (by omega)
  have z1 : w1 = 0 := by omega
  have z3 : w3 = 0 := by omega
  have z4 : w4 = 0 := by omega
  clear hW hW2 e1 e2 e3 e4 e5 kd ka kb km hP
  subst z1 z3 z4
  refine ⟨W + d * 128, W + d * 128 + a * 32768, W + d * 128 + a * 32768 + 0 * 1048576, W + d * 128 + a * 32768 + 0 * 1048576 + (m * 1048576), ?_, ?_, ?_, ?_, rfl, ld, la, lb⟩
  · exact orReg W d 7 128 (d * 128) rfl rfl (by omega) (Or.inr (by omega)) (by omega)
  · exact orReg _ a 15 32768 (a * 32768) rfl rfl (by omega) (Or.inr (by omega)) (by omega)
  · exact orReg _ 0 20 1048576 (0 * 1048576) rfl rfl (by omega) (Or.inl rfl) (by omega)
  · exact orReg _ m 20 1048576 (m * 1048576) rfl rfl hm (Or.inr (by omega)) (by omega)
theorem ors10 (W d a b : Nat) (n : Int) (hW : freeF 10 W = true) (hk : okF 10 d a b n = true) : ∃ S1 S2 S3 S4 : Nat, bits .or .u32 (W : Int) ((d : Int) * 128) = (S1 : Int) ∧ bits .or .u32 (S1 : Int) ((a : Int) * 32768) = (S2 : Int) ∧ bits .or .u32 (S2 : Int) ((b : Int) * 1048576) = (S3 : Int) ∧ bits .or .u32 (S3 : Int) (putF 10 n : Int) = (S4 : Int) ∧ S4 = wordF 10 W d a b n ∧ d < 16 ∧ a < 16 ∧ b < 16 := by
  simp only [okF, Bool.and_eq_true] at hk
  obtain ⟨kd, ka, kb, km⟩ := hk
  have ld := regOk_lt _ _ kd
  have la := regOk_lt _ _ ka
  have lb := regOk_lt _ _ kb
  obtain rfl := regOk_no _ kd
  obtain rfl := regOk_no _ ka
  obtain rfl := regOk_no _ kb
  have hW2 := hW
  simp [freeF, hasD, hasA, hasB] at hW2
  have hP := putF_10 n km
  unfold wordF
  rw [hP]
  obtain ⟨w0, w1, w2, w3, w4, w5, e0, l0, l1, l2, l3, l4, l5, e1, e2, e3, e4, e5⟩ := digits W (by omega)
  clear hW hW2 e1 e2 e3 e4 e5 kd ka kb km hP
  refine ⟨W + 0 * 128, W + 0 * 128 + 0 * 32768, W + 0 * 128 + 0 * 32768 + 0 * 1048576, W + 0 * 128 + 0 * 32768 + 0 * 1048576 + (0), ?_, ?_, ?_, ?_, rfl, ld, la, lb⟩
  · exact orReg W 0 7 128 (0 * 128) rfl rfl (by omega) (Or.inl rfl) (by omega)
  · exact orReg _ 0 15 32768 (0 * 32768) rfl rfl (by omega) (Or.inl rfl) (by omega)
  · exact orReg _ 0 20 1048576 (0 * 1048576) rfl rfl (by omega) (Or.inl rfl) (by omega)
  · rw [show ((0 : Nat) : Int) = 0 from rfl]; exact orReg _ 0 20 1048576 0 rfl rfl (by omega) (Or.inl rfl) (by omega)
end Go.Proofs.YtmanoheofloimaaGreatDoor.In

