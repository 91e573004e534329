import Derived.Test.YtodpeiamophjjaaDoorKV
namespace Go.Proofs.YtodpeiamophjjaaDoor.In
open Go.ChangeShapes Go.WideShapes Go.ChangeAt Go.RowKit
set_option linter.unusedVariables false
theorem regN_t (n s : Nat) : regN true n s = n / 2 ^ s % 32 := by unfold regN; exact if_pos rfl
theorem regN_f (n s : Nat) : regN false n s = 0 := by unfold regN; exact if_neg (by decide)
/-- the bits that tell what instruction it is, by a form -/
def keyF (f w : Nat) : Nat :=
  match f with
  | 0 => w % 128
  | 1 => w % 128
  | 2 => w % 128 + w / 4096 % 8 * 4096
  | 3 => w % 128 + w / 4096 % 8 * 4096
  | 5 => w % 128 + w / 4096 % 8 * 4096
  | 6 => w % 128 + w / 4096 % 8 * 4096
  | 4 => w % 128 + w / 4096 % 8 * 4096 + w / 33554432 * 33554432
  | 7 => w % 128 + w / 4096 % 8 * 4096 + w / 33554432 * 33554432
  | 9 => w % 128 + w / 4096 % 8 * 4096 + w / 33554432 * 33554432
  | 8 => w % 128 + w / 4096 % 8 * 4096 + w / 1048576 * 1048576
  | _ => w
theorem XLs : XL 0 = 127 ∧ XL 1 = 127 ∧ XL 2 = 28799 ∧ XL 3 = 28799 ∧ XL 4 = 4261441663 ∧ XL 5 = 28799 ∧ XL 6 = 28799 ∧ XL 7 = 4261441663 ∧ XL 8 = 4293947519 ∧ XL 9 = 4261441663 ∧ XL 10 = 4294967295 := by decide +kernel
theorem and_split (w x y k : Nat) (hy : y < 2 ^ k) : w &&& (x * 2 ^ k + y) = (w / 2 ^ k &&& x) * 2 ^ k + (w % 2 ^ k &&& y) := by
  have j1 : x * 2 ^ k ||| y = x * 2 ^ k + y := nat_join k _ y (Nat.mul_mod_left _ _) hy
  have hz : w % 2 ^ k &&& y < 2 ^ k := Nat.lt_of_le_of_lt Nat.and_le_right hy
  have j2 : (w / 2 ^ k &&& x) * 2 ^ k ||| (w % 2 ^ k &&& y) = (w / 2 ^ k &&& x) * 2 ^ k + (w % 2 ^ k &&& y) := nat_join k _ _ (Nat.mul_mod_left _ _) hz
  rw [← j1, ← j2]
  apply Nat.eq_of_testBit_eq
  intro i
  rw [← Nat.shiftLeft_eq, ← Nat.shiftLeft_eq, Nat.testBit_and, Nat.testBit_or, Nat.testBit_or, Nat.testBit_shiftLeft, Nat.testBit_shiftLeft, Nat.testBit_and, Nat.testBit_and, Nat.testBit_mod_two_pow, Nat.testBit_div_two_pow]
  by_cases hi : k ≤ i
  · have hy0 : y.testBit i = false := Nat.testBit_lt_two_pow (Nat.lt_of_lt_of_le hy (Nat.pow_le_pow_right (by omega) hi))
    simp [hi, hy0]
  · simp [hi, show i < k by omega]
theorem and_ones (w k : Nat) : w &&& (2 ^ k - 1) = w % 2 ^ k := Nat.and_two_pow_sub_one_eq_mod w k
theorem key_127 (w : Nat) : w &&& 127 = w % 128 := and_ones w 7
theorem key_28799 (w : Nat) : w &&& 28799 = w % 128 + w / 4096 % 8 * 4096 := by
  rw [show (28799 : Nat) = 7 * 2 ^ 12 + 127 from rfl, and_split w 7 127 12 (by decide), show (7 : Nat) = 2 ^ 3 - 1 from rfl, and_ones, show (127 : Nat) = 2 ^ 7 - 1 from rfl, and_ones]
  omega
theorem key_fe (w : Nat) (h : w < 4294967296) : w &&& 4261441663 = w % 128 + w / 4096 % 8 * 4096 + w / 33554432 * 33554432 := by
  rw [show (4261441663 : Nat) = 127 * 2 ^ 25 + 28799 from rfl, and_split w 127 28799 25 (by decide), key_28799, show (127 : Nat) = 2 ^ 7 - 1 from rfl, and_ones]
  omega
theorem key_fff (w : Nat) (h : w < 4294967296) : w &&& 4293947519 = w % 128 + w / 4096 % 8 * 4096 + w / 1048576 * 1048576 := by
  rw [show (4293947519 : Nat) = 4095 * 2 ^ 20 + 28799 from rfl, and_split w 4095 28799 20 (by decide), key_28799, show (4095 : Nat) = 2 ^ 12 - 1 from rfl, and_ones]
  omega
theorem key_all (w : Nat) (h : w < 4294967296) : w &&& 4294967295 = w := by
  rw [show (4294967295 : Nat) = 2 ^ 32 - 1 from rfl, and_ones, Nat.mod_eq_of_lt h]
theorem keyF_eq (f w : Nat) (hf : f ≤ 10) (h : w < 4294967296) : w &&& XL f = keyF f w := by
  obtain ⟨x0, x1, x2, x3, x4, x5, x6, x7, x8, x9, x10⟩ := XLs
  have hc : f = 0 ∨ f = 1 ∨ f = 2 ∨ f = 3 ∨ f = 4 ∨ f = 5 ∨ f = 6 ∨ f = 7 ∨ f = 8 ∨ f = 9 ∨ f = 10 := by omega
  rcases hc with rfl | rfl | rfl | rfl | rfl | rfl | rfl | rfl | rfl | rfl | rfl
  · rw [x0]; exact key_127 w
  · rw [x1]; exact key_127 w
  · rw [x2]; exact key_28799 w
  · rw [x3]; exact key_28799 w
  · rw [x4]; exact key_fe w h
  · rw [x5]; exact key_28799 w
  · rw [x6]; exact key_28799 w
  · rw [x7]; exact key_fe w h
  · rw [x8]; exact key_fff w h
  · rw [x9]; exact key_fe w h
  · rw [x10]; exact key_all w h
theorem xor_zero {a b : Nat} : a ^^^ b = 0 ↔ a = b := by
  constructor
  · intro h
    apply Nat.eq_of_testBit_eq
    intro i
    have := congrArg (fun x => Nat.testBit x i) h
    simp only [Nat.testBit_xor, Nat.zero_testBit] at this
    revert this
    cases a.testBit i <;> cases b.testBit i <;> simp
  · rintro rfl
    exact Nat.xor_self a
theorem hit_iff (w q : Nat) : hit w q = 0 ↔ w &&& XL (FL q) = WL q &&& XL (FL q) := by
  unfold hit
  rw [Nat.and_xor_distrib_right, xor_zero]
theorem apart : ∀ q r : Fin 68, q ≠ r → (WL q.val &&& XL (FL q.val)) &&& XL (FL r.val) ≠ (WL r.val &&& XL (FL r.val)) &&& XL (FL q.val) := by decide +kernel
theorem hit_one (w q r : Nat) (hq : q < 68) (hr : r < 68) (h1 : hit w q = 0) (h2 : hit w r = 0) : q = r := by
  by_cases h : q = r
  · exact h
  · exfalso
    rw [hit_iff] at h1 h2
    refine apart ⟨q, hq⟩ ⟨r, hr⟩ (fun e => h (by simpa using e)) ?_
    show (WL q &&& XL (FL q)) &&& XL (FL r) = (WL r &&& XL (FL r)) &&& XL (FL q)
    rw [← h1, ← h2, Nat.and_assoc, Nat.and_assoc, Nat.and_comm (XL (FL q))]
theorem opL_hit (w q : Nat) (hq : q < 68) (h : hit w q = 0) : ∀ j, j ≤ 68 → 68 - q ≤ j → opL w j = q + 1
  | 0, _, h1 => by omega
  | j + 1, h0, h1 => by
    unfold opL
    split
    · rename_i h2
      have := hit_one w (67 - j) q (by omega) hq h2 h
      omega
    · rename_i h2
      by_cases e : 67 - j = q
      · rw [e] at h2; exact absurd h h2
      · exact opL_hit w q hq h j (by omega) (by omega)
theorem hit_opL (w : Nat) : ∀ j, j ≤ 68 → opL w j ≠ 0 → hit w (opL w j - 1) = 0 ∧ opL w j - 1 < 68
  | 0, _, h => absurd rfl h
  | j + 1, h0, h => by
    unfold opL at h ⊢
    split
    · rename_i h2
      rw [show 68 - j - 1 = 67 - j by omega]
      exact ⟨h2, by omega⟩
    · rename_i h2
      rw [if_neg h2] at h
      exact hit_opL w j (by omega) h
theorem back0 (W d a b : Nat) (n : Int) (hn : i32 n) (hW : freeF 0 W = true) (hk : okF 0 d a b n = true) : wordF 0 W d a b n < 4294967296 ∧ keyF 0 (wordF 0 W d a b n) = keyF 0 W ∧ regN (hasD 0) (wordF 0 W d a b n) 7 = d ∧ regN (hasA 0) (wordF 0 W d a b n) 15 = a ∧ regN (hasB 0) (wordF 0 W d a b n) 20 = b ∧ getF 0 (wordF 0 W d a b n) = n := by
  obtain ⟨hn1, hn2⟩ := hn
  simp only [okF, Bool.and_eq_true] at hk
  obtain ⟨kd, ka, kb, km⟩ := hk
  have ld := regOk_lt _ _ kd
  have la := regOk_lt _ _ ka
  have lb := regOk_lt _ _ kb
  obtain rfl := regOk_no _ ka
  obtain rfl := regOk_no _ kb
  have hW2 := hW
  simp [freeF, hasD, hasA, hasB] at hW2
  have hu := u32_cast n
  have hl := u32_lt n
  simp only [mayF, decide_eq_true_eq] at km
  have hx : regN (hasD 0) = regN true ∧ regN (hasA 0) = regN false ∧ regN (hasB 0) = regN false := ⟨rfl, rfl, rfl⟩
  rw [hx.1, hx.2.1, hx.2.2]
  unfold wordF
  simp only [putF, keyF, getF]
  obtain ⟨w0, w1, w2, w3, w4, w5, e0, l0, l1, l2, l3, l4, l5, e1, e2, e3, e4, e5⟩ := digits W (by omega)
  generalize u32 n = u at *
  clear hW kd ka kb hx
  have z1 : w1 = 0 := by omega
  have z2 : w2 = 0 := by omega
  have z3 : w3 = 0 := by omega
  have z4 : w4 = 0 := by omega
  have z5 : w5 = 0 := by omega
  clear hW2 e1 e2 e3 e4 e5
  subst z1 z2 z3 z4 z5
  subst e0
  refine ⟨?_, ?_, ?_, ?_, ?_, ?_⟩
  · omega
  · omega
  · rw [regN_t]
    omega
  · exact regN_f _ _
  · exact regN_f _ _
  · unfold sgn
    split <;> omega
theorem back1 (W d a b : Nat) (n : Int) (hn : i32 n) (hW : freeF 1 W = true) (hk : okF 1 d a b n = true) : wordF 1 W d a b n < 4294967296 ∧ keyF 1 (wordF 1 W d a b n) = keyF 1 W ∧ regN (hasD 1) (wordF 1 W d a b n) 7 = d ∧ regN (hasA 1) (wordF 1 W d a b n) 15 = a ∧ regN (hasB 1) (wordF 1 W d a b n) 20 = b ∧ getF 1 (wordF 1 W d a b n) = n := by
  obtain ⟨hn1, hn2⟩ := hn
  simp only [okF, Bool.and_eq_true] at hk
  obtain ⟨kd, ka, kb, km⟩ := hk
  have ld := regOk_lt _ _ kd
  have la := regOk_lt _ _ ka
  have lb := regOk_lt _ _ kb
  obtain rfl := regOk_no _ ka
  obtain rfl := regOk_no _ kb
  have hW2 := hW
  simp [freeF, hasD, hasA, hasB] at hW2
  have hu := u32_cast n
  have hl := u32_lt n
  simp only [mayF, decide_eq_true_eq] at km
  have hx : regN (hasD 1) = regN true ∧ regN (hasA 1) = regN false ∧ regN (hasB 1) = regN false := ⟨rfl, rfl, rfl⟩
  rw [hx.1, hx.2.1, hx.2.2]
  unfold wordF
  simp only [putF, keyF, getF]
  obtain ⟨w0, w1, w2, w3, w4, w5, e0, l0, l1, l2, l3, l4, l5, e1, e2, e3, e4, e5⟩ := digits W (by omega)
  generalize u32 n = u at *
  clear hW kd ka kb hx
  obtain ⟨s1, x1, y1, z1, hs, hx, hy, hz, b1, b2, b3, b4⟩ : ∃ s1 x1 y1 z1 : Nat, s1 = u / 1048576 % 2 ∧ x1 = u / 2 % 1024 ∧ y1 = u / 2048 % 2 ∧ z1 = u / 4096 % 256 ∧ s1 < 2 ∧ x1 < 1024 ∧ y1 < 2 ∧ z1 < 256 := ⟨_, _, _, _, rfl, rfl, rfl, rfl, by omega, by omega, by omega, by omega⟩
  rw [← hs, ← hx, ← hy, ← hz]
  have hc : n = if s1 = 0 then ((x1 * 2 + y1 * 2048 + z1 * 4096 : Nat) : Int) else ((x1 * 2 + y1 * 2048 + z1 * 4096 : Nat) : Int) - 1048576 := by split <;> omega
  clear hs hx hy hz hu hl km hn1 hn2
  have z1 : w1 = 0 := by omega
  have z2 : w2 = 0 := by omega
  have z3 : w3 = 0 := by omega
  have z4 : w4 = 0 := by omega
  have z5 : w5 = 0 := by omega
  clear hW2 e1 e2 e3 e4 e5
  subst z1 z2 z3 z4 z5
  subst e0
  refine ⟨?_, ?_, ?_, ?_, ?_, ?_⟩
  · omega
  · omega
  · rw [regN_t]
    omega
  · exact regN_f _ _
  · exact regN_f _ _
  · generalize hw : _ + d * 128 + 0 * 32768 + 0 * 1048576 + (s1 * 2147483648 + x1 * 2097152 + y1 * 1048576 + z1 * 4096) = w
    have p1 : w / 2147483648 = s1 := by omega
    have p2 : w / 4096 % 256 = z1 := by omega
    have p3 : w / 1048576 % 2 = y1 := by omega
    have p4 : w / 2097152 % 1024 = x1 := by omega
    rw [p1, p2, p3, p4, hc]
    clear hw p1 p2 p3 p4
    unfold sgn
    split <;> split <;> omega
theorem back2 (W d a b : Nat) (n : Int) (hn : i32 n) (hW : freeF 2 W = true) (hk : okF 2 d a b n = true) : wordF 2 W d a b n < 4294967296 ∧ keyF 2 (wordF 2 W d a b n) = keyF 2 W ∧ regN (hasD 2) (wordF 2 W d a b n) 7 = d ∧ regN (hasA 2) (wordF 2 W d a b n) 15 = a ∧ regN (hasB 2) (wordF 2 W d a b n) 20 = b ∧ getF 2 (wordF 2 W d a b n) = n := by
  obtain ⟨hn1, hn2⟩ := hn
  simp only [okF, Bool.and_eq_true] at hk
  obtain ⟨kd, ka, kb, km⟩ := hk
  have ld := regOk_lt _ _ kd
  have la := regOk_lt _ _ ka
  have lb := regOk_lt _ _ kb
  obtain rfl := regOk_no _ kb
  have hW2 := hW
  simp [freeF, hasD, hasA, hasB] at hW2
  have hu := u32_cast n
  have hl := u32_lt n
  simp only [mayF, decide_eq_true_eq] at km
  have hx : regN (hasD 2) = regN true ∧ regN (hasA 2) = regN true ∧ regN (hasB 2) = regN false := ⟨rfl, rfl, rfl⟩
  rw [hx.1, hx.2.1, hx.2.2]
  unfold wordF
  simp only [putF, keyF, getF]
  obtain ⟨w0, w1, w2, w3, w4, w5, e0, l0, l1, l2, l3, l4, l5, e1, e2, e3, e4, e5⟩ := digits W (by omega)
  generalize u32 n = u at *
  clear hW kd ka kb hx
  have z1 : w1 = 0 := by omega
  have z3 : w3 = 0 := by omega
  have z4 : w4 = 0 := by omega
  have z5 : w5 = 0 := by omega
  clear hW2 e1 e2 e3 e4 e5
  subst z1 z3 z4 z5
  subst e0
  refine ⟨?_, ?_, ?_, ?_, ?_, ?_⟩
  · omega
  · omega
  · rw [regN_t]
    omega
  · rw [regN_t]
    omega
  · exact regN_f _ _
  · unfold sgn
    split <;> omega
theorem back3 (W d a b : Nat) (n : Int) (hn : i32 n) (hW : freeF 3 W = true) (hk : okF 3 d a b n = true) : wordF 3 W d a b n < 4294967296 ∧ keyF 3 (wordF 3 W d a b n) = keyF 3 W ∧ regN (hasD 3) (wordF 3 W d a b n) 7 = d ∧ regN (hasA 3) (wordF 3 W d a b n) 15 = a ∧ regN (hasB 3) (wordF 3 W d a b n) 20 = b ∧ getF 3 (wordF 3 W d a b n) = n := by
  obtain ⟨hn1, hn2⟩ := hn
  simp only [okF, Bool.and_eq_true] at hk
  obtain ⟨kd, ka, kb, km⟩ := hk
  have ld := regOk_lt _ _ kd
  have la := regOk_lt _ _ ka
  have lb := regOk_lt _ _ kb
  obtain rfl := regOk_no _ kb
  have hW2 := hW
  simp [freeF, hasD, hasA, hasB] at hW2
  have hu := u32_cast n
  have hl := u32_lt n
  simp only [mayF, decide_eq_true_eq] at km
  have hx : regN (hasD 3) = regN true ∧ regN (hasA 3) = regN true ∧ regN (hasB 3) = regN false := ⟨rfl, rfl, rfl⟩
  rw [hx.1, hx.2.1, hx.2.2]
  unfold wordF
  simp only [putF, keyF, getF]
  obtain ⟨w0, w1, w2, w3, w4, w5, e0, l0, l1, l2, l3, l4, l5, e1, e2, e3, e4, e5⟩ := digits W (by omega)
  generalize u32 n = u at *
  clear hW kd ka kb hx
  have z1 : w1 = 0 := by omega
  have z3 : w3 = 0 := by omega
  have z4 : w4 = 0 := by omega
  have z5 : w5 = 0 := by omega
  clear hW2 e1 e2 e3 e4 e5
  subst z1 z3 z4 z5
  subst e0
  refine ⟨?_, ?_, ?_, ?_, ?_, ?_⟩
  · omega
  · omega
  · rw [regN_t]
    omega
  · rw [regN_t]
    omega
  · exact regN_f _ _
  · omega
theorem back4 (W d a b : Nat) (n : Int) (hn : i32 n) (hW : freeF 4 W = true) (hk : okF 4 d a b n = true) : wordF 4 W d a b n < 4294967296 ∧ keyF 4 (wordF 4 W d a b n) = keyF 4 W ∧ regN (hasD 4) (wordF 4 W d a b n) 7 = d ∧ regN (hasA 4) (wordF 4 W d a b n) 15 = a ∧ regN (hasB 4) (wordF 4 W d a b n) 20 = b ∧ getF 4 (wordF 4 W d a b n) = n := by
  obtain ⟨hn1, hn2⟩ := hn
  simp only [okF, Bool.and_eq_true] at hk
  obtain ⟨kd, ka, kb, km⟩ := hk
  have ld := regOk_lt _ _ kd
  have la := regOk_lt _ _ ka
  have lb := regOk_lt _ _ kb
  obtain rfl := regOk_no _ kb
  have hW2 := hW
  simp [freeF, hasD, hasA, hasB] at hW2
  have hu := u32_cast n
  have hl := u32_lt n
  simp only [mayF, decide_eq_true_eq] at km
  have hx : regN (hasD 4) = regN true ∧ regN (hasA 4) = regN true ∧ regN (hasB 4) = regN false := ⟨rfl, rfl, rfl⟩
  rw [hx.1, hx.2.1, hx.2.2]
  unfold wordF
  simp only [putF, keyF, getF]
  obtain ⟨w0, w1, w2, w3, w4, w5, e0, l0, l1, l2, l3, l4, l5, e1, e2, e3, e4, e5⟩ := digits W (by omega)
  generalize u32 n = u at *
  clear hW kd ka kb hx
  have z1 : w1 = 0 := by omega
  have z3 : w3 = 0 := by omega
  have z4 : w4 = 0 := by omega
  clear hW2 e1 e2 e3 e4 e5
  subst z1 z3 z4
  subst e0
  refine ⟨?_, ?_, ?_, ?_, ?_, ?_⟩
  · omega
  · omega
  · rw [regN_t]
    omega
  · rw [regN_t]
    omega
  · exact regN_f _ _
  · omega
theorem back5 (W d a b : Nat) (n : Int) (hn : i32 n) (hW : freeF 5 W = true) (hk : okF 5 d a b n = true) : wordF 5 W d a b n < 4294967296 ∧ keyF 5 (wordF 5 W d a b n) = keyF 5 W ∧ regN (hasD 5) (wordF 5 W d a b n) 7 = d ∧ regN (hasA 5) (wordF 5 W d a b n) 15 = a ∧ regN (hasB 5) (wordF 5 W d a b n) 20 = b ∧ getF 5 (wordF 5 W d a b n) = n := by
  obtain ⟨hn1, hn2⟩ := hn
  simp only [okF, Bool.and_eq_true] at hk
  obtain ⟨kd, ka, kb, km⟩ := hk
  have ld := regOk_lt _ _ kd
  have la := regOk_lt _ _ ka
  have lb := regOk_lt _ _ kb
  obtain rfl := regOk_no _ kd
  have hW2 := hW
  simp [freeF, hasD, hasA, hasB] at hW2
  have hu := u32_cast n
  have hl := u32_lt n
  simp only [mayF, decide_eq_true_eq] at km
  have hx : regN (hasD 5) = regN false ∧ regN (hasA 5) = regN true ∧ regN (hasB 5) = regN true := ⟨rfl, rfl, rfl⟩
  rw [hx.1, hx.2.1, hx.2.2]
  unfold wordF
  simp only [putF, keyF, getF]
  obtain ⟨w0, w1, w2, w3, w4, w5, e0, l0, l1, l2, l3, l4, l5, e1, e2, e3, e4, e5⟩ := digits W (by omega)
  generalize u32 n = u at *
  clear hW kd ka kb hx
  obtain ⟨p1, q1, hp, hq, b1, b2⟩ : ∃ p1 q1 : Nat, p1 = u / 32 % 128 ∧ q1 = u % 32 ∧ p1 < 128 ∧ q1 < 32 := ⟨_, _, rfl, rfl, by omega, by omega⟩
  rw [← hp, ← hq]
  have hc : n = if p1 < 64 then ((p1 * 32 + q1 : Nat) : Int) else ((p1 * 32 + q1 : Nat) : Int) - 4096 := by split <;> omega
  clear hp hq hu hl km hn1 hn2
  have z1 : w1 = 0 := by omega
  have z3 : w3 = 0 := by omega
  have z4 : w4 = 0 := by omega
  have z5 : w5 = 0 := by omega
  clear hW2 e1 e2 e3 e4 e5
  subst z1 z3 z4 z5
  subst e0
  refine ⟨?_, ?_, ?_, ?_, ?_, ?_⟩
  · omega
  · omega
  · exact regN_f _ _
  · rw [regN_t]
    omega
  · rw [regN_t]
    omega
  · generalize hw : _ + 0 * 128 + a * 32768 + b * 1048576 + (p1 * 33554432 + q1 * 128) = w
    have g1 : w / 33554432 = p1 := by omega
    have g2 : w / 128 % 32 = q1 := by omega
    rw [g1, g2, hc]
    clear hw g1 g2
    unfold sgn
    split <;> split <;> omega
set_option maxRecDepth 100000 in
theorem back6 (W d a b : Nat) (n : Int) (hn : i32 n) (hW : freeF 6 W = true) (hk : okF 6 d a b n = true) : wordF 6 W d a b n < 4294967296 ∧ keyF 6 (wordF 6 W d a b n) = keyF 6 W ∧ regN (hasD 6) (wordF 6 W d a b n) 7 = d ∧ regN (hasA 6) (wordF 6 W d a b n) 15 = a ∧ regN (hasB 6) (wordF 6 W d a b n) 20 = b ∧ getF 6 (wordF 6 W d a b n) = n := by
  obtain ⟨hn1, hn2⟩ := hn
  simp only [okF, Bool.and_eq_true] at hk
  obtain ⟨kd, ka, kb, km⟩ := hk
  have ld := regOk_lt _ _ kd
  have la := regOk_lt _ _ ka
  have lb := regOk_lt _ _ kb
  obtain rfl := regOk_no _ kd
  have hW2 := hW
  simp [freeF, hasD, hasA, hasB] at hW2
  have hu := u32_cast n
  have hl := u32_lt n
  simp only [mayF, decide_eq_true_eq] at km
  have hx : regN (hasD 6) = regN false ∧ regN (hasA 6) = regN true ∧ regN (hasB 6) = regN true := ⟨rfl, rfl, rfl⟩
  rw [hx.1, hx.2.1, hx.2.2]
  unfold wordF
  simp only [putF, keyF, getF]
  obtain ⟨w0, w1, w2, w3, w4, w5, e0, l0, l1, l2, l3, l4, l5, e1, e2, e3, e4, e5⟩ := digits W (by omega)
  generalize u32 n = u at *
  clear hW kd ka kb hx
  obtain ⟨s1, p1, q1, t1, hs, hp, hq, ht, b1, b2, b3, b4⟩ : ∃ s1 p1 q1 t1 : Nat, s1 = u / 4096 % 2 ∧ p1 = u / 32 % 64 ∧ q1 = u / 2 % 16 ∧ t1 = u / 2048 % 2 ∧ s1 < 2 ∧ p1 < 64 ∧ q1 < 16 ∧ t1 < 2 := ⟨_, _, _, _, rfl, rfl, rfl, rfl, by omega, by omega, by omega, by omega⟩
  rw [← hs, ← hp, ← hq, ← ht]
  have hc : n = if s1 = 0 then ((p1 * 32 + q1 * 2 + t1 * 2048 : Nat) : Int) else ((p1 * 32 + q1 * 2 + t1 * 2048 : Nat) : Int) - 4096 := by split <;> omega
  clear hs hp hq ht hu hl km hn1 hn2
  have z1 : w1 = 0 := by omega
  have z3 : w3 = 0 := by omega
  have z4 : w4 = 0 := by omega
  have z5 : w5 = 0 := by omega
  clear hW2 e1 e2 e3 e4 e5
  subst z1 z3 z4 z5
  subst e0
  refine ⟨?_, ?_, ?_, ?_, ?_, ?_⟩
  · omega
  · omega
  · exact regN_f _ _
  · rw [regN_t]
    omega
  · rw [regN_t]
    omega
  · generalize hw : _ + 0 * 128 + a * 32768 + b * 1048576 + (s1 * 2147483648 + p1 * 33554432 + q1 * 256 + t1 * 128) = w
    have g1 : w / 2147483648 = s1 := by omega
    have g2 : w / 128 % 2 = t1 := by omega
    have g3 : w / 33554432 % 64 = p1 := by omega
    have g4 : w / 256 % 16 = q1 := by omega
    rw [g1, g2, g3, g4, hc]
    clear hw g1 g2 g3 g4
    unfold sgn
    split <;> split <;> omega
theorem back7 (W d a b : Nat) (n : Int) (hn : i32 n) (hW : freeF 7 W = true) (hk : okF 7 d a b n = true) : wordF 7 W d a b n < 4294967296 ∧ keyF 7 (wordF 7 W d a b n) = keyF 7 W ∧ regN (hasD 7) (wordF 7 W d a b n) 7 = d ∧ regN (hasA 7) (wordF 7 W d a b n) 15 = a ∧ regN (hasB 7) (wordF 7 W d a b n) 20 = b ∧ getF 7 (wordF 7 W d a b n) = n := by
  obtain ⟨hn1, hn2⟩ := hn
  simp only [okF, Bool.and_eq_true] at hk
  obtain ⟨kd, ka, kb, km⟩ := hk
  have ld := regOk_lt _ _ kd
  have la := regOk_lt _ _ ka
  have lb := regOk_lt _ _ kb
  have hW2 := hW
  simp [freeF, hasD, hasA, hasB] at hW2
  have hu := u32_cast n
  have hl := u32_lt n
  simp only [mayF, decide_eq_true_eq] at km
  have hx : regN (hasD 7) = regN true ∧ regN (hasA 7) = regN true ∧ regN (hasB 7) = regN true := ⟨rfl, rfl, rfl⟩
  rw [hx.1, hx.2.1, hx.2.2]
  unfold wordF
  simp only [putF, keyF, getF]
  obtain ⟨w0, w1, w2, w3, w4, w5, e0, l0, l1, l2, l3, l4, l5, e1, e2, e3, e4, e5⟩ := digits W (by omega)
  generalize u32 n = u at *
  clear hW kd ka kb hx
  have z1 : w1 = 0 := by omega
  have z3 : w3 = 0 := by omega
  have z4 : w4 = 0 := by omega
  clear hW2 e1 e2 e3 e4 e5
  subst z1 z3 z4
  subst e0
  refine ⟨?_, ?_, ?_, ?_, ?_, ?_⟩
  · omega
  · omega
  · rw [regN_t]
    omega
  · rw [regN_t]
    omega
  · rw [regN_t]
    omega
  · omega
theorem back8 (W d a b : Nat) (n : Int) (hn : i32 n) (hW : freeF 8 W = true) (hk : okF 8 d a b n = true) : wordF 8 W d a b n < 4294967296 ∧ keyF 8 (wordF 8 W d a b n) = keyF 8 W ∧ regN (hasD 8) (wordF 8 W d a b n) 7 = d ∧ regN (hasA 8) (wordF 8 W d a b n) 15 = a ∧ regN (hasB 8) (wordF 8 W d a b n) 20 = b ∧ getF 8 (wordF 8 W d a b n) = n := by
  obtain ⟨hn1, hn2⟩ := hn
  simp only [okF, Bool.and_eq_true] at hk
  obtain ⟨kd, ka, kb, km⟩ := hk
  have ld := regOk_lt _ _ kd
  have la := regOk_lt _ _ ka
  have lb := regOk_lt _ _ kb
  obtain rfl := regOk_no _ kb
  have hW2 := hW
  simp [freeF, hasD, hasA, hasB] at hW2
  have hu := u32_cast n
  have hl := u32_lt n
  simp only [mayF, decide_eq_true_eq] at km
  have hx : regN (hasD 8) = regN true ∧ regN (hasA 8) = regN true ∧ regN (hasB 8) = regN false := ⟨rfl, rfl, rfl⟩
  rw [hx.1, hx.2.1, hx.2.2]
  unfold wordF
  simp only [putF, keyF, getF]
  obtain ⟨w0, w1, w2, w3, w4, w5, e0, l0, l1, l2, l3, l4, l5, e1, e2, e3, e4, e5⟩ := digits W (by omega)
  generalize u32 n = u at *
  clear hW kd ka kb hx
  have z1 : w1 = 0 := by omega
  have z3 : w3 = 0 := by omega
  clear hW2 e1 e2 e3 e4 e5
  subst z1 z3
  subst e0
  refine ⟨?_, ?_, ?_, ?_, ?_, ?_⟩
  · omega
  · omega
  · rw [regN_t]
    omega
  · rw [regN_t]
    omega
  · exact regN_f _ _
  · omega
theorem back9 (W d a b : Nat) (n : Int) (hn : i32 n) (hW : freeF 9 W = true) (hk : okF 9 d a b n = true) : wordF 9 W d a b n < 4294967296 ∧ keyF 9 (wordF 9 W d a b n) = keyF 9 W ∧ regN (hasD 9) (wordF 9 W d a b n) 7 = d ∧ regN (hasA 9) (wordF 9 W d a b n) 15 = a ∧ regN (hasB 9) (wordF 9 W d a b n) 20 = b ∧ getF 9 (wordF 9 W d a b n) = n := by
  obtain ⟨hn1, hn2⟩ := hn
  simp only [okF, Bool.and_eq_true] at hk
  obtain ⟨kd, ka, kb, km⟩ := hk
  have ld := regOk_lt _ _ kd
  have la := regOk_lt _ _ ka
  have lb := regOk_lt _ _ kb
  obtain rfl := regOk_no _ kb
  have hW2 := hW
  simp [freeF, hasD, hasA, hasB] at hW2
  have hu := u32_cast n
  have hl := u32_lt n
  simp only [mayF, decide_eq_true_eq] at km
  have hx : regN (hasD 9) = regN true ∧ regN (hasA 9) = regN true ∧ regN (hasB 9) = regN false := ⟨rfl, rfl, rfl⟩
  rw [hx.1, hx.2.1, hx.2.2]
  unfold wordF
  simp only [putF, keyF, getF]
  obtain ⟨w0, w1, w2, w3, w4, w5, e0, l0, l1, l2, l3, l4, l5, e1, e2, e3, e4, e5⟩ := digits W (by omega)
  generalize u32 n = u at *
  clear hW kd ka kb hx
  have z1 : w1 = 0 := by omega
  have z3 : w3 = 0 := by omega
  have z4 : w4 = 0 := by omega
  clear hW2 e1 e2 e3 e4 e5
  subst z1 z3 z4
  subst e0
  refine ⟨?_, ?_, ?_, ?_, ?_, ?_⟩
  · omega
  · omega
  · rw [regN_t]
    omega
  · rw [regN_t]
    omega
  · exact regN_f _ _
  · omega
theorem back10 (W d a b : Nat) (n : Int) (hn : i32 n) (hW : freeF 10 W = true) (hk : okF 10 d a b n = true) : wordF 10 W d a b n < 4294967296 ∧ keyF 10 (wordF 10 W d a b n) = keyF 10 W ∧ regN (hasD 10) (wordF 10 W d a b n) 7 = d ∧ regN (hasA 10) (wordF 10 W d a b n) 15 = a ∧ regN (hasB 10) (wordF 10 W d a b n) 20 = b ∧ getF 10 (wordF 10 W d a b n) = n := by
  obtain ⟨hn1, hn2⟩ := hn
  simp only [okF, Bool.and_eq_true] at hk
  obtain ⟨kd, ka, kb, km⟩ := hk
  have ld := regOk_lt _ _ kd
  have la := regOk_lt _ _ ka
  have lb := regOk_lt _ _ kb
  obtain rfl := regOk_no _ kd
  obtain rfl := regOk_no _ ka
  obtain rfl := regOk_no _ kb
  have hW2 := hW
  simp [freeF, hasD, hasA, hasB] at hW2
  have hu := u32_cast n
  have hl := u32_lt n
  simp only [mayF, decide_eq_true_eq] at km
  have hx : regN (hasD 10) = regN false ∧ regN (hasA 10) = regN false ∧ regN (hasB 10) = regN false := ⟨rfl, rfl, rfl⟩
  rw [hx.1, hx.2.1, hx.2.2]
  unfold wordF
  simp only [putF, keyF, getF]
  obtain ⟨w0, w1, w2, w3, w4, w5, e0, l0, l1, l2, l3, l4, l5, e1, e2, e3, e4, e5⟩ := digits W (by omega)
  generalize u32 n = u at *
  clear hW kd ka kb hx
  clear hW2 e1 e2 e3 e4 e5
  subst e0
  refine ⟨?_, ?_, ?_, ?_, ?_, ?_⟩
  · omega
  · omega
  · exact regN_f _ _
  · exact regN_f _ _
  · exact regN_f _ _
  · omega
theorem backF (f W d a b : Nat) (n : Int) (hf : f ≤ 10) (hn : i32 n) (hW : freeF f W = true) (hk : okF f d a b n = true) : wordF f W d a b n < 4294967296 ∧ keyF f (wordF f W d a b n) = keyF f W ∧ regN (hasD f) (wordF f W d a b n) 7 = d ∧ regN (hasA f) (wordF f W d a b n) 15 = a ∧ regN (hasB f) (wordF f W d a b n) 20 = b ∧ getF f (wordF f W d a b n) = n := by
  have h : f = 0 ∨ f = 1 ∨ f = 2 ∨ f = 3 ∨ f = 4 ∨ f = 5 ∨ f = 6 ∨ f = 7 ∨ f = 8 ∨ f = 9 ∨ f = 10 := by omega
  rcases h with rfl | rfl | rfl | rfl | rfl | rfl | rfl | rfl | rfl | rfl | rfl
  · exact back0 W d a b n hn hW hk
  · exact back1 W d a b n hn hW hk
  · exact back2 W d a b n hn hW hk
  · exact back3 W d a b n hn hW hk
  · exact back4 W d a b n hn hW hk
  · exact back5 W d a b n hn hW hk
  · exact back6 W d a b n hn hW hk
  · exact back7 W d a b n hn hW hk
  · exact back8 W d a b n hn hW hk
  · exact back9 W d a b n hn hW hk
  · exact back10 W d a b n hn hW hk
theorem put_get (o d a b : Nat) (n : Int) (hn : i32 n) (w : Nat) (h : put o d a b n = (w, 0)) : w < 4294967296 ∧ get w = (⟨o, d, a, b, n⟩, 0) := by
  have ho : ¬(o = 0 ∨ 68 < o) := by
    intro h2
    unfold put at h
    rw [if_pos h2] at h
    exact absurd (Prod.mk.inj h).2 (by decide)
  obtain ⟨q, rfl⟩ : ∃ q, o = q + 1 := ⟨o - 1, by omega⟩
  have hp := h
  unfold put at h
  rw [if_neg ho, Nat.add_sub_cancel] at h
  by_cases hk : okF (FL q) d a b n = true
  · rw [if_pos hk] at h
    have hfr := (FL_free ⟨q, by omega⟩).1
    have hle := (FL_free ⟨q, by omega⟩).2
    have hWl := (tabs ⟨q, by omega⟩).1
    simp only at hfr hle hWl
    obtain ⟨k1, k2, k3, k4, k5, k6⟩ := backF (FL q) (WL q) d a b n hle hn hfr hk
    have hw : wordF (FL q) (WL q) d a b n = w := (Prod.mk.inj h).1
    rw [hw] at k1 k2 k3 k4 k5 k6
    have hh : hit w q = 0 := by rw [hit_iff, keyF_eq _ _ hle k1, keyF_eq _ _ hle hWl, k2]
    have hop := opL_hit w q (by omega) hh 68 (by omega) (by omega)
    have hd : dec q w = ⟨q + 1, d, a, b, n⟩ := by unfold dec; rw [k3, k4, k5, k6]
    refine ⟨k1, ?_⟩
    unfold get
    rw [if_neg (by rw [hop]; omega), hop, Nat.add_sub_cancel, hd]
    have hp2 : (⟨q + 1, d, a, b, n⟩ : Ins).put = (w, 0) := hp
    rw [if_pos hp2]
  · rw [if_neg hk] at h
    exact absurd (Prod.mk.inj h).2 (by decide)
theorem get_put (w : Nat) (i : Ins) (h : get w = (i, 0)) : i.put = (w, 0) := by
  unfold get at h
  split at h
  · exact absurd (Prod.mk.inj h).2 (by decide)
  · split at h
    · rename_i hp
      rw [← (Prod.mk.inj h).1]
      exact hp
    · exact absurd (Prod.mk.inj h).2 (by decide)
theorem put_err (o d a b : Nat) (n : Int) : (∃ w, put o d a b n = (w, 0)) ∨ put o d a b n = (0, 2) := by
  unfold put
  split
  · exact Or.inr rfl
  · split
    · exact Or.inl ⟨_, rfl⟩
    · exact Or.inr rfl
theorem get_err (w : Nat) : (∃ i, get w = (i, 0)) ∨ get w = (Ins.zero, 5) := by
  unfold get
  split
  · exact Or.inr rfl
  · split
    · exact Or.inl ⟨_, rfl⟩
    · exact Or.inr rfl
end Go.Proofs.YtodpeiamophjjaaDoor.In
