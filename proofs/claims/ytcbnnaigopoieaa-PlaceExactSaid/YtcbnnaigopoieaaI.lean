import Derived.Test.YtcbnnaigopoieaaH
namespace Go.Proofs.Ytcbnnaigopoieaa
open Go.ChangeShapes Go.WideShapes Go.ChangeAt Go.RowKit
set_option linter.unusedVariables false
theorem sz_dvd (n P : Nat) : P ∣ sz n P := by unfold sz; exact Nat.dvd_mul_left _ _
theorem sz_first (t u j : Nat) (hu : 1 ≤ u) (h1 : t ≤ j) (h2 : j < sz t u) : j % u ≠ 0 := by
  intro h
  obtain ⟨q, rfl⟩ := Nat.dvd_of_mod_eq_zero h
  have : sz t u ≤ u * q := by
    unfold sz
    rw [Nat.mul_comm u q]
    refine Nat.mul_le_mul_right u ?_
    have : t + u - 1 < u * (q + 1) := by rw [Nat.mul_succ]; omega
    have := (Nat.div_lt_iff_lt_mul (show 0 < u by omega)).2 (by rw [Nat.mul_comm]; exact this)
    omega
  omega
theorem rmL_ok (n : Nat) (hn : n ≤ 130816) : ∀ j, 1 ≤ j → j ≤ 6 → ∃ k s, 3 ≤ k ∧ k ≤ 8 ∧ n ≤ s ∧ s ≤ 511 * 2 ^ k ∧ 2 ^ k ∣ s ∧ rmL n j = (k, s, true)
  | j + 1, h0, h => by
    rw [rmL]
    split
    · rename_i h1
      exact ⟨8 - j, _, by omega, by omega, le_sz n _ Nat.one_le_two_pow, h1, sz_dvd _ _, rfl⟩
    · rename_i h1
      rcases Nat.eq_zero_or_pos j with rfl | hj
      · exfalso
        apply h1
        show sz n 256 ≤ 511 * 256
        unfold sz
        have : (n + 256 - 1) / 256 ≤ 511 := by omega
        omega
      · exact rmL_ok n hn j hj (by omega)
theorem exL_ok (b t e : Nat) (h : ok b t e = true) : ∀ m, 8 - e < m → m ≤ 9 → e ≤ 8 → ∃ x y z, x ≤ 8 ∧ y < 512 ∧ z < 512 ∧ exL b t m = (x, y, z, 0)
  | m + 1, h1, h2, h3 => by
    rw [exL]
    split
    · exact ⟨_, _, _, by omega, by omega, by omega, rfl⟩
    · rename_i h4
      rcases Nat.lt_or_ge (8 - e) m with h5 | h5
      · exact exL_ok b t e h m h5 (by omega) h3
      · rw [show 8 - m = e by omega] at h4
        exact absurd h h4
theorem ex_ok (f s k : Nat) (hk : k ≤ 8) (h1 : 2 ^ k ∣ f) (h2 : 2 ^ k ∣ s) (h3 : s ≤ 511 * 2 ^ k) (h4 : f + s ≤ 65536) : ∃ x y z, x ≤ 8 ∧ y < 512 ∧ z < 512 ∧ ex f (f + s) = (x, y, z, 0) := by
  unfold ex
  rw [if_neg (by omega)]
  refine exL_ok _ _ k ?_ 9 (by omega) (by omega) hk
  unfold ok
  rw [decide_eq_true_eq]
  exact ⟨Nat.mod_eq_zero_of_dvd h1, Nat.mod_eq_zero_of_dvd (Nat.dvd_add h1 h2), by omega⟩
theorem pw_pow (m : Nat) (h : m ≤ 8) : pw (2 ^ m) = true := by
  have : m = 0 ∨ m = 1 ∨ m = 2 ∨ m = 3 ∨ m = 4 ∨ m = 5 ∨ m = 6 ∨ m = 7 ∨ m = 8 := by omega
  rcases this with rfl | rfl | rfl | rfl | rfl | rfl | rfl | rfl | rfl <;> decide
/-- all that the law needs of the numbers -/
theorem nums (n t m : Nat) (hn : n ≤ 70000) (ht : t ≤ 65280) (hm : m ≤ 8) : ∃ k s E A u F : Nat,
    E = 2 ^ k ∧ A = 2 ^ m ∧ 3 ≤ k ∧ k ≤ 8 ∧ 8 ≤ E ∧ E ≤ 256 ∧ 1 ≤ A ∧ A ≤ 256 ∧ n ≤ s ∧ s ≤ 130816 ∧
    rm (n : Int) = (k, s, true) ∧ (E < A ∧ u = A ∨ A ≤ E ∧ u = E) ∧ t ≤ F ∧ F ≤ 65535 ∧ F % u = 0 ∧ (∀ j, t ≤ j → j < F → j % u ≠ 0) ∧
    nx (t : Int) (n : Int) (A : Int) = (if 65280 < F + s then (0, 0, false) else (F, s, true)) ∧
    (F + s ≤ 65280 → ∃ x y z, x ≤ 8 ∧ y < 512 ∧ z < 512 ∧ ex F (F + s) = (x, y, z, 0)) := by
  obtain ⟨k, s, h3, h8, h4, h5, h6, h7⟩ := rmL_ok n (by omega) 6 (by omega) (by omega)
  have p1 : (2 : Nat) ^ 3 ≤ 2 ^ k := Nat.pow_le_pow_right (by omega) h3
  have p2 : (2 : Nat) ^ k ≤ 2 ^ 8 := Nat.pow_le_pow_right (by omega) h8
  have p3 : (2 : Nat) ^ m ≤ 2 ^ 8 := Nat.pow_le_pow_right (by omega) hm
  have p4 : 1 ≤ (2 : Nat) ^ m := Nat.one_le_two_pow
  have e1 : rm (n : Int) = (k, s, true) := by rw [rm_nat, h7]
  obtain ⟨u, hu⟩ : ∃ u, u = max (2 ^ m) (2 ^ k) := ⟨_, rfl⟩
  have hu2 : 2 ^ k < 2 ^ m ∧ u = 2 ^ m ∨ 2 ^ m ≤ 2 ^ k ∧ u = 2 ^ k := by rw [hu]; omega
  have hu1 : 1 ≤ u := by omega
  have hub : u ≤ 256 := by omega
  have hd : 2 ^ k ∣ u := by
    rcases hu2 with ⟨a, b⟩ | ⟨a, b⟩
    · rw [b]
      refine Nat.pow_dvd_pow 2 ?_
      rcases Nat.lt_or_ge m k with c | c
      · have : (2 : Nat) ^ m ≤ 2 ^ k := Nat.pow_le_pow_right (by omega) (by omega)
        omega
      · exact c
    · rw [b]; exact Nat.dvd_refl _
  have hF2 : sz t u ≤ t + u - 1 := Nat.div_mul_le_self _ _
  refine ⟨k, s, 2 ^ k, 2 ^ m, u, sz t u, rfl, rfl, h3, h8, by omega, by omega, p4, by omega, h4, by omega, e1, hu2, le_sz t u hu1, by omega, Nat.mod_eq_zero_of_dvd (sz_dvd _ _), fun j a b => sz_first t u j hu1 a b, ?_, ?_⟩
  · unfold nx
    rw [e1]
    rw [if_neg (by
      rintro (h | h | h | h)
      · exact absurd h (by simp)
      · rw [show ((2 ^ m : Nat) : Int).toNat = 2 ^ m from Int.toNat_natCast _, pw_pow m hm, Bool.and_true] at h
        have := of_decide_eq_false h
        omega
      · omega
      · omega)]
    rw [show ((2 ^ m : Nat) : Int).toNat = 2 ^ m from Int.toNat_natCast _, show ((t : Nat) : Int).toNat = t from Int.toNat_natCast _]
    simp only []
    rw [← hu]
  · intro h
    exact ex_ok _ _ k h8 (Nat.dvd_trans hd (sz_dvd _ _)) h6 (by omega) (by omega)
end Go.Proofs.Ytcbnnaigopoieaa
