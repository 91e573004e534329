import Derived.Test.YtnkoknfihhdelaaGreatDoorKA
namespace Go.Proofs.YtnkoknfihhdelaaGreatDoor.Ca
open Go.ChangeShapes Go.WideShapes Go.ChangeAt Go.RowKit
set_option linter.unusedVariables false
set_option maxRecDepth 100000
def ok (b t e : Nat) : Bool := decide (b % 2 ^ e = 0 ∧ t % 2 ^ e = 0 ∧ t - b ≤ 511 * 2 ^ e)
def exL (b t : Nat) : Nat → Nat × Nat × Nat × Nat
  | 0 => (0, 0, 0, 5)
  | k + 1 => if ok b t (8 - k) = true then (8 - k, b / 2 ^ (8 - k) % 512, t / 2 ^ (8 - k) % 512, 0) else exL b t k
def ex (b t : Nat) : Nat × Nat × Nat × Nat := if t < b ∨ 65536 < t then (0, 0, 0, 2) else exL b t 9
def exV (r : Nat × Nat × Nat × Nat) : Value := .tuple #[.agg #[.int .u8 (r.1 : Int), .int .u16 (r.2.1 : Int), .int .u16 (r.2.2.1 : Int)], .int .i64 (r.2.2.2 : Int)]
theorem and511_64 (b : Nat) (hb : b < 18446744073709551616) : bits .and .u64 (b : Int) 511 = ((b % 512 : Nat) : Int) := by
  have h := u64_and_nat b 511 hb (by omega)
  rw [nat_mask9] at h; exact h
theorem ok_code2 (b t e : Nat) (hb : b < 18446744073709551616) (ht : t < 18446744073709551616) (he : e ≤ 8) (hbt : b ≤ t) :
    ∃ M : Nat, bits .and .u64 (bits .or .u64 (b : Int) (t : Int)) (2 ^ e - 1) = (M : Int) ∧ ok b t e = (decide (M = 0) && decide ((t : Int) - (b : Int) ≤ 511 * ((2 ^ e : Nat) : Int))) := by
  have hor : b ||| t < 18446744073709551616 := Nat.or_lt_two_pow (n := 64) hb ht
  have h8 : (2 : Nat) ^ e ≤ 2 ^ 8 := Nat.pow_le_pow_right (by omega) he
  have h1 : 1 ≤ (2 : Nat) ^ e := Nat.one_le_two_pow
  have e1 : (2 ^ e - 1 : Int) = ((2 ^ e - 1 : Nat) : Int) := by rw [Int.ofNat_sub h1]; simp
  refine ⟨(b % 2 ^ e ||| t % 2 ^ e), ?_, ?_⟩
  · rw [u64_or_nat b t hb ht, e1, u64_and_nat _ _ hor (by omega), Nat.and_two_pow_sub_one_eq_mod, Nat.or_mod_two_pow]
  · unfold ok
    rw [Bool.eq_iff_iff, Bool.and_eq_true, decide_eq_true_eq, decide_eq_true_eq, decide_eq_true_eq, Nat.or_eq_zero_iff]
    omega
set_option maxHeartbeats 1000000 in
theorem c18 (b t : Nat) (hb : b < 18446744073709551616) (ht : t < 18446744073709551616) (w : World) :
    Calls Tryz.prog 170 #[.int .u64 (b : Int), .int .u64 (t : Int)] w fun en w' => en = .returned (exV (ex b t)) ∧ Below w.heap.size w w' := by
  by_cases g1 : t < b
  · have E : ex b t = (0, 0, 0, 2) := by unfold ex; rw [if_pos (Or.inl g1)]
    rw [E]
    go_enter Tryz.func170, Tryz.ntmps170
    go_wp2
    exact bodyPost_ret (v := exV (0, 0, 0, 2)) (by simp [exV, results, Tryz.results170, go_sem]) rfl ⟨rfl, (Below.refl _ _).alloc (Nat.le_refl _) _⟩
  by_cases g2 : 65536 < t
  · have E : ex b t = (0, 0, 0, 2) := by unfold ex; rw [if_pos (Or.inr g2)]
    rw [E]
    go_enter Tryz.func170, Tryz.ntmps170
    go_wp2
    exact bodyPost_ret (v := exV (0, 0, 0, 2)) (by simp [exV, results, Tryz.results170, go_sem]) rfl ⟨rfl, (Below.refl _ _).alloc (Nat.le_refl _) _⟩
  have E : ex b t = exL b t 9 := by unfold ex; rw [if_neg (by omega)]
  rw [E]
  clear E
  have g2' : decide ((65536 : Int) < (t : Int)) = false := by simp; omega
  go_enter Tryz.func170, Tryz.ntmps170
  go_wp2
  go_loop [6] (fun v => ∃ k : Nat, k ≤ 9 ∧ v = .int .u8 k ∧ Hid (exL b t (9 - k) = exL b t 9)) (fun v => 9 - (intOf v).toNat)
  case atStart => exact ⟨0, by omega, rfl, rfl⟩
  case round =>
    obtain ⟨k, hk, rfl, hx⟩ := hrel
    by_cases hlt : k ≤ 8
    · have hs : exL b t (9 - k) = if ok b t k = true then (k, b / 2 ^ k % 512, t / 2 ^ k % 512, 0) else exL b t (9 - (k + 1)) := by
        rw [show 9 - k = (8 - k) + 1 by omega, exL, show 8 - (8 - k) = k by omega, show 9 - (k + 1) = 8 - k by omega]
      rw [hs] at hx
      clear hs
      obtain ⟨M, hM, hok⟩ := ok_code2 b t k hb ht hlt (by omega)
      have p8 : (2 : Nat) ^ k ≤ 2 ^ 8 := Nat.pow_le_pow_right (by omega) hlt
      have p1 : 1 ≤ (2 : Nat) ^ k := Nat.one_le_two_pow
      have hP : (2 : Int) ^ k = ((2 ^ k : Nat) : Int) := by simp
      rw [hP] at hM
      generalize (2 : Nat) ^ k = P at *
      have w0 : (P : Int) % 18446744073709551616 = (P : Int) := by omega
      have d1 : (b : Int) / (P : Int) = ((b / P : Nat) : Int) := rfl
      have d2 : (t : Int) / (P : Int) = ((t / P : Nat) : Int) := rfl
      have q1 := Nat.div_le_self b P
      have q2 := Nat.div_le_self t P
      generalize b / P = B at *
      generalize t / P = T at *
      have b1 := and511_64 B (by omega)
      have b2 := and511_64 T (by omega)
      have m1 : B % 512 < 512 := by omega
      have m2 : T % 512 < 512 := by omega
      generalize B % 512 = B' at *
      generalize T % 512 = T' at *
      by_cases hM0 : M = 0
      · subst hM0
        by_cases hsp : (t : Int) - (b : Int) ≤ 511 * (P : Int)
        · rw [if_pos (by rw [hok]; simp; omega)] at hx
          clear hok
          go_wp2
          exact bodyPost_ret (v := exV (k, B', T', 0)) (by simp [exV, results, Tryz.results170, go_sem]) rfl ⟨by rw [← hx.out], (Below.refl _ _).alloc (Nat.le_refl _) _⟩
        · rw [if_neg (by rw [hok]; simp; omega)] at hx
          clear hok
          go_wp2
          go_round
          case rel => exact ⟨k + 1, by omega, by go_num, hx⟩
          case measure => simp [intOf]; omega
      · rw [if_neg (by rw [hok]; simp; omega)] at hx
        clear hok
        have hM1 : ((M : Int) == 0) = false := by simp; omega
        go_wp2
        go_round
        case rel => exact ⟨k + 1, by omega, by go_num, hx⟩
        case measure => simp [intOf]; omega
    · have : k = 9 := by omega
      subst this
      go_wp2
      exact bodyPost_ret (v := exV (0, 0, 0, 5)) (by simp [exV, results, Tryz.results170, go_sem]) rfl ⟨by rw [← hx.out]; rfl, (Below.refl _ _).alloc (Nat.le_refl _) _⟩
theorem okR (b t P : Nat) (h : 1 ≤ P) : (b % P = 0 ∧ t % P = 0 ∧ t - b ≤ 511 * P) ↔ (b % P = 0 ∧ t % P = 0 ∧ (t - b) / P ≤ 511) := by
  refine and_congr_right fun h1 => and_congr_right fun h2 => ?_
  have hd : P ∣ t - b := Nat.dvd_sub (Nat.dvd_of_mod_eq_zero h2) (Nat.dvd_of_mod_eq_zero h1)
  obtain ⟨q, hq⟩ := hd
  rw [hq, Nat.mul_div_cancel_left _ (by omega), Nat.mul_comm 511 P]
  exact Nat.mul_le_mul_left_iff (by omega)
set_option maxHeartbeats 1000000 in
theorem c19 (b t : Nat) (hb : b < 18446744073709551616) (ht : t < 18446744073709551616) (w : World) :
    Calls Tryz.prog 79 #[.int .u64 (b : Int), .int .u64 (t : Int)] w fun en w' => en = .returned (exV (ex b t)) ∧ Below w.heap.size w w' := by
  by_cases g1 : t < b
  · have E : ex b t = (0, 0, 0, 2) := by unfold ex; rw [if_pos (Or.inl g1)]
    rw [E]
    go_enter Tryz.func79, Tryz.ntmps79
    go_wp2
    exact bodyPost_ret (v := exV (0, 0, 0, 2)) (by simp [exV, results, Tryz.results79, go_sem]) rfl ⟨rfl, (Below.refl _ _).alloc (Nat.le_refl _) _⟩
  by_cases g2 : 65536 < t
  · have E : ex b t = (0, 0, 0, 2) := by unfold ex; rw [if_pos (Or.inr g2)]
    rw [E]
    go_enter Tryz.func79, Tryz.ntmps79
    go_wp2
    exact bodyPost_ret (v := exV (0, 0, 0, 2)) (by simp [exV, results, Tryz.results79, go_sem]) rfl ⟨rfl, (Below.refl _ _).alloc (Nat.le_refl _) _⟩
  have E : ex b t = exL b t 9 := by unfold ex; rw [if_neg (by omega)]
  rw [E]
  clear E
  have g2' : decide ((65536 : Int) < (t : Int)) = false := by simp; omega
  go_enter Tryz.func79, Tryz.ntmps79
  go_wp2
  go_loop [6, 7] (fun v _ => ∃ k : Nat, k ≤ 9 ∧ v = .int .i64 k ∧ Hid (exL b t (9 - k) = exL b t 9)) (fun v _ => 9 - (intOf v).toNat)
  case atStart => exact ⟨0, by omega, rfl, rfl⟩
  case round =>
    obtain ⟨k, hk, rfl, hx⟩ := hrel
    by_cases hlt : k ≤ 8
    · have hs : exL b t (9 - k) = if ok b t k = true then (k, b / 2 ^ k % 512, t / 2 ^ k % 512, 0) else exL b t (9 - (k + 1)) := by
        rw [show 9 - k = (8 - k) + 1 by omega, exL, show 8 - (8 - k) = k by omega, show 9 - (k + 1) = 8 - k by omega]
      rw [hs] at hx
      clear hs
      have hok : ok b t k = true ↔ (b % 2 ^ k = 0 ∧ t % 2 ^ k = 0 ∧ (t - b) / 2 ^ k ≤ 511) := by unfold ok; rw [decide_eq_true_eq]; exact okR b t (2 ^ k) Nat.one_le_two_pow
      have p8 : (2 : Nat) ^ k ≤ 2 ^ 8 := Nat.pow_le_pow_right (by omega) hlt
      have p1 : 1 ≤ (2 : Nat) ^ k := Nat.one_le_two_pow
      have hP := c21 k (by omega)
      generalize (2 : Nat) ^ k = P at *
      have HP := Lib.hid hP
      clear hP
      have s0 : (t : Int) - (b : Int) = ((t - b : Nat) : Int) := by omega
      have d0 : (((t - b : Nat) : Int)) / (P : Int) = (((t - b) / P : Nat) : Int) := rfl
      have d1 : (b : Int) / (P : Int) = ((b / P : Nat) : Int) := rfl
      have d2 : (t : Int) / (P : Int) = ((t / P : Nat) : Int) := rfl
      have r1 : (b : Int) % (P : Int) = ((b % P : Nat) : Int) := rfl
      have r2 : (t : Int) % (P : Int) = ((t % P : Nat) : Int) := rfl
      have q1 := Nat.div_le_self b P
      have q2 := Nat.div_le_self t P
      have q3 := Nat.div_le_self (t - b) P
      generalize (t - b) / P = D at *
      generalize t - b = TB at *
      generalize b / P = B at *
      generalize t / P = T at *
      generalize b % P = rB at *
      generalize t % P = rT at *
      have b1 : (B : Int) % 512 = ((B % 512 : Nat) : Int) := rfl
      have b2 : (T : Int) % 512 = ((T % 512 : Nat) : Int) := rfl
      have m1 : B % 512 < 512 := by omega
      have m2 : T % 512 < 512 := by omega
      generalize B % 512 = B' at *
      generalize T % 512 = T' at *
      go_wp2_with fail
      refine (HP.out _).mono ?_
      rintro en w1 ⟨rfl, rfl⟩
      have nz : ((P : Int) == 0) = false := by simp; omega
      go_wp2
      · have h1 : rB = 0 := by omega
        have h2 : rT = 0 := by omega
        have h3 : D ≤ 511 := by omega
        rw [if_pos (by rw [hok]; omega)] at hx
        clear hok
        go_region
        all_goals
          go_wp2
          exact bodyPost_ret (v := exV (k, B', T', 0)) (by simp [exV, results, Tryz.results79, go_sem]) rfl ⟨by rw [← hx.out], ((Below.refl _ _).alloc (Nat.le_refl _) _).drew⟩
      all_goals
        rw [if_neg (by rw [hok]; omega)] at hx
        clear hok
        first | exact ⟨⟨k + 1, by omega, by go_num, hx⟩, by simp [intOf]; omega⟩ | (go_round; case rel => exact ⟨k + 1, by omega, by go_num, hx⟩; case measure => simp [intOf]; omega)
    · have : k = 9 := by omega
      subst this
      go_wp2
      exact bodyPost_ret (v := exV (0, 0, 0, 5)) (by simp [exV, results, Tryz.results79, go_sem]) rfl ⟨by rw [← hx.out]; rfl, (Below.refl _ _).alloc (Nat.le_refl _) _⟩
end Go.Proofs.YtnkoknfihhdelaaGreatDoor.Ca
