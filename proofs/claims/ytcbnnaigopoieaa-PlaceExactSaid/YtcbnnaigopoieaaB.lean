import Derived.Test.YtcbnnaigopoieaaA
namespace Go.Proofs.Ytcbnnaigopoieaa
open Go.ChangeShapes Go.WideShapes Go.ChangeAt Go.RowKit
set_option linter.unusedVariables false
def rm (n : Int) : Nat × Nat × Bool := if n < 0 then (0, 0, false) else rmL n.toNat 6
def rmV (r : Nat × Nat × Bool) : Value := .tuple #[.int .u8 (r.1 : Int), .int .i64 (r.2.1 : Int), .bool r.2.2]
theorem rm_nat (n : Nat) : rm (n : Int) = rmL n 6 := by
  unfold rm
  rw [if_neg (by omega)]
  rfl
theorem rm_neg (n : Int) (h : n < 0) : rm n = (0, 0, false) := by unfold rm; rw [if_pos h]
theorem mid (n P : Nat) (h : 1 ≤ P) : ∃ q r : Nat, (n : Int).tdiv (P : Int) = (q : Int) ∧ (n : Int).tmod (P : Int) = (r : Int) ∧ n = P * q + r ∧ r < P ∧ sz n P = if r = 0 then P * q else P * q + P := by
  refine ⟨n / P, n % P, ?_, ?_, (Nat.div_add_mod n P).symm, Nat.mod_lt _ (by omega), ?_⟩
  · rw [Int.tdiv_eq_ediv_of_nonneg (by omega)]; rfl
  · rw [Int.tmod_eq_emod_of_nonneg (by omega)]; rfl
  · rw [sz_mod n P h]
    have h1 := Nat.div_add_mod n P
    have h2 := Nat.mod_lt n (show 0 < P by omega)
    generalize P * (n / P) = m at *
    split <;> omega
set_option maxHeartbeats 2000000 in
theorem c5 (n : Int) (hb : -9223372036854775808 ≤ n ∧ n ≤ 9223372036854775807) (w : World) : Calls Try.prog 5 #[.int .i64 n] w fun en w' => en = .returned (rmV (rm n)) ∧ w = w' := by
  obtain ⟨hb1, hb2⟩ := hb
  by_cases g1 : n < 0
  · rw [rm_neg n g1]
    go_enter Try.func5, Try.ntmps5
    go_wp2
    exact bodyPost_ret (v := rmV (0, 0, false)) (by simp [rmV, results, Try.results5, go_sem]) rfl ⟨rfl, rfl⟩
  obtain ⟨n, rfl⟩ := Int.eq_ofNat_of_zero_le (show 0 ≤ n by omega)
  rw [rm_nat]
  by_cases g2 : 130816 < n
  · rw [rmL_far n g2 6 (by omega)]
    have t2 : decide ((130816 : Int) < (n : Int)) = true := by simp; omega
    go_enter Try.func5, Try.ntmps5
    go_wp2
    exact bodyPost_ret (v := rmV (0, 0, false)) (by simp [rmV, results, Try.results5, go_sem]) rfl ⟨rfl, rfl⟩
  generalize hG : rmL n 6 = G
  have t1 : decide ((n : Int) < 0) = false := by simp
  have t2 : decide ((130816 : Int) < (n : Int)) = false := by simp; omega
  go_enter Try.func5, Try.ntmps5
  go_wp2_with fail
  go_loop [2, 3] (fun e s => ∃ k : Nat, 3 ≤ k ∧ k ≤ 9 ∧ e = .int .u8 (k : Int) ∧ (∃ t : Int, s = .int .i64 t) ∧ Hid (rmL n (9 - k) = G)) (fun e _ => 9 - (intOf e).toNat)
  case atStart => exact ⟨3, by omega, by omega, rfl, ⟨_, rfl⟩, hG⟩
  case round =>
    obtain ⟨k, hk3, hk, rfl, ⟨t, rfl⟩, hx⟩ := hrel
    have hc : k = 3 ∨ k = 4 ∨ k = 5 ∨ k = 6 ∨ k = 7 ∨ k = 8 ∨ k = 9 := by omega
    rcases hc with rfl | rfl | rfl | rfl | rfl | rfl | rfl
    · have hs := rmL_step n 3 (by omega) (by omega)
      simp only [show (2 : Nat) ^ 3 = 8 from rfl] at hs
      have kc := c11 n 8 (by omega) (by omega) (by omega)
      rw [hs] at hx
      clear hs
      have sb : sz n 8 ≤ 1048576 := by unfold sz; omega
      generalize sz n 8 = s at *
      have KC := Lib.hid kc
      clear kc
      by_cases hle : s ≤ 4088
      · rw [if_pos (by omega)] at hx
        go_wp2_with (go_at_call 11; refine (KC.out _).mono ?_; rintro _ _ ⟨rfl, rfl⟩)
        exact bodyPost_ret (v := rmV (3, s, true)) (by simp [rmV, results, Try.results5, go_sem]) rfl ⟨by rw [← hx.out], rfl⟩
      · rw [if_neg (by omega)] at hx
        go_wp2_with (go_at_call 11; refine (KC.out _).mono ?_; rintro _ _ ⟨rfl, rfl⟩)
        go_round
        case rel => exact ⟨4, by omega, by omega, by go_num, ⟨_, rfl⟩, hx⟩
        case measure => simp [intOf]
    · have hs := rmL_step n 4 (by omega) (by omega)
      simp only [show (2 : Nat) ^ 4 = 16 from rfl] at hs
      have kc := c11 n 16 (by omega) (by omega) (by omega)
      rw [hs] at hx
      clear hs
      have sb : sz n 16 ≤ 1048576 := by unfold sz; omega
      generalize sz n 16 = s at *
      have KC := Lib.hid kc
      clear kc
      by_cases hle : s ≤ 8176
      · rw [if_pos (by omega)] at hx
        go_wp2_with (go_at_call 11; refine (KC.out _).mono ?_; rintro _ _ ⟨rfl, rfl⟩)
        exact bodyPost_ret (v := rmV (4, s, true)) (by simp [rmV, results, Try.results5, go_sem]) rfl ⟨by rw [← hx.out], rfl⟩
      · rw [if_neg (by omega)] at hx
        go_wp2_with (go_at_call 11; refine (KC.out _).mono ?_; rintro _ _ ⟨rfl, rfl⟩)
        go_round
        case rel => exact ⟨5, by omega, by omega, by go_num, ⟨_, rfl⟩, hx⟩
        case measure => simp [intOf]
    · have hs := rmL_step n 5 (by omega) (by omega)
      simp only [show (2 : Nat) ^ 5 = 32 from rfl] at hs
      have kc := c11 n 32 (by omega) (by omega) (by omega)
      rw [hs] at hx
      clear hs
      have sb : sz n 32 ≤ 1048576 := by unfold sz; omega
      generalize sz n 32 = s at *
      have KC := Lib.hid kc
      clear kc
      by_cases hle : s ≤ 16352
      · rw [if_pos (by omega)] at hx
        go_wp2_with (go_at_call 11; refine (KC.out _).mono ?_; rintro _ _ ⟨rfl, rfl⟩)
        exact bodyPost_ret (v := rmV (5, s, true)) (by simp [rmV, results, Try.results5, go_sem]) rfl ⟨by rw [← hx.out], rfl⟩
      · rw [if_neg (by omega)] at hx
        go_wp2_with (go_at_call 11; refine (KC.out _).mono ?_; rintro _ _ ⟨rfl, rfl⟩)
        go_round
        case rel => exact ⟨6, by omega, by omega, by go_num, ⟨_, rfl⟩, hx⟩
        case measure => simp [intOf]
    · have hs := rmL_step n 6 (by omega) (by omega)
      simp only [show (2 : Nat) ^ 6 = 64 from rfl] at hs
      have kc := c11 n 64 (by omega) (by omega) (by omega)
      rw [hs] at hx
      clear hs
      have sb : sz n 64 ≤ 1048576 := by unfold sz; omega
      generalize sz n 64 = s at *
      have KC := Lib.hid kc
      clear kc
      by_cases hle : s ≤ 32704
      · rw [if_pos (by omega)] at hx
        go_wp2_with (go_at_call 11; refine (KC.out _).mono ?_; rintro _ _ ⟨rfl, rfl⟩)
        exact bodyPost_ret (v := rmV (6, s, true)) (by simp [rmV, results, Try.results5, go_sem]) rfl ⟨by rw [← hx.out], rfl⟩
      · rw [if_neg (by omega)] at hx
        go_wp2_with (go_at_call 11; refine (KC.out _).mono ?_; rintro _ _ ⟨rfl, rfl⟩)
        go_round
        case rel => exact ⟨7, by omega, by omega, by go_num, ⟨_, rfl⟩, hx⟩
        case measure => simp [intOf]
    · have hs := rmL_step n 7 (by omega) (by omega)
      simp only [show (2 : Nat) ^ 7 = 128 from rfl] at hs
      have kc := c11 n 128 (by omega) (by omega) (by omega)
      rw [hs] at hx
      clear hs
      have sb : sz n 128 ≤ 1048576 := by unfold sz; omega
      generalize sz n 128 = s at *
      have KC := Lib.hid kc
      clear kc
      by_cases hle : s ≤ 65408
      · rw [if_pos (by omega)] at hx
        go_wp2_with (go_at_call 11; refine (KC.out _).mono ?_; rintro _ _ ⟨rfl, rfl⟩)
        exact bodyPost_ret (v := rmV (7, s, true)) (by simp [rmV, results, Try.results5, go_sem]) rfl ⟨by rw [← hx.out], rfl⟩
      · rw [if_neg (by omega)] at hx
        go_wp2_with (go_at_call 11; refine (KC.out _).mono ?_; rintro _ _ ⟨rfl, rfl⟩)
        go_round
        case rel => exact ⟨8, by omega, by omega, by go_num, ⟨_, rfl⟩, hx⟩
        case measure => simp [intOf]
    · have hs := rmL_step n 8 (by omega) (by omega)
      simp only [show (2 : Nat) ^ 8 = 256 from rfl] at hs
      have kc := c11 n 256 (by omega) (by omega) (by omega)
      rw [hs] at hx
      clear hs
      have sb : sz n 256 ≤ 1048576 := by unfold sz; omega
      generalize sz n 256 = s at *
      have KC := Lib.hid kc
      clear kc
      by_cases hle : s ≤ 130816
      · rw [if_pos (by omega)] at hx
        go_wp2_with (go_at_call 11; refine (KC.out _).mono ?_; rintro _ _ ⟨rfl, rfl⟩)
        exact bodyPost_ret (v := rmV (8, s, true)) (by simp [rmV, results, Try.results5, go_sem]) rfl ⟨by rw [← hx.out], rfl⟩
      · rw [if_neg (by omega)] at hx
        go_wp2_with (go_at_call 11; refine (KC.out _).mono ?_; rintro _ _ ⟨rfl, rfl⟩)
        go_round
        case rel => exact ⟨9, by omega, by omega, by go_num, ⟨_, rfl⟩, hx⟩
        case measure => simp [intOf]
    · go_wp2
      exact bodyPost_ret (v := rmV (0, 0, false)) (by simp [rmV, results, Try.results5, go_sem]) rfl ⟨by rw [← hx.out]; rfl, rfl⟩
end Go.Proofs.Ytcbnnaigopoieaa
