import Derived.Test.YtcbnnaigopoieaaB
namespace Go.Proofs.Ytcbnnaigopoieaa
open Go.ChangeShapes Go.WideShapes Go.ChangeAt Go.RowKit
set_option linter.unusedVariables false
set_option maxHeartbeats 2000000 in
theorem c6 (n : Int) (hb : -9223372036854775808 ≤ n ∧ n ≤ 9223372036854775807) (w : World) : Calls Try.prog 6 #[.int .i64 n] w fun en w' => en = .returned (rmV (rm n)) ∧ w = w' := by
  obtain ⟨hb1, hb2⟩ := hb
  by_cases g1 : n < 0
  · rw [rm_neg n g1]
    go_enter Try.func6, Try.ntmps6
    go_wp2_with fail
    go_loop [5, 6, 7] (fun e _ _ => e = .int .i64 3) (fun e _ _ => 0)
    case atStart => rfl
    case round =>
      subst hrel
      go_wp2
      exact bodyPost_ret (v := rmV (0, 0, false)) (by simp [rmV, results, Try.results6, go_sem]) rfl ⟨rfl, rfl⟩
  obtain ⟨n, rfl⟩ := Int.eq_ofNat_of_zero_le (show 0 ≤ n by omega)
  rw [rm_nat]
  generalize hG : rmL n 6 = G
  go_enter Try.func6, Try.ntmps6
  go_wp2_with fail
  go_loop [5, 6, 7] (fun e _ _ => ∃ k : Nat, 3 ≤ k ∧ k ≤ 9 ∧ e = .int .i64 (k : Int) ∧ Hid (rmL n (9 - k) = G)) (fun e _ _ => 9 - (intOf e).toNat)
  case atStart => exact ⟨3, by omega, by omega, rfl, hG⟩
  case round =>
    obtain ⟨k, hk3, hk, rfl, hx⟩ := hrel
    have hc : k = 3 ∨ k = 4 ∨ k = 5 ∨ k = 6 ∨ k = 7 ∨ k = 8 ∨ k = 9 := by omega
    rcases hc with rfl | rfl | rfl | rfl | rfl | rfl | rfl
    · have hs := rmL_step n 3 (by omega) (by omega)
      simp only [show (2 : Nat) ^ 3 = 8 from rfl] at hs
      rw [hs] at hx
      clear hs
      obtain ⟨q, r, d1, d2, hn, hr, hz⟩ := mid n 8 (by omega)
      simp only [show (((8 : Nat)) : Int) = 8 from rfl] at d1 d2
      rw [hz] at hx
      clear hz
      have hqb : q ≤ 9223372036854775807 := by omega
      have HN := Lib.hid hn
      clear hn
      by_cases h0 : r = 0
      · subst h0
        rw [if_pos rfl] at hx
        by_cases hle : q ≤ 511
        · rw [if_pos (by omega)] at hx
          go_wp2
          exact bodyPost_ret (v := rmV (3, 8 * q, true)) (by simp [rmV, results, Try.results6, go_sem]; omega) rfl ⟨by rw [← hx.out], rfl⟩
        · rw [if_neg (by omega)] at hx
          go_wp2
          go_round
          case rel => exact ⟨4, by omega, by omega, by go_num, hx⟩
          case measure => simp [intOf]
      · rw [if_neg h0] at hx
        have hr0 : 0 < r := by omega
        obtain ⟨q1, hq1⟩ : ∃ q1 : Nat, q1 = q + 1 := ⟨_, rfl⟩
        have e1 : (q : Int) + 1 = (q1 : Int) := by omega
        have hq2 : (q1 : Int) ≤ 9223372036854775807 := by have := HN.out; omega
        rw [show 8 * q + 8 = 8 * q1 by omega] at hx
        clear h0 hr HN
        by_cases hle : q1 ≤ 511
        · rw [if_pos (by omega)] at hx
          clear hq1
          go_wp2_with fail
          exact bodyPost_ret (v := rmV (3, 8 * q1, true)) (by simp [rmV, results, Try.results6, go_sem]; omega) rfl ⟨by rw [← hx.out], rfl⟩
        · rw [if_neg (by omega)] at hx
          clear hq1
          go_wp2_with fail
          go_round
          case rel => exact ⟨4, by omega, by omega, by go_num, hx⟩
          case measure => simp [intOf]
    · have hs := rmL_step n 4 (by omega) (by omega)
      simp only [show (2 : Nat) ^ 4 = 16 from rfl] at hs
      rw [hs] at hx
      clear hs
      obtain ⟨q, r, d1, d2, hn, hr, hz⟩ := mid n 16 (by omega)
      simp only [show (((16 : Nat)) : Int) = 16 from rfl] at d1 d2
      rw [hz] at hx
      clear hz
      have hqb : q ≤ 9223372036854775807 := by omega
      have HN := Lib.hid hn
      clear hn
      by_cases h0 : r = 0
      · subst h0
        rw [if_pos rfl] at hx
        by_cases hle : q ≤ 511
        · rw [if_pos (by omega)] at hx
          go_wp2
          exact bodyPost_ret (v := rmV (4, 16 * q, true)) (by simp [rmV, results, Try.results6, go_sem]; omega) rfl ⟨by rw [← hx.out], rfl⟩
        · rw [if_neg (by omega)] at hx
          go_wp2
          go_round
          case rel => exact ⟨5, by omega, by omega, by go_num, hx⟩
          case measure => simp [intOf]
      · rw [if_neg h0] at hx
        have hr0 : 0 < r := by omega
        obtain ⟨q1, hq1⟩ : ∃ q1 : Nat, q1 = q + 1 := ⟨_, rfl⟩
        have e1 : (q : Int) + 1 = (q1 : Int) := by omega
        have hq2 : (q1 : Int) ≤ 9223372036854775807 := by have := HN.out; omega
        rw [show 16 * q + 16 = 16 * q1 by omega] at hx
        clear h0 hr HN
        by_cases hle : q1 ≤ 511
        · rw [if_pos (by omega)] at hx
          clear hq1
          go_wp2_with fail
          exact bodyPost_ret (v := rmV (4, 16 * q1, true)) (by simp [rmV, results, Try.results6, go_sem]; omega) rfl ⟨by rw [← hx.out], rfl⟩
        · rw [if_neg (by omega)] at hx
          clear hq1
          go_wp2_with fail
          go_round
          case rel => exact ⟨5, by omega, by omega, by go_num, hx⟩
          case measure => simp [intOf]
    · have hs := rmL_step n 5 (by omega) (by omega)
      simp only [show (2 : Nat) ^ 5 = 32 from rfl] at hs
      rw [hs] at hx
      clear hs
      obtain ⟨q, r, d1, d2, hn, hr, hz⟩ := mid n 32 (by omega)
      simp only [show (((32 : Nat)) : Int) = 32 from rfl] at d1 d2
      rw [hz] at hx
      clear hz
      have hqb : q ≤ 9223372036854775807 := by omega
      have HN := Lib.hid hn
      clear hn
      by_cases h0 : r = 0
      · subst h0
        rw [if_pos rfl] at hx
        by_cases hle : q ≤ 511
        · rw [if_pos (by omega)] at hx
          go_wp2
          exact bodyPost_ret (v := rmV (5, 32 * q, true)) (by simp [rmV, results, Try.results6, go_sem]; omega) rfl ⟨by rw [← hx.out], rfl⟩
        · rw [if_neg (by omega)] at hx
          go_wp2
          go_round
          case rel => exact ⟨6, by omega, by omega, by go_num, hx⟩
          case measure => simp [intOf]
      · rw [if_neg h0] at hx
        have hr0 : 0 < r := by omega
        obtain ⟨q1, hq1⟩ : ∃ q1 : Nat, q1 = q + 1 := ⟨_, rfl⟩
        have e1 : (q : Int) + 1 = (q1 : Int) := by omega
        have hq2 : (q1 : Int) ≤ 9223372036854775807 := by have := HN.out; omega
        rw [show 32 * q + 32 = 32 * q1 by omega] at hx
        clear h0 hr HN
        by_cases hle : q1 ≤ 511
        · rw [if_pos (by omega)] at hx
          clear hq1
          go_wp2_with fail
          exact bodyPost_ret (v := rmV (5, 32 * q1, true)) (by simp [rmV, results, Try.results6, go_sem]; omega) rfl ⟨by rw [← hx.out], rfl⟩
        · rw [if_neg (by omega)] at hx
          clear hq1
          go_wp2_with fail
          go_round
          case rel => exact ⟨6, by omega, by omega, by go_num, hx⟩
          case measure => simp [intOf]
    · have hs := rmL_step n 6 (by omega) (by omega)
      simp only [show (2 : Nat) ^ 6 = 64 from rfl] at hs
      rw [hs] at hx
      clear hs
      obtain ⟨q, r, d1, d2, hn, hr, hz⟩ := mid n 64 (by omega)
      simp only [show (((64 : Nat)) : Int) = 64 from rfl] at d1 d2
      rw [hz] at hx
      clear hz
      have hqb : q ≤ 9223372036854775807 := by omega
      have HN := Lib.hid hn
      clear hn
      by_cases h0 : r = 0
      · subst h0
        rw [if_pos rfl] at hx
        by_cases hle : q ≤ 511
        · rw [if_pos (by omega)] at hx
          go_wp2
          exact bodyPost_ret (v := rmV (6, 64 * q, true)) (by simp [rmV, results, Try.results6, go_sem]; omega) rfl ⟨by rw [← hx.out], rfl⟩
        · rw [if_neg (by omega)] at hx
          go_wp2
          go_round
          case rel => exact ⟨7, by omega, by omega, by go_num, hx⟩
          case measure => simp [intOf]
      · rw [if_neg h0] at hx
        have hr0 : 0 < r := by omega
        obtain ⟨q1, hq1⟩ : ∃ q1 : Nat, q1 = q + 1 := ⟨_, rfl⟩
        have e1 : (q : Int) + 1 = (q1 : Int) := by omega
        have hq2 : (q1 : Int) ≤ 9223372036854775807 := by have := HN.out; omega
        rw [show 64 * q + 64 = 64 * q1 by omega] at hx
        clear h0 hr HN
        by_cases hle : q1 ≤ 511
        · rw [if_pos (by omega)] at hx
          clear hq1
          go_wp2_with fail
          exact bodyPost_ret (v := rmV (6, 64 * q1, true)) (by simp [rmV, results, Try.results6, go_sem]; omega) rfl ⟨by rw [← hx.out], rfl⟩
        · rw [if_neg (by omega)] at hx
          clear hq1
          go_wp2_with fail
          go_round
          case rel => exact ⟨7, by omega, by omega, by go_num, hx⟩
          case measure => simp [intOf]
    · have hs := rmL_step n 7 (by omega) (by omega)
      simp only [show (2 : Nat) ^ 7 = 128 from rfl] at hs
      rw [hs] at hx
      clear hs
      obtain ⟨q, r, d1, d2, hn, hr, hz⟩ := mid n 128 (by omega)
      simp only [show (((128 : Nat)) : Int) = 128 from rfl] at d1 d2
      rw [hz] at hx
      clear hz
      have hqb : q ≤ 9223372036854775807 := by omega
      have HN := Lib.hid hn
      clear hn
      by_cases h0 : r = 0
      · subst h0
        rw [if_pos rfl] at hx
        by_cases hle : q ≤ 511
        · rw [if_pos (by omega)] at hx
          go_wp2
          exact bodyPost_ret (v := rmV (7, 128 * q, true)) (by simp [rmV, results, Try.results6, go_sem]; omega) rfl ⟨by rw [← hx.out], rfl⟩
        · rw [if_neg (by omega)] at hx
          go_wp2
          go_round
          case rel => exact ⟨8, by omega, by omega, by go_num, hx⟩
          case measure => simp [intOf]
      · rw [if_neg h0] at hx
        have hr0 : 0 < r := by omega
        obtain ⟨q1, hq1⟩ : ∃ q1 : Nat, q1 = q + 1 := ⟨_, rfl⟩
        have e1 : (q : Int) + 1 = (q1 : Int) := by omega
        have hq2 : (q1 : Int) ≤ 9223372036854775807 := by have := HN.out; omega
        rw [show 128 * q + 128 = 128 * q1 by omega] at hx
        clear h0 hr HN
        by_cases hle : q1 ≤ 511
        · rw [if_pos (by omega)] at hx
          clear hq1
          go_wp2_with fail
          exact bodyPost_ret (v := rmV (7, 128 * q1, true)) (by simp [rmV, results, Try.results6, go_sem]; omega) rfl ⟨by rw [← hx.out], rfl⟩
        · rw [if_neg (by omega)] at hx
          clear hq1
          go_wp2_with fail
          go_round
          case rel => exact ⟨8, by omega, by omega, by go_num, hx⟩
          case measure => simp [intOf]
    · have hs := rmL_step n 8 (by omega) (by omega)
      simp only [show (2 : Nat) ^ 8 = 256 from rfl] at hs
      rw [hs] at hx
      clear hs
      obtain ⟨q, r, d1, d2, hn, hr, hz⟩ := mid n 256 (by omega)
      simp only [show (((256 : Nat)) : Int) = 256 from rfl] at d1 d2
      rw [hz] at hx
      clear hz
      have hqb : q ≤ 9223372036854775807 := by omega
      have HN := Lib.hid hn
      clear hn
      by_cases h0 : r = 0
      · subst h0
        rw [if_pos rfl] at hx
        by_cases hle : q ≤ 511
        · rw [if_pos (by omega)] at hx
          go_wp2
          exact bodyPost_ret (v := rmV (8, 256 * q, true)) (by simp [rmV, results, Try.results6, go_sem]; omega) rfl ⟨by rw [← hx.out], rfl⟩
        · rw [if_neg (by omega)] at hx
          go_wp2
          go_round
          case rel => exact ⟨9, by omega, by omega, by go_num, hx⟩
          case measure => simp [intOf]
      · rw [if_neg h0] at hx
        have hr0 : 0 < r := by omega
        obtain ⟨q1, hq1⟩ : ∃ q1 : Nat, q1 = q + 1 := ⟨_, rfl⟩
        have e1 : (q : Int) + 1 = (q1 : Int) := by omega
        have hq2 : (q1 : Int) ≤ 9223372036854775807 := by have := HN.out; omega
        rw [show 256 * q + 256 = 256 * q1 by omega] at hx
        clear h0 hr HN
        by_cases hle : q1 ≤ 511
        · rw [if_pos (by omega)] at hx
          clear hq1
          go_wp2_with fail
          exact bodyPost_ret (v := rmV (8, 256 * q1, true)) (by simp [rmV, results, Try.results6, go_sem]; omega) rfl ⟨by rw [← hx.out], rfl⟩
        · rw [if_neg (by omega)] at hx
          clear hq1
          go_wp2_with fail
          go_round
          case rel => exact ⟨9, by omega, by omega, by go_num, hx⟩
          case measure => simp [intOf]
    · go_wp2
      exact bodyPost_ret (v := rmV (0, 0, false)) (by simp [rmV, results, Try.results6, go_sem]) rfl ⟨by rw [← hx.out]; rfl, rfl⟩
end Go.Proofs.Ytcbnnaigopoieaa
