import Derived.Test.YtcbnnaigopoieaaE
namespace Go.Proofs.Ytcbnnaigopoieaa
open Go.ChangeShapes Go.WideShapes Go.ChangeAt Go.RowKit
set_option linter.unusedVariables false
set_option maxHeartbeats 4000000 in
theorem c8 (t n al : Int) (ht : inI t) (hn : inI n) (ha : inI al) (w : World) : Calls Try.prog 8 #[.int .i64 t, .int .i64 n, .int .i64 al] w fun en w' => en = .returned (nxV (nx t n al)) ∧ w = w' := by
  have kr := c6 n hn
  have ka := c13 al ha
  obtain ⟨ht1, ht2⟩ := ht
  obtain ⟨ha1, ha2⟩ := ha
  clear hn
  rcases rm_b n with h | ⟨k, s, h3, h8, hs, h⟩
  · have E : nx t n al = (0, 0, false) := by unfold nx; rw [if_pos (Or.inl (by rw [h]))]
    rw [E]
    rw [h] at kr
    simp only [rmV] at kr
    clear E h
    generalize (decide (0 < al) && pw al.toNat) = B at *
    have KR := Lib.hid kr
    have KA := Lib.hid ka
    clear kr ka
    go_enter Try.func8, Try.ntmps8
    go_wp2_with (first | (go_at_call 6; refine (KR.out _).mono ?_; rintro _ _ ⟨rfl, rfl⟩) | (go_at_call 13; refine (KA.out _).mono ?_; rintro _ _ ⟨rfl, rfl⟩))
    all_goals exact bodyPost_ret (v := nxV (0, 0, false)) (by simp [nxV, results, Try.results8, go_sem]) rfl ⟨rfl, rfl⟩
  · obtain ⟨B, hB⟩ : ∃ B, (decide (0 < al) && pw al.toNat) = B := ⟨_, rfl⟩
    rw [hB] at ka
    rw [h] at kr
    simp only [rmV] at kr
    have KR := Lib.hid kr
    have KA := Lib.hid ka
    clear kr ka
    by_cases hz : B = false ∨ t < 0 ∨ 65280 < t
    · have E : nx t n al = (0, 0, false) := by unfold nx; rw [hB, if_pos (Or.inr hz)]
      rw [E]
      clear E h hB
      rcases hz with rfl | hz | hz
      · go_enter Try.func8, Try.ntmps8
        go_wp2_with (first | (go_at_call 6; refine (KR.out _).mono ?_; rintro _ _ ⟨rfl, rfl⟩) | (go_at_call 13; refine (KA.out _).mono ?_; rintro _ _ ⟨rfl, rfl⟩))
        all_goals exact bodyPost_ret (v := nxV (0, 0, false)) (by simp [nxV, results, Try.results8, go_sem]) rfl ⟨rfl, rfl⟩
      · cases B
        all_goals
          go_enter Try.func8, Try.ntmps8
          go_wp2_with (first | (go_at_call 6; refine (KR.out _).mono ?_; rintro _ _ ⟨rfl, rfl⟩) | (go_at_call 13; refine (KA.out _).mono ?_; rintro _ _ ⟨rfl, rfl⟩))
          all_goals exact bodyPost_ret (v := nxV (0, 0, false)) (by simp [nxV, results, Try.results8, go_sem]) rfl ⟨rfl, rfl⟩
      · cases B
        all_goals
          go_enter Try.func8, Try.ntmps8
          go_wp2_with (first | (go_at_call 6; refine (KR.out _).mono ?_; rintro _ _ ⟨rfl, rfl⟩) | (go_at_call 13; refine (KA.out _).mono ?_; rintro _ _ ⟨rfl, rfl⟩))
          all_goals exact bodyPost_ret (v := nxV (0, 0, false)) (by simp [nxV, results, Try.results8, go_sem]) rfl ⟨rfl, rfl⟩
    · obtain rfl : B = true := by cases B <;> simp_all
      have hp : pw al.toNat = true := by rw [Bool.and_eq_true] at hB; exact hB.2
      have h0 : 0 < al := by rw [Bool.and_eq_true] at hB; simpa using hB.1
      obtain ⟨a, rfl⟩ := Int.eq_ofNat_of_zero_le (show 0 ≤ al by omega)
      obtain ⟨t, rfl⟩ := Int.eq_ofNat_of_zero_le (show 0 ≤ t by omega)
      rw [show ((a : Int)).toNat = a by omega] at hp
      obtain ⟨pa1, pa2⟩ := pw_le a hp
      have htt : t ≤ 65280 := by omega
      have E : nx (t : Int) n (a : Int) = if 65280 < sz t (max a (2 ^ k)) + s then (0, 0, false) else (sz t (max a (2 ^ k)), s, true) := by
        unfold nx
        rw [hB, h, if_neg (by rintro (h | h | h | h) <;> first | omega | simp at h)]
        rfl
      rw [E]
      clear E hB hp hz h
      have hc : k = 3 ∨ k = 4 ∨ k = 5 ∨ k = 6 ∨ k = 7 ∨ k = 8 := by omega
      rcases hc with rfl | rfl | rfl | rfl | rfl | rfl
      · simp only [show (2 : Nat) ^ 3 = 8 from rfl]
        have hm : ∃ u : Nat, max a 8 = u ∧ 8 ≤ u ∧ u ≤ 256 ∧ a ≤ u ∧ max (a : Int) 8 = (u : Int) ∧ (a ≤ 8 ∧ u = 8 ∨ 8 < a ∧ u = a) := ⟨max a 8, rfl, by omega, by omega, by omega, by omega, by omega⟩
        obtain ⟨u, hu, hu1, hu2, hu3, hu4, hu5⟩ := hm
        rw [hu]
        have ku := c14 t u (by omega) (by omega) hu2
        have hb1 := le_sz t u (by omega)
        have hb2 : sz t u ≤ t + u - 1 := Nat.div_mul_le_self _ _
        generalize sz t u = f at *
        have KU := Lib.hid ku
        clear ku hu
        rcases hu5 with ⟨hu5, rfl⟩ | ⟨hu5, rfl⟩
        all_goals
          by_cases hf : 65280 < f + s
          · rw [if_pos hf]
            go_enter Try.func8, Try.ntmps8
            go_wp2_with (first | (go_at_call 6; refine (KR.out _).mono ?_; rintro _ _ ⟨rfl, rfl⟩) | (go_at_call 13; refine (KA.out _).mono ?_; rintro _ _ ⟨rfl, rfl⟩) | (go_at_call 14; refine (KU.out _).mono ?_; rintro _ _ ⟨rfl, rfl⟩))
            all_goals exact bodyPost_ret (v := nxV (0, 0, false)) (by simp [nxV, results, Try.results8, go_sem]) rfl ⟨rfl, rfl⟩
          · rw [if_neg hf]
            go_enter Try.func8, Try.ntmps8
            go_wp2_with (first | (go_at_call 6; refine (KR.out _).mono ?_; rintro _ _ ⟨rfl, rfl⟩) | (go_at_call 13; refine (KA.out _).mono ?_; rintro _ _ ⟨rfl, rfl⟩) | (go_at_call 14; refine (KU.out _).mono ?_; rintro _ _ ⟨rfl, rfl⟩))
            all_goals exact bodyPost_ret (v := nxV (f, s, true)) (by simp [nxV, results, Try.results8, go_sem]) rfl ⟨rfl, rfl⟩
      · simp only [show (2 : Nat) ^ 4 = 16 from rfl]
        have hm : ∃ u : Nat, max a 16 = u ∧ 16 ≤ u ∧ u ≤ 256 ∧ a ≤ u ∧ max (a : Int) 16 = (u : Int) ∧ (a ≤ 16 ∧ u = 16 ∨ 16 < a ∧ u = a) := ⟨max a 16, rfl, by omega, by omega, by omega, by omega, by omega⟩
        obtain ⟨u, hu, hu1, hu2, hu3, hu4, hu5⟩ := hm
        rw [hu]
        have ku := c14 t u (by omega) (by omega) hu2
        have hb1 := le_sz t u (by omega)
        have hb2 : sz t u ≤ t + u - 1 := Nat.div_mul_le_self _ _
        generalize sz t u = f at *
        have KU := Lib.hid ku
        clear ku hu
        rcases hu5 with ⟨hu5, rfl⟩ | ⟨hu5, rfl⟩
        all_goals
          by_cases hf : 65280 < f + s
          · rw [if_pos hf]
            go_enter Try.func8, Try.ntmps8
            go_wp2_with (first | (go_at_call 6; refine (KR.out _).mono ?_; rintro _ _ ⟨rfl, rfl⟩) | (go_at_call 13; refine (KA.out _).mono ?_; rintro _ _ ⟨rfl, rfl⟩) | (go_at_call 14; refine (KU.out _).mono ?_; rintro _ _ ⟨rfl, rfl⟩))
            all_goals exact bodyPost_ret (v := nxV (0, 0, false)) (by simp [nxV, results, Try.results8, go_sem]) rfl ⟨rfl, rfl⟩
          · rw [if_neg hf]
            go_enter Try.func8, Try.ntmps8
            go_wp2_with (first | (go_at_call 6; refine (KR.out _).mono ?_; rintro _ _ ⟨rfl, rfl⟩) | (go_at_call 13; refine (KA.out _).mono ?_; rintro _ _ ⟨rfl, rfl⟩) | (go_at_call 14; refine (KU.out _).mono ?_; rintro _ _ ⟨rfl, rfl⟩))
            all_goals exact bodyPost_ret (v := nxV (f, s, true)) (by simp [nxV, results, Try.results8, go_sem]) rfl ⟨rfl, rfl⟩
      · simp only [show (2 : Nat) ^ 5 = 32 from rfl]
        have hm : ∃ u : Nat, max a 32 = u ∧ 32 ≤ u ∧ u ≤ 256 ∧ a ≤ u ∧ max (a : Int) 32 = (u : Int) ∧ (a ≤ 32 ∧ u = 32 ∨ 32 < a ∧ u = a) := ⟨max a 32, rfl, by omega, by omega, by omega, by omega, by omega⟩
        obtain ⟨u, hu, hu1, hu2, hu3, hu4, hu5⟩ := hm
        rw [hu]
        have ku := c14 t u (by omega) (by omega) hu2
        have hb1 := le_sz t u (by omega)
        have hb2 : sz t u ≤ t + u - 1 := Nat.div_mul_le_self _ _
        generalize sz t u = f at *
        have KU := Lib.hid ku
        clear ku hu
        rcases hu5 with ⟨hu5, rfl⟩ | ⟨hu5, rfl⟩
        all_goals
          by_cases hf : 65280 < f + s
          · rw [if_pos hf]
            go_enter Try.func8, Try.ntmps8
            go_wp2_with (first | (go_at_call 6; refine (KR.out _).mono ?_; rintro _ _ ⟨rfl, rfl⟩) | (go_at_call 13; refine (KA.out _).mono ?_; rintro _ _ ⟨rfl, rfl⟩) | (go_at_call 14; refine (KU.out _).mono ?_; rintro _ _ ⟨rfl, rfl⟩))
            all_goals exact bodyPost_ret (v := nxV (0, 0, false)) (by simp [nxV, results, Try.results8, go_sem]) rfl ⟨rfl, rfl⟩
          · rw [if_neg hf]
            go_enter Try.func8, Try.ntmps8
            go_wp2_with (first | (go_at_call 6; refine (KR.out _).mono ?_; rintro _ _ ⟨rfl, rfl⟩) | (go_at_call 13; refine (KA.out _).mono ?_; rintro _ _ ⟨rfl, rfl⟩) | (go_at_call 14; refine (KU.out _).mono ?_; rintro _ _ ⟨rfl, rfl⟩))
            all_goals exact bodyPost_ret (v := nxV (f, s, true)) (by simp [nxV, results, Try.results8, go_sem]) rfl ⟨rfl, rfl⟩
      · simp only [show (2 : Nat) ^ 6 = 64 from rfl]
        have hm : ∃ u : Nat, max a 64 = u ∧ 64 ≤ u ∧ u ≤ 256 ∧ a ≤ u ∧ max (a : Int) 64 = (u : Int) ∧ (a ≤ 64 ∧ u = 64 ∨ 64 < a ∧ u = a) := ⟨max a 64, rfl, by omega, by omega, by omega, by omega, by omega⟩
        obtain ⟨u, hu, hu1, hu2, hu3, hu4, hu5⟩ := hm
        rw [hu]
        have ku := c14 t u (by omega) (by omega) hu2
        have hb1 := le_sz t u (by omega)
        have hb2 : sz t u ≤ t + u - 1 := Nat.div_mul_le_self _ _
        generalize sz t u = f at *
        have KU := Lib.hid ku
        clear ku hu
        rcases hu5 with ⟨hu5, rfl⟩ | ⟨hu5, rfl⟩
        all_goals
          by_cases hf : 65280 < f + s
          · rw [if_pos hf]
            go_enter Try.func8, Try.ntmps8
            go_wp2_with (first | (go_at_call 6; refine (KR.out _).mono ?_; rintro _ _ ⟨rfl, rfl⟩) | (go_at_call 13; refine (KA.out _).mono ?_; rintro _ _ ⟨rfl, rfl⟩) | (go_at_call 14; refine (KU.out _).mono ?_; rintro _ _ ⟨rfl, rfl⟩))
            all_goals exact bodyPost_ret (v := nxV (0, 0, false)) (by simp [nxV, results, Try.results8, go_sem]) rfl ⟨rfl, rfl⟩
          · rw [if_neg hf]
            go_enter Try.func8, Try.ntmps8
            go_wp2_with (first | (go_at_call 6; refine (KR.out _).mono ?_; rintro _ _ ⟨rfl, rfl⟩) | (go_at_call 13; refine (KA.out _).mono ?_; rintro _ _ ⟨rfl, rfl⟩) | (go_at_call 14; refine (KU.out _).mono ?_; rintro _ _ ⟨rfl, rfl⟩))
            all_goals exact bodyPost_ret (v := nxV (f, s, true)) (by simp [nxV, results, Try.results8, go_sem]) rfl ⟨rfl, rfl⟩
      · simp only [show (2 : Nat) ^ 7 = 128 from rfl]
        have hm : ∃ u : Nat, max a 128 = u ∧ 128 ≤ u ∧ u ≤ 256 ∧ a ≤ u ∧ max (a : Int) 128 = (u : Int) ∧ (a ≤ 128 ∧ u = 128 ∨ 128 < a ∧ u = a) := ⟨max a 128, rfl, by omega, by omega, by omega, by omega, by omega⟩
        obtain ⟨u, hu, hu1, hu2, hu3, hu4, hu5⟩ := hm
        rw [hu]
        have ku := c14 t u (by omega) (by omega) hu2
        have hb1 := le_sz t u (by omega)
        have hb2 : sz t u ≤ t + u - 1 := Nat.div_mul_le_self _ _
        generalize sz t u = f at *
        have KU := Lib.hid ku
        clear ku hu
        rcases hu5 with ⟨hu5, rfl⟩ | ⟨hu5, rfl⟩
        all_goals
          by_cases hf : 65280 < f + s
          · rw [if_pos hf]
            go_enter Try.func8, Try.ntmps8
            go_wp2_with (first | (go_at_call 6; refine (KR.out _).mono ?_; rintro _ _ ⟨rfl, rfl⟩) | (go_at_call 13; refine (KA.out _).mono ?_; rintro _ _ ⟨rfl, rfl⟩) | (go_at_call 14; refine (KU.out _).mono ?_; rintro _ _ ⟨rfl, rfl⟩))
            all_goals exact bodyPost_ret (v := nxV (0, 0, false)) (by simp [nxV, results, Try.results8, go_sem]) rfl ⟨rfl, rfl⟩
          · rw [if_neg hf]
            go_enter Try.func8, Try.ntmps8
            go_wp2_with (first | (go_at_call 6; refine (KR.out _).mono ?_; rintro _ _ ⟨rfl, rfl⟩) | (go_at_call 13; refine (KA.out _).mono ?_; rintro _ _ ⟨rfl, rfl⟩) | (go_at_call 14; refine (KU.out _).mono ?_; rintro _ _ ⟨rfl, rfl⟩))
            all_goals exact bodyPost_ret (v := nxV (f, s, true)) (by simp [nxV, results, Try.results8, go_sem]) rfl ⟨rfl, rfl⟩
      · simp only [show (2 : Nat) ^ 8 = 256 from rfl]
        have hm : ∃ u : Nat, max a 256 = u ∧ 256 ≤ u ∧ u ≤ 256 ∧ a ≤ u ∧ max (a : Int) 256 = (u : Int) ∧ (a ≤ 256 ∧ u = 256 ∨ 256 < a ∧ u = a) := ⟨max a 256, rfl, by omega, by omega, by omega, by omega, by omega⟩
        obtain ⟨u, hu, hu1, hu2, hu3, hu4, hu5⟩ := hm
        rw [hu]
        have ku := c14 t u (by omega) (by omega) hu2
        have hb1 := le_sz t u (by omega)
        have hb2 : sz t u ≤ t + u - 1 := Nat.div_mul_le_self _ _
        generalize sz t u = f at *
        have KU := Lib.hid ku
        clear ku hu
        rcases hu5 with ⟨hu5, rfl⟩ | ⟨hu5, rfl⟩
        all_goals
          by_cases hf : 65280 < f + s
          · rw [if_pos hf]
            go_enter Try.func8, Try.ntmps8
            go_wp2_with (first | (go_at_call 6; refine (KR.out _).mono ?_; rintro _ _ ⟨rfl, rfl⟩) | (go_at_call 13; refine (KA.out _).mono ?_; rintro _ _ ⟨rfl, rfl⟩) | (go_at_call 14; refine (KU.out _).mono ?_; rintro _ _ ⟨rfl, rfl⟩))
            all_goals exact bodyPost_ret (v := nxV (0, 0, false)) (by simp [nxV, results, Try.results8, go_sem]) rfl ⟨rfl, rfl⟩
          · rw [if_neg hf]
            go_enter Try.func8, Try.ntmps8
            go_wp2_with (first | (go_at_call 6; refine (KR.out _).mono ?_; rintro _ _ ⟨rfl, rfl⟩) | (go_at_call 13; refine (KA.out _).mono ?_; rintro _ _ ⟨rfl, rfl⟩) | (go_at_call 14; refine (KU.out _).mono ?_; rintro _ _ ⟨rfl, rfl⟩))
            all_goals exact bodyPost_ret (v := nxV (f, s, true)) (by simp [nxV, results, Try.results8, go_sem]) rfl ⟨rfl, rfl⟩
end Go.Proofs.Ytcbnnaigopoieaa
