import Derived.Test.YtcbnnaigopoieaaI
namespace Go.Proofs.Ytcbnnaigopoieaa
open Go.ChangeShapes Go.WideShapes Go.ChangeAt Go.RowKit
set_option linter.unusedVariables false
theorem law4o (n t : Int) (al : Nat) (hn : inI n) (ht : inI t) (ha : al < 256) (h : t < 0 ∨ 65280 < t ∨ n < 0 ∨ 70000 < n) (w : World) : Calls Try.prog 4 #[.int .i64 n, .int .i64 t, .int .u8 (al : Int)] w fun en w' => en = .returned (.bool true) ∧ Below w.heap.size w w' := by
  obtain ⟨hn1, hn2⟩ := hn
  obtain ⟨ht1, ht2⟩ := ht
  have hm : (al : Int) % 9 = ((al % 9 : Nat) : Int) := rfl
  have hmb : al % 9 ≤ 8 := by omega
  have hP : (2 : Int) ^ (al % 9) = ((2 ^ (al % 9) : Nat) : Int) := by simp
  have p3 : (2 : Nat) ^ (al % 9) ≤ 2 ^ 8 := Nat.pow_le_pow_right (by omega) hmb
  generalize (2 : Nat) ^ (al % 9) = A at *
  generalize al % 9 = m at *
  have W := Lib.hid works
  rcases h with h | h | h | h
  · go_enter Try.func4, Try.ntmps4
    go_wp2_with (go_at_call 9; refine (W.out _).mono ?_; rintro _ w1 ⟨rfl, hb⟩)
    go_ret
    exact ⟨rfl, hb⟩
  · have h2 : decide (t < 0) = false := by simp; omega
    go_enter Try.func4, Try.ntmps4
    go_wp2_with (go_at_call 9; refine (W.out _).mono ?_; rintro _ w1 ⟨rfl, hb⟩)
    go_ret
    exact ⟨rfl, hb⟩
  · go_enter Try.func4, Try.ntmps4
    go_wp2_with (go_at_call 9; refine (W.out _).mono ?_; rintro _ w1 ⟨rfl, hb⟩)
    all_goals
      go_ret
      exact ⟨rfl, hb⟩
  · go_enter Try.func4, Try.ntmps4
    go_wp2_with (go_at_call 9; refine (W.out _).mono ?_; rintro _ w1 ⟨rfl, hb⟩)
    all_goals
      go_ret
      exact ⟨rfl, hb⟩
set_option maxHeartbeats 2000000 in
theorem law4i (n t al : Nat) (hn : n ≤ 70000) (ht : t ≤ 65280) (ha : al < 256) (w : World) : Calls Try.prog 4 #[.int .i64 (n : Int), .int .i64 (t : Int), .int .u8 (al : Int)] w fun en w' => en = .returned (.bool true) ∧ Below w.heap.size w w' := by
  have hm : (al : Int) % 9 = ((al % 9 : Nat) : Int) := rfl
  obtain ⟨k, s, E, A, u, F, hE, hA, k3, k8, e8, e256, a1, a256, hs1, hs2, hrm, hu, hF1, hF2, hFu, hFf, hnx, hex⟩ := nums n t (al % 9) hn ht (by omega)
  have kn := c7 (t : Int) (n : Int) (A : Int) (by unfold inI; omega) (by unfold inI; omega) (by unfold inI; omega)
  have kr := c5 (n : Int) (by omega)
  rw [hrm] at kr
  rw [hnx] at kn
  simp only [rmV] at kr
  have hP : (2 : Int) ^ (al % 9) = (A : Int) := by rw [hA]; simp
  have hQ : (2 : Int) ^ k = (E : Int) := by rw [hE]; simp
  have hmb : al % 9 ≤ 8 := by omega
  clear hrm hnx hA hE
  generalize al % 9 = m at *
  have W := Lib.hid works
  have KR := Lib.hid kr
  have Fu := Lib.hid hFu
  have Ff := Lib.hid hFf
  clear kr hFu hFf
  by_cases hfit : 65280 < F + s
  · rw [if_pos hfit] at kn
    simp only [nxV] at kn
    have KN := Lib.hid kn
    clear kn hex
    rcases hu with ⟨hu1, hu2⟩ | ⟨hu1, hu2⟩
    · go_enter Try.func4, Try.ntmps4
      subst hu2
      go_wp2_with (first | (go_at_call 7; refine (KN.out _).mono ?_; rintro _ _ ⟨rfl, rfl⟩) | (go_at_call 5; refine (KR.out _).mono ?_; rintro _ _ ⟨rfl, rfl⟩))
      go_loop [15] (fun v => ∃ j : Nat, t ≤ j ∧ j ≤ F ∧ v = .int .i64 (j : Int)) (fun v => F + 1 - (intOf v).toNat)
      case atStart => exact ⟨t, by omega, by omega, rfl⟩
      case round =>
        obtain ⟨j, hj1, hj2, rfl⟩ := hrel
        by_cases hjs : j + s ≤ 65280
        · have hr0 := Ff.out j hj1 (by omega)
          have hr : (j : Int) % (u : Int) = ((j % u : Nat) : Int) := rfl
          generalize j % u = r at *
          have nz : ((u : Int) == 0) = false := by simp; omega
          have rz : ((r : Int) == 0) = false := by simp; omega
          have HR0 := Lib.hid hr0
          clear hr0
          go_wp2_with fail
          go_round
          case rel => exact ⟨j + 1, by omega, by omega, by go_num⟩
          case measure => simp [intOf]; omega
        · go_wp2_with (go_at_call 9; refine (W.out _).mono ?_; rintro _ w1 ⟨rfl, hb⟩)
          go_ret
          exact ⟨rfl, hb⟩
    · go_enter Try.func4, Try.ntmps4
      subst hu2
      go_wp2_with (first | (go_at_call 7; refine (KN.out _).mono ?_; rintro _ _ ⟨rfl, rfl⟩) | (go_at_call 5; refine (KR.out _).mono ?_; rintro _ _ ⟨rfl, rfl⟩))
      go_loop [15] (fun v => ∃ j : Nat, t ≤ j ∧ j ≤ F ∧ v = .int .i64 (j : Int)) (fun v => F + 1 - (intOf v).toNat)
      case atStart => exact ⟨t, by omega, by omega, rfl⟩
      case round =>
        obtain ⟨j, hj1, hj2, rfl⟩ := hrel
        by_cases hjs : j + s ≤ 65280
        · have hr0 := Ff.out j hj1 (by omega)
          have hr : (j : Int) % (u : Int) = ((j % u : Nat) : Int) := rfl
          generalize j % u = r at *
          have nz : ((u : Int) == 0) = false := by simp; omega
          have rz : ((r : Int) == 0) = false := by simp; omega
          have HR0 := Lib.hid hr0
          clear hr0
          go_wp2_with fail
          go_round
          case rel => exact ⟨j + 1, by omega, by omega, by go_num⟩
          case measure => simp [intOf]; omega
        · go_wp2_with (go_at_call 9; refine (W.out _).mono ?_; rintro _ w1 ⟨rfl, hb⟩)
          go_ret
          exact ⟨rfl, hb⟩
  · rw [if_neg hfit] at kn
    simp only [nxV] at kn
    obtain ⟨x, y, z, hx, hy, hz, hxe⟩ := hex (by omega)
    have ke := c10 F (F + s) (by omega) (by omega)
    rw [hxe] at ke
    simp only [exV, Int.natCast_add] at ke
    have KE := Lib.hid ke
    have KN := Lib.hid kn
    clear kn hex hxe ke
    rcases hu with ⟨hu1, hu2⟩ | ⟨hu1, hu2⟩
    · go_enter Try.func4, Try.ntmps4
      subst hu2
      go_wp2_with (first | (go_at_call 7; refine (KN.out _).mono ?_; rintro _ _ ⟨rfl, rfl⟩) | (go_at_call 5; refine (KR.out _).mono ?_; rintro _ _ ⟨rfl, rfl⟩))
      go_loop [15] (fun v => ∃ j : Nat, t ≤ j ∧ j ≤ F ∧ v = .int .i64 (j : Int)) (fun v => F + 1 - (intOf v).toNat)
      case atStart => exact ⟨t, by omega, by omega, rfl⟩
      case round =>
        obtain ⟨j, hj1, hj2, rfl⟩ := hrel
        have nz : ((u : Int) == 0) = false := by simp; omega
        by_cases hjF : j < F
        · have hr0 := Ff.out j hj1 hjF
          have hr : (j : Int) % (u : Int) = ((j % u : Nat) : Int) := rfl
          generalize j % u = r at *
          have rz : ((r : Int) == 0) = false := by simp; omega
          have HR0 := Lib.hid hr0
          clear hr0
          go_wp2_with fail
          go_round
          case rel => exact ⟨j + 1, by omega, by omega, by go_num⟩
          case measure => simp [intOf]; omega
        · obtain rfl : F = j := by omega
          have hr : (F : Int) % (u : Int) = 0 := by have := Fu.out; omega
          go_wp2_with fail
          refine (KE.out _).mono ?_
          rintro _ w1 ⟨rfl, hb1⟩
          go_wp2_with (go_at_call 9; refine (W.out _).mono ?_; rintro _ w2 ⟨rfl, hb2⟩)
          go_ret
          refine ⟨rfl, ?_⟩
          exact (hb1.alloc hb1.size _).trans (hb2.mono (hb1.alloc hb1.size _).size)
    · go_enter Try.func4, Try.ntmps4
      subst hu2
      go_wp2_with (first | (go_at_call 7; refine (KN.out _).mono ?_; rintro _ _ ⟨rfl, rfl⟩) | (go_at_call 5; refine (KR.out _).mono ?_; rintro _ _ ⟨rfl, rfl⟩))
      go_loop [15] (fun v => ∃ j : Nat, t ≤ j ∧ j ≤ F ∧ v = .int .i64 (j : Int)) (fun v => F + 1 - (intOf v).toNat)
      case atStart => exact ⟨t, by omega, by omega, rfl⟩
      case round =>
        obtain ⟨j, hj1, hj2, rfl⟩ := hrel
        have nz : ((u : Int) == 0) = false := by simp; omega
        by_cases hjF : j < F
        · have hr0 := Ff.out j hj1 hjF
          have hr : (j : Int) % (u : Int) = ((j % u : Nat) : Int) := rfl
          generalize j % u = r at *
          have rz : ((r : Int) == 0) = false := by simp; omega
          have HR0 := Lib.hid hr0
          clear hr0
          go_wp2_with fail
          go_round
          case rel => exact ⟨j + 1, by omega, by omega, by go_num⟩
          case measure => simp [intOf]; omega
        · obtain rfl : F = j := by omega
          have hr : (F : Int) % (u : Int) = 0 := by have := Fu.out; omega
          go_wp2_with fail
          refine (KE.out _).mono ?_
          rintro _ w1 ⟨rfl, hb1⟩
          go_wp2_with (go_at_call 9; refine (W.out _).mono ?_; rintro _ w2 ⟨rfl, hb2⟩)
          go_ret
          refine ⟨rfl, ?_⟩
          exact (hb1.alloc hb1.size _).trans (hb2.mono (hb1.alloc hb1.size _).size)
end Go.Proofs.Ytcbnnaigopoieaa
namespace Go.Proofs.Ytcbnnaigopoieaa
open Go.ChangeShapes Go.WideShapes Go.ChangeAt Go.RowKit
theorem law4 (n t : Int) (al : Nat) (hn : inI n) (ht : inI t) (ha : al < 256) (w : World) : Calls Try.prog 4 #[.int .i64 n, .int .i64 t, .int .u8 (al : Int)] w fun en w' => en = .returned (.bool true) ∧ Below w.heap.size w w' := by
  by_cases h : t < 0 ∨ 65280 < t ∨ n < 0 ∨ 70000 < n
  · exact law4o n t al hn ht ha h w
  · obtain ⟨n, rfl⟩ := Int.eq_ofNat_of_zero_le (show 0 ≤ n by omega)
    obtain ⟨t, rfl⟩ := Int.eq_ofNat_of_zero_le (show 0 ≤ t by omega)
    exact law4i n t al (by omega) (by omega) ha w
end Go.Proofs.Ytcbnnaigopoieaa
