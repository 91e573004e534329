import Derived.Test.YtjcoidpajcichabD
namespace Go.Proofs.Ytjcoidpajcichab
open Go.ChangeShapes Go.WideShapes Go.ChangeAt Go.RowKit
set_option linter.unusedVariables false
set_option maxHeartbeats 2000000 in
theorem law7 (e b t a at' n f m : Nat) (he : e < 256) (hb : b < 65536) (ht : t < 65536) (ha : a < 4294967296) (h1 : at' < 18446744073709551616) (h2 : n < 18446744073709551616) (h3 : f < 18446744073709551616) (h4 : m < 18446744073709551616) (w : World) :
    Calls Try.prog 7 #[bnd e b t, .int .u32 (a : Int), .int .u64 (at' : Int), .int .u64 (n : Int), .int .u64 (f : Int), .int .u64 (m : Int)] w fun en w' => en = .returned (.bool true) ∧ Below w.heap.size w w' := by
  have k1 := c15 e b t a at' n he hb ht ha h1 h2
  by_cases g : wi (e % 16) (b % 512) (t % 512) a at' n = true
  · rw [g] at k1
    have g' := g
    unfold wi at g'
    obtain ⟨g1, g2, g3, g4⟩ := of_decide_eq_true g'
    clear g g'
    have hA := bs_lt (e % 16) (b % 512) a (by omega) (by omega) ha
    have hL := ln_le (e % 16) (b % 512) (t % 512) (by omega)
    have hx : f % (n + 1) < n + 1 := Nat.mod_lt _ (by omega)
    have hy : m % (n - f % (n + 1) + 1) < n - f % (n + 1) + 1 := Nat.mod_lt _ (by omega)
    have k2 := c9 e b t a he hb ht ha
    have k3 := c11 e b t he hb ht
    have k4 := c15 e b t a (at' + f % (n + 1)) (m % (n - f % (n + 1) + 1)) he hb ht ha (by omega) (by omega)
    have k5 := c15 e b t a at' (bs (e % 16) (b % 512) a + ln (e % 16) (b % 512) (t % 512) - at' + 1) he hb ht ha (by omega) (by omega)
    have e4 : wi (e % 16) (b % 512) (t % 512) a (at' + f % (n + 1)) (m % (n - f % (n + 1) + 1)) = true := by unfold wi; exact decide_eq_true (by omega)
    have e5 : wi (e % 16) (b % 512) (t % 512) a at' (bs (e % 16) (b % 512) a + ln (e % 16) (b % 512) (t % 512) - at' + 1) = false := by unfold wi; exact decide_eq_false (by omega)
    rw [e4] at k4
    rw [e5] at k5
    clear e4 e5
    generalize bs (e % 16) (b % 512) a = A at *
    generalize ln (e % 16) (b % 512) (t % 512) = L at *
    have r1 : (f : Int) % ((n : Int) + 1) = ((f % (n + 1) : Nat) : Int) := rfl
    have r1p : (0 : Int) < (n : Int) + 1 := by omega
    generalize f % (n + 1) = x at *
    have r2 : (n : Int) - (x : Int) + 1 = ((n - x + 1 : Nat) : Int) := by omega
    have r2p : 0 < n - x + 1 := by omega
    have r2q : n - x + 1 < 1100000000000 := by omega
    have r3 : (m : Int) % ((n - x + 1 : Nat) : Int) = ((m % (n - x + 1) : Nat) : Int) := rfl
    have r4 : (n : Int) - (x : Int) = ((n - x : Nat) : Int) := by omega
    have r5 : ((n - x : Nat) : Int) + 1 = ((n - x + 1 : Nat) : Int) := by omega
    generalize m % (n - x + 1) = y at *
    generalize n - x + 1 = N1 at *
    generalize n - x = N0 at *
    clear r2
    have q1 : ((at' + x : Nat) : Int) = (at' : Int) + (x : Int) := rfl
    have q2 : ((A + L - at' + 1 : Nat) : Int) = (A : Int) + (L : Int) - (at' : Int) + 1 := by omega
    rw [q1] at k4
    rw [q2] at k5
    clear q1 q2
    have K1 := Lib.hid k1
    have K2 := Lib.hid k2
    have K3 := Lib.hid k3
    have K4 := Lib.hid k4
    have K5 := Lib.hid k5
    clear k1 k2 k3 k4 k5
    go_enter Try.func7, Try.ntmps7
    go_wp2_with fail
    refine (K1.out _).mono ?_
    rintro en w1 ⟨rfl, b1⟩
    obtain ⟨hB1, hz1, p0, p1, p2⟩ := init3 b1
    clear b1
    go_wp2_with fail
    refine (K2.out _).mono ?_
    rintro en w2 ⟨rfl, b2⟩
    obtain ⟨hB2, hz2, q0, q1, q2⟩ := keep3 ⟨hB1, hz1, p0, p1, p2⟩ b2
    clear b2
    go_wp2_with fail
    refine (K3.out _).mono ?_
    rintro en w3 ⟨rfl, b3⟩
    obtain ⟨hB3, hz3, s0, s1, s2⟩ := keep3 ⟨hB2, hz2, q0, q1, q2⟩ b3
    clear b3
    go_wp2_with fail
    refine (K4.out _).mono ?_
    rintro en w4 ⟨rfl, b4⟩
    obtain ⟨hB4, hz4, t0, t1, t2⟩ := keep3 ⟨hB3, hz3, s0, s1, s2⟩ b4
    clear b4
    go_wp2_with fail
    refine (K5.out _).mono ?_
    rintro en w5 ⟨rfl, b5⟩
    have hB5 := hB4.trans (b5.mono hB4.size)
    clear b5
    go_wp2_with fail
    refine (c17 _).mono ?_
    rintro en w6 ⟨rfl, b6⟩
    have hB6 := hB5.trans (b6.mono hB5.size)
    go_wp2_with fail
    go_ret
    exact ⟨rfl, hB6⟩
  · rw [Bool.eq_false_iff.2 g] at k1
    have K1 := Lib.hid k1
    clear k1 g
    go_enter Try.func7, Try.ntmps7
    go_wp2_with fail
    refine (K1.out _).mono ?_
    rintro en w1 ⟨rfl, b1⟩
    obtain ⟨hB1, hz1, p0, p1, p2⟩ := init3 b1
    clear b1
    go_wp2_with fail
    refine (c17 _).mono ?_
    rintro en w6 ⟨rfl, b6⟩
    have hB6 := hB1.trans (b6.mono hB1.size)
    go_wp2_with fail
    go_ret
    exact ⟨rfl, hB6⟩
end Go.Proofs.Ytjcoidpajcichab
