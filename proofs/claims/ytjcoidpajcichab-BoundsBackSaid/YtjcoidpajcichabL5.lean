import Derived.Test.YtjcoidpajcichabD
namespace Go.Proofs.Ytjcoidpajcichab
open Go.ChangeShapes Go.WideShapes Go.ChangeAt Go.RowKit
set_option linter.unusedVariables false
theorem mod_lt' (a b : Nat) (h : 1 ≤ b) : a % b < b := Nat.mod_lt _ (by omega)
set_option maxHeartbeats 2000000 in
theorem law5 (b t a : Nat) (hb : b < 18446744073709551616) (ht : t < 18446744073709551616) (ha : a < 18446744073709551616) (w : World) :
    Calls Try.prog 5 #[.int .u64 (b : Int), .int .u64 (t : Int), .int .u64 (a : Int)] w fun en w' => en = .returned (.bool true) ∧ Below w.heap.size w w' := by
  have k1 := c18 b t hb ht
  unfold exV at k1
  by_cases g0 : t < b ∨ 65536 < t
  · have E : ex b t = (0, 0, 0, 2) := by unfold ex; rw [if_pos g0]
    rw [E] at k1
    clear E g0
    have K1 := Lib.hid k1
    clear k1
    go_enter Try.func5, Try.ntmps5
    go_wp2_with fail
    refine (K1.out _).mono ?_
    rintro en w1 ⟨rfl, b1⟩
    go_wp2_with fail
    refine (c17 _).mono ?_
    rintro en w3 ⟨rfl, b3⟩
    have hB3 := b1.trans (((Below.refl _ _).alloc (Nat.le_refl _) _).trans (b3.mono (by simp)) |>.mono b1.size)
    go_wp2_with fail
    go_ret
    exact ⟨rfl, hB3⟩
  have E : ex b t = exL b t 9 := by unfold ex; rw [if_neg g0]
  rcases exL_spec b t 9 (by omega) with ⟨E2, _⟩ | ⟨e, he, hok, E2⟩
  · rw [E, E2] at k1
    clear E E2 g0
    have K1 := Lib.hid k1
    clear k1
    go_enter Try.func5, Try.ntmps5
    go_wp2_with fail
    refine (K1.out _).mono ?_
    rintro en w1 ⟨rfl, b1⟩
    go_wp2_with fail
    refine (c17 _).mono ?_
    rintro en w3 ⟨rfl, b3⟩
    have hB3 := b1.trans (((Below.refl _ _).alloc (Nat.le_refl _) _).trans (b3.mono (by simp)) |>.mono b1.size)
    go_wp2_with fail
    go_ret
    exact ⟨rfl, hB3⟩
  · rw [E, E2] at k1
    unfold ok at hok
    obtain ⟨m1, m2, m3⟩ := of_decide_eq_true hok
    have hbt : b ≤ t := by omega
    have ht6 : t ≤ 65536 := by omega
    have hm := mod_lt' a (t - b + 1) (by omega)
    obtain ⟨e1, e2⟩ := back b t (b + a % (t - b + 1)) e he m1 m2 m3 (by omega) (by omega) ht6
    obtain ⟨e3, _⟩ := back b t b e he m1 m2 m3 (by omega) hbt ht6
    have B1 : b / 2 ^ e % 512 < 512 := by omega
    have B2 : t / 2 ^ e % 512 < 512 := by omega
    clear E E2 hok m1 m2 m3
    generalize b / 2 ^ e % 512 = B at *
    generalize t / 2 ^ e % 512 = T at *
    have x1 : e % 16 = e := Nat.mod_eq_of_lt (by omega)
    have x2 : B % 512 = B := Nat.mod_eq_of_lt (by omega)
    have x3 : T % 512 = T := Nat.mod_eq_of_lt (by omega)
    have k2 := c9 e B T (b + a % (t - b + 1)) (by omega) (by omega) (by omega) (by omega)
    have k3 := c11 e B T (by omega) (by omega) (by omega)
    have k4 := c13 e B T b (b + a % (t - b + 1)) (by omega) (by omega) (by omega) (by omega) (by omega)
    rw [x1, x2, e1] at k2
    rw [x1, x2, x3, e2] at k3
    rw [x1, x2, e1, e3, decide_eq_true rfl] at k4
    clear x1 x2 x3 e1 e2 e3
    have y1 : (t : Int) - (b : Int) = ((t - b : Nat) : Int) := by omega
    have y3 : (a : Int) % ((t - b : Nat) + 1 : Int) = ((a % (t - b + 1) : Nat) : Int) := rfl
    have y4 : ((b + a % (t - b + 1) : Nat) : Int) = (b : Int) + ((a % (t - b + 1) : Nat) : Int) := rfl
    rw [y4] at k2 k4
    have z1 : (0 : Int) < ((t - b : Nat) + 1 : Int) := by omega
    generalize a % (t - b + 1) = A at *
    have z2 : t - b ≤ 65536 := by omega
    generalize t - b = D at *
    clear y4
    have K1 := Lib.hid k1
    have K2 := Lib.hid k2
    have K3 := Lib.hid k3
    have K4 := Lib.hid k4
    clear k1 k2 k3 k4
    go_enter Try.func5, Try.ntmps5
    go_wp2_with fail
    refine (K1.out _).mono ?_
    rintro en w1 ⟨rfl, b1⟩
    go_wp2_with fail
    refine (K2.out _).mono ?_
    rintro en w2 ⟨rfl, b2⟩
    obtain ⟨hB2, hz2, q0, q1, q2⟩ := init3 b2
    have hB := b1.trans (hB2.mono b1.size)
    clear b1 b2 hB2
    go_wp2_with fail
    refine (K3.out _).mono ?_
    rintro en w3 ⟨rfl, b3⟩
    obtain ⟨hB3, hz3, p0, p1, p2⟩ := keep3 ⟨hB, by omega, q0, q1, q2⟩ b3
    go_wp2_with fail
    refine (K4.out _).mono ?_
    rintro en w4 ⟨rfl, b4⟩
    have hB4 := hB3.trans (b4.mono hB3.size)
    clear b4
    go_wp2_with fail
    refine (c17 _).mono ?_
    rintro en w5 ⟨rfl, b5⟩
    have hB5 := hB4.trans (b5.mono hB4.size)
    clear b5
    go_wp2_with fail
    go_ret
    exact ⟨rfl, hB5⟩
end Go.Proofs.Ytjcoidpajcichab
