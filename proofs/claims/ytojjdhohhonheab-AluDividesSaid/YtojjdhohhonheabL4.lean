import Derived.Test.YtojjdhohhonheabF
namespace Go.Proofs.Ytojjdhohhonheab
open Go.ChangeShapes Go.WideShapes Go.ChangeAt Go.RowKit
set_option linter.unusedVariables false
theorem rem_eq (a b : Nat) (h0 : b ≠ 0) : ((a : Int) - qv a b * (b : Int)) % 4294967296 = ((wrap32 (a : Int)).tmod (wrap32 (b : Int))) % 4294967296 := by
  unfold qv
  rw [if_neg h0, Int.tmod_def]
  obtain ⟨i, hi⟩ : ∃ i, (a : Int) = wrap32 (a : Int) + i * 4294967296 := ⟨((a : Int) + 2147483648) / 4294967296, by unfold wrap32; omega⟩
  obtain ⟨j, hj⟩ : ∃ j, (b : Int) = wrap32 (b : Int) + j * 4294967296 := ⟨((b : Int) + 2147483648) / 4294967296, by unfold wrap32; omega⟩
  generalize wrap32 (a : Int) = x at *
  generalize wrap32 (b : Int) = y at *
  generalize hT : x.tdiv y = T at *
  obtain ⟨k, hk⟩ : ∃ k, T % 4294967296 = T + k * 4294967296 := ⟨-(T / 4294967296), by omega⟩
  rw [hk]
  have h1 : T * (b : Int) = y * T + (T * j) * 4294967296 := by rw [hj, Int.mul_add, Int.mul_comm T y, Int.mul_assoc]
  have h2 : (k * 4294967296) * (b : Int) = (k * (b : Int)) * 4294967296 := Int.mul_right_comm _ _ _
  rw [Int.add_mul, h1, h2, hi]
  generalize y * T = A
  generalize T * j = B
  generalize k * (b : Int) = C
  omega
theorem rem_sign (a b : Nat) (ha : a < 4294967296) (hb : b < 4294967296) (h0 : b ≠ 0) : (0 ≤ wrap32 (((a : Int) - qv a b * (b : Int)) % 4294967296)) ↔ (0 ≤ wrap32 (a : Int) ∨ ((a : Int) - qv a b * (b : Int)) % 4294967296 = 0) := by
  rw [rem_eq a b h0]
  have l1 : -2147483648 ≤ wrap32 (a : Int) ∧ wrap32 (a : Int) ≤ 2147483647 := by unfold wrap32; omega
  have l2 : -2147483648 ≤ wrap32 (b : Int) ∧ wrap32 (b : Int) ≤ 2147483647 := by unfold wrap32; omega
  have hw : wrap32 (b : Int) ≠ 0 := by unfold wrap32; omega
  generalize wrap32 (a : Int) = x at *
  generalize wrap32 (b : Int) = y at *
  have hs : (0 ≤ x → 0 ≤ x.tmod y) ∧ (x ≤ 0 → x.tmod y ≤ 0) ∧ (x.tmod y).natAbs < y.natAbs := by
    refine ⟨fun h => Int.tmod_nonneg _ h, fun h => ?_, ?_⟩
    · have := Int.tmod_nonneg y (show (0 : Int) ≤ -x by omega)
      rw [Int.neg_tmod] at this
      omega
    · rw [Int.natAbs_tmod]
      exact Nat.mod_lt _ (by omega)
  obtain ⟨h1, h2, h3⟩ := hs
  generalize x.tmod y = t at *
  unfold wrap32
  omega
set_option maxHeartbeats 2000000 in
theorem law4 (a b : Nat) (ha : a < 4294967296) (hb : b < 4294967296) (w : World) : Calls Try.prog 4 #[.int .u32 (a : Int), .int .u32 (b : Int)] w fun en w' => en = .returned (.bool true) ∧ Below w.heap.size w w' := by
  have k1 := do44 a b ha hb
  have k2 := do46 a b ha hb
  have k3 := do45 a b ha hb
  have k4 := do47 a b ha hb
  by_cases h0 : b = 0
  · subst h0
    rw [show qv a 0 = 4294967295 from rfl] at k1
    rw [show qv a 0 = 4294967295 from rfl, show ((a : Int) - 4294967295 * ((0 : Nat) : Int)) % 4294967296 = (a : Int) by omega] at k2
    rw [if_pos rfl] at k3 k4
    have K1 := Lib.hid k1
    have K2 := Lib.hid k2
    have K3 := Lib.hid k3
    have K4 := Lib.hid k4
    clear k1 k2 k3 k4
    go_enter Try.func4, Try.ntmps4
    go_wp2_with fail
    refine (K1.out _).mono ?_
    rintro _ _ ⟨rfl, rfl⟩
    go_wp2_with fail
    refine (K2.out _).mono ?_
    rintro _ _ ⟨rfl, rfl⟩
    go_wp2_with fail
    refine (K3.out _).mono ?_
    rintro _ _ ⟨rfl, rfl⟩
    go_wp2_with fail
    refine (K4.out _).mono ?_
    rintro _ _ ⟨rfl, rfl⟩
    go_wp2_with fail
    refine (works _).mono ?_
    rintro _ _ ⟨rfl, rfl⟩
    go_wp2_with fail
    go_ret
    exact ⟨rfl, Below.refl _ _⟩
  · rw [if_neg h0] at k3 k4
    have hs := rem_sign a b ha hb h0
    have e1 : (qv a b * (b : Int) % 4294967296 + ((a : Int) - qv a b * (b : Int)) % 4294967296) % 4294967296 = (a : Int) := by
      generalize qv a b * (b : Int) = p; omega
    obtain ⟨q1, q2⟩ := qv_lt a b
    have r1 : 0 ≤ ((a : Int) - qv a b * (b : Int)) % 4294967296 ∧ ((a : Int) - qv a b * (b : Int)) % 4294967296 < 4294967296 := by omega
    generalize ((a : Int) - qv a b * (b : Int)) % 4294967296 = r at *
    generalize qv a b = q at *
    obtain ⟨r1, r2⟩ := r1
    have d1 : (a : Int) / (b : Int) = ((a / b : Nat) : Int) := rfl
    have d2 : (a : Int) % (b : Int) = ((a % b : Nat) : Int) := rfl
    rw [d1] at k3
    rw [d2] at k4
    have v1 : a % b < b := Nat.mod_lt _ (by omega)
    have u1 : a / b ≤ a := Nat.div_le_self _ _
    have e2 : ((a / b : Nat) : Int) * (b : Int) % 4294967296 + ((a % b : Nat) : Int) = (a : Int) := by
      have h := Nat.div_add_mod a b
      rw [Nat.mul_comm] at h
      rw [← Int.natCast_mul]
      generalize a / b * b = m at *
      generalize a % b = n at *
      omega
    generalize a / b = u at *
    generalize a % b = v at *
    clear d1 d2
    have hz : ((b : Int) == 0) = false := by simp; omega
    have hcase : (0 ≤ wrap32 r ∧ 0 ≤ wrap32 (a : Int)) ∨ (0 ≤ wrap32 r ∧ ¬ 0 ≤ wrap32 (a : Int) ∧ r = 0) ∨ (¬ 0 ≤ wrap32 r ∧ ¬ 0 ≤ wrap32 (a : Int) ∧ ¬ r = 0) := by
      clear e1 e2 k1 k2 k3 k4
      generalize wrap32 r = R at *
      generalize wrap32 (a : Int) = A at *
      omega
    clear hs
    have E1 := Lib.hid e1
    have E2 := Lib.hid e2
    clear e1 e2
    have K1 := Lib.hid k1
    have K2 := Lib.hid k2
    have K3 := Lib.hid k3
    have K4 := Lib.hid k4
    clear k1 k2 k3 k4
    go_enter Try.func4, Try.ntmps4
    go_wp2_with fail
    refine (K1.out _).mono ?_
    rintro _ _ ⟨rfl, rfl⟩
    go_wp2_with fail
    refine (K2.out _).mono ?_
    rintro _ _ ⟨rfl, rfl⟩
    go_wp2_with fail
    refine (K3.out _).mono ?_
    rintro _ _ ⟨rfl, rfl⟩
    go_wp2_with fail
    refine (K4.out _).mono ?_
    rintro _ _ ⟨rfl, rfl⟩
    have e1 := E1.out
    have e2 := E2.out
    rcases hcase with ⟨g1, g2⟩ | ⟨g1, g2, g3⟩ | ⟨g1, g2, g3⟩
    · have f1 : decide (0 ≤ wrap32 r) = true := by simpa using g1
      go_wp2_with fail
      refine (works _).mono ?_
      rintro _ _ ⟨rfl, rfl⟩
      go_wp2_with fail
      go_ret
      exact ⟨rfl, Below.refl _ _⟩
    · have f1 : decide (0 ≤ wrap32 r) = true := by simpa using g1
      have f2 : decide (0 ≤ wrap32 (a : Int)) = false := by simpa using g2
      have f3 : (r == 0) = true := by simpa using g3
      clear g3
      go_wp2_with fail
      refine (works _).mono ?_
      rintro _ _ ⟨rfl, rfl⟩
      go_wp2_with fail
      go_ret
      exact ⟨rfl, Below.refl _ _⟩
    · have f1 : decide (0 ≤ wrap32 r) = false := by simpa using g1
      have f2 : decide (0 ≤ wrap32 (a : Int)) = false := by simpa using g2
      have f3 : (r == 0) = false := by simpa using g3
      go_wp2_with fail
      refine (works _).mono ?_
      rintro _ _ ⟨rfl, rfl⟩
      go_wp2_with fail
      go_ret
      exact ⟨rfl, Below.refl _ _⟩
end Go.Proofs.Ytojjdhohhonheab
