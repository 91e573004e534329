import Derived.Test.YtojjdhohhonheabF
namespace Go.Proofs.Ytojjdhohhonheab
open Go.ChangeShapes Go.WideShapes Go.ChangeAt Go.RowKit
set_option linter.unusedVariables false
theorem and_xor (a b : Nat) (ha : a < 4294967296) (hb : b < 4294967296) : ((a &&& b) + (a ^^^ b)) % 4294967296 = a ||| b := by
  have h := BitVec.add_eq_or_of_and_eq_zero (BitVec.ofNat 32 a &&& BitVec.ofNat 32 b) (BitVec.ofNat 32 a ^^^ BitVec.ofNat 32 b) (by
    ext i hi
    simp only [BitVec.getElem_and, BitVec.getElem_xor, BitVec.getElem_zero]
    cases (BitVec.ofNat 32 a)[i] <;> cases (BitVec.ofNat 32 b)[i] <;> rfl)
  have h2 := congrArg BitVec.toNat h
  simp only [BitVec.toNat_add, BitVec.toNat_and, BitVec.toNat_or, BitVec.toNat_xor, BitVec.toNat_ofNat, Nat.reducePow, Nat.mod_eq_of_lt ha, Nat.mod_eq_of_lt hb] at h2
  rw [h2]
  apply Nat.eq_of_testBit_eq
  intro i
  simp only [Nat.testBit_or, Nat.testBit_and, Nat.testBit_xor]
  cases a.testBit i <;> cases b.testBit i <;> rfl
set_option maxHeartbeats 2000000 in
theorem law6 (a b : Nat) (ha : a < 4294967296) (hb : b < 4294967296) (w : World) : Calls Try.prog 6 #[.int .u32 (a : Int), .int .u32 (b : Int)] w fun en w' => en = .returned (.bool true) ∧ Below w.heap.size w w' := by
  have hs : (a + b) % 4294967296 < 4294967296 := by omega
  have hb' : b % 32 < 4294967296 := by omega
  have k1 := do39 a b ha hb
  have k2 := do38 a b ha hb
  have k3 := do35 a b ha hb
  have k4 := do30 a b ha hb
  have k5 := do31 ((a + b) % 4294967296) b hs hb
  have k6 := do32 a b ha hb
  have k7 := do27 a (b % 32) ha hb'
  have k8 := do36 a b ha hb
  have k9 := do28 a (b % 32) ha hb'
  have k10 := do40 a b ha hb
  have k11 := do43 a b ha hb
  rw [u32_and_nat a b ha hb] at k1
  rw [u32_or_nat a b ha hb] at k2
  rw [u32_xor_nat a b ha hb] at k3
  rw [show ((a : Int) + (b : Int)) % 4294967296 = (((a + b) % 4294967296 : Nat) : Int) by omega] at k4
  rw [show ((((a + b) % 4294967296 : Nat) : Int) - (b : Int)) % 4294967296 = (a : Int) by omega] at k5
  rw [Nat.mod_mod] at k7 k9
  have e1 := and_xor a b ha hb
  have e2 : ((a &&& b : Nat) : Int) + ((a ^^^ b : Nat) : Int) = ((((a &&& b) + (a ^^^ b) : Nat)) : Int) := rfl
  have e3 : (((a &&& b : Nat) : Int) + ((a ^^^ b : Nat) : Int)) % 4294967296 = ((a ||| b : Nat) : Int) := by rw [e2]; omega
  clear e1 e2
  generalize a &&& b = x at *
  generalize a ||| b = y at *
  generalize a ^^^ b = z at *
  generalize (a + b) % 4294967296 = s at *
  generalize (a : Int) * 2 ^ (b % 32) % 4294967296 = p at *
  generalize (a : Int) / 2 ^ (b % 32) = u at *
  have rb : (b : Int) % 32 = ((b % 32 : Nat) : Int) := rfl
  generalize b % 32 = b' at *
  have m := mulbd (a : Int) (b : Int) 4294967295 4294967295 (by omega) (by omega) (by omega) (by omega) (by omega) (by omega)
  have m0 : 0 ≤ (a : Int) * (b : Int) := Int.mul_nonneg (by omega) (by omega)
  obtain ⟨m1, m2⟩ := m
  have rm : (a : Int) * (b : Int) = ((a * b : Nat) : Int) := rfl
  rw [rm] at k10 k11 m0 m1 m2
  generalize a * b = ab at *
  have d1 : (ab : Int) % 4294967296 = ((ab % 4294967296 : Nat) : Int) := rfl
  have d2 : (ab : Int) / 4294967296 = ((ab / 4294967296 : Nat) : Int) := rfl
  rw [d1] at k10
  rw [d2] at k11
  have e5 : ((ab / 4294967296 : Nat) : Int) * 4294967296 + ((ab % 4294967296 : Nat) : Int) = (ab : Int) := by omega
  have b1 : ab / 4294967296 < 4294967296 := by omega
  have b2 : ab % 4294967296 < 4294967296 := by omega
  clear d1 d2
  generalize ab / 4294967296 = hi at *
  generalize ab % 4294967296 = lo at *
  have e6 : (hi : Int) * 2 ^ 32 = (hi : Int) * 4294967296 := rfl
  have K1 := Lib.hid k1
  have K2 := Lib.hid k2
  have K3 := Lib.hid k3
  have K4 := Lib.hid k4
  have K5 := Lib.hid k5
  have K6 := Lib.hid k6
  have K7 := Lib.hid k7
  have K8 := Lib.hid k8
  have K9 := Lib.hid k9
  have K10 := Lib.hid k10
  have K11 := Lib.hid k11
  clear k1 k2 k3 k4 k5 k6 k7 k8 k9 k10 k11
  go_enter Try.func6, Try.ntmps6
  go_wp2_with fail
  refine (K1.out _).mono ?_
  rintro _ _ ⟨rfl, rfl⟩
  go_wp2_with fail
  refine (K2.out _).mono ?_
  rintro _ _ ⟨rfl, rfl⟩
  go_wp2_with fail
  refine (K3.out _).mono ?_
  rintro _ _ ⟨rfl, rfl⟩
  go_wp2_with fail
  refine (K4.out _).mono ?_
  rintro _ _ ⟨rfl, rfl⟩
  go_wp2_with fail
  refine (K5.out _).mono ?_
  rintro _ _ ⟨rfl, rfl⟩
  go_wp2_with fail
  refine (K6.out _).mono ?_
  rintro _ _ ⟨rfl, rfl⟩
  go_wp2_with fail
  refine (K7.out _).mono ?_
  rintro _ _ ⟨rfl, rfl⟩
  go_wp2_with fail
  refine (K8.out _).mono ?_
  rintro _ _ ⟨rfl, rfl⟩
  go_wp2_with fail
  refine (K9.out _).mono ?_
  rintro _ _ ⟨rfl, rfl⟩
  go_wp2_with fail
  refine (K10.out _).mono ?_
  rintro _ _ ⟨rfl, rfl⟩
  go_wp2_with fail
  refine (K11.out _).mono ?_
  rintro _ _ ⟨rfl, rfl⟩
  go_wp2_with fail
  refine (works _).mono ?_
  rintro _ _ ⟨rfl, rfl⟩
  go_wp2_with fail
  go_ret
  exact ⟨rfl, Below.refl _ _⟩
end Go.Proofs.Ytojjdhohhonheab
