import Derived.Test.YtojjdhohhonheabF
namespace Go.Proofs.Ytojjdhohhonheab
open Go.ChangeShapes Go.WideShapes Go.ChangeAt Go.RowKit
set_option linter.unusedVariables false
set_option maxHeartbeats 2000000 in
theorem law5 (a b : Nat) (ha : a < 4294967296) (hb : b < 4294967296) (w : World) : Calls Try.prog 5 #[.int .u32 (a : Int), .int .u32 (b : Int)] w fun en w' => en = .returned (.bool true) ∧ Below w.heap.size w w' := by
  obtain ⟨x, hx⟩ : ∃ x, decide (wrap32 (a : Int) < wrap32 (b : Int)) = x := ⟨_, rfl⟩
  obtain ⟨y, hy⟩ : ∃ x, ((a : Int) == (b : Int)) = x := ⟨_, rfl⟩
  obtain ⟨z, hz⟩ : ∃ x, decide (wrap32 (b : Int) < wrap32 (a : Int)) = x := ⟨_, rfl⟩
  obtain ⟨p, hp⟩ : ∃ x, ((a : Int) != (b : Int)) = x := ⟨_, rfl⟩
  obtain ⟨q, hq⟩ : ∃ x, decide (wrap32 (b : Int) ≤ wrap32 (a : Int)) = x := ⟨_, rfl⟩
  obtain ⟨u, hu⟩ : ∃ x, decide (a < b) = x := ⟨_, rfl⟩
  obtain ⟨v, hv⟩ : ∃ x, decide (b ≤ a) = x := ⟨_, rfl⟩
  have hpy : p = !y := by rw [← hp, ← hy]; rfl
  have hqx : q = !x := by rw [← hx, ← hq]; rw [Bool.eq_iff_iff]; simp
  have huv : v = !u := by rw [← hu, ← hv]; rw [Bool.eq_iff_iff]; simp
  have hone : (x = true ∧ y = false ∧ z = false) ∨ (x = false ∧ y = true ∧ z = false) ∨ (x = false ∧ y = false ∧ z = true) := by
    rw [← hx, ← hy, ← hz]
    simp only [decide_eq_true_eq, decide_eq_false_iff_not, beq_iff_eq, beq_eq_false_iff_ne, ne_eq]
    unfold wrap32
    omega
  have k1 := is7 a b ha hb
  have k2 := is5 a b ha hb
  have k3 := is7 b a hb ha
  have k4 := is6 a b ha hb
  have k5 := is8 a b ha hb
  have k6 := is9 a b ha hb
  have k7 := is10 a b ha hb
  rw [hx] at k1
  rw [hy] at k2
  rw [hz] at k3
  rw [hp, hpy] at k4
  rw [hq, hqx] at k5
  rw [hu] at k6
  rw [hv, huv] at k7
  clear hx hy hz hp hq hu hv hpy hqx huv
  have K1 := Lib.hid k1
  have K2 := Lib.hid k2
  have K3 := Lib.hid k3
  have K4 := Lib.hid k4
  have K5 := Lib.hid k5
  have K6 := Lib.hid k6
  have K7 := Lib.hid k7
  clear k1 k2 k3 k4 k5 k6 k7
  rcases hone with ⟨rfl, rfl, rfl⟩ | ⟨rfl, rfl, rfl⟩ | ⟨rfl, rfl, rfl⟩ <;> cases u
  all_goals
    go_enter Try.func5, Try.ntmps5
    go_wp2_with fail
    refine (K1.out _).mono ?_
    rintro _ _ ⟨rfl, rfl⟩
    go_wp2_with fail
    refine (K2.out _).mono ?_
    rintro _ _ ⟨rfl, rfl⟩
    go_wp2_with fail
    refine (K3.out _).mono ?_
    rintro _ _ ⟨rfl, rfl⟩
    go_wp2_with fail
    refine (K4.out _).mono ?_
    rintro _ _ ⟨rfl, rfl⟩
    go_wp2_with fail
    refine (K5.out _).mono ?_
    rintro _ _ ⟨rfl, rfl⟩
    go_wp2_with fail
    refine (K6.out _).mono ?_
    rintro _ _ ⟨rfl, rfl⟩
    go_wp2_with fail
    refine (K7.out _).mono ?_
    rintro _ _ ⟨rfl, rfl⟩
    go_wp2_with fail
    refine (works _).mono ?_
    rintro _ _ ⟨rfl, rfl⟩
    go_wp2_with fail
    go_ret
    exact ⟨rfl, Below.refl _ _⟩
end Go.Proofs.Ytojjdhohhonheab
