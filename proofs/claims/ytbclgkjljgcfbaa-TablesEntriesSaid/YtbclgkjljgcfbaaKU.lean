import Derived.Test.YtbclgkjljgcfbaaKR
import Derived.Test.YtbclgkjljgcfbaaKJ
namespace Go.Proofs.Ytbclgkjljgcfbaa.Cp
open Go.ChangeShapes Go.WideShapes Go.ChangeAt Go.RowKit
set_option linter.unusedVariables false
theorem has_iff (c p : Nat) (hp : p < 256) : (c &&& p = p ↔ (∀ j, j < 8 → ¬ (p / 2 ^ j % 2 = 1 ∧ c / 2 ^ j % 2 = 0))) := by
  constructor
  · intro h j hj ⟨h1, h2⟩
    have h3 := congrArg (fun x => Nat.testBit x j) h
    simp only [Nat.testBit_and] at h3
    simp only [Nat.testBit_eq_decide_div_mod_eq] at h3
    rw [h1, h2] at h3
    simp at h3
  · intro h
    apply Nat.eq_of_testBit_eq
    intro j
    rw [Nat.testBit_and]
    by_cases hj : j < 8
    · have h1 := h j hj
      simp only [Nat.testBit_eq_decide_div_mod_eq]
      by_cases a : p / 2 ^ j % 2 = 1
      · have b : c / 2 ^ j % 2 = 1 := by omega
        rw [decide_eq_true a, decide_eq_true b]; rfl
      · rw [decide_eq_false a, Bool.and_false]
    · have : p.testBit j = false := Nat.testBit_lt_two_pow (Nat.lt_of_lt_of_le hp (Nat.pow_le_pow_right (n := 2) (by omega) (by omega : 8 ≤ j)))
      rw [this, Bool.and_false]
theorem nexth {P : Nat → Prop} {k : Nat} (h : ∀ j, j < k → P j) (hk : P k) : Hid (∀ j, j < k + 1 → P j) := fun j hj => by
  rcases Nat.lt_succ_iff_lt_or_eq.1 hj with h1 | rfl
  · exact h j h1
  · exact hk
def pw : Nat → Nat
  | 8 => 0
  | k => 2 ^ k
end Go.Proofs.Ytbclgkjljgcfbaa.Cp
