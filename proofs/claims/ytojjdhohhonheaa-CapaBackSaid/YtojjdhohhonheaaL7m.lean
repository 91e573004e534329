import Derived.Test.YtojjdhohhonheaaK
import Derived.Test.YtojjdhohhonheaaR
namespace Go.Proofs.Ytojjdhohhonheaa
open Go.ChangeShapes Go.WideShapes Go.ChangeAt Go.RowKit
set_option linter.unusedVariables false
theorem exL_spec (b t : Nat) : ∀ k, k ≤ 9 → (exL b t k = (0, 0, 0, 5) ∧ ∀ e, 9 - k ≤ e → e ≤ 8 → ok b t e = false) ∨ ∃ e, e ≤ 8 ∧ ok b t e = true ∧ exL b t k = (e, b / 2 ^ e % 512, t / 2 ^ e % 512, 0)
  | 0, _ => Or.inl ⟨rfl, fun e h1 h2 => by omega⟩
  | k + 1, h => by
    rw [exL]
    by_cases g : ok b t (8 - k) = true
    · exact Or.inr ⟨8 - k, by omega, g, by rw [if_pos g]⟩
    · rw [if_neg g]
      rcases exL_spec b t k (by omega) with ⟨h1, h2⟩ | h1
      · refine Or.inl ⟨h1, fun e h3 h4 => ?_⟩
        by_cases g2 : e = 8 - k
        · rw [g2]; simpa using g
        · exact h2 e (by omega) h4
      · exact Or.inr h1
theorem nine {P : Nat → Prop} (x : Nat) (hx : x ≤ 8) (h0 : P 0) (h1 : P 1) (h2 : P 2) (h3 : P 3) (h4 : P 4) (h5 : P 5) (h6 : P 6) (h7 : P 7) (h8 : P 8) : P x := by
  have : x = 0 ∨ x = 1 ∨ x = 2 ∨ x = 3 ∨ x = 4 ∨ x = 5 ∨ x = 6 ∨ x = 7 ∨ x = 8 := by omega
  rcases this with rfl | rfl | rfl | rfl | rfl | rfl | rfl | rfl | rfl <;> assumption
theorem back (b t a e : Nat) (he : e ≤ 8) (h0 : b % 2 ^ e = 0) (h5 : t % 2 ^ e = 0) (h4 : t - b ≤ 511 * 2 ^ e) (h : b ≤ a) (h2 : a ≤ t) (h3 : t ≤ 65536) : bs e (b / 2 ^ e % 512) a = b ∧ ln e (b / 2 ^ e % 512) (t / 2 ^ e % 512) = t - b := by
  unfold bs ln
  revert h0 h5 h4
  apply nine (P := fun e => b % 2 ^ e = 0 → t % 2 ^ e = 0 → t - b ≤ 511 * 2 ^ e → (if a / 2 ^ e % 512 < b / 2 ^ e % 512 then (if a / 2 ^ (e + 9) = 0 then 2 ^ (23 - e) else a / 2 ^ (e + 9)) - 1 else a / 2 ^ (e + 9)) * 2 ^ (e + 9) + b / 2 ^ e % 512 * 2 ^ e = b ∧ (t / 2 ^ e % 512 + 512 - b / 2 ^ e % 512) % 512 * 2 ^ e = t - b) e he
  all_goals
    simp only [Nat.reducePow, Nat.reduceAdd, Nat.reduceSub]
    intro h0 h5 h4
    refine ⟨?_, by omega⟩
    split <;> (try split) <;> omega
theorem exact_in (a l : Nat) (h : (ex a (a + l)).2.2.2 = 0) : bs ((ex a (a + l)).1 % 16) ((ex a (a + l)).2.1 % 512) a = a ∧ tp (ex a (a + l)).1 (ex a (a + l)).2.1 (ex a (a + l)).2.2.1 a = a + l := by
  unfold ex at h ⊢
  by_cases hc : a + l < a ∨ 65536 < a + l
  · rw [if_pos hc] at h
    simp at h
  · rw [if_neg hc] at h ⊢
    rcases exL_spec a (a + l) 9 (by omega) with ⟨h1, _⟩ | ⟨e, he, hk, h1⟩
    · rw [h1] at h
      simp at h
    · rw [h1]
      have hk := of_decide_eq_true hk
      obtain ⟨q1, q2, q3⟩ := hk
      have hb := back a (a + l) a e he q1 q2 q3 (by omega) (by omega) (by omega)
      unfold tp
      have m1 : e % 16 = e := by omega
      have m2 : a / 2 ^ e % 512 % 512 = a / 2 ^ e % 512 := by omega
      have m3 : (a + l) / 2 ^ e % 512 % 512 = (a + l) / 2 ^ e % 512 := by omega
      show bs (e % 16) (a / 2 ^ e % 512 % 512) a = a ∧ bs (e % 16) (a / 2 ^ e % 512 % 512) a + ln (e % 16) (a / 2 ^ e % 512 % 512) ((a + l) / 2 ^ e % 512 % 512) = a + l
      rw [m1, m2, m3, hb.1, hb.2]
      exact ⟨rfl, by omega⟩
theorem sbForm2 (g : Bool) (a p y e b t l : Nat) (he : e < 256) (hb : b < 65536) (ht : t < 65536) : ∃ (g' : Bool) (e' b' t' : Nat), sbV g a p y e b t l = cp g' a p y e' b' t' ∧ e' < 256 ∧ b' < 65536 ∧ t' < 65536 ∧
    (g' = true → g = true ∧ y = 0 ∧ bs (e % 16) (b % 512) a ≤ bs (e' % 16) (b' % 512) a ∧ tp e' b' t' a ≤ tp e b t a) := by
  unfold sbV
  obtain ⟨h1, h2, h3, _⟩ := ex_lt a (a + l)
  by_cases hc : (decide (y = 0) && wi (e % 16) (b % 512) (t % 512) a a l && decide ((ex a (a + l)).2.2.2 = 0)) = true
  · rw [if_pos hc]
    refine ⟨g, _, _, _, rfl, h1, h2, h3, fun hg => ?_⟩
    simp only [Bool.and_eq_true, decide_eq_true_eq] at hc
    obtain ⟨⟨hy, hw⟩, hx⟩ := hc
    have hE := exact_in a l hx
    have hw := of_decide_eq_true hw
    refine ⟨hg, hy, ?_, ?_⟩
    · rw [hE.1]; exact hw.2.2.1
    · rw [hE.2]; unfold tp; exact hw.2.2.2
  · rw [if_neg hc]
    exact ⟨false, e, b, t, rfl, he, hb, ht, fun h => by cases h⟩
theorem subs_of {p1 p2 a1 e1 b1 t1 a2 e2 b2 t2 : Nat} (h1 : p1 &&& (255 - p2) = 0) (h2 : bs (e2 % 16) (b2 % 512) a2 ≤ bs (e1 % 16) (b1 % 512) a1) (h3 : tp e1 b1 t1 a1 ≤ tp e2 b2 t2 a2) : subs true a1 p1 e1 b1 t1 true a2 p2 e2 b2 t2 = true := by
  unfold subs sub
  simp only [h1, h2, h3, decide_true, Bool.and_self, beq_self_eq_true]
end Go.Proofs.Ytojjdhohhonheaa
