import Derived.Test.YtleabbhoedddlaaKE
namespace Go.Proofs.Ytleabbhoedddlaa.Cp
open Go.ChangeShapes Go.WideShapes Go.ChangeAt Go.RowKit
set_option linter.unusedVariables false
theorem keep7 {w0 wp w1 : World} {k : Nat} {v0 v1 v2 v3 v4 v5 v6 : Value} (h : Below w0.heap.size w0 wp ∧ k < wp.heap.size ∧ wp.cell? ⟨k, 0, none⟩ = some v0 ∧ wp.cell? ⟨k, 1, none⟩ = some v1 ∧ wp.cell? ⟨k, 2, none⟩ = some v2 ∧ wp.cell? ⟨k, 3, none⟩ = some v3 ∧ wp.cell? ⟨k, 4, none⟩ = some v4 ∧ wp.cell? ⟨k, 5, none⟩ = some v5 ∧ wp.cell? ⟨k, 6, none⟩ = some v6) (hb : Below wp.heap.size wp w1) :
    Below w0.heap.size w0 w1 ∧ k < w1.heap.size ∧ w1.cell? ⟨k, 0, none⟩ = some v0 ∧ w1.cell? ⟨k, 1, none⟩ = some v1 ∧ w1.cell? ⟨k, 2, none⟩ = some v2 ∧ w1.cell? ⟨k, 3, none⟩ = some v3 ∧ w1.cell? ⟨k, 4, none⟩ = some v4 ∧ w1.cell? ⟨k, 5, none⟩ = some v5 ∧ w1.cell? ⟨k, 6, none⟩ = some v6 := by
  obtain ⟨h1, h2, q0, q1, q2, q3, q4, q5, q6⟩ := h
  have hc : ∀ o, w1.cell? ⟨k, o, none⟩ = wp.cell? ⟨k, o, none⟩ := fun o => hb.cell (p := ⟨k, o, none⟩) h2
  exact ⟨h1.trans (hb.mono h1.size), Nat.lt_of_lt_of_le h2 hb.size, by rw [hc]; exact q0, by rw [hc]; exact q1, by rw [hc]; exact q2, by rw [hc]; exact q3, by rw [hc]; exact q4, by rw [hc]; exact q5, by rw [hc]; exact q6⟩
theorem start7 (w : World) (v0 v1 v2 v3 v4 v5 v6 : Value) (T : TypeId) :
    Below w.heap.size w (w.alloc (.cells #[v0, v1, v2, v3, v4, v5, v6] T)) ∧ w.heap.size < (w.alloc (.cells #[v0, v1, v2, v3, v4, v5, v6] T)).heap.size ∧ (w.alloc (.cells #[v0, v1, v2, v3, v4, v5, v6] T)).cell? ⟨w.heap.size, 0, none⟩ = some v0 ∧ (w.alloc (.cells #[v0, v1, v2, v3, v4, v5, v6] T)).cell? ⟨w.heap.size, 1, none⟩ = some v1 ∧ (w.alloc (.cells #[v0, v1, v2, v3, v4, v5, v6] T)).cell? ⟨w.heap.size, 2, none⟩ = some v2 ∧ (w.alloc (.cells #[v0, v1, v2, v3, v4, v5, v6] T)).cell? ⟨w.heap.size, 3, none⟩ = some v3 ∧ (w.alloc (.cells #[v0, v1, v2, v3, v4, v5, v6] T)).cell? ⟨w.heap.size, 4, none⟩ = some v4 ∧ (w.alloc (.cells #[v0, v1, v2, v3, v4, v5, v6] T)).cell? ⟨w.heap.size, 5, none⟩ = some v5 ∧ (w.alloc (.cells #[v0, v1, v2, v3, v4, v5, v6] T)).cell? ⟨w.heap.size, 6, none⟩ = some v6 := by
  refine ⟨(Below.refl _ _).alloc (Nat.le_refl _) _, by simp, by simp, by simp, by simp, by simp, by simp, by simp, by simp⟩
end Go.Proofs.Ytleabbhoedddlaa.Cp
