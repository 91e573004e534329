import Derived.Test.YtleabbhoedddlaaKA
namespace Go.Proofs.Ytleabbhoedddlaa.Cp
open Go.ChangeShapes Go.WideShapes Go.ChangeAt Go.RowKit
set_option linter.unusedVariables false
theorem bcell {W w1 : World} (hb : Below W.heap.size W w1) : (∀ b o, b < W.heap.size → w1.cell? ⟨b, o, none⟩ = W.cell? ⟨b, o, none⟩) ∧ (∀ b o, b < W.heap.size → w1.frozen? ⟨b, o, none⟩ = W.frozen? ⟨b, o, none⟩) :=
  ⟨fun b o h => hb.cell (p := ⟨b, o, none⟩) h, fun b o h => hb.frozen (p := ⟨b, o, none⟩) h⟩
def At3 (w : World) (k : Nat) (e b t : Nat) : Prop := w.cell? ⟨k, 0, none⟩ = some (.int .u8 (e : Int)) ∧ w.cell? ⟨k, 1, none⟩ = some (.int .u16 (b : Int)) ∧ w.cell? ⟨k, 2, none⟩ = some (.int .u16 (t : Int))
theorem retb {a b : Bool} (h : a = b) : Ending.returned (.bool a) = .returned (.bool b) := by rw [h]
theorem ofbool {A C : Nat} : ((A : Int) == (C : Int)) = decide (A = C) := by
  rw [Bool.eq_iff_iff]; simp; omega
theorem keep3 {w0 wp w1 : World} {k : Nat} {v0 v1 v2 : Value} (h : Below w0.heap.size w0 wp ∧ k < wp.heap.size ∧ wp.cell? ⟨k, 0, none⟩ = some v0 ∧ wp.cell? ⟨k, 1, none⟩ = some v1 ∧ wp.cell? ⟨k, 2, none⟩ = some v2) (hb : Below wp.heap.size wp w1) :
    Below w0.heap.size w0 w1 ∧ k < w1.heap.size ∧ w1.cell? ⟨k, 0, none⟩ = some v0 ∧ w1.cell? ⟨k, 1, none⟩ = some v1 ∧ w1.cell? ⟨k, 2, none⟩ = some v2 := by
  obtain ⟨h1, h2, h3, h4, h5⟩ := h
  refine ⟨h1.trans (hb.mono h1.size), Nat.lt_of_lt_of_le h2 hb.size, ?_, ?_, ?_⟩
  · rw [hb.cell (p := ⟨k, 0, none⟩) h2]; exact h3
  · rw [hb.cell (p := ⟨k, 1, none⟩) h2]; exact h4
  · rw [hb.cell (p := ⟨k, 2, none⟩) h2]; exact h5
theorem init3 {w w1 : World} {v0 v1 v2 : Value} {T : TypeId} (hb : Below (w.alloc (.cells #[v0, v1, v2] T)).heap.size (w.alloc (.cells #[v0, v1, v2] T)) w1) :
    Below w.heap.size w w1 ∧ w.heap.size < w1.heap.size ∧ w1.cell? ⟨w.heap.size, 0, none⟩ = some v0 ∧ w1.cell? ⟨w.heap.size, 1, none⟩ = some v1 ∧ w1.cell? ⟨w.heap.size, 2, none⟩ = some v2 :=
  keep3 ⟨(Below.refl _ _).alloc (Nat.le_refl _) _, by simp, by simp, by simp, by simp⟩ hb
theorem wi_no1 {x y z a at' n : Nat} (h : 1099511627776 < at') : wi x y z a at' n = false := by unfold wi; simp; omega
theorem wi_no2 {x y z a at' n : Nat} (h : 1099511627776 < n) : wi x y z a at' n = false := by unfold wi; simp; omega
end Go.Proofs.Ytleabbhoedddlaa.Cp
