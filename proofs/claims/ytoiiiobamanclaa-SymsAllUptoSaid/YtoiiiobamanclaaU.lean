import Derived.Test.YtoiiiobamanclaaS
namespace Go.Proofs.Ytoiiiobamanclaa
open Go.ChangeShapes Go.WideShapes Go.ChangeAt Go.RowKit Go.Shelf
set_option linter.unusedVariables false
/-- objects and texts within a bulk -/
def Ob (W : World) (v : Value) : Prop := ∃ D, Lds W v D ∧ tot (D.map (·.2)) ≤ 1048576 ∧ (∀ x ∈ D, ∀ s ∈ x.2, s.nm.size ≤ 1048576) ∧ D.length ≤ 1048576
def Tx (W : World) (v : Value) : Prop := ∃ O : List ByteArray, Sts W v O ∧ (∀ s ∈ O, s.size ≤ 1048576) ∧ O.length ≤ 1048576
theorem law4 (v0 v1 : Value) {w : World} (h0 : Ob w v0) (h1 : Tx w v1) : Calls Try.prog 4 #[v0, v1] w fun e w' => e = .returned (.bool true) ∧ Below w.heap.size w w' := by
  obtain ⟨D, a, b, c, d⟩ := h0
  obtain ⟨O, e, f, g⟩ := h1
  exact all4 v0 v1 D O w a b c d e g f
end Go.Proofs.Ytoiiiobamanclaa
