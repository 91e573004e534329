import Derived.Test.YtmanoheofloimaaGreatDoorRiz
namespace Go.Proofs.YtmanoheofloimaaGreatDoor
open Go.ChangeShapes Go.WideShapes Go.ChangeAt Go.RowKit
set_option linter.unusedVariables false
set_option maxRecDepth 20000
theorem made_at (z : Value) (n j : Nat) (hj : j < n) : (madeCells #[z] n)[j]? = some z := by
  unfold madeCells
  simp [hj, Nat.mod_one]
theorem bytes_made {w : World} {base g n : Nat} (h : w.ownsRow base 5 1 (.slice (some ⟨g, 0, none⟩) n n) n (madeCells (Value.int .u8 0).cells (n * 1)).toList) : ∀ k, k < n → w.cell? ⟨g, k, none⟩ = some (.int .u8 0) := by
  intro k hk
  obtain ⟨-, h⟩ := h
  rcases h with ⟨h, -⟩ | ⟨g', cap, cur, hv, -, hb, -, -, hs, ht⟩
  · cases h
  · cases hv
    rw [cell_of_row w g k cur 5 (0, 0) hb]
    have h1 : (cur.toList.take (n * 1))[k]? = some (.int .u8 0) := by
      rw [ht, Nat.mul_one, Array.getElem?_toList]
      exact made_at _ n k hk
    rw [List.getElem?_take_of_lt (by omega), Array.getElem?_toList] at h1
    exact h1
theorem bytes_lt {w : World} {base g n : Nat} {l : List Value} (h : w.ownsRow base 5 1 (.slice (some ⟨g, 0, none⟩) n n) n l) : g < w.heap.size := by
  obtain ⟨-, h⟩ := h
  rcases h with ⟨h, -⟩ | ⟨g', cap, cur, hv, -, hb, -, -, hs, ht⟩
  · cases h
  · cases hv
    exact (Array.getElem?_eq_some_iff.1 hb).1
theorem bIm0 : Tryz.prog.built 69 [] = some (im (.slice none 0 0)).toArray := by kernel_rfl
end Go.Proofs.YtmanoheofloimaaGreatDoor
