import Derived.Test.YtnkoknfihhdelaaGreatDoorKH
namespace Go.Proofs.YtnkoknfihhdelaaGreatDoor.Ca
open Go.ChangeShapes Go.WideShapes Go.ChangeAt Go.RowKit
set_option linter.unusedVariables false
set_option maxRecDepth 100000
theorem cellAlloc {X : World} {k o : Nat} {ob : Obj} (h : k < X.heap.size) : (X.alloc ob).cell? ⟨k, o, none⟩ = X.cell? ⟨k, o, none⟩ :=
  ((Below.refl X.heap.size X).alloc (Nat.le_refl _) ob).cell (p := ⟨k, o, none⟩) h
theorem set7a {w w1 : World} {k : Nat} (h : Below w.heap.size w w1) (hk : w.heap.size ≤ k) (v0 v1 v2 v3 v4 v5 v6 : Value) (o : Obj) :
    Below w.heap.size w ((((((((w1.setCell ⟨k, 0, none⟩ v0).setCell ⟨k, 1, none⟩ v1).setCell ⟨k, 2, none⟩ v2).setCell ⟨k, 3, none⟩ v3).setCell ⟨k, 4, none⟩ v4).setCell ⟨k, 5, none⟩ v5).setCell ⟨k, 6, none⟩ v6).alloc o) :=
  (set7 h hk v0 v1 v2 v3 v4 v5 v6).alloc (set7 h hk v0 v1 v2 v3 v4 v5 v6).size o
def rootV (bs' tp pm : Nat) : Value := if (ex bs' tp).2.2.2 = 0 then .tuple #[cp true bs' pm 0 (ex bs' tp).1 (ex bs' tp).2.1 (ex bs' tp).2.2.1, .int .i64 0] else .tuple #[cp false 0 0 0 0 0 0, .int .i64 ((ex bs' tp).2.2.2 : Int)]
theorem ex_err (b t : Nat) : ((ex b t).2.2.2 = 0 ∧ b ≤ t ∧ t ≤ 65536 ∧ (ex b t).1 ≤ 8 ∧ (ex b t).2.1 < 512 ∧ (ex b t).2.2.1 < 512) ∨ ((ex b t).1 = 0 ∧ (ex b t).2.1 = 0 ∧ (ex b t).2.2.1 = 0 ∧ ((ex b t).2.2.2 = 2 ∨ (ex b t).2.2.2 = 5)) := by
  have hL : ∀ k, (exL b t k).2.2.2 = 0 ∧ (exL b t k).1 ≤ 8 ∧ (exL b t k).2.1 < 512 ∧ (exL b t k).2.2.1 < 512 ∨ exL b t k = (0, 0, 0, 5) := by
    intro k
    induction k with
    | zero => exact Or.inr rfl
    | succ k ih =>
      rw [exL]
      split
      · exact Or.inl ⟨rfl, by show 8 - k ≤ 8; omega, by show b / _ % 512 < 512; omega, by show t / _ % 512 < 512; omega⟩
      · exact ih
  unfold ex
  split
  · exact Or.inr ⟨rfl, rfl, rfl, Or.inl rfl⟩
  · rcases hL 9 with ⟨h1, h2, h3, h4⟩ | h
    · exact Or.inl ⟨h1, by omega, by omega, h2, h3, h4⟩
    · rw [h]; exact Or.inr ⟨rfl, rfl, rfl, Or.inr rfl⟩
end Go.Proofs.YtnkoknfihhdelaaGreatDoor.Ca
