import Derived.Test.YtgmifaadlaigdaaGreatDoorVa
namespace Go.Proofs.YtgmifaadlaigdaaGreatDoor
open Go.ChangeShapes Go.WideShapes Go.ChangeAt Go.RowKit Go.Deep Go.Joins
set_option linter.unusedVariables false
/-- so many bytes, of bounded bulk -/
def By (W : World) (A : Option Addr) (n c : Nat) (f : Nat → Nat) : Prop := Bz W A n f ∧ n ≤ c ∧ (A = none → c = 0) ∧ c ≤ 9223372036854775807 ∧ n ≤ 1048576 ∧ ∀ j, j < n → f j < 256
section
variable {H : Type} {enc : TypeId × Value → H} {W : World} {base : Nat} {spare : Nat → Bool} {held : Bool}
theorem open_by {fuel : Nat} {A : Option Addr} {N c : Nat} {x : DataW H × List MemPlace} (hk : Rows.uptoBulk x.1 ≤ 1048576) (h : DataW.trod enc Tryz.prog W base spare held fuel 24 [.slice A N c] = some x) : ∃ f, By W A N c f := by
  have hcap : c ≤ 9223372036854775807 := by
    rcases open_ints Tryz.underlying24 Tryz.underlying5 cells5 h with ⟨e, _⟩ | ⟨a, len, cap, zs, e, _, _, hm, _⟩
    · simp only [List.cons.injEq, Value.slice.injEq, and_true] at e
      omega
    · simp only [List.cons.injEq, Value.slice.injEq, and_true] at e
      unfold maxLen at hm
      omega
  obtain ⟨A', n', c', f, e, hB, hn, hz, hb⟩ := open_u8s h
  simp only [List.cons.injEq, Value.slice.injEq, and_true] at e
  obtain ⟨rfl, rfl, rfl⟩ := e
  refine ⟨f, hB, hn, hz, hcap, by omega, fun j hj => ?_⟩
  obtain ⟨_, _, _, hs⟩ := hB (by omega)
  exact (hs.2 j hj).1
end
end Go.Proofs.YtgmifaadlaigdaaGreatDoor
