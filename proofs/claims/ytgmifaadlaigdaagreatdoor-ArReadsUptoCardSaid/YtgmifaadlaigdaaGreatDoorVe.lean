import Derived.Test.YtgmifaadlaigdaaGreatDoorVd
import Derived.Test.YtgmifaadlaigdaaGreatDoorYe
namespace Go.Proofs.YtgmifaadlaigdaaGreatDoor
open Go.ChangeShapes Go.WideShapes Go.ChangeAt Go.RowKit Go.Deep Go.Joins
set_option linter.unusedVariables false
theorem reads_walk (A : Option Addr) (n c : Nat) (f : Nat → Nat) {W : World} (ha : By W A n c f) (w : World) (hw : W = w) (hg : Gl w) : Calls Tryz.prog 4 #[.slice A n c] w fun e w' => e = .returned (.bool true) ∧ Below w.heap.size w w' := by
  subst hw
  obtain ⟨h1, h2, h3, h4, h5, h6⟩ := ha
  exact walk4 A n c f W h1 h2 h4 h5 h6 hg
end Go.Proofs.YtgmifaadlaigdaaGreatDoor
