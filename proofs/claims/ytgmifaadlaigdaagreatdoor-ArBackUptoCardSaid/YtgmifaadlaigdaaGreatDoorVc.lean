import Derived.Test.YtgmifaadlaigdaaGreatDoorVa
import Derived.Test.YtgmifaadlaigdaaGreatDoorYc
namespace Go.Proofs.YtgmifaadlaigdaaGreatDoor
open Go.ChangeShapes Go.WideShapes Go.ChangeAt Go.RowKit Go.Deep Go.Joins
set_option linter.unusedVariables false
theorem back_walk (A : Option Addr) (n c : Nat) (g : Nat → Mem) (B : Option Addr) (m d : Nat) (x : Nat → Ix) {W : World} (ha : Mb W A n c g) (hb : Ib W B m d x) (w : World) (hw : W = w) (hg : Gl w) : Calls Tryz.prog 5 #[.slice A n c, .slice B m d] w fun e w' => e = .returned (.bool true) ∧ Below w.heap.size w w' := by
  subst hw
  obtain ⟨h1, h2, h3, h4⟩ := ha
  obtain ⟨k1, k2, k3⟩ := hb
  have hn := mg_n g n
  have hm := lgN_n x m
  have he := end_mg g (begN x m) n
  have hbg : begN x m ≤ 8388608 := by unfold begN ixS; split <;> omega
  exact walk5 A B n c m d g x W h1 k1 h3 hg (by omega) (by omega) (by omega) (by omega)
end Go.Proofs.YtgmifaadlaigdaaGreatDoor
