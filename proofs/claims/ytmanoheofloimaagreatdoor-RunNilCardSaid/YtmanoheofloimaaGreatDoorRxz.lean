import Derived.Test.YtmanoheofloimaaGreatDoorRows
import Derived.Test.YtmanoheofloimaaGreatDoorRwz
import Derived.LaidMore
import Derived.Stop.Joined
import Derived.ShutString
import Derived.ChangeOld
import Derived.Lib.SmallJoins
namespace Go.Proofs.YtmanoheofloimaaGreatDoor
open Go.ChangeShapes Go.WideShapes Go.ChangeAt Go.RowKit Go.Joins
set_option linter.unusedVariables false
set_option maxRecDepth 100000
theorem cellsRo : Tryz.prog.cellsOf 24 = 2 := by kernel_rfl
theorem cellsBo : Tryz.prog.cellsOf 4 = 1 := by kernel_rfl
theorem cellsU3 : Tryz.prog.cellsOf 22 = 1 := by kernel_rfl
section
variable {H : Type} {enc : TypeId × Value → H} {W : World} {base : Nat} {spare : Nat → Bool} {held : Bool}
theorem open_round {r : Reach} {b0 : Nat} {v : Value} {d : DataW H} {p : List MemPlace} (hv : Value.okWide Tryz.prog W r b0 24 v) (h : DataW.Trod enc Tryz.prog W base spare held 24 v d p) :
    ∃ (g : Bool) (x : Nat), v = .agg #[.bool g, .int .u32 (x : Int)] := by
  obtain ⟨cs, rfl, hsz⟩ := okWide_struct Tryz.underlying24 hv
  obtain ⟨l⟩ := cs
  match l, hsz.trans cellsRo with
  | [c0, c1], _ =>
    obtain ⟨fuel, hf⟩ := h
    obtain ⟨xs, n, _, hx, _, hlen, hg⟩ := DataW.trod_struct Tryz.underlying24 hf
    match xs, hlen with
    | [y0, y1], _ =>
      have g0 : DataW.trod enc Tryz.prog W base spare held n 4 (([c0, c1].drop 0).take (Tryz.prog.cellsOf 4)) = some y0 := hg 0 _ rfl
      rw [cellsBo] at g0
      have g1 : DataW.trod enc Tryz.prog W base spare held n 22 (([c0, c1].drop 1).take (Tryz.prog.cellsOf 22)) = some y1 := hg 1 _ rfl
      rw [cellsU3] at g1
      obtain ⟨g, e0, -⟩ := DataW.trod_bool Tryz.underlying4 g0
      obtain ⟨a, e1, -, wa⟩ := DataW.trod_int Tryz.underlying22 g1
      obtain rfl : c0 = .bool g := List.cons.inj e0 |>.1
      obtain rfl : c1 = .int .u32 a := List.cons.inj e1 |>.1
      have := bounds_u32 wa
      exact ⟨g, a.toNat, by rw [Int.toNat_of_nonneg this.1]⟩
end
def laid3 : List (String × DataW Unit) := [("bulwark/instr.fixed", Rows.laid_bulwark_instr_fixed), ("bulwark/instr.words", Rows.laid_bulwark_instr_words), ("bulwark/instr.forms", Rows.laid_bulwark_instr_forms)]
theorem door_met (os : Os) (args : Array Value) : laidMetH Tryz.prog laid3 ((World.doorLaid Tryz.prog 178 os).forCall (fun _ _ => 0) ⟨#[], args, []⟩).memory :=
  laidMetH_of_parts3 (fuel := 8) (laidMet_of_run' 8 (by kernel_rfl) (by kernel_rfl)) (by kernel_rfl) (by kernel_rfl)
theorem k9 : ∀ W, Calls Tryz.prog 9 #[] W fun e w' => e = .returned (.bool true) ∧ Below W.heap.size W w' := fun W => works_of (fun W x b hM hX hbx => mRun W x b hM hX hbx) W
theorem law3 (g : Bool) (x : Nat) (n : Int) (z : Bool) (w : World) : Calls Tryz.prog 3 #[.agg #[.bool g, .int .u32 (x : Int)], .int .i64 n, .bool z] w fun e w' => e = .returned (.bool true) ∧ Below w.heap.size w w' := by
  cases z
  · exact law3n k9 g x n w
  · exact law3z k9 g x n w
end Go.Proofs.YtmanoheofloimaaGreatDoor
