import Derived.Test.YtodpeiamophjjaaDoorKO
import Derived.Test.YtodpeiamophjjaaDoorRows
import Derived.LaidMore
import Derived.Stop.Joined
import Derived.ShutString
import Derived.ChangeOld
import Derived.Lib.SmallJoins
namespace Go.Proofs.YtodpeiamophjjaaDoor.In
open Go.ChangeShapes Go.WideShapes Go.ChangeAt Go.RowKit Go.Joins
set_option linter.unusedVariables false
theorem cells24 : Tryd.prog.cellsOf 35 = 5 := by kernel_rfl
theorem cells22 : Tryd.prog.cellsOf 33 = 1 := by kernel_rfl
theorem cells5 : Tryd.prog.cellsOf 5 = 1 := by kernel_rfl
theorem cells21 : Tryd.prog.cellsOf 21 = 1 := by kernel_rfl
theorem cells25 : Tryd.prog.cellsOf 22 = 1 := by kernel_rfl
theorem nat_u8 {n : Int} (h : (Lit.int .u8 n).wf = true) : ∃ k : Nat, n = (k : Int) ∧ k < 256 := by
  have := bounds_u8 h; exact ⟨n.toNat, by omega, by omega⟩
section
variable {H : Type} {enc : TypeId × Value → H} {W : World} {base : Nat} {spare : Nat → Bool} {held : Bool}
set_option maxRecDepth 100000 in
/-- an array of numbers that reads as so many is just these cells -/
theorem ints_of_trod {t e : TypeId} {k : IntKind} {n f : Nat} {cs : Array Value} {L : List Nat} {p : List MemPlace} (ht : Tryd.prog.underlying t = some (.array n e)) (he : Tryd.prog.underlying e = some (.int k)) (hc : Tryd.prog.cellsOf e = 1)
    (hcs : Tryd.prog.cellsOf t = n) (h : DataW.trod enc Tryd.prog W base spare held f t cs.toList = some (.agg (L.map fun (x : Nat) => .lit (.int k (x : Int))), p)) : cs = (L.map fun (x : Nat) => Value.int k (x : Int)).toArray := by
  obtain ⟨xs, m, _, hx, hl, hn, hel⟩ := DataW.trod_array ht h
  have h1 : L.map (fun (x : Nat) => (DataW.lit (.int k (x : Int)) : DataW H)) = xs.map (·.1) := by
    have := (Prod.mk.inj hx).1
    exact DataW.agg.inj this
  have hLn : L.length = n := by
    have := congrArg List.length h1
    simp at this
    omega
  obtain ⟨l⟩ := cs
  simp only at hl hel
  congr 1
  apply List.ext_getElem
  · simp; omega
  · intro i h2 h3
    have hi : i < n := by omega
    have h4 := hel i hi
    rw [hc, Nat.mul_one] at h4
    have h5 : (List.drop i l).take 1 = [l[i]] := by
      rw [List.drop_eq_getElem_cons h2]
      rfl
    rw [h5, List.getElem?_eq_getElem (show i < xs.length by omega)] at h4
    obtain ⟨z, e1, e2, _⟩ := DataW.trod_int he h4
    have e3 : l[i] = .int k z := (List.cons.inj e1).1
    have e4 : (xs[i]).1 = DataW.lit (.int k ((L[i]'(by omega) : Nat) : Int)) := by
      have h6 : (L.map (fun (x : Nat) => (DataW.lit (.int k (x : Int)) : DataW H)))[i]? = (xs.map (·.1))[i]? := by rw [h1]
      rw [List.getElem?_map, List.getElem?_map, List.getElem?_eq_getElem (show i < xs.length by omega), List.getElem?_eq_getElem (show i < L.length by omega)] at h6
      exact (Option.some.inj h6).symm
    rw [e2] at e4
    simp only [DataW.lit.injEq, Lit.int.injEq] at e4
    rw [e3, e4.2]
    simp
end
theorem gF : Tryd.prog.globalNamed "bulwark/instr.forms" = some 0 := by kernel_rfl
theorem gW : Tryd.prog.globalNamed "bulwark/instr.words" = some 1 := by kernel_rfl
theorem gX : Tryd.prog.globalNamed "bulwark/instr.fixed" = some 2 := by kernel_rfl
theorem tF : (Tryd.prog.globals[0]?).map (·.type) = some 55 := by kernel_rfl
theorem tW : (Tryd.prog.globals[1]?).map (·.type) = some 67 := by kernel_rfl
theorem tX : (Tryd.prog.globals[2]?).map (·.type) = some 68 := by kernel_rfl
theorem cells45 : Tryd.prog.cellsOf 55 = 68 := by kernel_rfl
theorem cells47 : Tryd.prog.cellsOf 67 = 68 := by kernel_rfl
theorem cells69 : Tryd.prog.cellsOf 68 = 11 := by kernel_rfl
theorem u45 : Tryd.prog.underlying 55 = some (.array 68 5) := by kernel_rfl
theorem u69 : Tryd.prog.underlying 68 = some (.array 11 22) := by kernel_rfl
theorem block_of_var {W : World} {n : String} {g : Nat} {cs : Array Value} (hg : Tryd.prog.globalNamed n = some g) (h : W.var? Tryd.prog n = some cs) : ∃ t f, W.heap[g]? = some (.cells cs t f) := by
  simp only [World.var?, hg, Option.bind_some] at h
  split at h
  · rename_i c t f hb
    exact ⟨t, f, by rw [hb, Option.some.inj h]⟩
  · cases h
def laid3 : List (String × DataW Unit) := [("bulwark/instr.fixed", Rows.laid_bulwark_instr_fixed), ("bulwark/instr.words", Rows.laid_bulwark_instr_words), ("bulwark/instr.forms", Rows.laid_bulwark_instr_forms)]
theorem eX : (Rows.laid_bulwark_instr_fixed : DataW Unit) = .agg (XLl.map fun (x : Nat) => .lit (.int .u32 (x : Int))) := rfl
theorem eW : (Rows.laid_bulwark_instr_words : DataW Unit) = .agg (WLl.map fun (x : Nat) => .lit (.int .u32 (x : Int))) := rfl
theorem eF : (Rows.laid_bulwark_instr_forms : DataW Unit) = .agg (FLl.map fun (x : Nat) => .lit (.int .u8 (x : Int))) := rfl
theorem glob_of_laid {W : World} (h : laidMetH Tryd.prog laid3 W) : Glob W := by
  rw [MakeChecks.laidMetH_plain _ _ _ (by kernel_rfl)] at h
  obtain ⟨ps, ⟨g0, t0, cs0, f0, p0, q0, hg0, ht0, hv0, hd0, ⟨g1, t1, cs1, f1, p1, q1, hg1, ht1, hv1, hd1, ⟨g2, t2, cs2, f2, p2, q2, hg2, ht2, hv2, hd2, _, _⟩, _⟩, _⟩, _, _⟩ := h
  obtain rfl := Option.some.inj (gX.symm.trans hg0)
  obtain rfl := Option.some.inj (gW.symm.trans hg1)
  obtain rfl := Option.some.inj (gF.symm.trans hg2)
  obtain rfl := Option.some.inj (tX.symm.trans ht0)
  obtain rfl := Option.some.inj (tW.symm.trans ht1)
  obtain rfl := Option.some.inj (tF.symm.trans ht2)
  rw [eX] at hd0
  rw [eW] at hd1
  rw [eF] at hd2
  have a0 := ints_of_trod u69 Tryd.underlying22 cells25 cells69 hd0
  have a1 := ints_of_trod u47 Tryd.underlying22 cells25 cells47 hd1
  have a2 := ints_of_trod u45 Tryd.underlying5 cells5 cells45 hd2
  subst a0 a1 a2
  exact ⟨block_of_var hg2 hv2, block_of_var hg1 hv1, block_of_var hg0 hv0⟩
theorem door_met (os : Os) (args : Array Value) : laidMetH Tryd.prog laid3 ((World.doorLaid Tryd.prog 42 os).forCall (fun _ _ => 0) ⟨#[], args, []⟩).memory :=
  laidMetH_of_parts3 (fuel := 8) (laidMet_of_run' 8 (by kernel_rfl) (by kernel_rfl)) (by kernel_rfl) (by kernel_rfl)
end Go.Proofs.YtodpeiamophjjaaDoor.In
