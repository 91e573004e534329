import Derived.Test.YtliimbidkkpegaaDoorN
import Derived.Test.YtliimbidkkpegaaDoorL4
import Derived.LaidSub
namespace Go.Proofs.YtliimbidkkpegaaDoor
open Go.ChangeShapes Go.WideShapes Go.ChangeAt Go.RowKit Go.Joins
set_option linter.unusedVariables false
def laid4 : List (String × DataW Unit) := [("strings.asciiSpace", Rows.laid_strings_asciiSpace), ("bulwark/instr.fixed", Rows.laid_bulwark_instr_fixed), ("bulwark/instr.words", Rows.laid_bulwark_instr_words), ("bulwark/instr.forms", Rows.laid_bulwark_instr_forms)]
def laid5 : List (String × DataW Unit) := [("unicode.White_Space", Rows.laid_unicode_White_Space), ("strings.asciiSpace", Rows.laid_strings_asciiSpace), ("bulwark/instr.fixed", Rows.laid_bulwark_instr_fixed), ("bulwark/instr.words", Rows.laid_bulwark_instr_words), ("bulwark/instr.forms", Rows.laid_bulwark_instr_forms)]
theorem laid5_4 : laid5.filter (fun x => x.1 != "unicode.White_Space") = laid4 := by rfl
theorem laid4_3 : laid4.filter (fun x => x.1 != "strings.asciiSpace") = laid3 := by rfl
def SPn : List Nat := (List.range 256).map fun i => if Lib.isSp (UInt8.ofNat i) then 1 else 0
theorem eS : (Rows.laid_strings_asciiSpace : DataW Unit) = .agg (SPn.map fun (x : Nat) => .lit (.int .u8 (x : Int))) := by kernel_rfl
theorem SPn_tab : (SPn.map fun (x : Nat) => Value.int .u8 (x : Int)) = Lib.asciiSpaceTab.map fun z => Value.int .u8 z := by
  unfold SPn Lib.asciiSpaceTab
  rw [List.map_map, List.map_map]
  apply List.map_congr_left
  intro i _
  show Value.int .u8 ((if Lib.isSp (UInt8.ofNat i) then 1 else 0 : Nat) : Int) = Value.int .u8 (if Lib.isSp (UInt8.ofNat i) then 1 else 0)
  split <;> rfl
theorem tS : (Tryd.prog.globals[3]?).map (·.type) = some 70 := by kernel_rfl
theorem u70 : Tryd.prog.underlying 70 = some (.array 256 5) := by kernel_rfl
theorem cells70 : Tryd.prog.cellsOf 70 = 256 := by kernel_rfl
theorem glob4_of_laid {W : World} (h : laidMetH Tryd.prog laid5 W) : Glob4 W := by
  have h4 := h.filter (fun x => x.1 != "unicode.White_Space")
  rw [laid5_4] at h4
  have h3 := h4.filter (fun x => x.1 != "strings.asciiSpace")
  rw [laid4_3] at h3
  refine ⟨glob_of_laid h3, ?_⟩
  rw [MakeChecks.laidMetH_plain _ _ _ (by kernel_rfl)] at h4
  obtain ⟨ps, ⟨g0, t0, cs0, f0, p0, q0, hg0, ht0, hv0, hd0, _, _⟩, _, _⟩ := h4
  obtain rfl := Option.some.inj (gS.symm.trans hg0)
  obtain rfl := Option.some.inj (tS.symm.trans ht0)
  rw [eS] at hd0
  have a0 := ints_of_trod u70 Tryd.underlying5 cells5 cells70 hd0
  rw [SPn_tab] at a0
  subst a0
  exact block_of_var hg0 hv0
theorem door_met5 (os : Os) (args : Array Value) : laidMetH Tryd.prog laid5 ((World.doorLaid Tryd.prog 48 os).forCall (fun _ _ => 0) ⟨#[], args, []⟩).memory :=
  laidMetH_of_parts3 (fuel := 8) (laidMet_of_run' 8 (by kernel_rfl) (by kernel_rfl)) (by kernel_rfl) (by kernel_rfl)
end Go.Proofs.YtliimbidkkpegaaDoor
