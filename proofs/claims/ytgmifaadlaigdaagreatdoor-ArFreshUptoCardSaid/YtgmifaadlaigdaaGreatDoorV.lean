import Derived.Test.YtgmifaadlaigdaaGreatDoorT
import Derived.Test.YtgmifaadlaigdaaGreatDoorRows
import Derived.Shelf.Vars
import Derived.LaidMore
import Derived.LaidSub
import Derived.Deep.DeepWitnessRowRef
import Derived.ShutString
import Derived.ChangeOld
import Derived.Lib.SmallJoins
import Derived.Lib.LaidTab
import Derived.Deep.Slices
import Derived.Deep.Fields
namespace Go.Proofs.YtgmifaadlaigdaaGreatDoor
open Go.ChangeShapes Go.WideShapes Go.ChangeAt Go.RowKit Go.Deep Go.Joins
set_option linter.unusedVariables false
theorem gS : Tryz.prog.globalNamed "strconv.ErrSyntax" = some 2 := by kernel_rfl
theorem tS : (Tryz.prog.globals[2]?).map (·.type) = some 49 := by kernel_rfl
theorem gR : Tryz.prog.globalNamed "strconv.ErrRange" = some 3 := by kernel_rfl
theorem tR : (Tryz.prog.globals[3]?).map (·.type) = some 49 := by kernel_rfl
theorem gT : Tryz.prog.globalNamed "internal/strconv.uint64pow10" = some 1 := by kernel_rfl
theorem tT : (Tryz.prog.globals[1]?).map (·.type) = some 140 := by kernel_rfl
theorem gD : Tryz.prog.globalNamed "math/bits.deBruijn64tab" = some 7 := by kernel_rfl
theorem u49 : ∃ ms, Tryz.prog.underlying 49 = some (.interface ms) := ⟨_, Tryz.underlying49⟩
set_option maxRecDepth 100000 in
theorem iface_of_trod {H : Type} {enc : TypeId × Value → H} {W : World} {base : Nat} {spare : Nat → Bool} {held : Bool} {t : TypeId} {ms : Array (String × TypeId)} {f : Nat} {cs : List Value} {x : DataW H × List MemPlace}
    (ht : Tryz.prog.underlying t = some (.interface ms)) (h : DataW.trod enc Tryz.prog W base spare held f t cs = some x) : ∃ v, cs = [v] ∧ (v = .nilIface ∨ ∃ te pe, v = .iface te pe) := by
  cases f with
  | zero => simp [DataW.trod] at h
  | succ f =>
    match cs with
    | [] => simp [DataW.trod, ht] at h
    | [v] => cases v <;> first | exact ⟨_, rfl, Or.inl rfl⟩ | exact ⟨_, rfl, Or.inr ⟨_, _, rfl⟩⟩ | simp [DataW.trod, ht] at h
    | a :: b :: r => simp [DataW.trod, ht] at h
def laid7 : List (String × DataW Unit) := Rows.arPutsUptoRow.laid
def laidS : List (String × DataW Unit) := [("strconv.ErrSyntax", Rows.laid_strconv_ErrSyntax)]
def laidR : List (String × DataW Unit) := [("strconv.ErrRange", Rows.laid_strconv_ErrRange)]
def laidD : List (String × DataW Unit) := [("math/bits.deBruijn64tab", Rows.laid_math_bits_deBruijn64tab)]
def laidT : List (String × DataW Unit) := [("internal/strconv.uint64pow10", Lib.tabData .u64 Lib.pow10Tab)]
theorem laid7_S : laid7.filter (fun x => x.1 == "strconv.ErrSyntax") = laidS := by rfl
theorem laid7_R : laid7.filter (fun x => x.1 == "strconv.ErrRange") = laidR := by rfl
theorem laid7_D : laid7.filter (fun x => x.1 == "math/bits.deBruijn64tab") = laidD := by rfl
theorem laid7_T : laid7.filter (fun x => x.1 == "internal/strconv.uint64pow10") = laidT := by rfl
theorem block_of_var {W : World} {n : String} {g : Nat} {cs : Array Value} (hg : Tryz.prog.globalNamed n = some g) (h : W.var? Tryz.prog n = some cs) : ∃ t f, W.heap[g]? = some (.cells cs t f) := by
  simp only [World.var?, hg, Option.bind_some] at h
  split at h
  · rename_i c t f hb
    exact ⟨t, f, by rw [hb, Option.some.inj h]⟩
  · cases h
theorem err_of {W : World} {n : String} {g : Nat} {l : List (String × DataW Unit)} {d : DataW Unit} (hl : l = [(n, d)]) (hm : laidMet Tryz.prog l W) (hg : Tryz.prog.globalNamed n = some g) (ht : (Tryz.prog.globals[g]?).map (·.type) = some 49) :
    ∃ ev, W.cell? ⟨g, 0, none⟩ = some ev ∧ (ev = .nilIface ∨ ∃ te pe, ev = .iface te pe) := by
  subst hl
  obtain ⟨ps, ⟨g0, t0, cs0, f0, p0, q0, hg0, ht0, hv0, hd0, _, _⟩, _⟩ := hm
  obtain rfl := Option.some.inj (hg.symm.trans hg0)
  obtain rfl := Option.some.inj (ht.symm.trans ht0)
  obtain ⟨ms, hu⟩ := u49
  obtain ⟨v, hcs, hv⟩ := iface_of_trod hu hd0
  obtain ⟨t, f, hb⟩ := block_of_var hg0 hv0
  refine ⟨v, ?_, hv⟩
  have hz : cs0 = #[v] := by
    obtain ⟨l⟩ := cs0
    simp only at hcs
    rw [hcs]
  rw [hz] at hb
  simp [World.cell?, hb]
theorem gl_of {W : World} (h : laidMetH Tryz.prog laid7 W) (hs : W.ShapedOpen Tryz.prog) : Gl W := by
  have h1 := h.filter (fun x => x.1 == "strconv.ErrSyntax")
  rw [laid7_S, MakeChecks.laidMetH_plain _ _ _ (by kernel_rfl)] at h1
  have h2 := h.filter (fun x => x.1 == "strconv.ErrRange")
  rw [laid7_R, MakeChecks.laidMetH_plain _ _ _ (by kernel_rfl)] at h2
  have h3 := h.filter (fun x => x.1 == "internal/strconv.uint64pow10")
  rw [laid7_T, MakeChecks.laidMetH_plain _ _ _ (by kernel_rfl)] at h3
  have h4 := h.filter (fun x => x.1 == "math/bits.deBruijn64tab")
  rw [laid7_D, MakeChecks.laidMetH_plain _ _ _ (by kernel_rfl)] at h4
  refine ⟨err_of rfl h1 gS tS, err_of rfl h2 gR tR, Lib.tabIs_of_head gT tT Tryz.underlying140 Tryz.underlying88 (by kernel_rfl) (by kernel_rfl) h3, ?_⟩
  obtain ⟨ps, ⟨g0, t0, cs0, f0, p0, q0, hg0, ht0, hv0, hd0, _, _⟩, _⟩ := h4
  obtain rfl := Option.some.inj (gD.symm.trans hg0)
  obtain ⟨t, f, hb⟩ := block_of_var gD hv0
  exact lt_of hb
/-- a start for the witness -/
noncomputable def wit (os : Os) : World :=
  { World.doorLaid Tryz.prog 72 os with heap := (World.doorLaid Tryz.prog 72 os).heap.modify 4 fun
      | .cells _ t frozen => .cells (Go.Pinned.utf8FirstZ.map fun (x : Nat) => Value.int .u8 (x : Int)).toArray t frozen
      | o => o }
theorem wit_met (os : Os) (args : Array Value) : laidMetH Tryz.prog laid7 ((wit os).forCall (fun _ _ => 0) ⟨#[], args, []⟩).memory :=
  laidMetH_of_parts3 (fuel := 8) (laidMet_of_run' 8 (by kernel_rfl) (by kernel_rfl)) (by kernel_rfl) (by kernel_rfl)
end Go.Proofs.YtgmifaadlaigdaaGreatDoor
