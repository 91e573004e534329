import Derived.Test.YtapdiionikfgpaaGreatDoorGp
import Derived.Test.YtapdiionikfgpaaGreatDoorRez
import Derived.Test.YtapdiionikfgpaaGreatDoorRows
import Derived.Test.YtapdiionikfgpaaGreatDoorPcz
import Derived.Shelf.Vars
import Derived.LaidMore
import Derived.LaidSub
import Derived.Deep.DeepWitnessRowRef
import Derived.ShutString
import Derived.ChangeOld
import Derived.Lib.SmallJoins
import Derived.Lib.LaidTab
import Derived.Deep.Slices
import Derived.Deep.Fields
import Derived.SliceStrings
namespace Go.Proofs.YtapdiionikfgpaaGreatDoor
open Go.ChangeShapes Go.WideShapes Go.ChangeAt Go.RowKit Go.Deep Go.Joins
open Li (Gl)
set_option linter.unusedVariables false
def Gx (w : World) : Prop := Gl w ∧ Gt w
theorem gnR : Tryz.prog.globalNamed "strconv.ErrRange" = some 5 := by kernel_rfl
theorem tnR : (Tryz.prog.globals[5]?).map (·.type) = some 157 := by kernel_rfl
theorem gnT : Tryz.prog.globalNamed "internal/strconv.uint64pow10" = some 0 := by kernel_rfl
theorem tnT : (Tryz.prog.globals[0]?).map (·.type) = some 196 := by kernel_rfl
theorem gnB : Tryz.prog.globalNamed "math/bits.deBruijn64tab" = some 7 := by kernel_rfl
theorem un157 : ∃ ms, Tryz.prog.underlying 157 = some (.interface ms) := ⟨_, Tryz.underlying157⟩
set_option maxRecDepth 100000 in
theorem iface_of_trod {H : Type} {enc : TypeId × Value → H} {W : World} {base : Nat} {spare : Nat → Bool} {held : Bool} {t : TypeId} {ms : Array (String × TypeId)} {f : Nat} {cs : List Value} {x : DataW H × List MemPlace}
    (ht : Tryz.prog.underlying t = some (.interface ms)) (h : DataW.trod enc Tryz.prog W base spare held f t cs = some x) : ∃ v, cs = [v] ∧ (v = .nilIface ∨ ∃ te pe, v = .iface te pe) := by
  cases f with
  | zero => simp [DataW.trod] at h
  | succ f =>
    match cs with
    | [] => simp [DataW.trod, ht] at h
    | [v] => cases v <;> first | exact ⟨_, rfl, Or.inl rfl⟩ | exact ⟨_, rfl, Or.inr ⟨_, _, rfl⟩⟩ | simp [DataW.trod, ht] at h
    | a :: b :: r => simp [DataW.trod, ht] at h
def laid7 : List (String × DataW Unit) := Rows.planReadsRow.laid
def laidR : List (String × DataW Unit) := [("strconv.ErrRange", Rows.laid_strconv_ErrRange)]
def laidT : List (String × DataW Unit) := [("internal/strconv.uint64pow10", Lib.tabData .u64 Lib.pow10Tab)]
def laidB : List (String × DataW Unit) := [("math/bits.deBruijn64tab", Rows.laid_math_bits_deBruijn64tab)]
theorem laid7_R : laid7.filter (fun x => x.1 == "strconv.ErrRange") = laidR := by rfl
theorem laid7_T : laid7.filter (fun x => x.1 == "internal/strconv.uint64pow10") = laidT := by rfl
theorem laid7_B : laid7.filter (fun x => x.1 == "math/bits.deBruijn64tab") = laidB := by rfl
theorem block_of_var {W : World} {n : String} {g : Nat} {cs : Array Value} (hg : Tryz.prog.globalNamed n = some g) (h : W.var? Tryz.prog n = some cs) : ∃ t f, W.heap[g]? = some (.cells cs t f) := by
  simp only [World.var?, hg, Option.bind_some] at h
  split at h
  · rename_i c t f hb
    exact ⟨t, f, by rw [hb, Option.some.inj h]⟩
  · cases h
theorem gl_of {W : World} (h : laidMetH Tryz.prog laid7 W) (hs : W.ShapedOpen Tryz.prog) : Gx W := by
  obtain ⟨m, hm⟩ := cell_of_shapedOpen_int (P := Tryz.prog) (g := 1) (t := 3) (zero := #[.int .i64 0]) hs (of_decide_eq_true (by kernel_rfl)) (by kernel_rfl) rfl (by kernel_rfl) (by kernel_rfl) Tryz.underlying3
  have h1 := h.filter (fun x => x.1 == "strconv.ErrRange")
  rw [laid7_R, MakeChecks.laidMetH_plain _ _ _ (by kernel_rfl)] at h1
  have h3 := h.filter (fun x => x.1 == "internal/strconv.uint64pow10")
  rw [laid7_T, MakeChecks.laidMetH_plain _ _ _ (by kernel_rfl)] at h3
  have h4 := h.filter (fun x => x.1 == "math/bits.deBruijn64tab")
  rw [laid7_B, MakeChecks.laidMetH_plain _ _ _ (by kernel_rfl)] at h4
  obtain ⟨ps, ⟨g0, t0, cs0, f0, p0, q0, hg0, ht0, hv0, hd0, _, _⟩, _, _⟩ := h1
  obtain rfl := Option.some.inj (gnR.symm.trans hg0)
  obtain rfl := Option.some.inj (tnR.symm.trans ht0)
  obtain ⟨ms, hu⟩ := un157
  obtain ⟨v, hcs, hv⟩ := iface_of_trod hu hd0
  obtain ⟨t, f, hb⟩ := block_of_var gnR hv0
  have hz : cs0 = #[v] := by
    obtain ⟨l⟩ := cs0
    simp only at hcs
    rw [hcs]
  rw [hz] at hb
  have hl : 5 < W.heap.size := (Array.getElem?_eq_some_iff.1 hb).1
  obtain ⟨_, ⟨g4, t4, cs4, f4, p4, q4, hg4, ht4, hv4, hd4, _, _⟩, _, _⟩ := h4
  obtain rfl := Option.some.inj (gnB.symm.trans hg4)
  obtain ⟨t', f', hb'⟩ := block_of_var gnB hv4
  exact ⟨⟨v, m, by simp [World.cell?, hb], hv, hm, hl⟩, Lib.tabIs_of_head gnT tnT Tryz.underlying196 Tryz.underlying171 (by kernel_rfl) (by kernel_rfl) h3, (Array.getElem?_eq_some_iff.1 hb').1⟩
/-- a start for the witness -/
noncomputable def wit (os : Os) : World :=
  { World.doorLaid Tryz.prog 72 os with heap := (World.doorLaid Tryz.prog 72 os).heap.modify 2 fun
      | .cells _ t frozen => .cells (Go.Pinned.utf8FirstZ.map fun (x : Nat) => Value.int .u8 (x : Int)).toArray t frozen
      | o => o }
theorem wit_met (os : Os) (args : Array Value) : laidMetH Tryz.prog laid7 ((wit os).forCall (fun _ _ => 0) ⟨#[], args, []⟩).memory :=
  laidMetH_of_parts3 (fuel := 8) (laidMet_of_run' 8 (by kernel_rfl) (by kernel_rfl)) (by kernel_rfl) (by kernel_rfl)
theorem bulk_one {H : Type} (d : DataW H) : 1 ≤ Rows.uptoBulk d := by
  cases d with
  | lit l => cases l <;> simp [Rows.uptoBulk]
  | nil => simp [Rows.uptoBulk]
  | ptr d => simp [Rows.uptoBulk]
  | slice elems spare => simp [Rows.uptoBulk]
  | agg parts => simp [Rows.uptoBulk]
  | iface t d => simp [Rows.uptoBulk]
  | map entries => simp [Rows.uptoBulk]
  | held h => simp [Rows.uptoBulk]
theorem bulk_part {H : Type} {d : DataW H} {l : List (DataW H)} (h : d ∈ l) : Rows.uptoBulk d ≤ Rows.uptoBulkAll l := by
  induction l with
  | nil => cases h
  | cons x r ih =>
    simp only [Rows.uptoBulkAll]
    cases List.mem_cons.1 h with
    | inl e => subst e; omega
    | inr e => have := ih e; omega
theorem part_small {H : Type} {d : DataW H} {l : List (DataW H)} (hk : Rows.uptoSmall H l = true) (h : d ∈ l) : Rows.uptoBulk d ≤ 1048576 := by
  have h1 : Rows.uptoBulkAll l ≤ 1048576 := of_decide_eq_true hk
  have := bulk_part h
  omega
theorem bulk_string {H : Type} {b : List UInt8} {l : List (DataW H)} (hk : Rows.uptoSmall H l = true) (h : DataW.lit (.string b) ∈ l) : b.length ≤ 1048576 := by
  have h1 := part_small hk h
  simp only [Rows.uptoBulk] at h1
  omega
end Go.Proofs.YtapdiionikfgpaaGreatDoor
namespace Go.Proofs.YtapdiionikfgpaaGreatDoor
open Go.ChangeShapes Go.WideShapes Go.ChangeAt Go.RowKit
open Li (Gl)
set_option linter.unusedVariables false
set_option linter.unusedSimpArgs false
/-- what Read hands, as one shape for both outcomes: -/
def RdQ (s : ByteArray) (w : World) (e : Ending) (w' : World) : Prop := Below w.heap.size w w' ∧
  ∃ SV CV P D, PlL w' SV CV P D ∧ BdP P ∧ P = (match (readP s).2 with | some q => toI q | none => ⟨0, 0, [], [], 0, ⟨#[]⟩⟩) ∧
    e = .returned (.tuple #[plV SV CV P, .int .i64 ((readP s).1.1 : Int), .int .i64 ((readP s).1.2 : Int)])
theorem ly_nil {α : Type} (W : World) (sz : Nat) (f : α → List Value) : Ly W (.slice none 0 0) sz f [] := ⟨none, 0, rfl, fun h => absurd h (by simp)⟩
theorem rdq_of {s : ByteArray} {w w' : World} {e : Ending} (h : RdP s w e w') : RdQ s w e w' := by
  obtain ⟨hb, ⟨n, k, h1, h2⟩ | ⟨q, SV, CV, D, B, h1, hB, hpl, hD, hsm, rfl⟩⟩ := h
  · refine ⟨hb, .slice none 0 0, .slice none 0 0, ⟨0, 0, [], [], 0, ⟨#[]⟩⟩, [], ⟨ly_nil _ _ _, ly_nil _ _ _, rfl, fun x hx => by cases hx⟩, ⟨by simp, by simp, fun c hc => by cases hc⟩, ?_, ?_⟩
    · rw [h1]
    · rw [h1, h2]; rfl
  · refine ⟨hb, SV, CV, toI q, _, pl_ly hpl hD, bd_sm hsm, ?_, ?_⟩
    · rw [h1]
    · rw [h1]; rfl
theorem q8 (s : ByteArray) (hs : s.size ≤ 16777215) (w : World) (hG : Gl w) : Calls Tryz.prog 8 #[.string s] w fun e w' => RdQ s w e w' := (n8 s hs w hG).mono fun _ _ h => rdq_of h
theorem q9 (s : ByteArray) (hs : s.size ≤ 16777215) (w : World) : Calls Tryz.prog 9 #[.string s] w fun e w' => RdQ s w e w' := (r9 s hs w).mono fun _ _ h => rdq_of h
theorem rdq_one {s : ByteArray} {w w' W : World} {e : Ending} (h : RdQ s w e w') : ∃ st tr s0 mn SV CV D P, P = (match (readP s).2 with | some q => toI q | none => (⟨0, 0, [], [], 0, ⟨#[]⟩⟩ : PlI)) ∧ P.st = st ∧ P.tr = tr ∧ P.s0 = s0 ∧ P.mn = mn ∧ PlL w' SV CV P D ∧ BdP P ∧ IsS SV ∧ IsS CV ∧
    e = .returned (.tuple #[.agg #[.int .i64 st, .int .i64 tr, SV, CV, .int .i64 s0, .string mn], .int .i64 ((readP s).1.1 : Int), .int .i64 ((readP s).1.2 : Int)]) ∧ Below w.heap.size w w' := by
  obtain ⟨hb, SV, CV, P, D, h1, h2, h3, h4⟩ := h
  exact ⟨P.st, P.tr, P.s0, P.mn, SV, CV, D, P, h3, rfl, rfl, rfl, rfl, h1, h2, isS_ly h1.1, isS_ly h1.2.1, h4, hb⟩
end Go.Proofs.YtapdiionikfgpaaGreatDoor
namespace Go.Proofs.YtapdiionikfgpaaGreatDoor
open Go.ChangeShapes Go.WideShapes Go.ChangeAt Go.RowKit
open Li (Gl)
set_option linter.unusedVariables false

set_option linter.unusedSimpArgs false
set_option maxRecDepth 100000 in
set_option maxHeartbeats 8000000 in
theorem walk3 (s : ByteArray) (hs : s.size ≤ 1048576) {W : World} (w : World) (hw : W = w) (hg : Gx W) : Calls Tryz.prog 3 #[.string s] w fun e w' => e = .returned (.bool true) ∧ Below w.heap.size w w' := by
  subst hw
  have HG : Hid (∀ X, Below W.heap.size W X → Gl X ∧ Gt X) := Lib.hid (fun X hX => ⟨hg.1.below hX, hg.2.below hX⟩)
  have K8 : Hid (∀ X, Below W.heap.size W X → Calls Tryz.prog 8 #[.string s] X fun e w' => RdQ s X e w') := Lib.hid (fun X hX => q8 s (by omega) X (HG.out X hX).1)
  have K9 : Hid (∀ X, Calls Tryz.prog 9 #[.string s] X fun e w' => RdQ s X e w') := Lib.hid (fun X => q9 s (by omega) X)
  clear hg hs
  go_enter Tryz.func3, Tryz.ntmps3
  go_wp2_with fail
  refine (K8.out _ (Below.refl _ _)).mono ?_
  intro e w1 h1
  obtain ⟨st, tr, s0, mn, SV, CV, D, P, hP, rfl, rfl, rfl, rfl, hpl, hbd, ⟨A1, n1, c1, rfl⟩, ⟨A2, n2, c2, rfl⟩, rfl, hb1⟩ := rdq_one (W := W) h1
  have HBX := fun X => bx_alloc' w1 X 25
  obtain ⟨m, hm⟩ : ∃ m, (readP s).1.1 = m := ⟨_, rfl⟩
  obtain ⟨k, hk⟩ : ∃ k, (readP s).1.2 = k := ⟨_, rfl⟩
  have HPL := Lib.hid hpl
  have HBD := Lib.hid hbd
  have HP := Lib.hid hP
  have HM := Lib.hid hm
  have HK := Lib.hid hk
  rw [hm, hk]
  have HB1 := Lib.hid hb1
  clear h1 hpl hbd hP hm hk hb1 HBX K8
  go_wp2_with fail
  refine (K9.out _).mono ?_
  intro e w2 h2
  obtain ⟨st', tr', s0', mn', SV', CV', D', P', hP', rfl, rfl, rfl, rfl, hpl', hbd', ⟨B1, o1, d1, rfl⟩, ⟨B2, o2, d2, rfl⟩, rfl, hb2⟩ := rdq_one (W := W) h2
  rw [HM.out, HK.out]
  have hpp : P' = P := by rw [hP', HP.out]
  subst hpp
  have HBX1 : Hid (Bx w2 w1.heap.size #[.int .i64 P'.st, .int .i64 P'.tr, .slice A1 n1 c1, .slice A2 n2 c2, .int .i64 P'.s0, .string P'.mn] 25) := Lib.hid ((bx_alloc' w1 _ 25).below hb2)
  have HB2 : Hid (Below W.heap.size W w2) := Lib.hid (by have := HB1.out.alloc HB1.out.size (.cells #[.int .i64 P'.st, .int .i64 P'.tr, .slice A1 n1 c1, .slice A2 n2 c2, .int .i64 P'.s0, .string P'.mn] 25); exact this.trans (hb2.mono this.size))
  have HPL2 : Hid (PlL w2 (.slice A1 n1 c1) (.slice A2 n2 c2) P' D) := Lib.hid ((HPL.out.below ((Below.refl _ _).alloc (Nat.le_refl _) _)).below hb2)
  obtain ⟨w3, hw3⟩ : ∃ w3, w2.alloc (.cells #[.int .i64 P'.st, .int .i64 P'.tr, .slice B1 o1 d1, .slice B2 o2 d2, .int .i64 P'.s0, .string P'.mn] 25) = w3 := ⟨_, rfl⟩
  have HA : Hid (Below w2.heap.size w2 w3) := Lib.hid (by rw [← hw3]; exact (Below.refl _ _).alloc (Nat.le_refl _) _)
  have HB3 : Hid (Below W.heap.size W w3) := Lib.hid (HB2.out.trans (HA.out.mono HB2.out.size))
  have HX1 := Lib.hid (HBX1.out.below HA.out)
  have HX2 : Hid (Bx w3 w2.heap.size #[.int .i64 P'.st, .int .i64 P'.tr, .slice B1 o1 d1, .slice B2 o2 d2, .int .i64 P'.s0, .string P'.mn] 25) := Lib.hid (by rw [← hw3]; exact bx_alloc' _ _ _)
  have K10 := Lib.hid (r10 _ _ _ _ P' P' D D' w3 (HPL2.out.below HA.out) (hpl'.below HA.out) HBD.out HBD.out)
  unfold plV at K10
  have K11 : Hid (∀ X, Below W.heap.size W X → _) := Lib.hid (fun X hX => n11 X (HG.out X hX).1 (HG.out X hX).2)
  have x0 := HX1.out.cell 0
  have x1 := HX1.out.cell 1
  have x2 := HX1.out.cell 2
  have x3 := HX1.out.cell 3
  have x4 := HX1.out.cell 4
  have x5 := HX1.out.cell 5
  have y0 := HX2.out.cell 0
  have y1 := HX2.out.cell 1
  have y2 := HX2.out.cell 2
  have y3 := HX2.out.cell 3
  have y4 := HX2.out.cell 4
  have y5 := HX2.out.cell 5
  simp at x0 x1 x2 x3 x4 x5 y0 y1 y2 y3 y4 y5
  clear h2 hP' hpl' hbd' hb2 K9 HPL HBX1
  go_wp2_with fail
  refine K10.out.mono ?_
  rintro _ w4 ⟨⟨b, rfl, hb⟩, hb4⟩
  obtain rfl : b = true := by simpa using hb
  have HB4 : Hid (Below W.heap.size W w4) := Lib.hid (HB3.out.trans (hb4.mono HB3.out.size))
  clear hb4 hb K10 x0 x1 x2 x3 x4 x5 y0 y1 y2 y3 y4 y5
  go_wp2_with fail
  refine (K11.out _ HB4.out).mono ?_
  rintro _ w5 ⟨rfl, hb5⟩
  have HB5 : Hid (Below W.heap.size W w5) := Lib.hid (HB4.out.trans (hb5.mono HB4.out.size))
  clear hb5 K11
  go_wp2_with fail
  go_ret
  exact ⟨rfl, HB5.out⟩
end Go.Proofs.YtapdiionikfgpaaGreatDoor
