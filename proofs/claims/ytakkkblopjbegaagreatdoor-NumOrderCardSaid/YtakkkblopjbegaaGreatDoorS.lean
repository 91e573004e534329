import Derived.Test.YtakkkblopjbegaaGreatDoorR
import Derived.Test.YtakkkblopjbegaaGreatDoorRows
import Derived.Shelf.Vars
import Derived.Lay
import Derived.LaidMore
import Derived.LaidSub
import Derived.Deep.DeepWitnessRowRef
import Derived.ShutString
import Derived.ChangeOld
import Derived.Lib.SmallJoins
import Derived.Lib.LaidTab
import Derived.Lib.LaidU8
namespace Go.Proofs.YtakkkblopjbegaaGreatDoor
open Go.ChangeShapes Go.WideShapes Go.ChangeAt Go.RowKit Go.Deep Go.Joins Go.Lib
set_option linter.unusedVariables false
theorem gnR : Tryz.prog.globalNamed "strconv.ErrRange" = some 2 := by kernel_rfl
theorem tnR : (Tryz.prog.globals[2]?).map (·.type) = some 47 := by kernel_rfl
theorem gnT : Tryz.prog.globalNamed "internal/strconv.uint64pow10" = some 9 := by kernel_rfl
theorem tnT : (Tryz.prog.globals[9]?).map (·.type) = some 171 := by kernel_rfl
theorem gnB : Tryz.prog.globalNamed "math/bits.deBruijn64tab" = some 16 := by kernel_rfl
theorem gnO : Tryz.prog.globalNamed "internal/strconv.optimize" = some 4 := by kernel_rfl
theorem tnO : (Tryz.prog.globals[4]?).map (·.type) = some 4 := by kernel_rfl
theorem gnP : Tryz.prog.globalNamed "internal/strconv.pow10Tab" = some 13 := by kernel_rfl
theorem tnP : (Tryz.prog.globals[13]?).map (·.type) = some 201 := by kernel_rfl
theorem un47 : ∃ ms, Tryz.prog.underlying 47 = some (.interface ms) := ⟨_, Tryz.underlying47⟩
set_option maxRecDepth 100000 in
theorem iface_of_trod {H : Type} {enc : TypeId × Value → H} {W : World} {base : Nat} {spare : Nat → Bool} {held : Bool} {t : TypeId} {ms : Array (String × TypeId)} {f : Nat} {cs : List Value} {x : DataW H × List MemPlace}
    (ht : Tryz.prog.underlying t = some (.interface ms)) (h : DataW.trod enc Tryz.prog W base spare held f t cs = some x) : ∃ v, cs = [v] ∧ (v = .nilIface ∨ ∃ te pe, v = .iface te pe) := by
  cases f with
  | zero => simp [DataW.trod] at h
  | succ f =>
    match cs with
    | [] => simp [DataW.trod, ht] at h
    | [v] => cases v <;> first | exact ⟨_, rfl, Or.inl rfl⟩ | exact ⟨_, rfl, Or.inr ⟨_, _, rfl⟩⟩ | simp [DataW.trod, ht] at h
    | a :: b :: r => simp [DataW.trod, ht] at h
set_option maxRecDepth 100000 in
theorem bool_of_trod {enc : TypeId × Value → Unit} {W : World} {base : Nat} {spare : Nat → Bool} {held : Bool} {f : Nat} {cs : List Value} {p : List MemPlace}
    (h : DataW.trod enc Tryz.prog W base spare held f 4 cs = some (.lit (.bool true), p)) : cs = [.bool true] := by
  have ht := Tryz.underlying4
  cases f with
  | zero => simp [DataW.trod] at h
  | succ f =>
    match cs with
    | [] => simp [DataW.trod, ht] at h
    | [v] => cases v <;> simp [DataW.trod, ht] at h ⊢ <;> first | exact h | (obtain ⟨h, -⟩ := h; exact h) | skip
    | a :: b :: r => simp [DataW.trod, ht] at h
def laid7 : List (String × DataW Unit) := Rows.numDoesRow.laid
def laidR : List (String × DataW Unit) := [("strconv.ErrRange", Rows.laid_strconv_ErrRange)]
def laidT : List (String × DataW Unit) := [("internal/strconv.uint64pow10", Lib.tabData .u64 Lib.pow10Tab)]
def laidB : List (String × DataW Unit) := [("math/bits.deBruijn64tab", Rows.laid_math_bits_deBruijn64tab)]
def laidO : List (String × DataW Unit) := [("internal/strconv.optimize", .lit (.bool true))]
def laidP : List (String × DataW Unit) := [("internal/strconv.pow10Tab", Go.Pinned.pow10Tab)]
theorem laid7_R : laid7.filter (fun x => x.1 == "strconv.ErrRange") = laidR := by rfl
theorem laid7_T : laid7.filter (fun x => x.1 == "internal/strconv.uint64pow10") = laidT := by rfl
theorem laid7_B : laid7.filter (fun x => x.1 == "math/bits.deBruijn64tab") = laidB := by rfl
theorem laid7_O : laid7.filter (fun x => x.1 == "internal/strconv.optimize") = laidO := by rfl
theorem laid7_P : laid7.filter (fun x => x.1 == "internal/strconv.pow10Tab") = laidP := by rfl
theorem block_of_var {W : World} {n : String} {g : Nat} {cs : Array Value} (hg : Tryz.prog.globalNamed n = some g) (h : W.var? Tryz.prog n = some cs) : ∃ t f, W.heap[g]? = some (.cells cs t f) := by
  simp only [World.var?, hg, Option.bind_some] at h
  split at h
  · rename_i c t f hb
    exact ⟨t, f, by rw [hb, Option.some.inj h]⟩
  · cases h
theorem row365 : (Go.Pinned.pow10Rows.map fun x => (DataW.agg [.lit (.int .u64 x.1), .lit (.int .u64 x.2)] : DataW Unit))[365]? = some (.agg [.lit (.int .u64 12800000000000000000), .lit (.int .u64 0)]) := by kernel_rfl
theorem row343 : (Go.Pinned.pow10Rows.map fun x => (DataW.agg [.lit (.int .u64 x.1), .lit (.int .u64 x.2)] : DataW Unit))[343]? = some (.agg [.lit (.int .u64 12089258196146291748), .lit (.int .u64 17307473159717249708)]) := by kernel_rfl
theorem flds {i : Nat} {f : Field} {fs : Array Field} (hu : Tryz.prog.underlying 200 = some (.struct fs)) (h : fs[i]? = some f) : Tryz.prog.underlying f.type = some (.int .u64) ∧ f.offset = i ∧ Tryz.prog.cellsOf f.type = 1 := by
  rw [Tryz.underlying200] at hu
  injection hu with hu
  injection hu with hu
  subst hu
  match i, h with
  | 0, h =>
    simp at h
    subst h
    exact ⟨Tryz.underlying24, rfl, by kernel_rfl⟩
  | 1, h =>
    simp at h
    subst h
    exact ⟨Tryz.underlying24, rfl, by kernel_rfl⟩
  | n + 2, h => simp at h
/-- an entry of the table -/
theorem pow_cells {W : World} {cs : Array Value} {fuel : Nat} {p : List MemPlace} (h : DataW.trod (fun _ => ()) Tryz.prog W 0 (fun _ => true) false fuel 201 cs.toList = some (Go.Pinned.pow10Tab, p)) (i : Nat) (hi : i < 696) (a b : Nat)
    (hr : (Go.Pinned.pow10Rows.map fun x => (DataW.agg [.lit (.int .u64 x.1), .lit (.int .u64 x.2)] : DataW Unit))[i]? = some (.agg [.lit (.int .u64 a), .lit (.int .u64 b)])) : cs[2 * i]? = some (.int .u64 a) ∧ cs[2 * i + 1]? = some (.int .u64 b) := by
  obtain ⟨f', d, q, h1, h2⟩ := array_elem (ds := Go.Pinned.pow10Rows.map fun x => (DataW.agg [.lit (.int .u64 x.1), .lit (.int .u64 x.2)] : DataW Unit)) Tryz.underlying201 h i hi
  rw [hr] at h1
  cases h1
  have h3 := ints_of_struct (k := .u64) (zs := [(a : Int), (b : Int)]) Tryz.underlying200 (fun i f hf => flds Tryz.underlying200 hf) (by kernel_rfl) h2
  have hc : Tryz.prog.cellsOf 200 = 2 := by kernel_rfl
  rw [hc] at h3
  have e0 := congrArg (·[0]?) h3
  have e1 := congrArg (·[1]?) h3
  simp [List.getElem?_drop] at e0 e1
  exact ⟨by rw [Nat.mul_comm]; exact e0, by rw [Nat.mul_comm]; exact e1⟩
theorem gl_of {W : World} (h : laidMetH Tryz.prog laid7 W) (hs : W.ShapedOpen Tryz.prog) : Gn W := by
  obtain ⟨m, hm⟩ := cell_of_shapedOpen_int (P := Tryz.prog) (g := 6) (t := 3) (zero := #[.int .i64 0]) hs (of_decide_eq_true (by kernel_rfl)) (by kernel_rfl) rfl (by kernel_rfl) (by kernel_rfl) Tryz.underlying3
  have h1 := h.filter (fun x => x.1 == "strconv.ErrRange")
  rw [laid7_R, MakeChecks.laidMetH_plain _ _ _ (by kernel_rfl)] at h1
  have h3 := h.filter (fun x => x.1 == "internal/strconv.uint64pow10")
  rw [laid7_T, MakeChecks.laidMetH_plain _ _ _ (by kernel_rfl)] at h3
  have h4 := h.filter (fun x => x.1 == "math/bits.deBruijn64tab")
  rw [laid7_B, MakeChecks.laidMetH_plain _ _ _ (by kernel_rfl)] at h4
  have h5 := h.filter (fun x => x.1 == "internal/strconv.optimize")
  rw [laid7_O, MakeChecks.laidMetH_plain _ _ _ (by kernel_rfl)] at h5
  have h6 := h.filter (fun x => x.1 == "internal/strconv.pow10Tab")
  rw [laid7_P, MakeChecks.laidMetH_plain _ _ _ (by kernel_rfl)] at h6
  obtain ⟨ps, ⟨g0, t0, cs0, f0, p0, q0, hg0, ht0, hv0, hd0, _, _⟩, _, _⟩ := h1
  obtain rfl := Option.some.inj (gnR.symm.trans hg0)
  obtain rfl := Option.some.inj (tnR.symm.trans ht0)
  obtain ⟨ms, hu⟩ := un47
  obtain ⟨v, hcs, hv⟩ := iface_of_trod hu hd0
  obtain ⟨t, f, hb⟩ := block_of_var gnR hv0
  have hz : cs0 = #[v] := by
    obtain ⟨l⟩ := cs0
    simp only at hcs
    rw [hcs]
  rw [hz] at hb
  obtain ⟨_, ⟨g4, t4, cs4, f4, p4, q4, hg4, ht4, hv4, hd4, _, _⟩, _, _⟩ := h4
  obtain rfl := Option.some.inj (gnB.symm.trans hg4)
  obtain ⟨t', f', hb'⟩ := block_of_var gnB hv4
  have hl : 16 < W.heap.size := (Array.getElem?_eq_some_iff.1 hb').1
  obtain ⟨_, ⟨g5, t5, cs5, f5, p5, q5, hg5, ht5, hv5, hd5, _, _⟩, _, _⟩ := h5
  obtain rfl := Option.some.inj (gnO.symm.trans hg5)
  obtain rfl := Option.some.inj (tnO.symm.trans ht5)
  have hc5 := bool_of_trod hd5
  obtain ⟨t9, f9, hbo⟩ := block_of_var gnO hv5
  have hz5 : cs5 = #[.bool true] := by
    obtain ⟨l⟩ := cs5
    simp only at hc5
    rw [hc5]
  rw [hz5] at hbo
  obtain ⟨_, ⟨g6, t6, cs6, f6, p6, q6, hg6, ht6, hv6, hd6, _, _⟩, _, _⟩ := h6
  obtain rfl := Option.some.inj (gnP.symm.trans hg6)
  obtain rfl := Option.some.inj (tnP.symm.trans ht6)
  obtain ⟨tp, fp, hbp⟩ := block_of_var gnP hv6
  obtain ⟨a1, a2⟩ := pow_cells hd6 365 (by decide) _ _ row365
  obtain ⟨b1, b2⟩ := pow_cells hd6 343 (by decide) _ _ row343
  exact ⟨⟨v, m, by simp [World.cell?, hb], hv, hm, by simp [World.cell?, hbo], hl⟩, Lib.tabIs_of_head gnT tnT Tryz.underlying171 Tryz.underlying24 (by kernel_rfl) (by kernel_rfl) h3,
    by simpa [World.cell?, hbp] using a1, by simpa [World.cell?, hbp] using a2, by simpa [World.cell?, hbp] using b1, by simpa [World.cell?, hbp] using b2⟩
/-- a start for the witness -/
noncomputable def wit (os : Os) : World := World.laidAll Tryz.prog os laid7
theorem wit_os (os : Os) : (wit os).os = os := World.laidAll_os _ _ _
theorem wit_met (os : Os) (args : Array Value) : laidMetH Tryz.prog laid7 ((wit os).forCall (fun _ _ => 0) ⟨#[], args, []⟩).memory := by
  rw [MakeChecks.laidMetH_plain _ _ _ (by kernel_rfl)]
  exact laidMet_laidAll _ (by kernel_rfl) (by kernel_rfl)
theorem walk3 (a b c d : Int) (ha : 0 ≤ a ∧ a ≤ 255) (hb : 0 ≤ b ∧ b ≤ 255) (hc : 0 ≤ c ∧ c ≤ 18446744073709551615) (hd : 0 ≤ d ∧ d ≤ 18446744073709551615) {W : World} (w : World) (hw : W = w) (hg : Gn W) :
    Calls Tryz.prog 3 #[.int .u8 a, .int .u8 b, .int .u64 c, .int .u64 d] w fun e w' => e = .returned (.bool true) ∧ Below w.heap.size w w' := by
  subst hw
  obtain ⟨a, rfl⟩ : ∃ n : Nat, a = (n : Int) := ⟨a.toNat, by omega⟩
  obtain ⟨b, rfl⟩ : ∃ n : Nat, b = (n : Int) := ⟨b.toNat, by omega⟩
  obtain ⟨c, rfl⟩ : ∃ n : Nat, c = (n : Int) := ⟨c.toNat, by omega⟩
  obtain ⟨d, rfl⟩ : ∃ n : Nat, d = (n : Int) := ⟨d.toNat, by omega⟩
  exact w3 a b c d (by omega) W hg
theorem walk4 (c d : Int) (hc : 0 ≤ c ∧ c ≤ 18446744073709551615) (hd : 0 ≤ d ∧ d ≤ 18446744073709551615) {W : World} (w : World) (hw : W = w) (hg : Gn W) :
    Calls Tryz.prog 4 #[.int .u64 c, .int .u64 d] w fun e w' => e = .returned (.bool true) ∧ Below w.heap.size w w' := by
  subst hw
  obtain ⟨c, rfl⟩ : ∃ n : Nat, c = (n : Int) := ⟨c.toNat, by omega⟩
  obtain ⟨d, rfl⟩ : ∃ n : Nat, d = (n : Int) := ⟨d.toNat, by omega⟩
  exact w4 c d (by omega) W hg
end Go.Proofs.YtakkkblopjbegaaGreatDoor
