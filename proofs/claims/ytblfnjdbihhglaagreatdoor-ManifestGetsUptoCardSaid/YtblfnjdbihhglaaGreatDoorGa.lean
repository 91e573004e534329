import Derived.Test.YtblfnjdbihhglaaGreatDoorGb
import Derived.Test.YtblfnjdbihhglaaGreatDoorGc
import Derived.Test.YtblfnjdbihhglaaGreatDoorGn
import Derived.Test.YtblfnjdbihhglaaGreatDoorRows
import Derived.Shelf.Vars
import Derived.LaidMore
import Derived.LaidSub
import Derived.Deep.DeepWitnessRowRef
import Derived.ShutString
import Derived.ChangeOld
import Derived.Lib.SmallJoins
import Derived.Lib.LaidTab
import Derived.Deep.Slices
import Derived.Deep.Fields
import Derived.SliceStrings
namespace Go.Proofs.YtblfnjdbihhglaaGreatDoor
open Go.ChangeShapes Go.WideShapes Go.ChangeAt Go.RowKit
open Li (Ss Gl Wl Ws Reads bb okT okb lnsB wordsB mk rdE rdV asc)
set_option linter.unusedVariables false
set_option linter.unusedSimpArgs false
theorem mk_asc (l : List UInt8) (h : l.all (fun b => decide (b.toNat < 128)) = true) : asc (mk l) := fun i hi => by
  have hi2 : i < l.length := by
    have : (mk l).size = l.length := by show (mk l).data.toList.length = _; rw [Li.list_mk]
    omega
  rw [Li.bb_eq _ i hi]
  have := (List.all_eq_true.1 h) l[i] (List.getElem_mem hi2)
  have e : (mk l)[i]'hi = l[i] := by
    show (mk l).data[i] = _
    unfold mk
    simp
  rw [e]
  simpa using this
def sA : ByteArray := ⟨#[97]⟩
def sM : ByteArray := ⟨#[109]⟩
def T1 : ByteArray := ⟨#[99, 111, 109, 112, 97, 114, 116, 109, 101, 110, 116, 32, 97, 10, 99, 111, 109, 112, 97, 114, 116, 109, 101, 110, 116, 32, 97]⟩
theorem t1_ok : okT T1 = true := Li.okT_yes T1 (fun i hi => by
  have h : (List.range 27).all (fun i => okb (bb T1 i)) = true := by decide
  exact (List.all_eq_true.1 h) i (List.mem_range.2 hi))
theorem t1_lns : lnsB T1 = [mk [99, 111, 109, 112, 97, 114, 116, 109, 101, 110, 116, 32, 97], mk [99, 111, 109, 112, 97, 114, 116, 109, 101, 110, 116, 32, 97]] := by
  rw [Li.lns_list, show T1.data.toList = [99, 111, 109, 112, 97, 114, 116, 109, 101, 110, 116, 32, 97, 10, 99, 111, 109, 112, 97, 114, 116, 109, 101, 110, 116, 32, 97] from rfl]
  rfl
theorem t1_w : wordsB (mk [99, 111, 109, 112, 97, 114, 116, 109, 101, 110, 116, 32, 97]) = [sComp, sA] := by
  rw [Li.words_list _ (mk_asc _ (by decide)), Li.list_mk]
  rfl
theorem t1_e : rdE T1 = 0 := Li.rdE_ok T1 t1_ok (by
  rintro (h | ⟨x, hx, h⟩)
  · rw [t1_lns] at h; simp at h
  · rw [t1_lns] at hx
    simp at hx
    subst hx
    exact absurd h (by decide))
theorem t1_v : rdV T1 = [(1, [sComp, sA]), (2, [sComp, sA])] := by
  rw [Li.rdV_ok T1 t1_e, t1_lns]
  simp [Li.saidB, t1_w]
theorem e0_lns : lnsB ⟨#[]⟩ = [] := by
  rw [Li.lns_list]
  rfl
theorem e0_e : rdE ⟨#[]⟩ = 0 := Li.rdE_ok _ (Li.okT_yes _ (fun i hi => absurd hi (by show ¬ i < 0; omega))) (by
  rintro (h | ⟨x, hx, h⟩)
  · rw [e0_lns] at h; simp at h
  · rw [e0_lns] at hx; cases hx)
theorem e0_v : rdV ⟨#[]⟩ = [] := by rw [Li.rdV_ok _ e0_e, e0_lns]; rfl
theorem get_e0 : getV ⟨#[]⟩ = ((0, 0), [], []) := by
  unfold getV
  rw [if_pos e0_e, e0_v]
  rfl
theorem name_a : nameB sA = true := by
  unfold nameB
  refine decide_eq_true ⟨by decide, by decide, by decide, fun i hi => ?_⟩
  have : i = 0 := by have : i < 1 := hi; omega
  subst this
  decide
theorem sym_m : symB sM = true := by
  unfold symB Li.wd
  rw [decide_eq_true (by
    refine ⟨by decide, by decide, fun i hi => ?_⟩
    have : i = 0 := by have : i < 1 := hi; omega
    subst this
    decide)]
  decide
theorem st1 (h : Nat → ByteArray) (h0 : h 0 = sComp) (h1 : h 1 = sA) : stepM [] [] 2 h = (0, [sA], []) := by
  unfold stepM
  rw [if_pos h0, if_pos rfl, h1]
  unfold compM
  rw [name_a]
  rfl
theorem st2 (h : Nat → ByteArray) (h0 : h 0 = sComp) (h1 : h 1 = sA) : stepM [sA] [] 2 h = (7, [sA], []) := by
  unfold stepM
  rw [if_pos h0, if_pos rfl, h1]
  unfold compM
  rw [name_a]
  rfl
theorem run_t1 (g : Nat → Wl) (n0 : (g 0).n = 2) (a0 : (g 0).f 0 = sComp) (b0 : (g 0).f 1 = sA) (n1 : (g 1).n = 2) (a1 : (g 1).f 0 = sComp) (b1 : (g 1).f 1 = sA) (l1 : (g 1).line = 2) : runG g 2 0 [] [] = ((2, 7), [], []) := by
  simp only [runG, n0, st1 _ a0 b0, n1, st2 _ a1 b1, l1, Nat.zero_add, if_true]
  rw [if_neg (by decide)]
theorem get_t1 : getV T1 = ((2, 7), [], []) := by
  unfold getV
  rw [if_pos t1_e, t1_v]
  exact run_t1 _ rfl rfl rfl rfl rfl rfl rfl
theorem putR_ok (R : List (Nat × List ByteArray)) (h1 : R.length ≤ 400) (h2 : ∀ x ∈ R, Li.lineP (wlW x.2) ∧ (Li.jn (wlW x.2) x.2.length).size ≤ 100) : putR R = .tuple #[.string (Li.outN (fun k => wlW (((R[k]?).map (·.2)).getD [])) R.length), .int .i64 0] := by
  have hk : ∀ k, (hk : k < R.length) → wlW (((R[k]?).map (·.2)).getD []) = wlW (R[k].2) := fun k hk => by rw [List.getElem?_eq_getElem hk]; rfl
  unfold putR Li.putV
  rw [Li.mayB_yes _ _ (fun k hk' => by rw [hk k hk']; exact (h2 _ (List.getElem_mem hk')).1), if_neg (by decide), if_neg]
  rintro (⟨k, hk', hl⟩ | hl)
  · unfold Li.longP at hl
    simp only [hk k hk'] at hl
    have := (h2 _ (List.getElem_mem hk')).2
    have e : (wlW (R[k].2)).n = R[k].2.length := rfl
    rw [e] at hl
    omega
  · omega
theorem put_e0 (g : Nat → ByteArray) (f : Nat → Ed) : gputV 0 g 0 f = .tuple #[.string ⟨#[]⟩, .int .i64 0] := by
  unfold gputV
  rw [if_pos (grB_yes ⟨fun i hi => absurd hi (by omega), fun k hk => absurd hk (by omega)⟩)]
  exact putR_ok _ (by rw [gR_len]; omega) (fun x hx => by rw [show gR 0 g f 0 = [] from rfl] at hx; cases hx)
def eM : Ed := ⟨5, 0, -1, sM, 0⟩
def T2 : ByteArray := ⟨#[99, 111, 109, 112, 97, 114, 116, 109, 101, 110, 116, 32, 97, 10, 115, 116, 97, 114, 116, 32, 97, 32, 109, 10]⟩
theorem wd_of (l : List UInt8) (h0 : l ≠ []) (h : (List.range l.length).all (fun i => Li.inW (bb (mk l) i)) = true) (h1 : bb (mk l) 0 ≠ 35) : Li.wd (mk l) = true := by
  have hs : (mk l).size = l.length := by show (mk l).data.toList.length = _; rw [Li.list_mk]
  unfold Li.wd
  refine decide_eq_true ⟨by rw [hs]; exact List.length_pos_iff.2 h0, h1, fun i hi => (List.all_eq_true.1 h) i (List.mem_range.2 (by omega))⟩
theorem put_t2 (g : Nat → ByteArray) (f : Nat → Ed) (hg : g 0 = sA) (hf : f 0 = eM) : gputV 1 g 1 f = .tuple #[.string T2, .int .i64 0] := by
  have hgr : GrP 1 g 1 f := by
    refine ⟨fun i hi => ?_, fun k hk => ?_⟩
    · obtain rfl : i = 0 := by omega
      rw [hg]
      exact ⟨name_a, fun j hj => absurd hj (by omega)⟩
    · obtain rfl : k = 0 := by omega
      rw [hf]
      refine ⟨?_, fun h => absurd h (by omega)⟩
      unfold edB
      rw [show nmB eM.k eM.nm = symB sM from by unfold nmB; rw [if_neg (by decide)]; rfl, sym_m]
      decide
  have hR : gR 1 g f 1 = [(0, [sComp, sA]), (0, [sStart, sA, sM])] := by
    unfold gR gR1
    simp only [List.range_succ, List.range_zero, List.nil_append, List.map_cons, List.map_nil, List.cons_append]
    rw [hg, hf]
    unfold saidL
    rw [show (g (eM.fr.toNat)) = sA from hg]
    rfl
  unfold gputV
  rw [if_pos (grB_yes hgr), hR, putR_ok]
  · rfl
  · decide
  · intro x hx
    have w1 : Li.wd sComp = true := wd_of [99, 111, 109, 112, 97, 114, 116, 109, 101, 110, 116] (by decide) (by decide) (by decide)
    have w2 : Li.wd sA = true := wd_of [97] (by decide) (by decide) (by decide)
    have w3 : Li.wd sStart = true := wd_of [115, 116, 97, 114, 116] (by decide) (by decide) (by decide)
    have w4 : Li.wd sM = true := wd_of [109] (by decide) (by decide) (by decide)
    simp only [List.mem_cons, List.not_mem_nil, or_false] at hx
    rcases hx with rfl | rfl
    · refine ⟨⟨by decide, fun j hj => ?_⟩, by decide⟩
      have hj : j < 2 := hj
      rcases (by omega : j = 0 ∨ j = 1) with rfl | rfl
      · exact w1
      · exact w2
    · refine ⟨⟨by decide, fun j hj => ?_⟩, by decide⟩
      have hj : j < 3 := hj
      rcases (by omega : j = 0 ∨ j = 1 ∨ j = 2) with rfl | rfl | rfl
      · exact w3
      · exact w2
      · exact w4
end Go.Proofs.YtblfnjdbihhglaaGreatDoor
namespace Go.Proofs.YtblfnjdbihhglaaGreatDoor
open Go.ChangeShapes Go.WideShapes Go.ChangeAt Go.RowKit
open Li (Ss Gl)
set_option linter.unusedVariables false
set_option linter.unusedSimpArgs false
theorem k7a (W : World) (hg : Gt W) : Calls Tryz.prog 7 #[.agg #[.slice none 0 0, .slice none 0 0]] W fun e w' => e = .returned (.tuple #[.string ⟨#[]⟩, .int .i64 0]) ∧ Below W.heap.size W w' := by
  have := c7 none 0 0 none 0 0 (fun _ => ⟨#[]⟩) (fun _ => eM) W (fun h => absurd h (by omega)) (fun h => absurd h (by omega)) (by omega) hg
  rwa [put_e0] at this
theorem k9 (s : ByteArray) (ln : Int) (c : Nat) (hv : getV s = ((ln, c), [], [])) (hs : s.size ≤ 16777215) (W : World) (hG : Gl W) : Calls Tryz.prog 9 #[.string s] W fun e w' => ∃ A a A' a', e = .returned (.tuple #[.agg #[.slice A 0 a, .slice A' 0 a'], .int .i64 ln, .int .i64 (c : Int)]) ∧ Below W.heap.size W w' := by
  refine (c9 s hs W hG).mono ?_
  rintro e w' ⟨V, U, he, hV, hU, hb⟩
  rw [hv] at he hV hU
  obtain ⟨A, a, rfl, _⟩ := Li.own_slice hV
  obtain ⟨A', a', rfl, _⟩ := Li.own_slice hU
  exact ⟨A, a, A', a', he, hb⟩
theorem k7b (W : World) (hg : Gt W) : Calls Tryz.prog 7 #[.agg #[.slice (some ⟨W.heap.size, 0, none⟩) 1 1, .slice (some ⟨W.heap.size + 1, 0, none⟩) 1 1]] ((W.alloc (.cells #[.string ⟨#[97]⟩] 9)).alloc (.cells #[.int .u8 5, .int .i64 0, .int .i64 (-1), .string ⟨#[109]⟩, .int .u32 0] 42)) fun e w' => e = .returned (.tuple #[.string T2, .int .i64 0]) ∧ Below W.heap.size W w' := by
  have hz : (W.alloc (.cells #[.string ⟨#[97]⟩] 9)).heap.size = W.heap.size + 1 := by simp
  have hb : Below W.heap.size W ((W.alloc (.cells #[.string ⟨#[97]⟩] 9)).alloc (.cells #[.int .u8 5, .int .i64 0, .int .i64 (-1), .string ⟨#[109]⟩, .int .u32 0] 42)) := ((Below.refl _ W).alloc (Nat.le_refl _) _).alloc (by omega) _
  have h1 : ((W.alloc (.cells #[.string ⟨#[97]⟩] 9)).alloc (.cells #[.int .u8 5, .int .i64 0, .int .i64 (-1), .string ⟨#[109]⟩, .int .u32 0] 42)).heap[W.heap.size]? = some (.cells #[.string ⟨#[97]⟩] 9 (0, 0)) := (Below.heap_alloc _ _ _ (by omega)).trans (heap_alloc_new W _)
  have h2 : ((W.alloc (.cells #[.string ⟨#[97]⟩] 9)).alloc (.cells #[.int .u8 5, .int .i64 0, .int .i64 (-1), .string ⟨#[109]⟩, .int .u32 0] 42)).heap[W.heap.size + 1]? = some (.cells #[.int .u8 5, .int .i64 0, .int .i64 (-1), .string ⟨#[109]⟩, .int .u32 0] 42 (0, 0)) := by
    have := heap_alloc_new (W.alloc (.cells #[.string ⟨#[97]⟩] 9)) (.cells #[.int .u8 5, .int .i64 0, .int .i64 (-1), .string ⟨#[109]⟩, .int .u32 0] 42)
    rw [hz] at this
    exact this
  have := c7 (some ⟨W.heap.size, 0, none⟩) 1 1 (some ⟨W.heap.size + 1, 0, none⟩) 1 1 (fun _ => sA) (fun _ => eM) _ (fun _ => ⟨W.heap.size, 0, rfl, by have := hb.size; simp; omega, fun k hk => by
    obtain rfl : k = 0 := by omega
    exact ⟨by rw [cell_of_row _ _ _ _ _ _ h1]; rfl, by decide⟩⟩) (fun _ => ⟨W.heap.size + 1, 0, rfl, by simp, fun k hk => by
    obtain rfl : k = 0 := by omega
    refine ⟨⟨by decide, by decide, by decide⟩, ?_, ?_, ?_, ?_, ?_⟩ <;> (rw [cell_of_row _ _ _ _ _ _ h2]; rfl)⟩) (by omega) (hg.below hb)
  rw [put_t2 (fun _ => sA) (fun _ => eM) rfl rfl] at this
  exact this.mono fun e w' h => ⟨h.1, hb.trans (h.2.mono (by simp; omega))⟩
set_option maxRecDepth 100000 in
set_option maxHeartbeats 4000000 in
theorem c6 (w : World) (hG : Gl w) (hg : Gt w) : Calls Tryz.prog 6 #[] w fun e w' => e = .returned (.bool true) ∧ Below w.heap.size w w' := by
  have HG : Hid (∀ W, Below w.heap.size w W → Gl W ∧ Gt W) := Lib.hid (fun W hW => ⟨hG.below hW, hg.below hW⟩)
  have K1 := Lib.hid (k7a w hg)
  clear hG hg
  go_enter Tryz.func6, Tryz.ntmps6
  go_wp2_with fail
  refine K1.out.mono ?_
  rintro _ w1 ⟨rfl, hb1⟩
  have HB1 := Lib.hid hb1
  clear hb1 K1
  go_wp2_with fail
  refine (k9 ⟨#[]⟩ 0 0 get_e0 (by decide) w1 (HG.out _ HB1.out).1).mono ?_
  rintro _ w2 ⟨A, a, A', a', rfl, hb2⟩
  have HB2 : Hid (Below w.heap.size w (w2.alloc (.cells #[.slice A 0 a, .slice A' 0 a'] 25))) := Lib.hid ((HB1.out.trans (hb2.mono HB1.out.size)).alloc (Nat.le_trans HB1.out.size hb2.size) _)
  have K3 := Lib.hid (k9 T1 2 7 get_t1 (by decide) (w2.alloc (.cells #[.slice A 0 a, .slice A' 0 a'] 25)) (HG.out _ HB2.out).1)
  unfold T1 at K3
  have x0 : (w2.alloc (.cells #[.slice A 0 a, .slice A' 0 a'] 25)).cell? ⟨w2.heap.size, 0, none⟩ = some (.slice A 0 a) := World.cell?_alloc_new _ _ _ _
  have hx : w2.heap.size < (w2.alloc (.cells #[.slice A 0 a, .slice A' 0 a'] 25)).heap.size := by simp
  have HX0 := Lib.hid x0
  have HX := Lib.hid hx
  clear hb2 x0 hx
  go_wp2_with fail
  refine K3.out.mono ?_
  rintro _ w3 ⟨A3, a3, A3', a3', rfl, hb3⟩
  have HB3 : Hid (Below w.heap.size w (w3.alloc (.cells #[.slice A3 0 a3, .slice A3' 0 a3'] 25))) := Lib.hid ((HB2.out.trans (hb3.mono HB2.out.size)).alloc (Nat.le_trans HB2.out.size hb3.size) _)
  have K4 := Lib.hid (k7b (w3.alloc (.cells #[.slice A3 0 a3, .slice A3' 0 a3'] 25)) (HG.out _ HB3.out).2)
  have HY0 : Hid (∀ W, Below w3.heap.size w3 W → W.cell? ⟨w2.heap.size, 0, none⟩ = some (.slice A 0 a)) := Lib.hid (fun W hW => (hW.cell (p := ⟨w2.heap.size, 0, none⟩) (Nat.lt_of_lt_of_le HX.out hb3.size)).trans ((hb3.cell (p := ⟨w2.heap.size, 0, none⟩) HX.out).trans HX0.out))
  unfold T2 at K4
  have hz3 : (w3.alloc (.cells #[.slice A3 0 a3, .slice A3' 0 a3'] 25)).heap.size = w3.heap.size + 1 := by simp
  rw [hz3] at K4
  clear hb3 K3 hz3
  go_wp2_with fail
  refine K4.out.mono ?_
  rintro _ w4 ⟨rfl, hb4⟩
  have HB4 : Hid (Below w.heap.size w w4) := Lib.hid (HB3.out.trans (hb4.mono (by have := HB3.out.size; simp at this; omega)))
  have x4 := HY0.out w4 (((Below.refl _ w3).alloc (Nat.le_refl _) _).trans (hb4.mono (Nat.le_succ _)))
  clear hb4 K4
  go_wp2_with fail
  go_ret
  exact ⟨rfl, HB4.out⟩
end Go.Proofs.YtblfnjdbihhglaaGreatDoor
namespace Go.Proofs.YtblfnjdbihhglaaGreatDoor
open Go.ChangeShapes Go.WideShapes Go.ChangeAt Go.RowKit Go.Deep Go.Joins
open Li (Ss Gl)
set_option linter.unusedVariables false
def Gx (w : World) : Prop := Gl w ∧ Gt w
theorem gnR : Tryz.prog.globalNamed "strconv.ErrRange" = some 7 := by kernel_rfl
theorem tnR : (Tryz.prog.globals[7]?).map (·.type) = some 74 := by kernel_rfl
theorem gnT : Tryz.prog.globalNamed "internal/strconv.uint64pow10" = some 0 := by kernel_rfl
theorem tnT : (Tryz.prog.globals[0]?).map (·.type) = some 122 := by kernel_rfl
theorem un74 : ∃ ms, Tryz.prog.underlying 74 = some (.interface ms) := ⟨_, Tryz.underlying74⟩
set_option maxRecDepth 100000 in
theorem iface_of_trod {H : Type} {enc : TypeId × Value → H} {W : World} {base : Nat} {spare : Nat → Bool} {held : Bool} {t : TypeId} {ms : Array (String × TypeId)} {f : Nat} {cs : List Value} {x : DataW H × List MemPlace}
    (ht : Tryz.prog.underlying t = some (.interface ms)) (h : DataW.trod enc Tryz.prog W base spare held f t cs = some x) : ∃ v, cs = [v] ∧ (v = .nilIface ∨ ∃ te pe, v = .iface te pe) := by
  cases f with
  | zero => simp [DataW.trod] at h
  | succ f =>
    match cs with
    | [] => simp [DataW.trod, ht] at h
    | [v] => cases v <;> first | exact ⟨_, rfl, Or.inl rfl⟩ | exact ⟨_, rfl, Or.inr ⟨_, _, rfl⟩⟩ | simp [DataW.trod, ht] at h
    | a :: b :: r => simp [DataW.trod, ht] at h
def laid7 : List (String × DataW Unit) := Rows.manifestPutsRow.laid
def laidR : List (String × DataW Unit) := [("strconv.ErrRange", Rows.laid_strconv_ErrRange)]
def laidT : List (String × DataW Unit) := [("internal/strconv.uint64pow10", Lib.tabData .u64 Lib.pow10Tab)]
theorem laid7_R : laid7.filter (fun x => x.1 == "strconv.ErrRange") = laidR := by rfl
theorem laid7_T : laid7.filter (fun x => x.1 == "internal/strconv.uint64pow10") = laidT := by rfl
theorem block_of_var {W : World} {n : String} {g : Nat} {cs : Array Value} (hg : Tryz.prog.globalNamed n = some g) (h : W.var? Tryz.prog n = some cs) : ∃ t f, W.heap[g]? = some (.cells cs t f) := by
  simp only [World.var?, hg, Option.bind_some] at h
  split at h
  · rename_i c t f hb
    exact ⟨t, f, by rw [hb, Option.some.inj h]⟩
  · cases h
theorem gl_of {W : World} (h : laidMetH Tryz.prog laid7 W) (hs : W.ShapedOpen Tryz.prog) : Gx W := by
  obtain ⟨m, hm⟩ := cell_of_shapedOpen_int (P := Tryz.prog) (g := 1) (t := 3) (zero := #[.int .i64 0]) hs (of_decide_eq_true (by kernel_rfl)) (by kernel_rfl) rfl (by kernel_rfl) (by kernel_rfl) Tryz.underlying3
  have h1 := h.filter (fun x => x.1 == "strconv.ErrRange")
  rw [laid7_R, MakeChecks.laidMetH_plain _ _ _ (by kernel_rfl)] at h1
  have h3 := h.filter (fun x => x.1 == "internal/strconv.uint64pow10")
  rw [laid7_T, MakeChecks.laidMetH_plain _ _ _ (by kernel_rfl)] at h3
  obtain ⟨ps, ⟨g0, t0, cs0, f0, p0, q0, hg0, ht0, hv0, hd0, _, _⟩, _, _⟩ := h1
  obtain rfl := Option.some.inj (gnR.symm.trans hg0)
  obtain rfl := Option.some.inj (tnR.symm.trans ht0)
  obtain ⟨ms, hu⟩ := un74
  obtain ⟨v, hcs, hv⟩ := iface_of_trod hu hd0
  obtain ⟨t, f, hb⟩ := block_of_var gnR hv0
  have hz : cs0 = #[v] := by
    obtain ⟨l⟩ := cs0
    simp only at hcs
    rw [hcs]
  rw [hz] at hb
  have hl : 7 < W.heap.size := (Array.getElem?_eq_some_iff.1 hb).1
  exact ⟨⟨v, m, by simp [World.cell?, hb], hv, hm, hl⟩, Lib.tabIs_of_head gnT tnT Tryz.underlying122 Tryz.underlying92 (by kernel_rfl) (by kernel_rfl) h3, hl⟩
/-- a start for the witness -/
noncomputable def wit (os : Os) : World :=
  { World.doorLaid Tryz.prog 72 os with heap := (World.doorLaid Tryz.prog 72 os).heap.modify 4 fun
      | .cells _ t frozen => .cells (Go.Pinned.utf8FirstZ.map fun (x : Nat) => Value.int .u8 (x : Int)).toArray t frozen
      | o => o }
theorem wit_met (os : Os) (args : Array Value) : laidMetH Tryz.prog laid7 ((wit os).forCall (fun _ _ => 0) ⟨#[], args, []⟩).memory :=
  laidMetH_of_parts3 (fuel := 8) (laidMet_of_run' 8 (by kernel_rfl) (by kernel_rfl)) (by kernel_rfl) (by kernel_rfl)
section
variable {H : Type} {enc : TypeId × Value → H} {W : World} {base : Nat} {spare : Nat → Bool} {held : Bool}
theorem cells25 : Tryz.prog.cellsOf 25 = 2 := by kernel_rfl
theorem cells22 : Tryz.prog.cellsOf 22 = 1 := by kernel_rfl
theorem cells23 : Tryz.prog.cellsOf 23 = 1 := by kernel_rfl
theorem cells42 : Tryz.prog.cellsOf 42 = 5 := by kernel_rfl
theorem cells5' : Tryz.prog.cellsOf 5 = 1 := by kernel_rfl
theorem cells3 : Tryz.prog.cellsOf 3 = 1 := by kernel_rfl
theorem cells9 : Tryz.prog.cellsOf 9 = 1 := by kernel_rfl
theorem cells40 : Tryz.prog.cellsOf 40 = 1 := by kernel_rfl
theorem one_edge {fuel : Nat} {cs : List Value} {x : DataW H × List MemPlace} (hl : cs.length = 5) (h : DataW.trod enc Tryz.prog W base spare held fuel 42 cs = some x) : ∃ y : Ed, y.ok ∧ cs = y.cs := by
  match cs, hl with
  | [c0, c1, c2, c3, c4], _ =>
    obtain ⟨xs, n, _, hx, _, hlen, hg⟩ := DataW.trod_struct Tryz.underlying42 h
    match xs, hlen with
    | [y0, y1, y2, y3, y4], _ =>
      have g0 : DataW.trod enc Tryz.prog W base spare held n 5 (([c0, c1, c2, c3, c4].drop 0).take (Tryz.prog.cellsOf 5)) = some y0 := hg 0 _ rfl
      have g1 : DataW.trod enc Tryz.prog W base spare held n 3 (([c0, c1, c2, c3, c4].drop 1).take (Tryz.prog.cellsOf 3)) = some y1 := hg 1 _ rfl
      have g2 : DataW.trod enc Tryz.prog W base spare held n 3 (([c0, c1, c2, c3, c4].drop 2).take (Tryz.prog.cellsOf 3)) = some y2 := hg 2 _ rfl
      have g3 : DataW.trod enc Tryz.prog W base spare held n 9 (([c0, c1, c2, c3, c4].drop 3).take (Tryz.prog.cellsOf 9)) = some y3 := hg 3 _ rfl
      have g4 : DataW.trod enc Tryz.prog W base spare held n 40 (([c0, c1, c2, c3, c4].drop 4).take (Tryz.prog.cellsOf 40)) = some y4 := hg 4 _ rfl
      rw [cells5'] at g0
      rw [cells3] at g1 g2
      rw [cells9] at g3
      rw [cells40] at g4
      obtain ⟨k, e0, _, w0⟩ := DataW.trod_int Tryz.underlying5 g0
      obtain ⟨fr, e1, _, _⟩ := DataW.trod_int Tryz.underlying3 g1
      obtain ⟨dt, e2, _, _⟩ := DataW.trod_int Tryz.underlying3 g2
      obtain ⟨s, e3, rfl, hs⟩ := DataW.trod_string Tryz.underlying9 g3
      obtain ⟨wh, e4, _, w4⟩ := DataW.trod_int Tryz.underlying40 g4
      obtain rfl : c0 = .int .u8 k := List.cons.inj e0 |>.1
      obtain rfl : c1 = .int .i64 fr := List.cons.inj e1 |>.1
      obtain rfl : c2 = .int .i64 dt := List.cons.inj e2 |>.1
      obtain rfl : c3 = .string s := List.cons.inj e3 |>.1
      obtain rfl : c4 = .int .u32 wh := List.cons.inj e4 |>.1
      have b0 := bounds_u8 w0
      have b4 := bounds_u32 w4
      obtain ⟨k, rfl⟩ := Int.eq_ofNat_of_zero_le b0.1
      obtain ⟨wh, rfl⟩ := Int.eq_ofNat_of_zero_le b4.1
      exact ⟨⟨k, fr, dt, s, wh⟩, ⟨by simp only; omega, by simp only; omega, by unfold maxLen at hs; exact hs⟩, rfl⟩
theorem spot_of_cell {w : World} {a : Addr} {v : Value} (h : w.cell? a = some v) : a.spot = none := by
  unfold World.cell? at h
  split at h
  · split at h
    · cases h
    · rename_i hs
      cases hs' : a.spot <;> simp [hs'] at hs ⊢
  · cases h
theorem add_at (b o i : Nat) : (⟨b, o, none⟩ : Addr).add i = ⟨b, o + i, none⟩ := by
  unfold Addr.add
  split
  · rename_i h; rw [h]; rfl
  · rfl
theorem open_names {fuel : Nat} {A : Option Addr} {N c : Nat} {x : DataW H × List MemPlace} (h : DataW.trod enc Tryz.prog W base spare held fuel 22 [.slice A N c] = some x) : ∃ g, Ss W A N g ∧ N ≤ 9223372036854775807 := by
  rcases open_strings Tryz.underlying22 Tryz.underlying9 cells9 h with ⟨e1, rfl⟩ | ⟨a, len, cap, ss, e1, hb, hlc, hm, hss, rfl, hc, hsz⟩
  · simp at e1
    obtain ⟨rfl, rfl, rfl⟩ := e1
    exact ⟨fun _ => ⟨#[]⟩, fun h0 => absurd h0 (by omega), by omega⟩
  · simp at e1
    obtain ⟨rfl, rfl, rfl⟩ := e1
    have hle : N ≤ ss.length := by rw [hss]; split <;> omega
    refine ⟨fun j => ss.getD j ByteArray.empty, fun h0 => ?_, by unfold maxLen at hm; omega⟩
    have c0 := hc 0 (by omega)
    have hs := spot_of_cell c0
    obtain ⟨b, o, s⟩ := a
    have hs2 : s = none := by
      have : ((⟨b, o, s⟩ : Addr).add 0).spot = s := by simp [Addr.add]
      rw [this] at hs
      exact hs
    subst hs2
    refine ⟨b, o, rfl, ?_, fun k hk => ?_⟩
    · have := World.block_lt_of_cell? W _ c0
      rw [add_at] at this
      exact this
    · have ck := hc k (by omega)
      rw [add_at] at ck
      refine ⟨ck, ?_⟩
      have hk2 : k < ss.length := by omega
      have hmem : ss.getD k ByteArray.empty ∈ ss := by
        rw [List.getD_eq_getElem?_getD, List.getElem?_eq_getElem hk2]
        exact List.getElem_mem hk2
      have := hsz _ hmem
      unfold maxLen at this
      simp only
      omega
theorem open_edges {fuel : Nat} {A : Option Addr} {N c : Nat} {x : DataW H × List MemPlace} (h : DataW.trod enc Tryz.prog W base spare held fuel 23 [.slice A N c] = some x) : ∃ f, Es W A N f ∧ N ≤ 9223372036854775807 := by
  rcases open_slice Tryz.underlying23 h with ⟨h0, _⟩ | ⟨a, len, cap, m, n, D, Pl, hcs, hb, hl, hm, hmm, hx, hi⟩
  · simp at h0
    obtain ⟨rfl, rfl, rfl⟩ := h0
    exact ⟨fun _ => ⟨0, 0, 0, ⟨#[]⟩, 0⟩, fun h => absurd h (by omega), by omega⟩
  · simp at hcs
    obtain ⟨rfl, rfl, rfl⟩ := hcs
    have hle : N ≤ m := by rw [hmm]; split <;> omega
    have hone : ∀ i, ∃ y : Ed, i < N → (∀ j v, y.cs[j]? = some v → W.cell? ((a.add (i * 5)).add j) = some v) ∧ y.ok := by
      intro i
      by_cases hlt : i < N
      · obtain ⟨cs', hc, ht⟩ := hi i (by omega)
        rw [cells42] at hc
        obtain ⟨_, hcl, hat⟩ := World.cells?_some hc
        obtain ⟨y, h1, rfl⟩ := one_edge hcl ht
        refine ⟨y, fun _ => ⟨fun j v hj => ?_, h1⟩⟩
        have hj2 : j < 5 := by
          rcases Nat.lt_or_ge j 5 with h | h
          · exact h
          · rw [List.getElem?_eq_none (by simp [Ed.cs]; omega)] at hj; cases hj
        rw [hat j hj2]
        exact hj
      · exact ⟨⟨0, 0, 0, ⟨#[]⟩, 0⟩, fun h => absurd h hlt⟩
    obtain ⟨f, hf⟩ := Classical.axiomOfChoice hone
    refine ⟨f, fun h0 => ?_, by unfold maxLen at hm; omega⟩
    have c0 := (hf 0 h0).1 0 _ rfl
    have e0 : (a.add (0 * 5)).add 0 = a := by simp [Addr.add]
    rw [e0] at c0
    have hs := spot_of_cell c0
    obtain ⟨b, o, s⟩ := a
    simp only at hs
    subst hs
    refine ⟨b, o, rfl, World.block_lt_of_cell? W _ c0, fun k hk => ?_⟩
    obtain ⟨hc, h1⟩ := hf k hk
    have z : ∀ j v, (f k).cs[j]? = some v → W.cell? ⟨b, o + k * 5 + j, none⟩ = some v := fun j v hj => by rw [← add_at, ← add_at]; exact hc j v hj
    exact ⟨h1, z 0 _ rfl, z 1 _ rfl, z 2 _ rfl, z 3 _ rfl, z 4 _ rfl⟩
/-- a graph as an argument -/
def Gra (W : World) (v : Value) (A : Option Addr) (nc cc : Nat) (B : Option Addr) (n c : Nat) (g : Nat → ByteArray) (f : Nat → Ed) : Prop :=
  v = .agg #[.slice A nc cc, .slice B n c] ∧ Ss W A nc g ∧ Es W B n f ∧ nc ≤ 9223372036854775807 ∧ n ≤ 9223372036854775807
set_option maxRecDepth 100000 in
theorem open_graph {r : Reach} {b0 : Nat} {v : Value} {d : DataW H} {p : List MemPlace} (hv : Value.okWide Tryz.prog W r b0 25 v) (h : DataW.Trod enc Tryz.prog W base spare held 25 v d p) : ∃ A nc cc B n c g f, Gra W v A nc cc B n c g f := by
  obtain ⟨cs, rfl, hsz⟩ := okWide_struct Tryz.underlying25 hv
  obtain ⟨l⟩ := cs
  match l, hsz.trans cells25 with
  | [c0, c1], _ =>
    obtain ⟨fuel, hf⟩ := h
    obtain ⟨xs, n, _, hx, _, hlen, hg⟩ := DataW.trod_struct Tryz.underlying25 hf
    match xs, hlen with
    | [y0, y1], _ =>
      have g0 : DataW.trod enc Tryz.prog W base spare held n 22 (([c0, c1].drop 0).take (Tryz.prog.cellsOf 22)) = some y0 := hg 0 _ rfl
      have g1 : DataW.trod enc Tryz.prog W base spare held n 23 (([c0, c1].drop 1).take (Tryz.prog.cellsOf 23)) = some y1 := hg 1 _ rfl
      rw [cells22] at g0
      rw [cells23] at g1
      have s0 : ∃ A N c, c0 = .slice A N c := by
        rcases open_slice Tryz.underlying22 g0 with ⟨h0, _⟩ | ⟨a, len, cap, m, n, D, Pl, hcs, _⟩
        · exact ⟨none, 0, 0, List.cons.inj h0 |>.1⟩
        · exact ⟨_, _, _, List.cons.inj hcs |>.1⟩
      have s1 : ∃ A N c, c1 = .slice A N c := by
        rcases open_slice Tryz.underlying23 g1 with ⟨h0, _⟩ | ⟨a, len, cap, m, n, D, Pl, hcs, _⟩
        · exact ⟨none, 0, 0, List.cons.inj h0 |>.1⟩
        · exact ⟨_, _, _, List.cons.inj hcs |>.1⟩
      obtain ⟨A, nc, cc, rfl⟩ := s0
      obtain ⟨B, nn, c, rfl⟩ := s1
      obtain ⟨g, hg1, hg2⟩ := open_names (A := A) (N := nc) (c := cc) g0
      obtain ⟨f, hf1, hf2⟩ := open_edges (A := B) (N := nn) (c := c) g1
      exact ⟨A, nc, cc, B, nn, c, g, f, rfl, hg1, hf1, hg2, hf2⟩
end
end Go.Proofs.YtblfnjdbihhglaaGreatDoor
namespace Go.Proofs.YtblfnjdbihhglaaGreatDoor
open Go.ChangeShapes Go.WideShapes Go.ChangeAt Go.RowKit
open Li (Ss Gl)
set_option linter.unusedVariables false
set_option linter.unusedSimpArgs false
theorem gputV_two (nc : Nat) (g : Nat → ByteArray) (n : Nat) (f : Nat → Ed) : ∃ s, ∃ e : Nat, gputV nc g n f = .tuple #[.string s, .int .i64 (e : Int)] := by
  unfold gputV
  split
  · exact putR_two _
  · exact ⟨_, 2, rfl⟩
theorem Gx.below {w w' : World} (h : Gx w) (hb : Below w.heap.size w w') : Gx w' := ⟨h.1.below hb, h.2.below hb⟩
set_option maxRecDepth 100000 in
set_option maxHeartbeats 4000000 in
theorem walk3 (v : Value) {W : World} (hv : ∃ A nc cc B n c g f, Gra W v A nc cc B n c g f) (w : World) (hw : W = w) (hg : Gx w) : Calls Tryz.prog 3 #[v] w fun e w' => e = .returned (.bool true) ∧ Below w.heap.size w w' := by
  subst hw
  obtain ⟨A, nc, cc, B, n, c, g, f, rfl, hA, hB, hnc, hn⟩ := hv
  have K6 : Hid (∀ w', Below W.heap.size W w' → Calls Tryz.prog 6 #[] w' fun e w2 => e = .returned (.bool true) ∧ Below w'.heap.size w' w2) := Lib.hid (fun w' hb => c6 w' (hg.below hb).1 (hg.below hb).2)
  by_cases hs : n ≤ 300 ∧ nc ≤ 50
  · obtain ⟨h1, h2⟩ := hs
    have d1 : decide ((300 : Int) < (n : Int)) = false := by simp; omega
    have d2 : decide ((50 : Int) < (nc : Int)) = false := by simp; omega
    have K7 : Hid (∀ w', Below W.heap.size W w' → Calls Tryz.prog 7 #[.agg #[.slice A nc cc, .slice B n c]] w' fun e w2 => e = .returned (gputV nc g n f) ∧ Below w'.heap.size w' w2) := Lib.hid (fun w' hb => c7 A nc cc B n c g f w' (hA.below hb) (hB.below hb) (by omega) (hg.below hb).2)
    have K8 : Hid (∀ w', Below W.heap.size W w' → Calls Tryz.prog 8 #[.agg #[.slice A nc cc, .slice B n c]] w' fun e w2 => e = .returned (gputV nc g n f) ∧ Below w'.heap.size w' w2) := Lib.hid (fun w' hb => c8 A nc cc B n c g f w' (hA.below hb) (hB.below hb) (by omega) (hg.below hb).2)
    obtain ⟨s, e0, hse⟩ := gputV_two nc g n f
    rw [hse] at K7 K8
    have HB1 : Hid (Below W.heap.size W (W.alloc (.cells #[.slice A nc cc, .slice B n c] 25))) := Lib.hid ((Below.refl _ W).alloc (Nat.le_refl _) _)
    clear hA hB hg hse
    go_enter Tryz.func3, Tryz.ntmps3
    go_wp2_with fail
    refine (K7.out _ HB1.out).mono ?_
    rintro _ w2 ⟨rfl, hb2⟩
    have HB2 : Hid (Below W.heap.size W w2) := Lib.hid (HB1.out.trans (hb2.mono HB1.out.size))
    obtain ⟨x0, x1⟩ : w2.cell? ⟨W.heap.size, 0, none⟩ = some (.slice A nc cc) ∧ w2.cell? ⟨W.heap.size, 1, none⟩ = some (.slice B n c) :=
      ⟨(hb2.cell (p := ⟨W.heap.size, 0, none⟩) (by simp)).trans (World.cell?_alloc_new _ _ _ _), (hb2.cell (p := ⟨W.heap.size, 1, none⟩) (by simp)).trans (World.cell?_alloc_new _ _ _ _)⟩
    clear hb2
    go_wp2_with fail
    refine (K8.out _ HB2.out).mono ?_
    rintro _ w3 ⟨rfl, hb3⟩
    have HB3 : Hid (Below W.heap.size W w3) := Lib.hid (HB2.out.trans (hb3.mono HB2.out.size))
    clear hb3 x0 x1
    go_wp2_with fail
    refine (K6.out _ HB3.out).mono ?_
    rintro _ w4 ⟨rfl, hb4⟩
    go_wp2_with fail
    go_ret
    exact ⟨rfl, HB3.out.trans (hb4.mono HB3.out.size)⟩
  · have HB1 : Hid (Below W.heap.size W (W.alloc (.cells #[.slice A nc cc, .slice B n c] 25))) := Lib.hid ((Below.refl _ W).alloc (Nat.le_refl _) _)
    clear hA hB hg
    by_cases h1 : n ≤ 300
    · have d1 : decide ((300 : Int) < (n : Int)) = false := by simp; omega
      have d2 : decide ((50 : Int) < (nc : Int)) = true := by simp; omega
      go_enter Tryz.func3, Tryz.ntmps3
      go_wp2_with fail
      refine (K6.out _ HB1.out).mono ?_
      rintro _ w4 ⟨rfl, hb4⟩
      go_wp2_with fail
      go_ret
      exact ⟨rfl, HB1.out.trans (hb4.mono HB1.out.size)⟩
    · have d1 : decide ((300 : Int) < (n : Int)) = true := by simp; omega
      go_enter Tryz.func3, Tryz.ntmps3
      go_wp2_with fail
      refine (K6.out _ HB1.out).mono ?_
      rintro _ w4 ⟨rfl, hb4⟩
      go_wp2_with fail
      go_ret
      exact ⟨rfl, HB1.out.trans (hb4.mono HB1.out.size)⟩
end Go.Proofs.YtblfnjdbihhglaaGreatDoor
