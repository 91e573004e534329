import Derived.Test.YtblfnjdbihhglaaGreatDoorGb
import Derived.Test.YtblfnjdbihhglaaGreatDoorGh
import Derived.Test.YtblfnjdbihhglaaGreatDoorGk
import Derived.Test.YtblfnjdbihhglaaGreatDoorIz
import Derived.Test.YtblfnjdbihhglaaGreatDoorGi
import Derived.Laws.StructEq
namespace Go.Proofs.YtblfnjdbihhglaaGreatDoor
open Go.ChangeShapes Go.WideShapes Go.ChangeAt Go.RowKit
open Li (Ss Gl Wl Ws Reads own_below own_base own_apart)
set_option linter.unusedVariables false
set_option linter.unusedSimpArgs false
/-- the reference's graph -/
structure Gs (w : World) (r : Nat) (V U : Value) (cs : List ByteArray) (es : List Ed) : Prop where
  row : w.heap[r]? = some (.cells #[V, U] 25 (0, 0))
  ns : w.ownsRow (r + 1) 9 1 V cs.length (cs.map Value.string)
  ed : w.ownsRow (r + 1) 42 5 U es.length (es.flatMap Ed.cs)
theorem Gs.lt {w : World} {r : Nat} {V U : Value} {cs : List ByteArray} {es : List Ed} (h : Gs w r V U cs es) : r < w.heap.size := (Array.getElem?_eq_some_iff.1 h.row).1
theorem Gs.below {w w' : World} {r : Nat} {V U : Value} {cs : List ByteArray} {es : List Ed} (h : Gs w r V U cs es) (hb : Below w.heap.size w w') : Gs w' r V U cs es := ⟨(hb.block r h.lt).trans h.row, own_below h.ns hb, own_below h.ed hb⟩
theorem Gs.V0 {w : World} {r : Nat} {V U : Value} {cs : List ByteArray} {es : List Ed} (h : Gs w r V U cs es) : w.cell? ⟨r, 0, none⟩ = some V := by rw [cell_of_row w r 0 _ _ _ h.row]; rfl
theorem Gs.U0 {w : World} {r : Nat} {V U : Value} {cs : List ByteArray} {es : List Ed} (h : Gs w r V U cs es) : w.cell? ⟨r, 1, none⟩ = some U := by rw [cell_of_row w r 1 _ _ _ h.row]; rfl
theorem gs_push {W W' : World} {r : Nat} {V U U' : Value} {cs : List ByteArray} {es : List Ed} {y : Ed} (h : Gs W r V U cs es) (ho : W'.ownsRow (r + 1) 42 5 U' (es.length + 1) (es.flatMap Ed.cs ++ y.cs)) (hg : W.grownBy W' U.ownBlock) :
    Gs (W'.setCell ⟨r, 1, none⟩ U') r V U' cs (es ++ [y]) ∧ Below r W (W'.setCell ⟨r, 1, none⟩ U') := by
  have hr' : W'.heap[r]? = some (.cells #[V, U] 25 (0, 0)) := (hg.block r h.lt (fun e => own_ne h.ed (Nat.lt_succ_self r) e.symm)).trans h.row
  refine ⟨⟨by rw [heap_setCell_at _ _ _ _ hr']; rfl, own_set (h.ns.kept hg (own_apart h.ns h.ed (by decide))) (Nat.lt_succ_self r), ?_⟩, ?_⟩
  · rw [List.length_append, List.flatMap_append]
    simpa using own_set ho (Nat.lt_succ_self r)
  · exact ((Below.refl r W).grown hg (Nat.le_of_lt h.lt) (fun k hk => by have := (h.ed.lt k hk).1; omega)).setCell (Nat.le_refl _) _
theorem gs_name {W W' : World} {r : Nat} {V U V' : Value} {cs : List ByteArray} {es : List Ed} {s : ByteArray} (h : Gs W r V U cs es) (ho : W'.ownsRow (r + 1) 9 1 V' (cs.length + 1) (cs.map Value.string ++ [.string s])) (hg : W.grownBy W' V.ownBlock) :
    Gs (W'.setCell ⟨r, 0, none⟩ V') r V' U (cs ++ [s]) es ∧ Below r W (W'.setCell ⟨r, 0, none⟩ V') := by
  have hr' : W'.heap[r]? = some (.cells #[V, U] 25 (0, 0)) := (hg.block r h.lt (fun e => own_ne h.ns (Nat.lt_succ_self r) e.symm)).trans h.row
  refine ⟨⟨by rw [heap_setCell_at _ _ _ _ hr']; rfl, ?_, own_set (h.ed.kept hg (own_apart h.ed h.ns (by decide))) (Nat.lt_succ_self r)⟩, ?_⟩
  · rw [List.length_append, List.map_append]
    simpa using own_set ho (Nat.lt_succ_self r)
  · exact ((Below.refl r W).grown hg (Nat.le_of_lt h.lt) (fun k hk => by have := (h.ns.lt k hk).1; omega)).setCell (Nat.le_refl _) _
theorem gs_r1 {W W' : World} {r : Nat} {V U : Value} {cs : List ByteArray} {es : List Ed} (h : Gs W r V U cs es) (hg : W.grownBy W' U.ownBlock) : W'.cell? ⟨r, 1, none⟩ = some U ∧ W'.frozen? ⟨r, 1, none⟩ = false := by
  have hr' : W'.heap[r]? = some (.cells #[V, U] 25 (0, 0)) := (hg.block r h.lt (fun e => own_ne h.ed (Nat.lt_succ_self r) e.symm)).trans h.row
  exact ⟨by rw [cell_of_row W' r 1 _ _ _ hr']; rfl, by simp [World.frozen?, hr']⟩
theorem gs_r0 {W W' : World} {r : Nat} {V U : Value} {cs : List ByteArray} {es : List Ed} (h : Gs W r V U cs es) (hg : W.grownBy W' V.ownBlock) : W'.cell? ⟨r, 0, none⟩ = some V ∧ W'.frozen? ⟨r, 0, none⟩ = false := by
  have hr' : W'.heap[r]? = some (.cells #[V, U] 25 (0, 0)) := (hg.block r h.lt (fun e => own_ne h.ns (Nat.lt_succ_self r) e.symm)).trans h.row
  exact ⟨by rw [cell_of_row W' r 0 _ _ _ hr']; rfl, by simp [World.frozen?, hr']⟩
theorem gs_ok {s : ByteArray} {w wr : World} {r : Nat} {V U : Value} {cs : List ByteArray} {es : List Ed} (hb : Below w.heap.size w wr) (hR : Gs wr r V U cs es) (hV : getV s = ((0, 0), cs, es)) (hB : w.heap.size < r) :
    GetPost s w (.returned (.tuple #[.agg #[V, U], .int .i64 0, .int .i64 0])) ((wr.setCell ⟨w.heap.size, 0, none⟩ V).setCell ⟨w.heap.size, 1, none⟩ U) := by
  refine ⟨V, U, by rw [hV]; rfl, ?_, ?_, (hb.setCell (Nat.le_refl _) _).setCell (Nat.le_refl _) _⟩
  · rw [hV]; exact own_base (own_set (own_set hR.ns (by omega)) (by omega)) (by omega)
  · rw [hV]; exact own_base (own_set (own_set hR.ed (by omega)) (by omega)) (by omega)
theorem stM_nm (cs : List ByteArray) (es : List Ed) (n : Nat) (h : Nat → ByteArray) (hc : ∀ y ∈ cs, y.size ≤ 281474976710656) (hs : ∀ j, j < n → (h j).size ≤ 281474976710656) : ∀ y ∈ (stepM cs es n h).2.1, y.size ≤ 281474976710656 := by
  unfold stepM
  split
  · split
    · rename_i hn
      unfold compM
      split
      · exact hc
      · split
        · exact hc
        · intro y hy
          rcases List.mem_append.1 hy with hy | hy
          · exact hc y hy
          · rw [List.mem_singleton.1 hy]; exact hs 1 (by omega)
    · exact hc
  repeat' split
  all_goals exact hc
def RH (w1 : World) (r : Nat) (g : Nat → Wl) (N : Nat) (i : Value) (wr : World) : Prop :=
  ∃ k cs es V U, k ≤ N ∧ i = .int .i64 ((k : Nat) : Int) ∧ Gs wr r V U cs es ∧ StOk k cs es ∧ (∀ y ∈ cs, y.size ≤ 281474976710656) ∧ Below r w1 wr ∧ runG g N 0 [] [] = runG g (N - k) k cs es
set_option maxRecDepth 100000 in
set_option maxHeartbeats 16000000 in
theorem c10 (s : ByteArray) (hs : s.size ≤ 16777215) (w : World) (hG : Gt w) : Calls Tryz.prog 10 #[.string s] w fun e w' => GetPost s w e w' := by
  have K12 : Hid (Calls Tryz.prog 12 #[.string s] (w.alloc (.cells #[.slice none 0 0, .slice none 0 0] 25)) fun e w' => Li.RdPost s (w.alloc (.cells #[.slice none 0 0, .slice none 0 0] 25)) e w') := Lib.hid (Li.c9 s hs _)
  have HG := Lib.hid hG
  clear hG hs
  obtain ⟨rd, hrd0⟩ : ∃ x, Li.rdE s = x := ⟨_, rfl⟩
  go_enter Tryz.func10, Tryz.ntmps10
  go_wp2_with fail
  refine K12.out.mono ?_
  intro e w1 hp
  obtain ⟨A, c, g, rfl, hws, hreads, hro, hb1⟩ := Li.post_ws hp
  have HBA : Hid (∀ b o, A = some ⟨b, o, none⟩ → w.heap.size < b) := Lib.hid (fun b o e => by
    subst e
    obtain ⟨D, _, h2, _⟩ := hro
    have := (h2.lt b rfl).1
    simp at this
    omega)
  clear hp K12 hro
  have HB1 : Hid (Below (w.heap.size + 1) (w.alloc (.cells #[.slice none 0 0, .slice none 0 0] 25)) w1) := Lib.hid (hb1.mono (by simp))
  have HBW : Hid (∀ W, Below (w.heap.size + 1) (w.alloc (.cells #[.slice none 0 0, .slice none 0 0] 25)) W → Below w.heap.size w W ∧ W.heap[w.heap.size]? = some (.cells #[.slice none 0 0, .slice none 0 0] 25 (0, 0)) ∧ w.heap.size < W.heap.size) := Lib.hid (fun W hW =>
    ⟨((Below.refl _ w).alloc (Nat.le_refl _) _).trans (hW.mono (Nat.le_succ _)), (hW.block _ (Nat.lt_succ_self _)).trans (heap_alloc_new w _), by have := hW.size; simp at this; omega⟩)
  clear hb1
  rw [hrd0]
  by_cases h0 : rd = 0
  · subst h0
    have HV := Lib.hid (getV_reads hrd0 hreads)
    obtain ⟨hN4, hsh⟩ := rdV_short hrd0
    have HWO : Hid (∀ k, (hk : k < (Li.rdV s).length) → 0 < (g k).n ∧ ∀ j, j < (g k).n → ((g k).f j).size ≤ 281474976710656) := Lib.hid (fun k hk => by
      obtain ⟨_, r2, r3⟩ := hreads k hk
      obtain ⟨s1, s2, s3⟩ := hsh _ (List.getElem_mem hk)
      refine ⟨by omega, fun j hj => ?_⟩
      rw [r3 j, List.getElem?_eq_getElem (by omega)]
      have := s3 _ (List.getElem_mem (l := (Li.rdV s)[k].2) (n := j) (by omega))
      simp only [Option.getD_some]
      omega)
    generalize (Li.rdV s).length = N at *
    have HWS := Lib.hid hws
    clear hsh hreads hws hrd0
    have HR3 : Hid (Gs (w1.alloc (.cells #[.slice none 0 0, .slice none 0 0] 25)) w1.heap.size (.slice none 0 0) (.slice none 0 0) [] []) := Lib.hid ⟨heap_alloc_new w1 _, World.ownsRow_nil _ _ _ _, World.ownsRow_nil _ _ _ _⟩
    have HB13 : Hid (Below w1.heap.size w1 (w1.alloc (.cells #[.slice none 0 0, .slice none 0 0] 25))) := Lib.hid ((Below.refl _ _).alloc (Nat.le_refl _) _)
    obtain ⟨m, hm⟩ : ∃ m, w1.heap.size = m := ⟨_, rfl⟩
    have HM := Lib.hid hm
    rw [hm] at HR3 HB13
    go_wp2_with fail
    clear hm
    go_loopw [8] (fun i wr => RH w1 m g N i wr) (fun i _ => N - (intOf i).toNat)
    case atStart => exact ⟨0, [], [], _, _, Nat.zero_le _, rfl, HR3.out, ⟨List.nodup_nil, (fun y hy => by cases hy), Nat.le_refl _⟩, (fun y hy => by cases hy), HB13.out, rfl⟩
    case round =>
      obtain ⟨k, cs, es, V, U, hk, rfl, hR, hSt, hnmz, hb, hrun⟩ := hrel
      have HNZ := Lib.hid hnmz
      have HR := Lib.hid hR
      have HST := Lib.hid hSt
      have HB := Lib.hid hb
      have HRUN := Lib.hid hrun
      have hbw : Below (w.heap.size + 1) (w.alloc (.cells #[.slice none 0 0, .slice none 0 0] 25)) wr := HB1.out.trans (hb.mono (by have := (HBW.out _ HB1.out).2.2; have := HM.out; omega))
      have HBR := Lib.hid hbw
      obtain ⟨AV, cV, hVe, _⟩ := Li.own_slice hR.ns
      obtain ⟨AU, cU, hUe, _⟩ := Li.own_slice hR.ed
      subst hVe hUe
      have yV := hR.V0
      have yU := hR.U0
      have yl := hR.lt
      have hgm : w.heap.size < m := by have := (HBW.out _ HB1.out).2.2; have := HM.out; omega
      have HGM := Lib.hid hgm
      obtain ⟨g0, g1, g2⟩ := HBW.out _ hbw
      obtain ⟨z0, z1⟩ : wr.cell? ⟨w.heap.size, 0, none⟩ = some (.slice none 0 0) ∧ wr.cell? ⟨w.heap.size, 1, none⟩ = some (.slice none 0 0) := ⟨by rw [cell_of_row wr _ 0 _ _ _ g1]; rfl, by rw [cell_of_row wr _ 1 _ _ _ g1]; rfl⟩
      have z2 : ∀ j, wr.frozen? ⟨w.heap.size, j, none⟩ = false := fun j => by simp [World.frozen?, g1]
      have HG0 := Lib.hid g0
      have HG1 := Lib.hid g1
      clear hSt hb hrun hbw hnmz
      by_cases hlt : k < N
      ·
        obtain ⟨b, o, rfl, hbl, hc⟩ := HWS.out (by omega)
        have hbne : w.heap.size ≠ b := by have := HBA.out b o rfl; omega
        have hbne2 : b ≠ w.heap.size := fun e => hbne e.symm
        obtain ⟨q0, q1, hss, hn, hnc⟩ := hc k hlt
        obtain ⟨hn0, hwo⟩ := HWO.out k hlt
        have hbm : Below w1.heap.size w1 wr := by rw [HM.out]; exact HB.out
        obtain ⟨b2, o2, hA2, hbl2, hc2⟩ := hss hn0
        rw [← hbm.cell (p := ⟨b, _, none⟩) hbl] at q0 q1
        rw [hA2] at q1
        have hssr := hss.below hbm
        rw [hA2] at hssr
        have hb2r : b2 < wr.heap.size := Nat.lt_of_lt_of_le hbl2 hbm.size
        have HWD : Hid (∀ j, j < (g k).n → wr.cell? ⟨b2, o2 + j, none⟩ = some (.string ((g k).f j)) ∧ ((g k).f j).size ≤ 9223372036854775807) := Lib.hid (fun j hj => by
          obtain ⟨e1, e2⟩ := hc2 j hj
          rw [← hbm.cell (p := ⟨b2, _, none⟩) hbl2] at e1
          exact ⟨e1, e2⟩)
        have HFL : Hid (∀ c, (stepM cs es (g k).n (g k).f).1 = c → c ≠ 0 → getV s = (((g k).line, c), [], [])) := Lib.hid (fun c ho hc => by rw [HV.out]; exact runG_fail hlt HRUN.out ho hc)
        have HGO : Hid ((stepM cs es (g k).n (g k).f).1 = 0 → runG g N 0 [] [] = runG g (N - (k + 1)) (k + 1) (stepM cs es (g k).n (g k).f).2.1 (stepM cs es (g k).n (g k).f).2.2) := Lib.hid (fun ho => runG_go hlt HRUN.out ho)
        have HSO := Lib.hid (stM_ok HST.out (g k).n (g k).f hwo)
        have HSN := Lib.hid (stM_nm cs es (g k).n (g k).f HNZ.out hwo)
        have HGR : Hid (Gt wr) := Lib.hid (HG.out.below (HBW.out _ HBR.out).1)
        have HSS := Lib.hid hssr
        obtain ⟨h, hh⟩ : ∃ h, (g k).f = h := ⟨_, rfl⟩
        obtain ⟨ln, hln⟩ : ∃ ln, (g k).line = ln := ⟨_, rfl⟩
        obtain ⟨nn, hnn⟩ : ∃ nn, (g k).n = nn := ⟨_, rfl⟩
        obtain ⟨c2, hc2e⟩ : ∃ c2, (g k).c = c2 := ⟨_, rfl⟩
        rw [hh] at HWD HFL HGO HSO HSN HSS
        rw [hln] at HFL q0
        rw [hnn] at HWD HFL HGO HSO HSN HSS q1 hn0 hn hnc
        rw [hc2e] at q1 hnc
        have p0 := (HWD.out 0 hn0).1
        rw [Nat.add_zero] at p0
        have hkn : (k : Int) < (N : Int) := by omega
        have hkw := wrapN k N hlt (by omega)
        have hn0i : (0 : Int) < (nn : Int) := by omega
        have HLT := Lib.hid hlt
        clear hln hnn hc2e hh hA2 hss hssr hc hc2 hwo hbl2 hbm
        by_cases hco : h 0 = sComp ∧ nn = 2
        · obtain ⟨hc0, rfl⟩ := hco
          have p1 := (HWD.out 1 (by omega)).1
          have s1 := (HWD.out 1 (by omega)).2
          rw [hc0] at p0
          unfold sComp at p0
          have hst : stepM cs es 2 h = compM cs es (h 1) := by unfold stepM; rw [if_pos hc0, if_pos rfl]
          rw [hst] at HFL HGO HSO HSN
          clear hst
          have K22 := Lib.hid (c22 (h 1) s1)
          have A0 : Hid ((nameB (h 1) && decide (es.length = 0)) = false → compM cs es (h 1) = (5, cs, es)) := Lib.hid (fun hh => by unfold compM; rw [if_pos hh])
          have A1 : Hid ((nameB (h 1) && decide (es.length = 0)) = true → ∀ k, nmAt cs (h 1) = some k → compM cs es (h 1) = (7, cs, es)) := Lib.hid (fun hh k hk => by unfold compM; rw [if_neg (by rw [hh]; decide), hk])
          have A2 : Hid ((nameB (h 1) && decide (es.length = 0)) = true → nmAt cs (h 1) = none → compM cs es (h 1) = (0, cs ++ [h 1], es)) := Lib.hid (fun hh hk => by unfold compM; rw [if_neg (by rw [hh]; decide), hk])
          as_aux_lemma =>
            have HKG : Hid (∀ W, Below wr.heap.size wr W → W.heap[w.heap.size]? = some (.cells #[.slice none 0 0, .slice none 0 0] 25 (0, 0)) ∧ Below w.heap.size w W) := Lib.hid (fun W hW => ⟨(hW.block _ g2).trans HG1.out, HG0.out.trans (hW.mono HG0.out.size)⟩)
            generalize compM cs es (h 1) = ov at *
            obtain ⟨t1, ht1⟩ : ∃ t1, h 1 = t1 := ⟨_, rfl⟩
            rw [ht1] at K22 A0 A1 A2 p1 s1
            obtain ⟨qn, hqn⟩ : ∃ qn, nameB t1 = qn := ⟨_, rfl⟩
            rw [hqn] at K22 A0 A1 A2
            clear hqn ht1
            obtain ⟨ne, hne⟩ : ∃ ne, es.length = ne := ⟨_, rfl⟩
            rw [hne] at A0 A1 A2 yU
            cases qn
            · have HX := Lib.hid (HFL.out 5 (by rw [A0.out rfl]) (by decide))
              have HS2 := Lib.hid (st_two (HKG.out wr (Below.refl _ _)).1 (.slice none 0 0) (.slice none 0 0))
              have HBF : Hid (Below w.heap.size w (((wr.setCell ⟨w.heap.size, 0, none⟩ (.slice none 0 0)).setCell ⟨w.heap.size, 1, none⟩ (.slice none 0 0)).drew)) := Lib.hid (Below.drew (((HKG.out wr (Below.refl _ _)).2.setCell (Nat.le_refl _) _).setCell (Nat.le_refl _) _))
              clear A0 A1 A2 HFL HGO HSO hR
              go_wp2_with fail
              refine (K22.out _).mono ?_
              rintro _ _ ⟨rfl, rfl⟩
              go_upto_region 11 with fail
              refine rE_11 wr w.heap.size b o N c k ln q0 z0 z1 z2 hbne hkn hkw ?_
              intro _ _ _ _ _ _
              go_wp2_with fail
              obtain ⟨x0, x1⟩ := HS2.out
              refine bodyPost_ret (v := .tuple #[.agg #[.slice none 0 0, .slice none 0 0], .int .i64 ln, .int .i64 5]) (by simp [results, Tryz.results10, go_sem, x0, x1]) rfl ?_
              exact get_err HX.out HBF.out _ rfl
            by_cases hn0e : ne = 0
            · subst hn0e
              have HNE := Lib.hid hne
              have hssn : Ss wr AV cs.length (lg cs) := (Li.own_ss HR.out.ns (fun y hy => by have := HNZ.out y hy; omega)).2.2
              have K23 : Hid (∀ W, Below wr.heap.size wr W → Calls Tryz.prog 23 #[.agg #[.slice AV cs.length cV, .slice AU 0 cU], .string t1] W fun e w' => e = .returned (.int .i64 (nmI cs t1)) ∧ Below W.heap.size W w') := Lib.hid (fun W hW => c23 AV cV (.slice AU 0 cU) AU 0 cU rfl cs t1 W (hssn.below hW) (by have := HST.out.2.2; omega))
              have HS12 : Hid (∀ W, Below wr.heap.size wr W → W.cell? ⟨m, 0, none⟩ = some (.slice AV cs.length cV) ∧ W.cell? ⟨m, 1, none⟩ = some (.slice AU 0 cU) ∧ W.cell? ⟨b2, o2 + 1, none⟩ = some (.string t1)) := Lib.hid (fun W hW => ⟨(hW.cell (p := ⟨m, 0, none⟩) yl).trans yV, (hW.cell (p := ⟨m, 1, none⟩) yl).trans yU, (hW.cell (p := ⟨b2, _, none⟩) hb2r).trans p1⟩)
              have HLC : Hid (∀ W, Below wr.heap.size wr W → W.cell? ⟨b, o + k * 2, none⟩ = some (.int .i64 ln) ∧ W.cell? ⟨w.heap.size, 0, none⟩ = some (.slice none 0 0) ∧ W.cell? ⟨w.heap.size, 1, none⟩ = some (.slice none 0 0) ∧ (∀ j, W.frozen? ⟨w.heap.size, j, none⟩ = false)) := Lib.hid (fun W hW =>
                ⟨(hW.cell (p := ⟨b, _, none⟩) (World.block_lt_of_cell? wr ⟨b, _, none⟩ q0)).trans q0, (hW.cell (p := ⟨w.heap.size, 0, none⟩) g2).trans z0, (hW.cell (p := ⟨w.heap.size, 1, none⟩) g2).trans z1, fun j => (hW.frozen (p := ⟨w.heap.size, j, none⟩) g2).trans (z2 j)⟩)
              clear hR hssn
              obtain ⟨oa, hoa⟩ : ∃ oa, nmAt cs t1 = oa := ⟨_, rfl⟩
              cases oa with
              | some kk =>
                have HX := Lib.hid (HFL.out 7 (by rw [A1.out rfl kk hoa]) (by decide))
                have hnv : nmI cs t1 = (kk : Int) := by unfold nmI; rw [hoa]
                rw [hnv] at K23
                clear A0 A1 A2 HFL HGO HSO hoa hnv HSN
                go_wp2_with fail
                refine (K22.out _).mono ?_
                rintro _ _ ⟨rfl, rfl⟩
                go_upto_region 12 with fail
                have HI := Lib.hid (HS12.out _ (Below.refl _ wr).drew)
                go_region_held3 (fun W => W.cell? ⟨m, 0, none⟩ = some (.slice AV cs.length cV) ∧ W.cell? ⟨m, 1, none⟩ = some (.slice AU 0 cU) ∧ W.cell? ⟨b2, o2 + 1, none⟩ = some (.string t1))
                  (first | assumption | exact HI.out | (with_reducible exact HS12.out _ (by assumption)))
                  (first | (go_at_call 23; (with_reducible refine (K23.out _ (Below.refl _ wr).drew).mono ?_); rintro _ w4 ⟨rfl, hb4⟩; have HB4 : Below wr.heap.size wr w4 := ((Below.refl _ _).drew).trans hb4))
                obtain ⟨q0, z0, z1, z2⟩ := HLC.out w4 HB4
                have hl4 : w.heap.size < w4.heap.size := Nat.lt_of_lt_of_le g2 HB4.size
                have HS2 := Lib.hid (st_two (HKG.out w4 HB4).1 (.slice none 0 0) (.slice none 0 0))
                have HBF : Hid (Below w.heap.size w (((w4.setCell ⟨w.heap.size, 0, none⟩ (.slice none 0 0)).setCell ⟨w.heap.size, 1, none⟩ (.slice none 0 0)).drew)) := Lib.hid (Below.drew (((HKG.out w4 HB4).2.setCell (Nat.le_refl _) _).setCell (Nat.le_refl _) _))
                go_upto_region 13 with fail
                refine rE_13 w4 w.heap.size b o N c k ln q0 z0 z1 z2 hbne hkn hkw ?_
                intro _ _ _ _ _ _
                go_wp2_with fail
                obtain ⟨x0, x1⟩ := HS2.out
                refine bodyPost_ret (v := .tuple #[.agg #[.slice none 0 0, .slice none 0 0], .int .i64 ln, .int .i64 7]) (by simp [results, Tryz.results10, go_sem, x0, x1]) rfl ?_
                exact get_err HX.out HBF.out _ rfl
              | none =>
                have hnv : nmI cs t1 = -1 := by unfold nmI; rw [hoa]
                have hov := A2.out rfl hoa
                have HGX := Lib.hid (HGO.out (by rw [hov]))
                rw [hov] at HGX HSO HSN
                rw [hnv] at K23
                clear A0 A1 A2 HFL HGO hoa hnv hov
                go_wp2_with fail
                refine (K22.out _).mono ?_
                rintro _ _ ⟨rfl, rfl⟩
                go_upto_region 12 with fail
                have HI := Lib.hid (HS12.out _ (Below.refl _ wr).drew)
                go_region_held3 (fun W => W.cell? ⟨m, 0, none⟩ = some (.slice AV cs.length cV) ∧ W.cell? ⟨m, 1, none⟩ = some (.slice AU 0 cU) ∧ W.cell? ⟨b2, o2 + 1, none⟩ = some (.string t1))
                  (first | assumption | exact HI.out | (with_reducible exact HS12.out _ (by assumption)))
                  (first | (go_at_call 23; (with_reducible refine (K23.out _ (Below.refl _ wr).drew).mono ?_); rintro _ w4 ⟨rfl, hb4⟩; have HB4 : Below wr.heap.size wr w4 := ((Below.refl _ _).drew).trans hb4))
                have hlv : m < w4.heap.size := Nat.lt_of_lt_of_le yl HB4.size
                have hlb : b2 < w4.heap.size := Nat.lt_of_lt_of_le hb2r HB4.size
                have HB4' := Lib.hid HB4
                have HR4 : Hid (Gs (w4.drew.alloc (.cells #[.string t1] 9)) m (.slice AV cs.length cV) (.slice AU es.length cU) cs es) := Lib.hid ((HR.out.below HB4).below ((Below.refl _ w4).drew.alloc (Nat.le_refl _) _))
                have HBM : Hid (Below m w1 (w4.drew.alloc (.cells #[.string t1] 9))) := Lib.hid ((HB.out.trans (HB4.mono (Nat.le_of_lt yl))).trans (((Below.refl _ w4).drew.alloc (Nat.le_refl _) _).mono (Nat.le_of_lt hlv)))
                have HGC : Hid (∀ W', World.grownBy (w4.drew.alloc (.cells #[.string t1] 9)) W' (Value.ownBlock (.slice AV cs.length cV)) → W'.cell? ⟨m, 0, none⟩ = some (.slice AV cs.length cV) ∧ W'.frozen? ⟨m, 0, none⟩ = false) := Lib.hid (fun W' hg => gs_r0 HR4.out hg)
                have HBS : Hid (m + 1 ≤ (w4.drew.alloc (.cells #[.string t1] 9)).heap.size) := Lib.hid (by simp; omega)
                have HNL : Hid (cs.length + 1 ≤ maxLen) := Lib.hid (by unfold maxLen; have := HST.out.2.2; omega)
                have HNB : Hid ((cs.length + 1) * 16 ≤ 140737488355328) := Lib.hid (by have := HST.out.2.2; omega)
                obtain ⟨i0, hi0, hz0, hz1, hz2⟩ := info9
                have HI0 := Lib.hid hi0
                have HZ0 := Lib.hid hz0
                have HZ1 := Lib.hid hz1
                have HZ2 := Lib.hid hz2
                obtain ⟨v0, _, w1c⟩ := HS12.out w4 HB4
                clear hi0 hz0 hz1 hz2 hb4
                go_upto_region 14 with fail
                go_region_law (first | (refine step_append_lies _ (by rfl) _ _ 22 (by rfl) (m + 1) 9 i0 (.string ⟨#[]⟩) 1 16 Tryz.underlying22 HI0.out HZ0.out HZ1.out HZ2.out rfl (by decide) (.slice AV cs.length cV) cs.length (cs.map Value.string) (by rfl) HR4.out.ns ⟨w4.heap.size, 0, none⟩ 1 1 [.string t1] (by rfl) rfl (one_at _ _ (by first | rfl | simp) (.string t1) 9) (by intro u hu; simp at hu; subst hu; rfl) (by decide) HNL.out HNB.out HBS.out _ rfl ?_; intro g5 c5 w5 hown5 hgrow5 hat5 hlt5; obtain ⟨x5a, x5b⟩ := HGC.out w5 hgrow5))
                all_goals
                  go_wp2_with fail
                  go_roundw
                  case rel => exact ⟨k + 1, cs ++ [t1], es, _, _, HLT.out, by go_num, (gs_name HR4.out hown5 hgrow5).1, HSO.out, HSN.out, HBM.out.trans (gs_name HR4.out hown5 hgrow5).2, HGX.out⟩
                  case measure => simp [intOf]; have := HLT.out; omega
            · have HX := Lib.hid (HFL.out 5 (by rw [A0.out (by simp; omega)]) (by decide))
              have d0 : decide ((0 : Int) < (ne : Int)) = true := by simp; omega
              have HS2 := Lib.hid (st_two (HKG.out wr (Below.refl _ _)).1 (.slice none 0 0) (.slice none 0 0))
              have HBF : Hid (Below w.heap.size w (((wr.setCell ⟨w.heap.size, 0, none⟩ (.slice none 0 0)).setCell ⟨w.heap.size, 1, none⟩ (.slice none 0 0)).drew)) := Lib.hid (Below.drew (((HKG.out wr (Below.refl _ _)).2.setCell (Nat.le_refl _) _).setCell (Nat.le_refl _) _))
              clear A0 A1 A2 HFL HGO HSO hR
              go_wp2_with fail
              refine (K22.out _).mono ?_
              rintro _ _ ⟨rfl, rfl⟩
              go_upto_region 11 with fail
              refine rE_11 wr w.heap.size b o N c k ln q0 z0 z1 z2 hbne hkn hkw ?_
              intro _ _ _ _ _ _
              go_wp2_with fail
              obtain ⟨x0, x1⟩ := HS2.out
              refine bodyPost_ret (v := .tuple #[.agg #[.slice none 0 0, .slice none 0 0], .int .i64 ln, .int .i64 5]) (by simp [results, Tryz.results10, go_sem, x0, x1]) rfl ?_
              exact get_err HX.out HBF.out _ rfl
        ·
          have K24 : Hid (∀ W, Below wr.heap.size wr W → Calls Tryz.prog 24 #[.slice (some ⟨b2, o2, none⟩) nn c2] W fun e w' => EdPost nn h W e w') := Lib.hid (fun W hW => c24 _ nn c2 h W (HSS.out.below hW) hn0 (HGR.out.below hW))
          have HKG : Hid (∀ W, Below wr.heap.size wr W → W.heap[w.heap.size]? = some (.cells #[.slice none 0 0, .slice none 0 0] 25 (0, 0)) ∧ Below w.heap.size w W) := Lib.hid (fun W hW => ⟨(hW.block _ g2).trans HG1.out, HG0.out.trans (hW.mono HG0.out.size)⟩)
          have HLC : Hid (∀ W, Below wr.heap.size wr W → W.cell? ⟨b, o + k * 2, none⟩ = some (.int .i64 ln) ∧ W.cell? ⟨w.heap.size, 0, none⟩ = some (.slice none 0 0) ∧ W.cell? ⟨w.heap.size, 1, none⟩ = some (.slice none 0 0) ∧ (∀ j, W.frozen? ⟨w.heap.size, j, none⟩ = false)) := Lib.hid (fun W hW =>
            ⟨(hW.cell (p := ⟨b, _, none⟩) (World.block_lt_of_cell? wr ⟨b, _, none⟩ q0)).trans q0, (hW.cell (p := ⟨w.heap.size, 0, none⟩) g2).trans z0, (hW.cell (p := ⟨w.heap.size, 1, none⟩) g2).trans z1, fun j => (hW.frozen (p := ⟨w.heap.size, j, none⟩) g2).trans (z2 j)⟩)
          clear hR
          by_cases hokf : okR nn h = false
          · have HX := Lib.hid (HFL.out 5 (by rw [step_edge cs es nn h hco, addS_bad (by rw [hokf]; rfl)]) (by decide))
            have HOK := Lib.hid hokf
            by_cases hc0 : h 0 = sComp
            · have hn2 : ¬ nn = 2 := fun e => hco ⟨hc0, e⟩
              have hn2i : ((nn : Int) == 2) = false := by simp; omega
              rw [hc0] at p0
              unfold sComp at p0
              clear hc0 hco hn2 hokf HFL HGO HSO HSN
              as_aux_lemma =>
                go_wp2_with fail
                refine (K24.out _ (Below.refl _ _)).mono ?_
                rintro _ w4 ⟨x, rfl, hxo, hxe, hb4⟩
                unfold Ed.v
                rw [HOK.out]
                go_upto_region 16 with fail
                have hb5 : Below wr.heap.size wr (w4.alloc (.cells #[.int .u8 (x.k : Int), .int .i64 x.fr, .int .i64 x.dt, .string x.nm, .int .u32 (x.wh : Int)] 42)) := hb4.alloc hb4.size _
                obtain ⟨c0, c1, c3, c4, c5, c6⟩ := box_cells (heap_alloc_new w4 (.cells #[.int .u8 (x.k : Int), .int .i64 x.fr, .int .i64 x.dt, .string x.nm, .int .u32 (x.wh : Int)] 42))
                have hl5 : w4.heap.size < (w4.alloc (.cells #[.int .u8 (x.k : Int), .int .i64 x.fr, .int .i64 x.dt, .string x.nm, .int .u32 (x.wh : Int)] 42)).heap.size := by simp
                have hwl : wr.heap.size ≤ w4.heap.size := hb4.size
                generalize w4.alloc (.cells #[.int .u8 (x.k : Int), .int .i64 x.fr, .int .i64 x.dt, .string x.nm, .int .u32 (x.wh : Int)] 42) = w5 at *
                generalize w4.heap.size = p10 at *
                have hpne : w.heap.size ≠ p10 := by omega
                have hpne2 : p10 ≠ w.heap.size := fun e => hpne e.symm
                have HS2 := Lib.hid (st_two (HKG.out w5 hb5).1 (.slice none 0 0) (.slice none 0 0))
                have HBF : Hid (Below w.heap.size w (((w5.setCell ⟨w.heap.size, 0, none⟩ (.slice none 0 0)).setCell ⟨w.heap.size, 1, none⟩ (.slice none 0 0)).drew)) := Lib.hid (Below.drew (((HKG.out w5 hb5).2.setCell (Nat.le_refl _) _).setCell (Nat.le_refl _) _))
                obtain ⟨q0, z0, z1, z2⟩ := HLC.out w5 hb5
                have hlw := (HKG.out w5 hb5).1
                go_upto_region 17 with fail
                refine rE_17 w5 w.heap.size b o N c k ln q0 z0 z1 z2 hbne hkn hkw ?_
                intro _ _ _ _ _ _
                go_wp2_with fail
                obtain ⟨x0, x1⟩ := HS2.out
                refine bodyPost_ret (v := .tuple #[.agg #[.slice none 0 0, .slice none 0 0], .int .i64 ln, .int .i64 5]) (by simp [results, Tryz.results10, go_sem, x0, x1]) rfl ?_
                exact get_err HX.out HBF.out _ rfl
            · have e0 := is_s (h 0) [99, 111, 109, 112, 97, 114, 116, 109, 101, 110, 116]
              rw [decide_eq_false (show ¬ h 0 = ⟨[99, 111, 109, 112, 97, 114, 116, 109, 101, 110, 116].toArray⟩ from hc0)] at e0
              generalize h 0 = t0 at p0 e0
              clear hc0 hco hokf HFL HGO HSO HSN
              as_aux_lemma =>
                go_wp2_with fail
                refine (K24.out _ (Below.refl _ _)).mono ?_
                rintro _ w4 ⟨x, rfl, hxo, hxe, hb4⟩
                unfold Ed.v
                rw [HOK.out]
                go_upto_region 16 with fail
                have hb5 : Below wr.heap.size wr (w4.alloc (.cells #[.int .u8 (x.k : Int), .int .i64 x.fr, .int .i64 x.dt, .string x.nm, .int .u32 (x.wh : Int)] 42)) := hb4.alloc hb4.size _
                obtain ⟨c0, c1, c3, c4, c5, c6⟩ := box_cells (heap_alloc_new w4 (.cells #[.int .u8 (x.k : Int), .int .i64 x.fr, .int .i64 x.dt, .string x.nm, .int .u32 (x.wh : Int)] 42))
                have hl5 : w4.heap.size < (w4.alloc (.cells #[.int .u8 (x.k : Int), .int .i64 x.fr, .int .i64 x.dt, .string x.nm, .int .u32 (x.wh : Int)] 42)).heap.size := by simp
                have hwl : wr.heap.size ≤ w4.heap.size := hb4.size
                generalize w4.alloc (.cells #[.int .u8 (x.k : Int), .int .i64 x.fr, .int .i64 x.dt, .string x.nm, .int .u32 (x.wh : Int)] 42) = w5 at *
                generalize w4.heap.size = p10 at *
                have hpne : w.heap.size ≠ p10 := by omega
                have hpne2 : p10 ≠ w.heap.size := fun e => hpne e.symm
                have HS2 := Lib.hid (st_two (HKG.out w5 hb5).1 (.slice none 0 0) (.slice none 0 0))
                have HBF : Hid (Below w.heap.size w (((w5.setCell ⟨w.heap.size, 0, none⟩ (.slice none 0 0)).setCell ⟨w.heap.size, 1, none⟩ (.slice none 0 0)).drew)) := Lib.hid (Below.drew (((HKG.out w5 hb5).2.setCell (Nat.le_refl _) _).setCell (Nat.le_refl _) _))
                obtain ⟨q0, z0, z1, z2⟩ := HLC.out w5 hb5
                have hlw := (HKG.out w5 hb5).1
                go_upto_region 17 with fail
                refine rE_17 w5 w.heap.size b o N c k ln q0 z0 z1 z2 hbne hkn hkw ?_
                intro _ _ _ _ _ _
                go_wp2_with fail
                obtain ⟨x0, x1⟩ := HS2.out
                refine bodyPost_ret (v := .tuple #[.agg #[.slice none 0 0, .slice none 0 0], .int .i64 ln, .int .i64 5]) (by simp [results, Tryz.results10, go_sem, x0, x1]) rfl ?_
                exact get_err HX.out HBF.out _ rfl
          have hok : okR nn h = true := by simpa using hokf
          have hc0 : ¬ h 0 = sComp := fun e => by
            unfold okR at hok
            simp only [e] at hok
            repeat (rw [if_neg (fun hh => absurd hh.1 (by decide))] at hok)
            cases hok
          have e0 := is_s (h 0) [99, 111, 109, 112, 97, 114, 116, 109, 101, 110, 116]
          rw [decide_eq_false (show ¬ h 0 = ⟨[99, 111, 109, 112, 97, 114, 116, 109, 101, 110, 116].toArray⟩ from hc0)] at e0
          generalize h 0 = t0 at p0 e0
          have HOK := Lib.hid hok
          obtain ⟨ek, enm, ewh, hed, hk1, hk5, hn3, hk4, F1, F2, F3, F4⟩ := edge_facts (cs := cs) (es := es) hco hok
          have HED := Lib.hid hed
          have p1 := (HWD.out 1 (by omega)).1
          have K22 := Lib.hid (c22 (h 1) (HWD.out 1 (by omega)).2)
          have hn3i : (1 : Int) < (nn : Int) := by omega
          have HF1 := Lib.hid F1
          have HF2 := Lib.hid F2
          have HF3 := Lib.hid F3
          have HF4 := Lib.hid F4
          clear hc0 hco hokf hok hed F1 F2 F3 F4
          obtain ⟨t1, ht1⟩ : ∃ t1, h 1 = t1 := ⟨_, rfl⟩
          rw [ht1] at K22 p1 HF1 HF3 HF4
          obtain ⟨S, hS⟩ : ∃ S, stepM cs es nn h = S := ⟨_, rfl⟩
          rw [hS] at HFL HGO HSO HSN HF1 HF2 HF3 HF4
          obtain ⟨q1n, hq1⟩ : ∃ q, nameB t1 = q := ⟨_, rfl⟩
          rw [hq1] at K22 HF1 HF3 HF4
          clear hS hq1 ht1
          cases q1n
          · have HX := Lib.hid (HFL.out 5 (by rw [HF1.out rfl]) (by decide))
            clear HFL HGO HSO HSN HF1 HF2 HF3 HF4
            as_aux_lemma =>
              go_wp2_with fail
              refine (K24.out _ (Below.refl _ _)).mono ?_
              rintro _ w4 ⟨x, rfl, hxo, hxe, hb4⟩
              unfold Ed.v
              rw [HOK.out]
              go_upto_region 16 with fail
              have hb5 : Below wr.heap.size wr (w4.alloc (.cells #[.int .u8 (x.k : Int), .int .i64 x.fr, .int .i64 x.dt, .string x.nm, .int .u32 (x.wh : Int)] 42)) := hb4.alloc hb4.size _
              obtain ⟨c0, c1, c3, c4, c5, c6⟩ := box_cells (heap_alloc_new w4 (.cells #[.int .u8 (x.k : Int), .int .i64 x.fr, .int .i64 x.dt, .string x.nm, .int .u32 (x.wh : Int)] 42))
              have hl5 : w4.heap.size < (w4.alloc (.cells #[.int .u8 (x.k : Int), .int .i64 x.fr, .int .i64 x.dt, .string x.nm, .int .u32 (x.wh : Int)] 42)).heap.size := by simp
              have hwl : wr.heap.size ≤ w4.heap.size := hb4.size
              generalize w4.alloc (.cells #[.int .u8 (x.k : Int), .int .i64 x.fr, .int .i64 x.dt, .string x.nm, .int .u32 (x.wh : Int)] 42) = w5 at *
              generalize w4.heap.size = p10 at *
              have p1 := (hb5.cell (p := ⟨b2, o2 + 1, none⟩) hb2r).trans p1
              have hpne : w.heap.size ≠ p10 := by omega
              have hpne2 : p10 ≠ w.heap.size := fun e => hpne e.symm
              have HS2 := Lib.hid (st_two (HKG.out w5 hb5).1 (.slice none 0 0) (.slice none 0 0))
              have HBF : Hid (Below w.heap.size w (((w5.setCell ⟨w.heap.size, 0, none⟩ (.slice none 0 0)).setCell ⟨w.heap.size, 1, none⟩ (.slice none 0 0)).drew)) := Lib.hid (Below.drew (((HKG.out w5 hb5).2.setCell (Nat.le_refl _) _).setCell (Nat.le_refl _) _))
              obtain ⟨q0, z0, z1, z2⟩ := HLC.out w5 hb5
              have hlw := (HKG.out w5 hb5).1
              go_wp2_with fail
              refine (K22.out _).mono ?_
              rintro _ _ ⟨rfl, rfl⟩
              go_upto_region 17 with fail
              refine rE_17 w5 w.heap.size b o N c k ln q0 z0 z1 z2 hbne hkn hkw ?_
              intro _ _ _ _ _ _
              go_wp2_with fail
              obtain ⟨x0, x1⟩ := HS2.out
              refine bodyPost_ret (v := .tuple #[.agg #[.slice none 0 0, .slice none 0 0], .int .i64 ln, .int .i64 5]) (by simp [results, Tryz.results10, go_sem, x0, x1]) rfl ?_
              exact get_err HX.out HBF.out _ rfl
          by_cases hk2 : ek = 2
          · have hn4 := hk4 hk2
            have hke : ((ek : Int) == 2) = true := by simp; omega
            have p2 := (HWD.out 2 (by omega)).1
            have K22b := Lib.hid (c22 (h 2) (HWD.out 2 (by omega)).2)
            have hn4i : (2 : Int) < (nn : Int) := by omega
            obtain ⟨t2, ht2⟩ : ∃ t2, h 2 = t2 := ⟨_, rfl⟩
            rw [ht2] at K22b p2 HF2 HF3
            obtain ⟨q2n, hq2⟩ : ∃ q, nameB t2 = q := ⟨_, rfl⟩
            rw [hq2] at K22b HF2 HF3
            have HK2 := Lib.hid hk2
            have HN3 := Lib.hid hn3
            clear ht2 hq2 hk2 hn4 hk4 hn3
            cases q2n
            · have HX := Lib.hid (HFL.out 5 (by rw [HF2.out HK2.out rfl]) (by decide))
              clear HFL HGO HSO HSN HF1 HF2 HF3 HF4
              as_aux_lemma =>
                go_wp2_with fail
                refine (K24.out _ (Below.refl _ _)).mono ?_
                rintro _ w4 ⟨x, rfl, hxo, hxe, hb4⟩
                rw [HOK.out]
                have hx := hxe HOK.out
                rw [HED.out] at hx
                subst hx
                rw [show Ed.v ⟨ek, 0, -1, enm, ewh⟩ = .agg #[.int .u8 (ek : Int), .int .i64 0, .int .i64 (-1), .string enm, .int .u32 (ewh : Int)] from rfl]
                go_upto_region 16 with fail
                have hb5 : Below wr.heap.size wr (w4.alloc (.cells #[.int .u8 (ek : Int), .int .i64 0, .int .i64 (-1), .string enm, .int .u32 (ewh : Int)] 42)) := hb4.alloc hb4.size _
                obtain ⟨c0, c1, c3, c4, c5, c6⟩ := box_cells (heap_alloc_new w4 (.cells #[.int .u8 (ek : Int), .int .i64 0, .int .i64 (-1), .string enm, .int .u32 (ewh : Int)] 42))
                have hl5 : w4.heap.size < (w4.alloc (.cells #[.int .u8 (ek : Int), .int .i64 0, .int .i64 (-1), .string enm, .int .u32 (ewh : Int)] 42)).heap.size := by simp
                have hwl : wr.heap.size ≤ w4.heap.size := hb4.size
                generalize w4.alloc (.cells #[.int .u8 (ek : Int), .int .i64 0, .int .i64 (-1), .string enm, .int .u32 (ewh : Int)] 42) = w5 at *
                generalize w4.heap.size = p10 at *
                have p1 := (hb5.cell (p := ⟨b2, o2 + 1, none⟩) hb2r).trans p1
                have p2 := (hb5.cell (p := ⟨b2, o2 + 2, none⟩) hb2r).trans p2
                have hpne : w.heap.size ≠ p10 := by omega
                have hpne2 : p10 ≠ w.heap.size := fun e => hpne e.symm
                have HS2 := Lib.hid (st_two (HKG.out w5 hb5).1 (.slice none 0 0) (.slice none 0 0))
                have HBF : Hid (Below w.heap.size w (((w5.setCell ⟨w.heap.size, 0, none⟩ (.slice none 0 0)).setCell ⟨w.heap.size, 1, none⟩ (.slice none 0 0)).drew)) := Lib.hid (Below.drew (((HKG.out w5 hb5).2.setCell (Nat.le_refl _) _).setCell (Nat.le_refl _) _))
                obtain ⟨q0, z0, z1, z2⟩ := HLC.out w5 hb5
                have hlw := (HKG.out w5 hb5).1
                go_wp2_with fail
                refine (K22.out _).mono ?_
                rintro _ _ ⟨rfl, rfl⟩
                go_wp2_with fail
                refine (K22b.out _).mono ?_
                rintro _ _ ⟨rfl, rfl⟩
                go_upto_region 17 with fail
                refine rE_17 w5 w.heap.size b o N c k ln q0 z0 z1 z2 hbne hkn hkw ?_
                intro _ _ _ _ _ _
                go_wp2_with fail
                obtain ⟨x0, x1⟩ := HS2.out
                refine bodyPost_ret (v := .tuple #[.agg #[.slice none 0 0, .slice none 0 0], .int .i64 ln, .int .i64 5]) (by simp [results, Tryz.results10, go_sem, x0, x1]) rfl ?_
                exact get_err HX.out HBF.out _ rfl
            have HE := Lib.hid (HF3.out rfl HK2.out rfl)
            clear HF1 HF2 HF3 HF4
            obtain ⟨ne, hN⟩ : ∃ ne, es.length = ne := ⟨_, rfl⟩
            have HJN := Lib.hid hN
            rw [hN] at yU
            have hssn : Ss wr AV cs.length (lg cs) := (Li.own_ss HR.out.ns (fun y hy => by have := HNZ.out y hy; omega)).2.2
            have K23 : Hid (∀ (tt : ByteArray) W, Below wr.heap.size wr W → Calls Tryz.prog 23 #[.agg #[.slice AV cs.length cV, .slice AU ne cU], .string tt] W fun e w' => e = .returned (.int .i64 (nmI cs tt)) ∧ Below W.heap.size W w') := Lib.hid (fun tt W hW => c23 AV cV (.slice AU ne cU) AU ne cU rfl cs tt W (hssn.below hW) (by have := HST.out.2.2; omega))
            have HSM : Hid (∀ W, Below wr.heap.size wr W → W.cell? ⟨m, 0, none⟩ = some (.slice AV cs.length cV) ∧ W.cell? ⟨m, 1, none⟩ = some (.slice AU ne cU)) := Lib.hid (fun W hW => ⟨(hW.cell (p := ⟨m, 0, none⟩) yl).trans yV, (hW.cell (p := ⟨m, 1, none⟩) yl).trans yU⟩)
            have HP1 : Hid (∀ W, Below wr.heap.size wr W → W.cell? ⟨b2, o2 + 1, none⟩ = some (.string t1)) := Lib.hid (fun W hW => (hW.cell (p := ⟨b2, _, none⟩) hb2r).trans p1)
            have HP2 : Hid (∀ W, Below wr.heap.size wr W → W.cell? ⟨b2, o2 + 2, none⟩ = some (.string t2)) := Lib.hid (fun W hW => (hW.cell (p := ⟨b2, _, none⟩) hb2r).trans p2)
            obtain ⟨A1, hA1⟩ : ∃ x, nmI cs t1 = x := ⟨_, rfl⟩
            have K23A := Lib.hid (K23.out t1)
            rw [hA1] at K23A HE
            obtain ⟨B1, hB1⟩ : ∃ x, nmI cs t2 = x := ⟨_, rfl⟩
            have K23B := Lib.hid (K23.out t2)
            rw [hB1] at K23B HE
            clear hB1
            clear hssn hA1 K23 hN
            go_wp2_with fail
            refine (K24.out _ (Below.refl _ _)).mono ?_
            rintro _ w4 ⟨x, rfl, hxo, hxe, hb4⟩
            rw [HOK.out]
            have hx := hxe HOK.out
            rw [HED.out] at hx
            subst hx
            rw [show Ed.v ⟨ek, 0, -1, enm, ewh⟩ = .agg #[.int .u8 (ek : Int), .int .i64 0, .int .i64 (-1), .string enm, .int .u32 (ewh : Int)] from rfl]
            go_upto_region 16 with fail
            have hb5 : Below wr.heap.size wr (w4.alloc (.cells #[.int .u8 (ek : Int), .int .i64 0, .int .i64 (-1), .string enm, .int .u32 (ewh : Int)] 42)) := hb4.alloc hb4.size _
            have hrb := heap_alloc_new w4 (.cells #[.int .u8 (ek : Int), .int .i64 0, .int .i64 (-1), .string enm, .int .u32 (ewh : Int)] 42)
            have hl5 : w4.heap.size < (w4.alloc (.cells #[.int .u8 (ek : Int), .int .i64 0, .int .i64 (-1), .string enm, .int .u32 (ewh : Int)] 42)).heap.size := by simp
            have hwl : wr.heap.size ≤ w4.heap.size := hb4.size
            generalize w4.alloc (.cells #[.int .u8 (ek : Int), .int .i64 0, .int .i64 (-1), .string enm, .int .u32 (ewh : Int)] 42) = w5 at *
            generalize w4.heap.size = p10 at *
            obtain ⟨c0, c1, c3, c4, c5, c6⟩ := box_cells hrb
            have HRw5 := Lib.hid hrb
            have HLw5 := Lib.hid hl5
            have HXO : Hid (∀ a b : Int, (⟨ek, a, b, enm, ewh⟩ : Ed).ok) := Lib.hid (fun a b => ⟨hxo.1, hxo.2.1, hxo.2.2⟩)
            clear hrb hl5 hxo hxe
            have p1 := (hb5.cell (p := ⟨b2, o2 + 1, none⟩) hb2r).trans p1
            have p2 := (hb5.cell (p := ⟨b2, o2 + 2, none⟩) hb2r).trans p2
            have hpne : w.heap.size ≠ p10 := by omega
            have hpne2 : p10 ≠ w.heap.size := fun e => hpne e.symm
            have HBw5 := Lib.hid hb5
            clear hb5
            go_wp2_with fail
            refine (K22.out _).mono ?_
            rintro _ _ ⟨rfl, rfl⟩
            go_wp2_with fail
            refine (K22b.out _).mono ?_
            rintro _ _ ⟨rfl, rfl⟩
            have HS18 : Hid (∀ W, Below wr.heap.size wr W → W.cell? ⟨m, 0, none⟩ = some (.slice AV cs.length cV) ∧ W.cell? ⟨m, 1, none⟩ = some (.slice AU ne cU) ∧ W.cell? ⟨b2, o2 + 1, none⟩ = some (.string t1)) := Lib.hid (fun W hW => ⟨(HSM.out W hW).1, (HSM.out W hW).2, HP1.out W hW⟩)
            have HK18 : Hid (∀ W, Below w5.heap.size w5 W → W.cell? ⟨p10, 1, none⟩ = some (.int .i64 0) ∧ W.frozen? ⟨p10, 1, none⟩ = false) := Lib.hid (fun W hW => by
              have hr := (hW.block p10 HLw5.out).trans HRw5.out
              obtain ⟨d0, d1, d2, d3, d4, d5⟩ := box_cells hr
              exact ⟨d1, d5 1⟩)
            go_upto_region 18 with fail
            have HD18 : Hid (Below wr.heap.size wr w5.drew) := Lib.hid HBw5.out.drew
            have HI := Lib.hid (HS18.out _ HD18.out)
            go_region_held3 (fun W => W.cell? ⟨m, 0, none⟩ = some (.slice AV cs.length cV) ∧ W.cell? ⟨m, 1, none⟩ = some (.slice AU ne cU) ∧ W.cell? ⟨b2, o2 + 1, none⟩ = some (.string t1))
              (first | assumption | exact HI.out | (with_reducible exact HS18.out _ (by assumption)) | (with_reducible exact HS18.out _ (Below.setCell (by assumption) hwl _)))
              (first | (go_at_call 23; (with_reducible refine (K23A.out _ HD18.out).mono ?_); rintro _ w6 ⟨rfl, hbw6⟩; have hBw6 : Below wr.heap.size wr w6 := HD18.out.trans (hbw6.mono HD18.out.size); obtain ⟨y1w6, y2w6⟩ := HK18.out w6 (((Below.refl _ _).drew).trans hbw6)))
            have HRw7 : Hid ((w6.setCell ⟨p10, 1, none⟩ (.int .i64 A1)).heap[p10]? = some (.cells #[.int .u8 (ek : Int), .int .i64 A1, .int .i64 (-1), .string enm, .int .u32 (ewh : Int)] 42 (0, 0))) := Lib.hid (by
              rw [heap_setCell_at _ _ _ _ (((((Below.refl _ _).drew).trans hbw6).block p10 HLw5.out).trans HRw5.out)]
              rfl)
            have HBw7 : Hid (Below wr.heap.size wr (w6.setCell ⟨p10, 1, none⟩ (.int .i64 A1))) := Lib.hid (hBw6.setCell hwl _)
            have HLw7 : Hid (p10 < (w6.setCell ⟨p10, 1, none⟩ (.int .i64 A1)).heap.size) := Lib.hid (by rw [setCell_size]; exact Nat.lt_of_lt_of_le HLw5.out hbw6.size)
            clear hbw6 hBw6 y1w6 y2w6
            generalize w6.setCell ⟨p10, 1, none⟩ (.int .i64 A1) = w7 at *
            obtain ⟨d0, d1, d2, d3, d4, d5⟩ := box_cells HRw7.out
            have HS20 : Hid (∀ W, Below wr.heap.size wr W → W.cell? ⟨m, 0, none⟩ = some (.slice AV cs.length cV) ∧ W.cell? ⟨m, 1, none⟩ = some (.slice AU ne cU) ∧ W.cell? ⟨b2, o2 + 2, none⟩ = some (.string t2)) := Lib.hid (fun W hW => ⟨(HSM.out W hW).1, (HSM.out W hW).2, HP2.out W hW⟩)
            have HK20 : Hid (∀ W, Below w7.heap.size w7 W → W.cell? ⟨p10, 2, none⟩ = some (.int .i64 (-1)) ∧ W.frozen? ⟨p10, 2, none⟩ = false) := Lib.hid (fun W hW => by
              have hr := (hW.block p10 HLw7.out).trans HRw7.out
              obtain ⟨d0, d1, d2, d3, d4, d5⟩ := box_cells hr
              exact ⟨d2, d5 2⟩)
            go_upto_region 20 with fail
            have HD20 : Hid (Below wr.heap.size wr w7.drew) := Lib.hid HBw7.out.drew
            have HI := Lib.hid (HS20.out _ HD20.out)
            go_region_held3 (fun W => W.cell? ⟨m, 0, none⟩ = some (.slice AV cs.length cV) ∧ W.cell? ⟨m, 1, none⟩ = some (.slice AU ne cU) ∧ W.cell? ⟨b2, o2 + 2, none⟩ = some (.string t2))
              (first | assumption | exact HI.out | (with_reducible exact HS20.out _ (by assumption)) | (with_reducible exact HS20.out _ (Below.setCell (by assumption) hwl _)))
              (first | (go_at_call 23; (with_reducible refine (K23B.out _ HD20.out).mono ?_); rintro _ w8 ⟨rfl, hbw8⟩; have hBw8 : Below wr.heap.size wr w8 := HD20.out.trans (hbw8.mono HD20.out.size); obtain ⟨y1w8, y2w8⟩ := HK20.out w8 (((Below.refl _ _).drew).trans hbw8)))
            have HRw9 : Hid ((w8.setCell ⟨p10, 2, none⟩ (.int .i64 B1)).heap[p10]? = some (.cells #[.int .u8 (ek : Int), .int .i64 A1, .int .i64 B1, .string enm, .int .u32 (ewh : Int)] 42 (0, 0))) := Lib.hid (by
              rw [heap_setCell_at _ _ _ _ (((((Below.refl _ _).drew).trans hbw8).block p10 HLw7.out).trans HRw7.out)]
              rfl)
            have HBw9 : Hid (Below wr.heap.size wr (w8.setCell ⟨p10, 2, none⟩ (.int .i64 B1))) := Lib.hid (hBw8.setCell hwl _)
            have HLw9 : Hid (p10 < (w8.setCell ⟨p10, 2, none⟩ (.int .i64 B1)).heap.size) := Lib.hid (by rw [setCell_size]; exact Nat.lt_of_lt_of_le HLw7.out hbw8.size)
            clear hbw8 hBw8 y1w8 y2w8
            generalize w8.setCell ⟨p10, 2, none⟩ (.int .i64 B1) = w9 at *
            obtain ⟨d0, d1, d2, d3, d4, d5⟩ := box_cells HRw9.out
            by_cases ha : A1 < 0
            · as_aux_lemma =>
                have ha0 : decide (A1 < (0 : Int)) = true := by simp; omega
                obtain ⟨G6, G5⟩ := HE.out.1 (Or.inl ha)
                have K25z : Hid (∀ W, Calls Tryz.prog 25 #[.agg #[.int .u8 (ek : Int), .int .i64 0, .int .i64 0, .string enm, .int .u32 (ewh : Int)], .int .i64 1] W fun e w' => e = .returned (.bool (edB ⟨ek, 0, 0, enm, ewh⟩ 1)) ∧ Below W.heap.size W w') := Lib.hid (fun W => c25 ⟨ek, 0, 0, enm, ewh⟩ (HXO.out _ _) 1 W)
                obtain ⟨ez, hez⟩ : ∃ e, edB ⟨ek, 0, 0, enm, ewh⟩ 1 = e := ⟨_, rfl⟩
                rw [hez] at K25z
                cases ez
                · have HX := Lib.hid (HFL.out 5 (by rw [G5 hez]) (by decide))
                  clear G5 G6 hez HFL HGO HSO HSN HE
                  go_wp2_with fail
                  refine (K25z.out _).mono ?_
                  rintro _ w12 ⟨rfl, hb12⟩
                  have hB12 : Below wr.heap.size wr w12 := (HBw9.out.alloc HBw9.out.size _).trans (hb12.mono (Nat.le_trans HBw9.out.size (by simp)))
                  have HS2 := Lib.hid (st_two (HKG.out w12 hB12).1 (.slice none 0 0) (.slice none 0 0))
                  have HBF : Hid (Below w.heap.size w (((w12.setCell ⟨w.heap.size, 0, none⟩ (.slice none 0 0)).setCell ⟨w.heap.size, 1, none⟩ (.slice none 0 0)).drew)) := Lib.hid (Below.drew (((HKG.out w12 hB12).2.setCell (Nat.le_refl _) _).setCell (Nat.le_refl _) _))
                  obtain ⟨q0, z0, z1, z2⟩ := HLC.out w12 hB12
                  have hlw := (HKG.out w12 hB12).1
                  go_upto_region 27 with fail
                  refine rE_27 w12 w.heap.size b o N c k ln q0 z0 z1 z2 hbne hkn hkw ?_
                  intro _ _ _ _ _ _
                  go_wp2_with fail
                  obtain ⟨x0, x1⟩ := HS2.out
                  refine bodyPost_ret (v := .tuple #[.agg #[.slice none 0 0, .slice none 0 0], .int .i64 ln, .int .i64 5]) (by simp [results, Tryz.results10, go_sem, x0, x1]) rfl ?_
                  exact get_err HX.out HBF.out _ rfl
                · have HX := Lib.hid (HFL.out 6 (by rw [G6 hez]) (by decide))
                  clear G5 G6 hez HFL HGO HSO HSN HE
                  go_wp2_with fail
                  refine (K25z.out _).mono ?_
                  rintro _ w12 ⟨rfl, hb12⟩
                  have hB12 : Below wr.heap.size wr w12 := (HBw9.out.alloc HBw9.out.size _).trans (hb12.mono (Nat.le_trans HBw9.out.size (by simp)))
                  have HS2 := Lib.hid (st_two (HKG.out w12 hB12).1 (.slice none 0 0) (.slice none 0 0))
                  have HBF : Hid (Below w.heap.size w (((w12.setCell ⟨w.heap.size, 0, none⟩ (.slice none 0 0)).setCell ⟨w.heap.size, 1, none⟩ (.slice none 0 0)).drew)) := Lib.hid (Below.drew (((HKG.out w12 hB12).2.setCell (Nat.le_refl _) _).setCell (Nat.le_refl _) _))
                  obtain ⟨q0, z0, z1, z2⟩ := HLC.out w12 hB12
                  have hlw := (HKG.out w12 hB12).1
                  go_upto_region 28 with fail
                  refine rE_28 w12 w.heap.size b o N c k ln q0 z0 z1 z2 hbne hkn hkw ?_
                  intro _ _ _ _ _ _
                  go_wp2_with fail
                  obtain ⟨x0, x1⟩ := HS2.out
                  refine bodyPost_ret (v := .tuple #[.agg #[.slice none 0 0, .slice none 0 0], .int .i64 ln, .int .i64 6]) (by simp [results, Tryz.results10, go_sem, x0, x1]) rfl ?_
                  exact get_err HX.out HBF.out _ rfl
            by_cases hb : B1 < 0
            · as_aux_lemma =>
                have ha0 : decide (A1 < (0 : Int)) = false := by simp; omega
                have hb0 : decide (B1 < (0 : Int)) = true := by simp; omega
                obtain ⟨G6, G5⟩ := HE.out.1 (Or.inr hb)
                have K25z : Hid (∀ W, Calls Tryz.prog 25 #[.agg #[.int .u8 (ek : Int), .int .i64 0, .int .i64 0, .string enm, .int .u32 (ewh : Int)], .int .i64 1] W fun e w' => e = .returned (.bool (edB ⟨ek, 0, 0, enm, ewh⟩ 1)) ∧ Below W.heap.size W w') := Lib.hid (fun W => c25 ⟨ek, 0, 0, enm, ewh⟩ (HXO.out _ _) 1 W)
                obtain ⟨ez, hez⟩ : ∃ e, edB ⟨ek, 0, 0, enm, ewh⟩ 1 = e := ⟨_, rfl⟩
                rw [hez] at K25z
                cases ez
                · have HX := Lib.hid (HFL.out 5 (by rw [G5 hez]) (by decide))
                  clear G5 G6 hez HFL HGO HSO HSN HE
                  go_wp2_with fail
                  refine (K25z.out _).mono ?_
                  rintro _ w12 ⟨rfl, hb12⟩
                  have hB12 : Below wr.heap.size wr w12 := (HBw9.out.alloc HBw9.out.size _).trans (hb12.mono (Nat.le_trans HBw9.out.size (by simp)))
                  have HS2 := Lib.hid (st_two (HKG.out w12 hB12).1 (.slice none 0 0) (.slice none 0 0))
                  have HBF : Hid (Below w.heap.size w (((w12.setCell ⟨w.heap.size, 0, none⟩ (.slice none 0 0)).setCell ⟨w.heap.size, 1, none⟩ (.slice none 0 0)).drew)) := Lib.hid (Below.drew (((HKG.out w12 hB12).2.setCell (Nat.le_refl _) _).setCell (Nat.le_refl _) _))
                  obtain ⟨q0, z0, z1, z2⟩ := HLC.out w12 hB12
                  have hlw := (HKG.out w12 hB12).1
                  go_upto_region 27 with fail
                  refine rE_27 w12 w.heap.size b o N c k ln q0 z0 z1 z2 hbne hkn hkw ?_
                  intro _ _ _ _ _ _
                  go_wp2_with fail
                  obtain ⟨x0, x1⟩ := HS2.out
                  refine bodyPost_ret (v := .tuple #[.agg #[.slice none 0 0, .slice none 0 0], .int .i64 ln, .int .i64 5]) (by simp [results, Tryz.results10, go_sem, x0, x1]) rfl ?_
                  exact get_err HX.out HBF.out _ rfl
                · have HX := Lib.hid (HFL.out 6 (by rw [G6 hez]) (by decide))
                  clear G5 G6 hez HFL HGO HSO HSN HE
                  go_wp2_with fail
                  refine (K25z.out _).mono ?_
                  rintro _ w12 ⟨rfl, hb12⟩
                  have hB12 : Below wr.heap.size wr w12 := (HBw9.out.alloc HBw9.out.size _).trans (hb12.mono (Nat.le_trans HBw9.out.size (by simp)))
                  have HS2 := Lib.hid (st_two (HKG.out w12 hB12).1 (.slice none 0 0) (.slice none 0 0))
                  have HBF : Hid (Below w.heap.size w (((w12.setCell ⟨w.heap.size, 0, none⟩ (.slice none 0 0)).setCell ⟨w.heap.size, 1, none⟩ (.slice none 0 0)).drew)) := Lib.hid (Below.drew (((HKG.out w12 hB12).2.setCell (Nat.le_refl _) _).setCell (Nat.le_refl _) _))
                  obtain ⟨q0, z0, z1, z2⟩ := HLC.out w12 hB12
                  have hlw := (HKG.out w12 hB12).1
                  go_upto_region 28 with fail
                  refine rE_28 w12 w.heap.size b o N c k ln q0 z0 z1 z2 hbne hkn hkw ?_
                  intro _ _ _ _ _ _
                  go_wp2_with fail
                  obtain ⟨x0, x1⟩ := HS2.out
                  refine bodyPost_ret (v := .tuple #[.agg #[.slice none 0 0, .slice none 0 0], .int .i64 ln, .int .i64 6]) (by simp [results, Tryz.results10, go_sem, x0, x1]) rfl ?_
                  exact get_err HX.out HBF.out _ rfl
            have ha0 : decide (A1 < (0 : Int)) = false := by simp; omega
            have hb0 : decide (B1 < (0 : Int)) = false := by simp; omega
            obtain ⟨GF, GT⟩ := HE.out.2 (by omega)
            have K25 : Hid (∀ W, Calls Tryz.prog 25 #[.agg #[.int .u8 (ek : Int), .int .i64 A1, .int .i64 B1, .string enm, .int .u32 (ewh : Int)], .int .i64 (cs.length : Int)] W fun e w' => e = .returned (.bool (edB ⟨ek, A1, B1, enm, ewh⟩ cs.length)) ∧ Below W.heap.size W w') := Lib.hid (fun W => c25 ⟨ek, A1, B1, enm, ewh⟩ (HXO.out _ _) cs.length W)
            have HS29 : Hid (∀ W, Below w9.heap.size w9 W → W.cell? ⟨p10, 0, none⟩ = some (.int .u8 (ek : Int)) ∧ W.cell? ⟨p10, 1, none⟩ = some (.int .i64 A1) ∧ W.cell? ⟨p10, 2, none⟩ = some (.int .i64 B1) ∧ W.cell? ⟨p10, 3, none⟩ = some (.string enm) ∧ W.cell? ⟨p10, 4, none⟩ = some (.int .u32 (ewh : Int)) ∧ W.cell? ⟨m, 0, none⟩ = some (.slice AV cs.length cV) ∧ W.cell? ⟨m, 1, none⟩ = some (.slice AU ne cU)) := Lib.hid (fun W hW => by
              have hr := (hW.block p10 HLw9.out).trans HRw9.out
              obtain ⟨d0, d1, d2, d3, d4, d5⟩ := box_cells hr
              exact ⟨d0, d1, d2, d3, d4, HSM.out W (HBw9.out.trans (hW.mono HBw9.out.size))⟩)
            obtain ⟨ey, hey⟩ : ∃ e, edB ⟨ek, A1, B1, enm, ewh⟩ cs.length = e := ⟨_, rfl⟩
            rw [hey] at K25
            cases ey
            · have HX := Lib.hid (HFL.out 5 (by rw [GF hey]) (by decide))
              clear GF GT hey HFL HGO HSO HSN HE
              go_upto_region 29 with fail
              refine r29_E1 w9 ⟨ek, A1, B1, enm, ewh⟩ m p10 cs.length ne AV cV cU AU K25 HS29 ?_
              intro _ _ _ _ _ _ _ _ _ _ _ _ _ _ _ _ _ _ _ _ _ _ _ wx hbx
              have hB30 : Below wr.heap.size wr wx := HBw9.out.trans (hbx.mono HBw9.out.size)
              have HS2 := Lib.hid (st_two (HKG.out wx hB30).1 (.slice none 0 0) (.slice none 0 0))
              have HBF : Hid (Below w.heap.size w (((wx.setCell ⟨w.heap.size, 0, none⟩ (.slice none 0 0)).setCell ⟨w.heap.size, 1, none⟩ (.slice none 0 0)).drew)) := Lib.hid (Below.drew (((HKG.out wx hB30).2.setCell (Nat.le_refl _) _).setCell (Nat.le_refl _) _))
              obtain ⟨q0, z0, z1, z2⟩ := HLC.out wx hB30
              have hlw := (HKG.out wx hB30).1
              go_upto_region 30 with fail
              refine rE_30 wx w.heap.size b o N c k ln q0 z0 z1 z2 hbne hkn hkw ?_
              intro _ _ _ _ _ _
              go_wp2_with fail
              obtain ⟨x0, x1⟩ := HS2.out
              refine bodyPost_ret (v := .tuple #[.agg #[.slice none 0 0, .slice none 0 0], .int .i64 ln, .int .i64 5]) (by simp [results, Tryz.results10, go_sem, x0, x1]) rfl ?_
              exact get_err HX.out HBF.out _ rfl
            have hGT := GT hey
            clear GF GT hey
            cases hlo : es.getLast? with
            | none =>
              have hes : es = [] := by simpa using hlo
              have hn00 : ne = 0 := by have := HJN.out; rw [hes] at this; simp at this; omega
              have HN00 := Lib.hid hn00
              have hPAY := hGT.1 hes
              clear hes hlo hGT hn00
              go_upto_region 29 with fail
              refine r29_E2 w9 ⟨ek, A1, B1, enm, ewh⟩ m p10 cs.length ne AV cV cU AU K25 HN00.out HS29 ?_
              intro _ _ _ _ _ _ _ _ _ _ _ _ _ _ _ _ _ _ _ _ _ _ _ wx hbx
              have HS29n : Hid (∀ W, Below wx.heap.size wx W → W.cell? ⟨p10, 0, none⟩ = some (.int .u8 (ek : Int)) ∧ W.cell? ⟨p10, 1, none⟩ = some (.int .i64 A1) ∧ W.cell? ⟨p10, 2, none⟩ = some (.int .i64 B1) ∧ W.cell? ⟨p10, 3, none⟩ = some (.string enm) ∧ W.cell? ⟨p10, 4, none⟩ = some (.int .u32 (ewh : Int)) ∧ W.cell? ⟨m, 0, none⟩ = some (.slice AV cs.length cV) ∧ W.cell? ⟨m, 1, none⟩ = some (.slice AU ne cU)) := Lib.hid (fun W hW => HS29.out W (hbx.trans (hW.mono hbx.size)))
              go_upto_region 31 with fail
              refine r31_E2 wx ⟨ek, A1, B1, enm, ewh⟩ m p10 cs.length ne AV cV cU AU HN00.out HS29n ?_
              intro _ _ _ _ _ _ _ _ _ _ _ _ _ _ _ wy hby
              have hBz := hbx.trans (hby.mono hbx.size)
              clear hbx hby HS29n
              have hBF : Below wr.heap.size wr wy := HBw9.out.trans ((hBz).mono HBw9.out.size)
              have HX0 := hPAY
              have HGX := Lib.hid (HGO.out (by rw [HX0]))
              have HSO2 := HSO
              have HSN2 := HSN
              rw [HX0] at HGX HSO2 HSN2
              clear HX0
              have HR4 : Hid (Gs (wy.alloc (.cells #[.int .u8 (ek : Int), .int .i64 A1, .int .i64 B1, .string enm, .int .u32 (ewh : Int)] 42)) m (.slice AV cs.length cV) (.slice AU es.length cU) cs es) := Lib.hid ((HR.out.below hBF).below ((Below.refl _ wy).alloc (Nat.le_refl _) _))
              have HED : Hid ((wy.alloc (.cells #[.int .u8 (ek : Int), .int .i64 A1, .int .i64 B1, .string enm, .int .u32 (ewh : Int)] 42)).ownsRow (m + 1) 42 5 (.slice AU ne cU) ne (es.flatMap Ed.cs)) := Lib.hid (by have := HR4.out.ed; rw [HJN.out] at this; exact this)
              have hlv : m < wy.heap.size := Nat.lt_of_lt_of_le yl hBF.size
              have HBM : Hid (Below m w1 (wy.alloc (.cells #[.int .u8 (ek : Int), .int .i64 A1, .int .i64 B1, .string enm, .int .u32 (ewh : Int)] 42))) := Lib.hid ((HB.out.trans (hBF.mono (Nat.le_of_lt yl))).trans (((Below.refl _ wy).alloc (Nat.le_refl _) _).mono (Nat.le_of_lt hlv)))
              have HGC : Hid (∀ W', World.grownBy (wy.alloc (.cells #[.int .u8 (ek : Int), .int .i64 A1, .int .i64 B1, .string enm, .int .u32 (ewh : Int)] 42)) W' (Value.ownBlock (.slice AU ne cU)) → W'.cell? ⟨m, 1, none⟩ = some (.slice AU ne cU) ∧ W'.frozen? ⟨m, 1, none⟩ = false) := Lib.hid (fun W' hg => by have := gs_r1 HR4.out (by rw [ob_len _ es.length ne]; exact hg); rw [HJN.out] at this; exact this)
              have HBS : Hid (m + 1 ≤ (wy.alloc (.cells #[.int .u8 (ek : Int), .int .i64 A1, .int .i64 B1, .string enm, .int .u32 (ewh : Int)] 42)).heap.size) := Lib.hid (by simp at hlv ⊢; omega)
              have HNL : Hid (ne + 1 ≤ maxLen) := Lib.hid (by unfold maxLen; have := HST.out.2.2; have := HJN.out; omega)
              have HNB : Hid ((ne + 1) * 48 ≤ 140737488355328) := Lib.hid (by have := HST.out.2.2; have := HJN.out; omega)
              obtain ⟨i0, hi0, hz0, hz1, hz2⟩ := info42
              have HI0 := Lib.hid hi0
              have HZ0 := Lib.hid hz0
              have HZ1 := Lib.hid hz1
              have HZ2 := Lib.hid hz2
              clear hi0 hz0 hz1 hz2
              obtain ⟨f0, f1, f2, f3, f4, v0, v1⟩ := HS29.out wy (hBz)
              go_wp2_with (at_builtin; refine wpList_append_lies _ (by rfl) _ _ 23 (by rfl) (m + 1) 42 i0 (.agg #[.int .u8 0, .int .i64 0, .int .i64 0, .string ⟨#[]⟩, .int .u32 0]) 5 48 Tryz.underlying23 HI0.out HZ0.out HZ1.out HZ2.out rfl (by decide) (.slice AU ne cU) ne (es.flatMap Ed.cs) (by rfl) HED.out ⟨wy.heap.size, 0, none⟩ 1 1 (Ed.cs ⟨ek, A1, B1, enm, ewh⟩) (by rfl) rfl (five_at _ _ (by first | rfl | simp) ⟨ek, A1, B1, enm, ewh⟩ 42) (cs_one _) (by decide) HNL.out HNB.out HBS.out _ rfl ?_; intro g5 c5 w15 hown5 hgrow5 hat5 hlt5; obtain ⟨x5a, x5b⟩ := HGC.out w15 hgrow5)
              have HPU := Lib.hid (gs_push (y := ⟨ek, A1, B1, enm, ewh⟩) HR4.out (by rw [HJN.out]; exact hown5) (by rw [ob_len _ es.length ne]; exact hgrow5))
              go_roundw
              case rel => exact ⟨k + 1, cs, es ++ [⟨ek, A1, B1, enm, ewh⟩], _, _, HLT.out, by go_num, HPU.out.1, HSO2.out, HSN2.out, HBM.out.trans HPU.out.2, HGX.out⟩
              case measure => simp [intOf]; have := HLT.out; omega
            | some l =>
              obtain ⟨gl, cl, hU, hgl, hBg, hpos, l0, l1, l2, l3, l4⟩ := last_cells HR.out.ed hlo
              obtain ⟨rfl, rfl⟩ : AU = some ⟨gl, 0, none⟩ ∧ cU = cl := by injection hU; constructor <;> assumption
              obtain ⟨j, hj⟩ : ∃ j, es.length = j + 1 := ⟨es.length - 1, by omega⟩
              rw [hj, Nat.add_sub_cancel] at l0 l1 l2 l3 l4
              have hNj : ne = j + 1 := by have := HJN.out; omega
              have hlk : l.ok := HST.out.2.1 l (List.mem_of_getLast? hlo)
              have K26 : Hid (∀ W, Calls Tryz.prog 26 #[.agg #[.int .u8 (ek : Int), .int .i64 A1, .int .i64 B1, .string enm, .int .u32 (ewh : Int)], .agg #[.int .u8 (l.k : Int), .int .i64 l.fr, .int .i64 l.dt, .string l.nm, .int .u32 (l.wh : Int)]] W fun e w' => e = .returned (.bool (ltE ⟨ek, A1, B1, enm, ewh⟩ l)) ∧ Below W.heap.size W w') := Lib.hid (fun W => c26 ⟨ek, A1, B1, enm, ewh⟩ l (HXO.out _ _) hlk W)
              have hG3 := hGT.2 l hlo
              have HJ4 : Hid (j < 400) := Lib.hid (by have := HST.out.2.2; omega)
              have HJ1 : Hid ((ne : Int) - 1 = (j : Int)) := Lib.hid (by omega)
              have HS30 : Hid (∀ W, Below w9.heap.size w9 W → W.cell? ⟨p10, 0, none⟩ = some (.int .u8 (ek : Int)) ∧ W.cell? ⟨p10, 1, none⟩ = some (.int .i64 A1) ∧ W.cell? ⟨p10, 2, none⟩ = some (.int .i64 B1) ∧ W.cell? ⟨p10, 3, none⟩ = some (.string enm) ∧ W.cell? ⟨p10, 4, none⟩ = some (.int .u32 (ewh : Int)) ∧ W.cell? ⟨m, 0, none⟩ = some (.slice AV cs.length cV) ∧ W.cell? ⟨m, 1, none⟩ = some (.slice (some ⟨gl, 0, none⟩) ne cU) ∧ W.cell? ⟨gl, j * 5, none⟩ = some (.int .u8 (l.k : Int)) ∧ W.cell? ⟨gl, j * 5 + 1, none⟩ = some (.int .i64 l.fr) ∧ W.cell? ⟨gl, j * 5 + 2, none⟩ = some (.int .i64 l.dt) ∧ W.cell? ⟨gl, j * 5 + 3, none⟩ = some (.string l.nm) ∧ W.cell? ⟨gl, j * 5 + 4, none⟩ = some (.int .u32 (l.wh : Int))) := Lib.hid (fun W hW => by
                obtain ⟨d0, d1, d2, d3, d4, v0, v1⟩ := HS29.out W hW
                have hB : Below wr.heap.size wr W := HBw9.out.trans (hW.mono HBw9.out.size)
                exact ⟨d0, d1, d2, d3, d4, v0, v1, (hB.cell (p := ⟨gl, _, none⟩) hgl).trans l0, (hB.cell (p := ⟨gl, _, none⟩) hgl).trans l1, (hB.cell (p := ⟨gl, _, none⟩) hgl).trans l2, (hB.cell (p := ⟨gl, _, none⟩) hgl).trans l3, (hB.cell (p := ⟨gl, _, none⟩) hgl).trans l4⟩)
              clear hlo hGT hU hpos hBg hj hNj hlk l0 l1 l2 l3 l4
              obtain ⟨lt, hlt3⟩ : ∃ e, ltE ⟨ek, A1, B1, enm, ewh⟩ l = e := ⟨_, rfl⟩
              rw [hlt3] at K26 hG3
              go_upto_region 29 with fail
              refine r29_E3 w9 ⟨ek, A1, B1, enm, ewh⟩ m p10 cs.length ne AV cV cU gl j l K25 lt K26 HJ1.out HJ4.out HS30 ?_
              intro _ _ _ _ _ _ _ _ _ _ _ _ _ _ _ _ _ _ _ _ _ _ _ wx hbx
              have HS30n : Hid (∀ W, Below wx.heap.size wx W → W.cell? ⟨p10, 0, none⟩ = some (.int .u8 (ek : Int)) ∧ W.cell? ⟨p10, 1, none⟩ = some (.int .i64 A1) ∧ W.cell? ⟨p10, 2, none⟩ = some (.int .i64 B1) ∧ W.cell? ⟨p10, 3, none⟩ = some (.string enm) ∧ W.cell? ⟨p10, 4, none⟩ = some (.int .u32 (ewh : Int)) ∧ W.cell? ⟨m, 0, none⟩ = some (.slice AV cs.length cV) ∧ W.cell? ⟨m, 1, none⟩ = some (.slice (some ⟨gl, 0, none⟩) ne cU) ∧ W.cell? ⟨gl, j * 5, none⟩ = some (.int .u8 (l.k : Int)) ∧ W.cell? ⟨gl, j * 5 + 1, none⟩ = some (.int .i64 l.fr) ∧ W.cell? ⟨gl, j * 5 + 2, none⟩ = some (.int .i64 l.dt) ∧ W.cell? ⟨gl, j * 5 + 3, none⟩ = some (.string l.nm) ∧ W.cell? ⟨gl, j * 5 + 4, none⟩ = some (.int .u32 (l.wh : Int))) := Lib.hid (fun W hW => HS30.out W (hbx.trans (hW.mono hbx.size)))
              cases lt
              · by_cases hyl : (⟨ek, A1, B1, enm, ewh⟩ : Ed) = l
                · have HX := Lib.hid (HFL.out 7 (by rw [hG3.2.1 hyl]) (by decide))
                  have HEQ : Hid (∀ W, (Op.equalIn 10000 42 (.agg #[.int .u8 (ek : Int), .int .i64 A1, .int .i64 B1, .string enm, .int .u32 (ewh : Int)]) (.agg #[.int .u8 (l.k : Int), .int .i64 l.fr, .int .i64 l.dt, .string l.nm, .int .u32 (l.wh : Int)])).run Tryz.prog W = .ok true W) := Lib.hid (fun W => by
                    have := eq42_yes l W
                    rw [← hyl] at this ⊢
                    exact this)
                  clear hG3 hlt3 hyl HFL HGO HSO HSN HE
                  go_upto_region 31 with fail
                  refine r31_E3 wx ⟨ek, A1, B1, enm, ewh⟩ m p10 cs.length ne AV cV cU gl j l true HEQ.out HJ1.out HJ4.out HS30n ?_
                  intro _ _ _ _ _ _ _ _ _ _ _ _ _ _ _ wy hby
                  have hBz := hbx.trans (hby.mono hbx.size)
                  have hB30 : Below wr.heap.size wr wy := HBw9.out.trans (hBz.mono HBw9.out.size)
                  have HS2 := Lib.hid (st_two (HKG.out wy hB30).1 (.slice none 0 0) (.slice none 0 0))
                  have HBF : Hid (Below w.heap.size w (((wy.setCell ⟨w.heap.size, 0, none⟩ (.slice none 0 0)).setCell ⟨w.heap.size, 1, none⟩ (.slice none 0 0)).drew)) := Lib.hid (Below.drew (((HKG.out wy hB30).2.setCell (Nat.le_refl _) _).setCell (Nat.le_refl _) _))
                  obtain ⟨q0, z0, z1, z2⟩ := HLC.out wy hB30
                  have hlw := (HKG.out wy hB30).1
                  go_upto_region 32 with fail
                  refine rE_32 wy w.heap.size b o N c k ln q0 z0 z1 z2 hbne hkn hkw ?_
                  intro _ _ _ _ _ _
                  go_wp2_with fail
                  obtain ⟨x0, x1⟩ := HS2.out
                  refine bodyPost_ret (v := .tuple #[.agg #[.slice none 0 0, .slice none 0 0], .int .i64 ln, .int .i64 7]) (by simp [results, Tryz.results10, go_sem, x0, x1]) rfl ?_
                  exact get_err HX.out HBF.out _ rfl
                · have hPAY := hG3.2.2 (by first | trivial | rfl) hyl
                  have HEQ : Hid (∀ W, (Op.equalIn 10000 42 (.agg #[.int .u8 (ek : Int), .int .i64 A1, .int .i64 B1, .string enm, .int .u32 (ewh : Int)]) (.agg #[.int .u8 (l.k : Int), .int .i64 l.fr, .int .i64 l.dt, .string l.nm, .int .u32 (l.wh : Int)])).run Tryz.prog W = .ok false W) := Lib.hid (fun W => eq42_ne ⟨ek, A1, B1, enm, ewh⟩ l hyl W)
                  clear hG3 hlt3 hyl
                  go_upto_region 31 with fail
                  refine r31_E3 wx ⟨ek, A1, B1, enm, ewh⟩ m p10 cs.length ne AV cV cU gl j l false HEQ.out HJ1.out HJ4.out HS30n ?_
                  intro _ _ _ _ _ _ _ _ _ _ _ _ _ _ _ wy hby
                  have hBz := hbx.trans (hby.mono hbx.size)
                  clear hbx hby HS30n
                  have hBF : Below wr.heap.size wr wy := HBw9.out.trans ((hBz).mono HBw9.out.size)
                  have HX0 := hPAY
                  have HGX := Lib.hid (HGO.out (by rw [HX0]))
                  have HSO2 := HSO
                  have HSN2 := HSN
                  rw [HX0] at HGX HSO2 HSN2
                  clear HX0
                  have HR4 : Hid (Gs (wy.alloc (.cells #[.int .u8 (ek : Int), .int .i64 A1, .int .i64 B1, .string enm, .int .u32 (ewh : Int)] 42)) m (.slice AV cs.length cV) (.slice (some ⟨gl, 0, none⟩) es.length cU) cs es) := Lib.hid ((HR.out.below hBF).below ((Below.refl _ wy).alloc (Nat.le_refl _) _))
                  have HED : Hid ((wy.alloc (.cells #[.int .u8 (ek : Int), .int .i64 A1, .int .i64 B1, .string enm, .int .u32 (ewh : Int)] 42)).ownsRow (m + 1) 42 5 (.slice (some ⟨gl, 0, none⟩) ne cU) ne (es.flatMap Ed.cs)) := Lib.hid (by have := HR4.out.ed; rw [HJN.out] at this; exact this)
                  have hlv : m < wy.heap.size := Nat.lt_of_lt_of_le yl hBF.size
                  have HBM : Hid (Below m w1 (wy.alloc (.cells #[.int .u8 (ek : Int), .int .i64 A1, .int .i64 B1, .string enm, .int .u32 (ewh : Int)] 42))) := Lib.hid ((HB.out.trans (hBF.mono (Nat.le_of_lt yl))).trans (((Below.refl _ wy).alloc (Nat.le_refl _) _).mono (Nat.le_of_lt hlv)))
                  have HGC : Hid (∀ W', World.grownBy (wy.alloc (.cells #[.int .u8 (ek : Int), .int .i64 A1, .int .i64 B1, .string enm, .int .u32 (ewh : Int)] 42)) W' (Value.ownBlock (.slice (some ⟨gl, 0, none⟩) ne cU)) → W'.cell? ⟨m, 1, none⟩ = some (.slice (some ⟨gl, 0, none⟩) ne cU) ∧ W'.frozen? ⟨m, 1, none⟩ = false) := Lib.hid (fun W' hg => by have := gs_r1 HR4.out (by rw [ob_len _ es.length ne]; exact hg); rw [HJN.out] at this; exact this)
                  have HBS : Hid (m + 1 ≤ (wy.alloc (.cells #[.int .u8 (ek : Int), .int .i64 A1, .int .i64 B1, .string enm, .int .u32 (ewh : Int)] 42)).heap.size) := Lib.hid (by simp at hlv ⊢; omega)
                  have HNL : Hid (ne + 1 ≤ maxLen) := Lib.hid (by unfold maxLen; have := HST.out.2.2; have := HJN.out; omega)
                  have HNB : Hid ((ne + 1) * 48 ≤ 140737488355328) := Lib.hid (by have := HST.out.2.2; have := HJN.out; omega)
                  obtain ⟨i0, hi0, hz0, hz1, hz2⟩ := info42
                  have HI0 := Lib.hid hi0
                  have HZ0 := Lib.hid hz0
                  have HZ1 := Lib.hid hz1
                  have HZ2 := Lib.hid hz2
                  clear hi0 hz0 hz1 hz2
                  obtain ⟨f0, f1, f2, f3, f4, v0, v1⟩ := HS29.out wy (hBz)
                  go_wp2_with (at_builtin; refine wpList_append_lies _ (by rfl) _ _ 23 (by rfl) (m + 1) 42 i0 (.agg #[.int .u8 0, .int .i64 0, .int .i64 0, .string ⟨#[]⟩, .int .u32 0]) 5 48 Tryz.underlying23 HI0.out HZ0.out HZ1.out HZ2.out rfl (by decide) (.slice (some ⟨gl, 0, none⟩) ne cU) ne (es.flatMap Ed.cs) (by rfl) HED.out ⟨wy.heap.size, 0, none⟩ 1 1 (Ed.cs ⟨ek, A1, B1, enm, ewh⟩) (by rfl) rfl (five_at _ _ (by first | rfl | simp) ⟨ek, A1, B1, enm, ewh⟩ 42) (cs_one _) (by decide) HNL.out HNB.out HBS.out _ rfl ?_; intro g5 c5 w15 hown5 hgrow5 hat5 hlt5; obtain ⟨x5a, x5b⟩ := HGC.out w15 hgrow5)
                  have HPU := Lib.hid (gs_push (y := ⟨ek, A1, B1, enm, ewh⟩) HR4.out (by rw [HJN.out]; exact hown5) (by rw [ob_len _ es.length ne]; exact hgrow5))
                  go_roundw
                  case rel => exact ⟨k + 1, cs, es ++ [⟨ek, A1, B1, enm, ewh⟩], _, _, HLT.out, by go_num, HPU.out.1, HSO2.out, HSN2.out, HBM.out.trans HPU.out.2, HGX.out⟩
                  case measure => simp [intOf]; have := HLT.out; omega
              · have HX := Lib.hid (HFL.out 5 (by rw [hG3.1 rfl]) (by decide))
                clear hG3 hlt3 HFL HGO HSO HSN HE
                have hB30 : Below wr.heap.size wr wx := HBw9.out.trans (hbx.mono HBw9.out.size)
                have HS2 := Lib.hid (st_two (HKG.out wx hB30).1 (.slice none 0 0) (.slice none 0 0))
                have HBF : Hid (Below w.heap.size w (((wx.setCell ⟨w.heap.size, 0, none⟩ (.slice none 0 0)).setCell ⟨w.heap.size, 1, none⟩ (.slice none 0 0)).drew)) := Lib.hid (Below.drew (((HKG.out wx hB30).2.setCell (Nat.le_refl _) _).setCell (Nat.le_refl _) _))
                obtain ⟨q0, z0, z1, z2⟩ := HLC.out wx hB30
                have hlw := (HKG.out wx hB30).1
                go_upto_region 30 with fail
                refine rE_30 wx w.heap.size b o N c k ln q0 z0 z1 z2 hbne hkn hkw ?_
                intro _ _ _ _ _ _
                go_wp2_with fail
                obtain ⟨x0, x1⟩ := HS2.out
                refine bodyPost_ret (v := .tuple #[.agg #[.slice none 0 0, .slice none 0 0], .int .i64 ln, .int .i64 5]) (by simp [results, Tryz.results10, go_sem, x0, x1]) rfl ?_
                exact get_err HX.out HBF.out _ rfl
          · have hkne : ((ek : Int) == 2) = false := by simp; omega
            have HE := Lib.hid (HF4.out rfl hk2)
            have HN3 := Lib.hid hn3
            clear hk2 hk4 hn3
            clear HF1 HF2 HF3 HF4
            obtain ⟨ne, hN⟩ : ∃ ne, es.length = ne := ⟨_, rfl⟩
            have HJN := Lib.hid hN
            rw [hN] at yU
            have hssn : Ss wr AV cs.length (lg cs) := (Li.own_ss HR.out.ns (fun y hy => by have := HNZ.out y hy; omega)).2.2
            have K23 : Hid (∀ (tt : ByteArray) W, Below wr.heap.size wr W → Calls Tryz.prog 23 #[.agg #[.slice AV cs.length cV, .slice AU ne cU], .string tt] W fun e w' => e = .returned (.int .i64 (nmI cs tt)) ∧ Below W.heap.size W w') := Lib.hid (fun tt W hW => c23 AV cV (.slice AU ne cU) AU ne cU rfl cs tt W (hssn.below hW) (by have := HST.out.2.2; omega))
            have HSM : Hid (∀ W, Below wr.heap.size wr W → W.cell? ⟨m, 0, none⟩ = some (.slice AV cs.length cV) ∧ W.cell? ⟨m, 1, none⟩ = some (.slice AU ne cU)) := Lib.hid (fun W hW => ⟨(hW.cell (p := ⟨m, 0, none⟩) yl).trans yV, (hW.cell (p := ⟨m, 1, none⟩) yl).trans yU⟩)
            have HP1 : Hid (∀ W, Below wr.heap.size wr W → W.cell? ⟨b2, o2 + 1, none⟩ = some (.string t1)) := Lib.hid (fun W hW => (hW.cell (p := ⟨b2, _, none⟩) hb2r).trans p1)
            obtain ⟨A1, hA1⟩ : ∃ x, nmI cs t1 = x := ⟨_, rfl⟩
            have K23A := Lib.hid (K23.out t1)
            rw [hA1] at K23A HE
            clear hssn hA1 K23 hN
            go_wp2_with fail
            refine (K24.out _ (Below.refl _ _)).mono ?_
            rintro _ w4 ⟨x, rfl, hxo, hxe, hb4⟩
            rw [HOK.out]
            have hx := hxe HOK.out
            rw [HED.out] at hx
            subst hx
            rw [show Ed.v ⟨ek, 0, -1, enm, ewh⟩ = .agg #[.int .u8 (ek : Int), .int .i64 0, .int .i64 (-1), .string enm, .int .u32 (ewh : Int)] from rfl]
            go_upto_region 16 with fail
            have hb5 : Below wr.heap.size wr (w4.alloc (.cells #[.int .u8 (ek : Int), .int .i64 0, .int .i64 (-1), .string enm, .int .u32 (ewh : Int)] 42)) := hb4.alloc hb4.size _
            have hrb := heap_alloc_new w4 (.cells #[.int .u8 (ek : Int), .int .i64 0, .int .i64 (-1), .string enm, .int .u32 (ewh : Int)] 42)
            have hl5 : w4.heap.size < (w4.alloc (.cells #[.int .u8 (ek : Int), .int .i64 0, .int .i64 (-1), .string enm, .int .u32 (ewh : Int)] 42)).heap.size := by simp
            have hwl : wr.heap.size ≤ w4.heap.size := hb4.size
            generalize w4.alloc (.cells #[.int .u8 (ek : Int), .int .i64 0, .int .i64 (-1), .string enm, .int .u32 (ewh : Int)] 42) = w5 at *
            generalize w4.heap.size = p10 at *
            obtain ⟨c0, c1, c3, c4, c5, c6⟩ := box_cells hrb
            have HRw5 := Lib.hid hrb
            have HLw5 := Lib.hid hl5
            have HXO : Hid (∀ a b : Int, (⟨ek, a, b, enm, ewh⟩ : Ed).ok) := Lib.hid (fun a b => ⟨hxo.1, hxo.2.1, hxo.2.2⟩)
            clear hrb hl5 hxo hxe
            have p1 := (hb5.cell (p := ⟨b2, o2 + 1, none⟩) hb2r).trans p1
            have hpne : w.heap.size ≠ p10 := by omega
            have hpne2 : p10 ≠ w.heap.size := fun e => hpne e.symm
            have HBw5 := Lib.hid hb5
            clear hb5
            go_wp2_with fail
            refine (K22.out _).mono ?_
            rintro _ _ ⟨rfl, rfl⟩
            have HS18 : Hid (∀ W, Below wr.heap.size wr W → W.cell? ⟨m, 0, none⟩ = some (.slice AV cs.length cV) ∧ W.cell? ⟨m, 1, none⟩ = some (.slice AU ne cU) ∧ W.cell? ⟨b2, o2 + 1, none⟩ = some (.string t1)) := Lib.hid (fun W hW => ⟨(HSM.out W hW).1, (HSM.out W hW).2, HP1.out W hW⟩)
            have HK18 : Hid (∀ W, Below w5.heap.size w5 W → W.cell? ⟨p10, 1, none⟩ = some (.int .i64 0) ∧ W.frozen? ⟨p10, 1, none⟩ = false) := Lib.hid (fun W hW => by
              have hr := (hW.block p10 HLw5.out).trans HRw5.out
              obtain ⟨d0, d1, d2, d3, d4, d5⟩ := box_cells hr
              exact ⟨d1, d5 1⟩)
            go_upto_region 18 with fail
            have HD18 : Hid (Below wr.heap.size wr w5.drew) := Lib.hid HBw5.out.drew
            have HI := Lib.hid (HS18.out _ HD18.out)
            go_region_held3 (fun W => W.cell? ⟨m, 0, none⟩ = some (.slice AV cs.length cV) ∧ W.cell? ⟨m, 1, none⟩ = some (.slice AU ne cU) ∧ W.cell? ⟨b2, o2 + 1, none⟩ = some (.string t1))
              (first | assumption | exact HI.out | (with_reducible exact HS18.out _ (by assumption)) | (with_reducible exact HS18.out _ (Below.setCell (by assumption) hwl _)))
              (first | (go_at_call 23; (with_reducible refine (K23A.out _ HD18.out).mono ?_); rintro _ w6 ⟨rfl, hbw6⟩; have hBw6 : Below wr.heap.size wr w6 := HD18.out.trans (hbw6.mono HD18.out.size); obtain ⟨y1w6, y2w6⟩ := HK18.out w6 (((Below.refl _ _).drew).trans hbw6)))
            have HRw7 : Hid ((w6.setCell ⟨p10, 1, none⟩ (.int .i64 A1)).heap[p10]? = some (.cells #[.int .u8 (ek : Int), .int .i64 A1, .int .i64 (-1), .string enm, .int .u32 (ewh : Int)] 42 (0, 0))) := Lib.hid (by
              rw [heap_setCell_at _ _ _ _ (((((Below.refl _ _).drew).trans hbw6).block p10 HLw5.out).trans HRw5.out)]
              rfl)
            have HBw7 : Hid (Below wr.heap.size wr (w6.setCell ⟨p10, 1, none⟩ (.int .i64 A1))) := Lib.hid (hBw6.setCell hwl _)
            have HLw7 : Hid (p10 < (w6.setCell ⟨p10, 1, none⟩ (.int .i64 A1)).heap.size) := Lib.hid (by rw [setCell_size]; exact Nat.lt_of_lt_of_le HLw5.out hbw6.size)
            clear hbw6 hBw6 y1w6 y2w6
            generalize w6.setCell ⟨p10, 1, none⟩ (.int .i64 A1) = w7 at *
            obtain ⟨d0, d1, d2, d3, d4, d5⟩ := box_cells HRw7.out
            by_cases ha : A1 < 0
            · as_aux_lemma =>
                have ha0 : decide (A1 < (0 : Int)) = true := by simp; omega
                obtain ⟨G6, G5⟩ := HE.out.1 (ha)
                have K25z : Hid (∀ W, Calls Tryz.prog 25 #[.agg #[.int .u8 (ek : Int), .int .i64 0, .int .i64 (-1), .string enm, .int .u32 (ewh : Int)], .int .i64 1] W fun e w' => e = .returned (.bool (edB ⟨ek, 0, (-1), enm, ewh⟩ 1)) ∧ Below W.heap.size W w') := Lib.hid (fun W => c25 ⟨ek, 0, (-1), enm, ewh⟩ (HXO.out _ _) 1 W)
                obtain ⟨ez, hez⟩ : ∃ e, edB ⟨ek, 0, (-1), enm, ewh⟩ 1 = e := ⟨_, rfl⟩
                rw [hez] at K25z
                cases ez
                · have HX := Lib.hid (HFL.out 5 (by rw [G5 hez]) (by decide))
                  clear G5 G6 hez HFL HGO HSO HSN HE
                  go_wp2_with fail
                  refine (K25z.out _).mono ?_
                  rintro _ w12 ⟨rfl, hb12⟩
                  have hB12 : Below wr.heap.size wr w12 := (HBw7.out.alloc HBw7.out.size _).trans (hb12.mono (Nat.le_trans HBw7.out.size (by simp)))
                  have HS2 := Lib.hid (st_two (HKG.out w12 hB12).1 (.slice none 0 0) (.slice none 0 0))
                  have HBF : Hid (Below w.heap.size w (((w12.setCell ⟨w.heap.size, 0, none⟩ (.slice none 0 0)).setCell ⟨w.heap.size, 1, none⟩ (.slice none 0 0)).drew)) := Lib.hid (Below.drew (((HKG.out w12 hB12).2.setCell (Nat.le_refl _) _).setCell (Nat.le_refl _) _))
                  obtain ⟨q0, z0, z1, z2⟩ := HLC.out w12 hB12
                  have hlw := (HKG.out w12 hB12).1
                  go_upto_region 27 with fail
                  refine rE_27 w12 w.heap.size b o N c k ln q0 z0 z1 z2 hbne hkn hkw ?_
                  intro _ _ _ _ _ _
                  go_wp2_with fail
                  obtain ⟨x0, x1⟩ := HS2.out
                  refine bodyPost_ret (v := .tuple #[.agg #[.slice none 0 0, .slice none 0 0], .int .i64 ln, .int .i64 5]) (by simp [results, Tryz.results10, go_sem, x0, x1]) rfl ?_
                  exact get_err HX.out HBF.out _ rfl
                · have HX := Lib.hid (HFL.out 6 (by rw [G6 hez]) (by decide))
                  clear G5 G6 hez HFL HGO HSO HSN HE
                  go_wp2_with fail
                  refine (K25z.out _).mono ?_
                  rintro _ w12 ⟨rfl, hb12⟩
                  have hB12 : Below wr.heap.size wr w12 := (HBw7.out.alloc HBw7.out.size _).trans (hb12.mono (Nat.le_trans HBw7.out.size (by simp)))
                  have HS2 := Lib.hid (st_two (HKG.out w12 hB12).1 (.slice none 0 0) (.slice none 0 0))
                  have HBF : Hid (Below w.heap.size w (((w12.setCell ⟨w.heap.size, 0, none⟩ (.slice none 0 0)).setCell ⟨w.heap.size, 1, none⟩ (.slice none 0 0)).drew)) := Lib.hid (Below.drew (((HKG.out w12 hB12).2.setCell (Nat.le_refl _) _).setCell (Nat.le_refl _) _))
                  obtain ⟨q0, z0, z1, z2⟩ := HLC.out w12 hB12
                  have hlw := (HKG.out w12 hB12).1
                  go_upto_region 28 with fail
                  refine rE_28 w12 w.heap.size b o N c k ln q0 z0 z1 z2 hbne hkn hkw ?_
                  intro _ _ _ _ _ _
                  go_wp2_with fail
                  obtain ⟨x0, x1⟩ := HS2.out
                  refine bodyPost_ret (v := .tuple #[.agg #[.slice none 0 0, .slice none 0 0], .int .i64 ln, .int .i64 6]) (by simp [results, Tryz.results10, go_sem, x0, x1]) rfl ?_
                  exact get_err HX.out HBF.out _ rfl
            have ha0 : decide (A1 < (0 : Int)) = false := by simp; omega
            obtain ⟨GF, GT⟩ := HE.out.2 (ha)
            have K25 : Hid (∀ W, Calls Tryz.prog 25 #[.agg #[.int .u8 (ek : Int), .int .i64 A1, .int .i64 (-1), .string enm, .int .u32 (ewh : Int)], .int .i64 (cs.length : Int)] W fun e w' => e = .returned (.bool (edB ⟨ek, A1, (-1), enm, ewh⟩ cs.length)) ∧ Below W.heap.size W w') := Lib.hid (fun W => c25 ⟨ek, A1, (-1), enm, ewh⟩ (HXO.out _ _) cs.length W)
            have HS29 : Hid (∀ W, Below w7.heap.size w7 W → W.cell? ⟨p10, 0, none⟩ = some (.int .u8 (ek : Int)) ∧ W.cell? ⟨p10, 1, none⟩ = some (.int .i64 A1) ∧ W.cell? ⟨p10, 2, none⟩ = some (.int .i64 (-1)) ∧ W.cell? ⟨p10, 3, none⟩ = some (.string enm) ∧ W.cell? ⟨p10, 4, none⟩ = some (.int .u32 (ewh : Int)) ∧ W.cell? ⟨m, 0, none⟩ = some (.slice AV cs.length cV) ∧ W.cell? ⟨m, 1, none⟩ = some (.slice AU ne cU)) := Lib.hid (fun W hW => by
              have hr := (hW.block p10 HLw7.out).trans HRw7.out
              obtain ⟨d0, d1, d2, d3, d4, d5⟩ := box_cells hr
              exact ⟨d0, d1, d2, d3, d4, HSM.out W (HBw7.out.trans (hW.mono HBw7.out.size))⟩)
            obtain ⟨ey, hey⟩ : ∃ e, edB ⟨ek, A1, (-1), enm, ewh⟩ cs.length = e := ⟨_, rfl⟩
            rw [hey] at K25
            cases ey
            · have HX := Lib.hid (HFL.out 5 (by rw [GF hey]) (by decide))
              clear GF GT hey HFL HGO HSO HSN HE
              go_upto_region 29 with fail
              refine r29_E1 w7 ⟨ek, A1, (-1), enm, ewh⟩ m p10 cs.length ne AV cV cU AU K25 HS29 ?_
              intro _ _ _ _ _ _ _ _ _ _ _ _ _ _ _ _ _ _ _ _ _ _ _ wx hbx
              have hB30 : Below wr.heap.size wr wx := HBw7.out.trans (hbx.mono HBw7.out.size)
              have HS2 := Lib.hid (st_two (HKG.out wx hB30).1 (.slice none 0 0) (.slice none 0 0))
              have HBF : Hid (Below w.heap.size w (((wx.setCell ⟨w.heap.size, 0, none⟩ (.slice none 0 0)).setCell ⟨w.heap.size, 1, none⟩ (.slice none 0 0)).drew)) := Lib.hid (Below.drew (((HKG.out wx hB30).2.setCell (Nat.le_refl _) _).setCell (Nat.le_refl _) _))
              obtain ⟨q0, z0, z1, z2⟩ := HLC.out wx hB30
              have hlw := (HKG.out wx hB30).1
              go_upto_region 30 with fail
              refine rE_30 wx w.heap.size b o N c k ln q0 z0 z1 z2 hbne hkn hkw ?_
              intro _ _ _ _ _ _
              go_wp2_with fail
              obtain ⟨x0, x1⟩ := HS2.out
              refine bodyPost_ret (v := .tuple #[.agg #[.slice none 0 0, .slice none 0 0], .int .i64 ln, .int .i64 5]) (by simp [results, Tryz.results10, go_sem, x0, x1]) rfl ?_
              exact get_err HX.out HBF.out _ rfl
            have hGT := GT hey
            clear GF GT hey
            cases hlo : es.getLast? with
            | none =>
              have hes : es = [] := by simpa using hlo
              have hn00 : ne = 0 := by have := HJN.out; rw [hes] at this; simp at this; omega
              have HN00 := Lib.hid hn00
              have hPAY := hGT.1 hes
              clear hes hlo hGT hn00
              go_upto_region 29 with fail
              refine r29_E2 w7 ⟨ek, A1, (-1), enm, ewh⟩ m p10 cs.length ne AV cV cU AU K25 HN00.out HS29 ?_
              intro _ _ _ _ _ _ _ _ _ _ _ _ _ _ _ _ _ _ _ _ _ _ _ wx hbx
              have HS29n : Hid (∀ W, Below wx.heap.size wx W → W.cell? ⟨p10, 0, none⟩ = some (.int .u8 (ek : Int)) ∧ W.cell? ⟨p10, 1, none⟩ = some (.int .i64 A1) ∧ W.cell? ⟨p10, 2, none⟩ = some (.int .i64 (-1)) ∧ W.cell? ⟨p10, 3, none⟩ = some (.string enm) ∧ W.cell? ⟨p10, 4, none⟩ = some (.int .u32 (ewh : Int)) ∧ W.cell? ⟨m, 0, none⟩ = some (.slice AV cs.length cV) ∧ W.cell? ⟨m, 1, none⟩ = some (.slice AU ne cU)) := Lib.hid (fun W hW => HS29.out W (hbx.trans (hW.mono hbx.size)))
              go_upto_region 31 with fail
              refine r31_E2 wx ⟨ek, A1, (-1), enm, ewh⟩ m p10 cs.length ne AV cV cU AU HN00.out HS29n ?_
              intro _ _ _ _ _ _ _ _ _ _ _ _ _ _ _ wy hby
              have hBz := hbx.trans (hby.mono hbx.size)
              clear hbx hby HS29n
              have hBF : Below wr.heap.size wr wy := HBw7.out.trans ((hBz).mono HBw7.out.size)
              have HX0 := hPAY
              have HGX := Lib.hid (HGO.out (by rw [HX0]))
              have HSO2 := HSO
              have HSN2 := HSN
              rw [HX0] at HGX HSO2 HSN2
              clear HX0
              have HR4 : Hid (Gs (wy.alloc (.cells #[.int .u8 (ek : Int), .int .i64 A1, .int .i64 (-1), .string enm, .int .u32 (ewh : Int)] 42)) m (.slice AV cs.length cV) (.slice AU es.length cU) cs es) := Lib.hid ((HR.out.below hBF).below ((Below.refl _ wy).alloc (Nat.le_refl _) _))
              have HED : Hid ((wy.alloc (.cells #[.int .u8 (ek : Int), .int .i64 A1, .int .i64 (-1), .string enm, .int .u32 (ewh : Int)] 42)).ownsRow (m + 1) 42 5 (.slice AU ne cU) ne (es.flatMap Ed.cs)) := Lib.hid (by have := HR4.out.ed; rw [HJN.out] at this; exact this)
              have hlv : m < wy.heap.size := Nat.lt_of_lt_of_le yl hBF.size
              have HBM : Hid (Below m w1 (wy.alloc (.cells #[.int .u8 (ek : Int), .int .i64 A1, .int .i64 (-1), .string enm, .int .u32 (ewh : Int)] 42))) := Lib.hid ((HB.out.trans (hBF.mono (Nat.le_of_lt yl))).trans (((Below.refl _ wy).alloc (Nat.le_refl _) _).mono (Nat.le_of_lt hlv)))
              have HGC : Hid (∀ W', World.grownBy (wy.alloc (.cells #[.int .u8 (ek : Int), .int .i64 A1, .int .i64 (-1), .string enm, .int .u32 (ewh : Int)] 42)) W' (Value.ownBlock (.slice AU ne cU)) → W'.cell? ⟨m, 1, none⟩ = some (.slice AU ne cU) ∧ W'.frozen? ⟨m, 1, none⟩ = false) := Lib.hid (fun W' hg => by have := gs_r1 HR4.out (by rw [ob_len _ es.length ne]; exact hg); rw [HJN.out] at this; exact this)
              have HBS : Hid (m + 1 ≤ (wy.alloc (.cells #[.int .u8 (ek : Int), .int .i64 A1, .int .i64 (-1), .string enm, .int .u32 (ewh : Int)] 42)).heap.size) := Lib.hid (by simp at hlv ⊢; omega)
              have HNL : Hid (ne + 1 ≤ maxLen) := Lib.hid (by unfold maxLen; have := HST.out.2.2; have := HJN.out; omega)
              have HNB : Hid ((ne + 1) * 48 ≤ 140737488355328) := Lib.hid (by have := HST.out.2.2; have := HJN.out; omega)
              obtain ⟨i0, hi0, hz0, hz1, hz2⟩ := info42
              have HI0 := Lib.hid hi0
              have HZ0 := Lib.hid hz0
              have HZ1 := Lib.hid hz1
              have HZ2 := Lib.hid hz2
              clear hi0 hz0 hz1 hz2
              obtain ⟨f0, f1, f2, f3, f4, v0, v1⟩ := HS29.out wy (hBz)
              go_wp2_with (at_builtin; refine wpList_append_lies _ (by rfl) _ _ 23 (by rfl) (m + 1) 42 i0 (.agg #[.int .u8 0, .int .i64 0, .int .i64 0, .string ⟨#[]⟩, .int .u32 0]) 5 48 Tryz.underlying23 HI0.out HZ0.out HZ1.out HZ2.out rfl (by decide) (.slice AU ne cU) ne (es.flatMap Ed.cs) (by rfl) HED.out ⟨wy.heap.size, 0, none⟩ 1 1 (Ed.cs ⟨ek, A1, (-1), enm, ewh⟩) (by rfl) rfl (five_at _ _ (by first | rfl | simp) ⟨ek, A1, (-1), enm, ewh⟩ 42) (cs_one _) (by decide) HNL.out HNB.out HBS.out _ rfl ?_; intro g5 c5 w15 hown5 hgrow5 hat5 hlt5; obtain ⟨x5a, x5b⟩ := HGC.out w15 hgrow5)
              have HPU := Lib.hid (gs_push (y := ⟨ek, A1, (-1), enm, ewh⟩) HR4.out (by rw [HJN.out]; exact hown5) (by rw [ob_len _ es.length ne]; exact hgrow5))
              go_roundw
              case rel => exact ⟨k + 1, cs, es ++ [⟨ek, A1, (-1), enm, ewh⟩], _, _, HLT.out, by go_num, HPU.out.1, HSO2.out, HSN2.out, HBM.out.trans HPU.out.2, HGX.out⟩
              case measure => simp [intOf]; have := HLT.out; omega
            | some l =>
              obtain ⟨gl, cl, hU, hgl, hBg, hpos, l0, l1, l2, l3, l4⟩ := last_cells HR.out.ed hlo
              obtain ⟨rfl, rfl⟩ : AU = some ⟨gl, 0, none⟩ ∧ cU = cl := by injection hU; constructor <;> assumption
              obtain ⟨j, hj⟩ : ∃ j, es.length = j + 1 := ⟨es.length - 1, by omega⟩
              rw [hj, Nat.add_sub_cancel] at l0 l1 l2 l3 l4
              have hNj : ne = j + 1 := by have := HJN.out; omega
              have hlk : l.ok := HST.out.2.1 l (List.mem_of_getLast? hlo)
              have K26 : Hid (∀ W, Calls Tryz.prog 26 #[.agg #[.int .u8 (ek : Int), .int .i64 A1, .int .i64 (-1), .string enm, .int .u32 (ewh : Int)], .agg #[.int .u8 (l.k : Int), .int .i64 l.fr, .int .i64 l.dt, .string l.nm, .int .u32 (l.wh : Int)]] W fun e w' => e = .returned (.bool (ltE ⟨ek, A1, (-1), enm, ewh⟩ l)) ∧ Below W.heap.size W w') := Lib.hid (fun W => c26 ⟨ek, A1, (-1), enm, ewh⟩ l (HXO.out _ _) hlk W)
              have hG3 := hGT.2 l hlo
              have HJ4 : Hid (j < 400) := Lib.hid (by have := HST.out.2.2; omega)
              have HJ1 : Hid ((ne : Int) - 1 = (j : Int)) := Lib.hid (by omega)
              have HS30 : Hid (∀ W, Below w7.heap.size w7 W → W.cell? ⟨p10, 0, none⟩ = some (.int .u8 (ek : Int)) ∧ W.cell? ⟨p10, 1, none⟩ = some (.int .i64 A1) ∧ W.cell? ⟨p10, 2, none⟩ = some (.int .i64 (-1)) ∧ W.cell? ⟨p10, 3, none⟩ = some (.string enm) ∧ W.cell? ⟨p10, 4, none⟩ = some (.int .u32 (ewh : Int)) ∧ W.cell? ⟨m, 0, none⟩ = some (.slice AV cs.length cV) ∧ W.cell? ⟨m, 1, none⟩ = some (.slice (some ⟨gl, 0, none⟩) ne cU) ∧ W.cell? ⟨gl, j * 5, none⟩ = some (.int .u8 (l.k : Int)) ∧ W.cell? ⟨gl, j * 5 + 1, none⟩ = some (.int .i64 l.fr) ∧ W.cell? ⟨gl, j * 5 + 2, none⟩ = some (.int .i64 l.dt) ∧ W.cell? ⟨gl, j * 5 + 3, none⟩ = some (.string l.nm) ∧ W.cell? ⟨gl, j * 5 + 4, none⟩ = some (.int .u32 (l.wh : Int))) := Lib.hid (fun W hW => by
                obtain ⟨d0, d1, d2, d3, d4, v0, v1⟩ := HS29.out W hW
                have hB : Below wr.heap.size wr W := HBw7.out.trans (hW.mono HBw7.out.size)
                exact ⟨d0, d1, d2, d3, d4, v0, v1, (hB.cell (p := ⟨gl, _, none⟩) hgl).trans l0, (hB.cell (p := ⟨gl, _, none⟩) hgl).trans l1, (hB.cell (p := ⟨gl, _, none⟩) hgl).trans l2, (hB.cell (p := ⟨gl, _, none⟩) hgl).trans l3, (hB.cell (p := ⟨gl, _, none⟩) hgl).trans l4⟩)
              clear hlo hGT hU hpos hBg hj hNj hlk l0 l1 l2 l3 l4
              obtain ⟨lt, hlt3⟩ : ∃ e, ltE ⟨ek, A1, (-1), enm, ewh⟩ l = e := ⟨_, rfl⟩
              rw [hlt3] at K26 hG3
              go_upto_region 29 with fail
              refine r29_E3 w7 ⟨ek, A1, (-1), enm, ewh⟩ m p10 cs.length ne AV cV cU gl j l K25 lt K26 HJ1.out HJ4.out HS30 ?_
              intro _ _ _ _ _ _ _ _ _ _ _ _ _ _ _ _ _ _ _ _ _ _ _ wx hbx
              have HS30n : Hid (∀ W, Below wx.heap.size wx W → W.cell? ⟨p10, 0, none⟩ = some (.int .u8 (ek : Int)) ∧ W.cell? ⟨p10, 1, none⟩ = some (.int .i64 A1) ∧ W.cell? ⟨p10, 2, none⟩ = some (.int .i64 (-1)) ∧ W.cell? ⟨p10, 3, none⟩ = some (.string enm) ∧ W.cell? ⟨p10, 4, none⟩ = some (.int .u32 (ewh : Int)) ∧ W.cell? ⟨m, 0, none⟩ = some (.slice AV cs.length cV) ∧ W.cell? ⟨m, 1, none⟩ = some (.slice (some ⟨gl, 0, none⟩) ne cU) ∧ W.cell? ⟨gl, j * 5, none⟩ = some (.int .u8 (l.k : Int)) ∧ W.cell? ⟨gl, j * 5 + 1, none⟩ = some (.int .i64 l.fr) ∧ W.cell? ⟨gl, j * 5 + 2, none⟩ = some (.int .i64 l.dt) ∧ W.cell? ⟨gl, j * 5 + 3, none⟩ = some (.string l.nm) ∧ W.cell? ⟨gl, j * 5 + 4, none⟩ = some (.int .u32 (l.wh : Int))) := Lib.hid (fun W hW => HS30.out W (hbx.trans (hW.mono hbx.size)))
              cases lt
              · by_cases hyl : (⟨ek, A1, (-1), enm, ewh⟩ : Ed) = l
                · have HX := Lib.hid (HFL.out 7 (by rw [hG3.2.1 hyl]) (by decide))
                  have HEQ : Hid (∀ W, (Op.equalIn 10000 42 (.agg #[.int .u8 (ek : Int), .int .i64 A1, .int .i64 (-1), .string enm, .int .u32 (ewh : Int)]) (.agg #[.int .u8 (l.k : Int), .int .i64 l.fr, .int .i64 l.dt, .string l.nm, .int .u32 (l.wh : Int)])).run Tryz.prog W = .ok true W) := Lib.hid (fun W => by
                    have := eq42_yes l W
                    rw [← hyl] at this ⊢
                    exact this)
                  clear hG3 hlt3 hyl HFL HGO HSO HSN HE
                  go_upto_region 31 with fail
                  refine r31_E3 wx ⟨ek, A1, (-1), enm, ewh⟩ m p10 cs.length ne AV cV cU gl j l true HEQ.out HJ1.out HJ4.out HS30n ?_
                  intro _ _ _ _ _ _ _ _ _ _ _ _ _ _ _ wy hby
                  have hBz := hbx.trans (hby.mono hbx.size)
                  have hB30 : Below wr.heap.size wr wy := HBw7.out.trans (hBz.mono HBw7.out.size)
                  have HS2 := Lib.hid (st_two (HKG.out wy hB30).1 (.slice none 0 0) (.slice none 0 0))
                  have HBF : Hid (Below w.heap.size w (((wy.setCell ⟨w.heap.size, 0, none⟩ (.slice none 0 0)).setCell ⟨w.heap.size, 1, none⟩ (.slice none 0 0)).drew)) := Lib.hid (Below.drew (((HKG.out wy hB30).2.setCell (Nat.le_refl _) _).setCell (Nat.le_refl _) _))
                  obtain ⟨q0, z0, z1, z2⟩ := HLC.out wy hB30
                  have hlw := (HKG.out wy hB30).1
                  go_upto_region 32 with fail
                  refine rE_32 wy w.heap.size b o N c k ln q0 z0 z1 z2 hbne hkn hkw ?_
                  intro _ _ _ _ _ _
                  go_wp2_with fail
                  obtain ⟨x0, x1⟩ := HS2.out
                  refine bodyPost_ret (v := .tuple #[.agg #[.slice none 0 0, .slice none 0 0], .int .i64 ln, .int .i64 7]) (by simp [results, Tryz.results10, go_sem, x0, x1]) rfl ?_
                  exact get_err HX.out HBF.out _ rfl
                · have hPAY := hG3.2.2 (by first | trivial | rfl) hyl
                  have HEQ : Hid (∀ W, (Op.equalIn 10000 42 (.agg #[.int .u8 (ek : Int), .int .i64 A1, .int .i64 (-1), .string enm, .int .u32 (ewh : Int)]) (.agg #[.int .u8 (l.k : Int), .int .i64 l.fr, .int .i64 l.dt, .string l.nm, .int .u32 (l.wh : Int)])).run Tryz.prog W = .ok false W) := Lib.hid (fun W => eq42_ne ⟨ek, A1, (-1), enm, ewh⟩ l hyl W)
                  clear hG3 hlt3 hyl
                  go_upto_region 31 with fail
                  refine r31_E3 wx ⟨ek, A1, (-1), enm, ewh⟩ m p10 cs.length ne AV cV cU gl j l false HEQ.out HJ1.out HJ4.out HS30n ?_
                  intro _ _ _ _ _ _ _ _ _ _ _ _ _ _ _ wy hby
                  have hBz := hbx.trans (hby.mono hbx.size)
                  clear hbx hby HS30n
                  have hBF : Below wr.heap.size wr wy := HBw7.out.trans ((hBz).mono HBw7.out.size)
                  have HX0 := hPAY
                  have HGX := Lib.hid (HGO.out (by rw [HX0]))
                  have HSO2 := HSO
                  have HSN2 := HSN
                  rw [HX0] at HGX HSO2 HSN2
                  clear HX0
                  have HR4 : Hid (Gs (wy.alloc (.cells #[.int .u8 (ek : Int), .int .i64 A1, .int .i64 (-1), .string enm, .int .u32 (ewh : Int)] 42)) m (.slice AV cs.length cV) (.slice (some ⟨gl, 0, none⟩) es.length cU) cs es) := Lib.hid ((HR.out.below hBF).below ((Below.refl _ wy).alloc (Nat.le_refl _) _))
                  have HED : Hid ((wy.alloc (.cells #[.int .u8 (ek : Int), .int .i64 A1, .int .i64 (-1), .string enm, .int .u32 (ewh : Int)] 42)).ownsRow (m + 1) 42 5 (.slice (some ⟨gl, 0, none⟩) ne cU) ne (es.flatMap Ed.cs)) := Lib.hid (by have := HR4.out.ed; rw [HJN.out] at this; exact this)
                  have hlv : m < wy.heap.size := Nat.lt_of_lt_of_le yl hBF.size
                  have HBM : Hid (Below m w1 (wy.alloc (.cells #[.int .u8 (ek : Int), .int .i64 A1, .int .i64 (-1), .string enm, .int .u32 (ewh : Int)] 42))) := Lib.hid ((HB.out.trans (hBF.mono (Nat.le_of_lt yl))).trans (((Below.refl _ wy).alloc (Nat.le_refl _) _).mono (Nat.le_of_lt hlv)))
                  have HGC : Hid (∀ W', World.grownBy (wy.alloc (.cells #[.int .u8 (ek : Int), .int .i64 A1, .int .i64 (-1), .string enm, .int .u32 (ewh : Int)] 42)) W' (Value.ownBlock (.slice (some ⟨gl, 0, none⟩) ne cU)) → W'.cell? ⟨m, 1, none⟩ = some (.slice (some ⟨gl, 0, none⟩) ne cU) ∧ W'.frozen? ⟨m, 1, none⟩ = false) := Lib.hid (fun W' hg => by have := gs_r1 HR4.out (by rw [ob_len _ es.length ne]; exact hg); rw [HJN.out] at this; exact this)
                  have HBS : Hid (m + 1 ≤ (wy.alloc (.cells #[.int .u8 (ek : Int), .int .i64 A1, .int .i64 (-1), .string enm, .int .u32 (ewh : Int)] 42)).heap.size) := Lib.hid (by simp at hlv ⊢; omega)
                  have HNL : Hid (ne + 1 ≤ maxLen) := Lib.hid (by unfold maxLen; have := HST.out.2.2; have := HJN.out; omega)
                  have HNB : Hid ((ne + 1) * 48 ≤ 140737488355328) := Lib.hid (by have := HST.out.2.2; have := HJN.out; omega)
                  obtain ⟨i0, hi0, hz0, hz1, hz2⟩ := info42
                  have HI0 := Lib.hid hi0
                  have HZ0 := Lib.hid hz0
                  have HZ1 := Lib.hid hz1
                  have HZ2 := Lib.hid hz2
                  clear hi0 hz0 hz1 hz2
                  obtain ⟨f0, f1, f2, f3, f4, v0, v1⟩ := HS29.out wy (hBz)
                  go_wp2_with (at_builtin; refine wpList_append_lies _ (by rfl) _ _ 23 (by rfl) (m + 1) 42 i0 (.agg #[.int .u8 0, .int .i64 0, .int .i64 0, .string ⟨#[]⟩, .int .u32 0]) 5 48 Tryz.underlying23 HI0.out HZ0.out HZ1.out HZ2.out rfl (by decide) (.slice (some ⟨gl, 0, none⟩) ne cU) ne (es.flatMap Ed.cs) (by rfl) HED.out ⟨wy.heap.size, 0, none⟩ 1 1 (Ed.cs ⟨ek, A1, (-1), enm, ewh⟩) (by rfl) rfl (five_at _ _ (by first | rfl | simp) ⟨ek, A1, (-1), enm, ewh⟩ 42) (cs_one _) (by decide) HNL.out HNB.out HBS.out _ rfl ?_; intro g5 c5 w15 hown5 hgrow5 hat5 hlt5; obtain ⟨x5a, x5b⟩ := HGC.out w15 hgrow5)
                  have HPU := Lib.hid (gs_push (y := ⟨ek, A1, (-1), enm, ewh⟩) HR4.out (by rw [HJN.out]; exact hown5) (by rw [ob_len _ es.length ne]; exact hgrow5))
                  go_roundw
                  case rel => exact ⟨k + 1, cs, es ++ [⟨ek, A1, (-1), enm, ewh⟩], _, _, HLT.out, by go_num, HPU.out.1, HSO2.out, HSN2.out, HBM.out.trans HPU.out.2, HGX.out⟩
                  case measure => simp [intOf]; have := HLT.out; omega
              · have HX := Lib.hid (HFL.out 5 (by rw [hG3.1 rfl]) (by decide))
                clear hG3 hlt3 HFL HGO HSO HSN HE
                have hB30 : Below wr.heap.size wr wx := HBw7.out.trans (hbx.mono HBw7.out.size)
                have HS2 := Lib.hid (st_two (HKG.out wx hB30).1 (.slice none 0 0) (.slice none 0 0))
                have HBF : Hid (Below w.heap.size w (((wx.setCell ⟨w.heap.size, 0, none⟩ (.slice none 0 0)).setCell ⟨w.heap.size, 1, none⟩ (.slice none 0 0)).drew)) := Lib.hid (Below.drew (((HKG.out wx hB30).2.setCell (Nat.le_refl _) _).setCell (Nat.le_refl _) _))
                obtain ⟨q0, z0, z1, z2⟩ := HLC.out wx hB30
                have hlw := (HKG.out wx hB30).1
                go_upto_region 30 with fail
                refine rE_30 wx w.heap.size b o N c k ln q0 z0 z1 z2 hbne hkn hkw ?_
                intro _ _ _ _ _ _
                go_wp2_with fail
                obtain ⟨x0, x1⟩ := HS2.out
                refine bodyPost_ret (v := .tuple #[.agg #[.slice none 0 0, .slice none 0 0], .int .i64 ln, .int .i64 5]) (by simp [results, Tryz.results10, go_sem, x0, x1]) rfl ?_
                exact get_err HX.out HBF.out _ rfl
      · obtain rfl : k = N := by omega
        have HX : Hid (getV s = ((0, 0), cs, es)) := Lib.hid (by rw [HV.out, HRUN.out, Nat.sub_self]; rfl)
        have HST2 := Lib.hid (st_two g1 (.slice AV cs.length cV) (.slice AU es.length cU))
        clear hk hR g1
        go_wp2_with fail
        obtain ⟨x0, x1⟩ := HST2.out
        refine bodyPost_ret (v := .tuple #[.agg #[.slice AV cs.length cV, .slice AU es.length cU], .int .i64 0, .int .i64 0]) (by simp [results, Tryz.results10, go_sem, x0, x1]) rfl ?_
        exact gs_ok g0 HR.out HX.out hgm
  · have HX := Lib.hid (getV_err (s := s) (by rw [hrd0]; exact h0))
    rw [hrd0] at HX
    obtain ⟨f0, f1, f2⟩ := HBW.out _ HB1.out
    obtain ⟨y0, y1⟩ : w1.cell? ⟨w.heap.size, 0, none⟩ = some (.slice none 0 0) ∧ w1.cell? ⟨w.heap.size, 1, none⟩ = some (.slice none 0 0) := ⟨by rw [cell_of_row w1 _ 0 _ _ _ f1]; rfl, by rw [cell_of_row w1 _ 1 _ _ _ f1]; rfl⟩
    have z2 : ∀ j, w1.frozen? ⟨w.heap.size, j, none⟩ = false := fun j => by simp [World.frozen?, f1]
    have HST2 := Lib.hid (st_two f1 (.slice none 0 0) (.slice none 0 0))
    have hne : ((rd : Int) != 0) = true := by simp; omega
    clear hws hreads hrd0 f1
    go_wp2_with fail
    obtain ⟨x0, x1⟩ := HST2.out
    refine bodyPost_ret (v := .tuple #[.agg #[.slice none 0 0, .slice none 0 0], .int .i64 0, .int .i64 (rd : Int)]) (by simp [results, Tryz.results10, go_sem, x0, x1]) rfl ?_
    exact get_err HX.out ((f0.setCell (Nat.le_refl _) _).setCell (Nat.le_refl _) _) _ rfl
end Go.Proofs.YtblfnjdbihhglaaGreatDoor
