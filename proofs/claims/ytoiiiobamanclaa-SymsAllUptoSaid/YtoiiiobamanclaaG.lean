import Derived.Deep.Cut
import Derived.Deep.RegionLaw
import Derived.LoopN
import Derived.Shelf.SlSortCmp.NoneTotal
import Derived.Laws.AppendOwn
import Derived.Deep.AppendLies
import Derived.Test.YtoiiiobamanclaaF
namespace Go.Proofs.Ytoiiiobamanclaa
open Go.ChangeShapes Go.WideShapes Go.ChangeAt Go.RowKit Go.Shelf
set_option linter.unusedVariables false
theorem clone28 (s : ByteArray) (w : World) (hlim : s.size ≤ 281474976710656) : Calls Try.prog 28 #[.string s] w fun e w' => e = .returned (.string s) ∧ Below w.heap.size w w' := by
  have K := Lib.hid (Try.stringslite_Clone s w hlim)
  go_enter Try.func28, Try.ntmps28
  go_wp2_with fail
  refine K.out.mono ?_
  rintro _ w2 ⟨rfl, hb2⟩
  have HB := Lib.hid hb2
  clear hb2
  go_wp2_with fail
  go_ret
  exact ⟨rfl, HB.out⟩
/-- the names so far -/
structure Gs (w wr : World) (v : Value) (E : List Nm) : Prop where
  b : Below w.heap.size w wr
  n : NmR wr (w.heap.size + 1) v E
  m : Mf wr w.heap.size E.length (idx E)
def RO (D : List (Lo × List Sm)) (w : World) (v i : Value) (wr : World) : Prop := ∃ o : Nat, o ≤ D.length ∧ i = .int .i64 (o : Int) ∧ Gs w wr v (outE (D.map (·.2)) o)
def RI (E : List Nm) (o : Nat) (S : List Sm) (w : World) (v i : Value) (wr : World) : Prop := ∃ k : Nat, k ≤ S.length ∧ i = .int .i64 (k : Int) ∧ Gs w wr v (inn E o S k)
theorem Gs.below {w wr w' : World} {v : Value} {E : List Nm} (h : Gs w wr v E) (hb : Below wr.heap.size wr w') : Gs w w' v E :=
  ⟨h.b.trans (hb.mono h.b.size), World.ownsRow.kept h.n (grown_below hb) (by
    rcases h.n.form with ⟨rfl, _⟩ | ⟨g, cap, cur, rfl, _⟩
    · exact .inl rfl
    · exact .inr (by simp [Value.ownBlock])), h.m.below hb⟩
theorem only_grown {g : Nat} {w w' : World} (h : Only g w w') : w.grownBy w' (some g) :=
  have h0 := h.1 0 (Nat.zero_le _) (Nat.zero_le _)
  ⟨h0.os, h0.tape, h0.output, h0.size, fun k hk hne => h.2 k (fun e => hne (by rw [e])) hk⟩
/-- a name learns one more symbol -/
theorem Gs.take {w wr w' : World} {g cap : Nat} {cur : Array Value} {E : List Nm} {i : Nat} {n : Nm} {s : Sm} {t : Tg} (h : Gs w wr (.slice (some ⟨g, 0, none⟩) E.length cap) E) (hg : w.heap.size + 1 ≤ g) (hn : E.length ≤ cap) (hm : cap ≤ maxLen) (hs : cur.size = cap * 12) (ht : ∀ k n, E[k]? = some n → At cur (k * 12) n.c)
    (hi : E[i]? = some n) (hB : Blk w' g 57 (putA cur (i * 12) (Ytoiiiobamanclaa.take n s t).c)) (ho : Only g wr w') : Gs w w' (.slice (some ⟨g, 0, none⟩) E.length cap) (E.set i (Ytoiiiobamanclaa.take n s t)) := by
  have hil := (List.getElem?_eq_some_iff.1 hi).1
  refine ⟨h.b.trans (ho.1 _ (by omega) h.b.size), NmR.set (w := wr) hg hn hm hs ht i _ hil hB, ?_⟩
  obtain ⟨D, h1, h2, h3, h4⟩ := h.m
  have hk : w'.ownsMap Try.prog 9 (plainElem Try.prog 3) w.heap.size E.length D := h1.kept (only_grown ho) (by simp; omega)
  rw [List.length_set]
  have e : idx (E.set i (Ytoiiiobamanclaa.take n s t)) = idx E := funext fun u => idx_set E i _ (fun m hm => by rw [hi] at hm; cases hm; exact (take_tx _ _ _).symm) u
  rw [e]
  exact ⟨D, hk, h2, h3, h4⟩
theorem Gs.sz {w wr : World} {v : Value} {E : List Nm} (h : Gs w wr v E) : w.heap.size + 1 ≤ wr.heap.size := by
  obtain ⟨D, ⟨es, cl, hb, _⟩, _⟩ := h.m
  exact (Array.getElem?_eq_some_iff.1 hb).1
theorem own_none {w : World} {base : Nat} {v : Value} {L : List Nm} (h : NmR w base v L) : v.ownBlock = none ∨ v.ownBlock ≠ none := by
  cases v.ownBlock <;> simp
theorem own_ne {w0 w : World} {v : Value} {L : List Nm} (h : NmR w (w0.heap.size + 1) v L) : v.ownBlock = none ∨ v.ownBlock ≠ some w0.heap.size := by
  rcases h.form with ⟨rfl, _⟩ | ⟨g, cap, cur, rfl, hb, _⟩
  · exact .inl rfl
  · exact .inr (fun e => by simp [Value.ownBlock] at e; omega)
theorem cells_new (W : World) (l : List Value) (t : TypeId) : ∀ j u, l[j]? = some u → (W.alloc (.cells l.toArray t)).cell? ((⟨W.heap.size, 0, none⟩ : Addr).add j) = some u := fun j u h => by
  rw [show ((⟨W.heap.size, 0, none⟩ : Addr).add j) = ⟨W.heap.size, j, none⟩ by (simp [Addr.add]; omega), (Blk.new W t l.toArray).cell, List.getElem?_toArray]
  exact h
theorem nm_one (n : Nm) : ∀ u ∈ n.c, u.oneCell' = true := fun u hu => by
  simp only [Nm.c, List.mem_cons, List.not_mem_nil, or_false] at hu
  rcases hu with rfl | rfl | rfl | rfl | rfl | rfl | rfl | rfl | rfl | rfl | rfl | rfl <;> rfl
theorem info57 : (Try.prog.info? 57).map (fun i => (i.zero, i.size, i.bytes)) = some (some (.agg #[.string ⟨#[]⟩, .int .i64 0, .int .i64 0, .int .i64 0, .int .i64 0, .int .i64 0, .int .i64 0, .int .i64 0, .int .i64 0, .int .i64 0, .bool false, .bool false]), 12, 96) := by kernel_rfl
theorem nmr_mk {w : World} {base : Nat} {v : Value} {E : List Nm} {m : Nm} (h : w.ownsRow base 57 12 v (E.length + 1) (E.flatMap Nm.c ++ m.c)) : NmR w base v (E ++ [m]) := by
  unfold NmR
  rw [List.length_append, List.flatMap_append, List.flatMap_cons, List.flatMap_nil, List.append_nil]
  exact h
theorem nmr_app {w : World} {base : Nat} {v : Value} {E : List Nm} {m : Nm} (h : w.ownsRow base 57 12 v (E.length + 1) (E.flatMap Nm.c ++ m.c)) :
    ∃ g cap cur, v = .slice (some ⟨g, 0, none⟩) (E.length + 1) cap ∧ base ≤ g ∧ Blk w g 57 cur ∧ E.length + 1 ≤ cap ∧ cap ≤ maxLen ∧ cur.size = cap * 12 ∧ ∀ k n, (E ++ [m])[k]? = some n → At cur (k * 12) n.c := by
  have hl : (E ++ [m]).length = E.length + 1 := by simp
  rcases (nmr_mk h).form with ⟨_, e⟩ | ⟨g, cap, cur, a, b, c, d, e, f, k⟩
  · simp at e
  · rw [hl] at a d
    exact ⟨g, cap, cur, a, b, c, d, e, f, k⟩
theorem perm_of {E : List Nm} {d' : Array Nm} (h : Go.Sort.PermIn 0 E.toArray.size E.toArray d') : d'.toList.Perm E := by
  obtain ⟨h1, _, h3⟩ := h
  have e1 : E.toArray.extract 0 E.toArray.size = E.toArray := Array.extract_size
  have e2 : d'.extract 0 E.toArray.size = d' := by rw [← h1]; exact Array.extract_size
  rw [e1, e2] at h3
  exact h3
theorem sorted_of {E : List Nm} {d' : Array Nm} (h : Go.Sort.SortedIn (ltOf fun x y : Nm => cmpS x.tx y.tx) 0 E.toArray.size d') (hs : d'.size = E.length) : d'.toList.Pairwise (fun a b => ltN b.tx a.tx = false) := by
  rw [List.pairwise_iff_getElem]
  intro i j hi hj hij
  have hj2 : j < d'.size := by simpa using hj
  have hi2 : i < d'.size := by simpa using hi
  have := h i j (Nat.zero_le _) hij (by simp; omega)
  rw [ltN_of, getElem!_pos d' j hj2, getElem!_pos d' i hi2] at this
  simpa using this
theorem gs_zero (w : World) : Gs w (w.alloc (.map #[] 0)) (.slice none 0 0) [] := ⟨(Below.refl _ _).alloc (Nat.le_refl _) _, World.ownsRow_nil _ _ _ _, mf_zero w⟩
set_option maxRecDepth 100000 in
set_option maxHeartbeats 4000000 in
theorem all15 (v : Value) (D : List (Lo × List Sm)) (w : World) (hD : Lds w v D) (hT : tot (D.map (·.2)) ≤ 1048576) (hS : ∀ x ∈ D, ∀ s ∈ x.2, s.nm.size ≤ 1048576) (hL : D.length ≤ 1048576) :
    Calls Try.prog 15 #[v] w fun e w' => ∃ V E', e = .returned V ∧ E'.Perm (outE (D.map (·.2)) D.length) ∧ E'.Pairwise (fun a b => ltN b.tx a.tx = false) ∧ NmR w' (w.heap.size + 1) V E' ∧ Below w.heap.size w w' := by
  have hmm := @run_makeMap Try.prog
  obtain ⟨⟨A, c, rfl, hA⟩, hY⟩ := hD
  have HA := Lib.hid hA; have HY := Lib.hid hY; have HS := Lib.hid hS; have HT := Lib.hid hT
  clear hA hY hS hT
  go_enter Try.func15, Try.ntmps15
  go_wp2_with fail
  go_loopw [3, 5, 6, 7, 8, 9, 10, 14] (fun n _ _ _ _ _ _ i wr => RO D w n i wr) (fun _ _ _ _ _ _ _ i _ => D.length - (intOf i).toNat)
  case atStart => exact ⟨0, Nat.zero_le _, rfl, gs_zero w⟩
  case round =>
    obtain ⟨o, ho, rfl, hg⟩ := hrel
    have HG := Lib.hid hg
    clear hg
    by_cases hlt : o < D.length
    · obtain ⟨x, hx⟩ : ∃ x, D[o]? = some x := ⟨_, List.getElem?_eq_getElem hlt⟩
      obtain ⟨ab, ao, rfl, hbl, hc⟩ := HA.out (by omega)
      have z : ∀ j, wr.cell? ⟨ab, j, none⟩ = w.cell? ⟨ab, j, none⟩ := fun j => HG.out.b.cell (p := ⟨ab, j, none⟩) hbl
      have x0 : wr.cell? ⟨ab, ao + o * 4, none⟩ = some (.string x.1.nm) := by rw [z]; exact hc o x hx 0 _ rfl
      have x1 : wr.cell? ⟨ab, ao + o * 4 + 1, none⟩ = some (.slice x.1.sa x.1.sn x.1.sc) := by rw [z]; exact hc o x hx 1 _ rfl
      have x2 : wr.cell? ⟨ab, ao + o * 4 + 2, none⟩ = some x.1.yv := by rw [z]; exact hc o x hx 2 _ rfl
      have x3 : wr.cell? ⟨ab, ao + o * 4 + 3, none⟩ = some (.slice x.1.ra x.1.rn x.1.rc) := by rw [z]; exact hc o x hx 3 _ rfl
      have hly := HY.out x (List.mem_of_getElem? hx)
      have HX := Lib.hid hx
      have HLT := Lib.hid hlt
      obtain ⟨⟨xn, xs1, xs2, xs3, xy, xr1, xr2, xr3⟩, S⟩ := x
      simp only at x0 x1 x2 x3 hly
      obtain ⟨B, c2, rfl, hB⟩ := hly
      have HB := Lib.hid hB
      clear hc z hx hB
      go_wp2_with fail
      have HSB : S.length ≤ 1048576 := by
        have h4 := HT.out
        have h3 := tot_take (D.map (·.2)) (o + 1)
        have h5 : tot ((D.map (·.2)).take (o + 1)) = tot ((D.map (·.2)).take o) + S.length := by
          rw [List.take_add_one, List.getElem?_map, HX.out]
          unfold tot
          simp
        omega
      have HG1 := Lib.hid (HG.out.below ((Below.refl _ wr).alloc (Nat.le_refl _) (.cells #[.string xn, .slice xs1 xs2 xs3, .slice B S.length c2, .slice xr1 xr2 xr3] 44)))
      generalize wr.alloc (.cells #[.string xn, .slice xs1 xs2 xs3, .slice B S.length c2, .slice xr1 xr2 xr3] 44) = W1 at *
      have HSN : Hid (∀ s ∈ S, s.nm.size ≤ 1048576) := Lib.hid (fun s hs => HS.out _ (List.mem_of_getElem? HX.out) s hs)
      obtain ⟨E0, hE0⟩ : ∃ E0, outE (D.map (·.2)) o = E0 := ⟨_, rfl⟩
      have HE0 := Lib.hid hE0
      rw [hE0] at HG1
      clear hE0
      go_loopw [3, 7, 8, 9, 10, 23] (fun n _ _ _ _ i wr => RI E0 o S w n i wr) (fun _ _ _ _ _ i _ => S.length - (intOf i).toNat)
      case atStart => exact ⟨0, Nat.zero_le _, rfl, HG1.out⟩
      case round =>
        obtain ⟨k, hk, rfl, hg⟩ := hrel
        have HG2 := Lib.hid hg
        clear hg
        by_cases hlk : k < S.length
        · obtain ⟨s, hs⟩ : ∃ s, S[k]? = some s := ⟨_, List.getElem?_eq_getElem hlk⟩
          obtain ⟨sb, so, rfl, hsl, hsc⟩ := HB.out (by omega)
          have z : ∀ j, wr.cell? ⟨sb, j, none⟩ = w.cell? ⟨sb, j, none⟩ := fun j => HG2.out.b.cell (p := ⟨sb, j, none⟩) hsl
          have y0 : wr.cell? ⟨sb, so + k * 7, none⟩ = some (.string s.nm) := by rw [z]; exact hsc k s hs 0 _ rfl
          have y1 : wr.cell? ⟨sb, so + k * 7 + 1, none⟩ = some (.int .u32 s.vl) := by rw [z]; exact hsc k s hs 1 _ rfl
          have y2 : wr.cell? ⟨sb, so + k * 7 + 2, none⟩ = some (.int .u32 s.sz) := by rw [z]; exact hsc k s hs 2 _ rfl
          have y3 : wr.cell? ⟨sb, so + k * 7 + 3, none⟩ = some (.int .u8 s.bd) := by rw [z]; exact hsc k s hs 3 _ rfl
          have y4 : wr.cell? ⟨sb, so + k * 7 + 4, none⟩ = some (.int .u8 s.kd) := by rw [z]; exact hsc k s hs 4 _ rfl
          have y5 : wr.cell? ⟨sb, so + k * 7 + 5, none⟩ = some (.bool s.hd) := by rw [z]; exact hsc k s hs 5 _ rfl
          have y6 : wr.cell? ⟨sb, so + k * 7 + 6, none⟩ = some (.int .i64 s.ix) := by rw [z]; exact hsc k s hs 6 _ rfl
          have HSZ := Lib.hid (HSN.out s (List.mem_of_getElem? hs))
          have HIN : Hid (inn E0 o S (k + 1) = step (inn E0 o S k) s ⟨(o : Int), (k : Int), -1⟩) := Lib.hid (by rw [inn, hs])
          have HLK := Lib.hid hlk
          have HLE : Hid ((inn E0 o S k).length ≤ 1048576) := Lib.hid (by
            have h1 := inn_len E0 o S k
            have h2 := outE_len (D.map (·.2)) o
            rw [HE0.out] at h2
            have h3 := tot_take (D.map (·.2)) (o + 1)
            have h4 := HT.out
            have h5 : tot ((D.map (·.2)).take (o + 1)) = tot ((D.map (·.2)).take o) + S.length := by
              rw [List.take_add_one, List.getElem?_map, HX.out]
              unfold tot
              simp
            omega)
          generalize inn E0 o S k = E at *
          have HWS : Hid (w.heap.size + 1 ≤ wr.heap.size) := Lib.hid HG2.out.sz
          have HG3 := Lib.hid (HG2.out.below ((Below.refl _ wr).alloc (Nat.le_refl _) (.cells s.c.toArray 47)))
          have HBX : Hid (Blk (wr.alloc (.cells s.c.toArray 47)) wr.heap.size 47 s.c.toArray) := Lib.hid (Blk.new wr 47 _)
          have b0 : (wr.alloc (.cells s.c.toArray 47)).cell? ⟨wr.heap.size, 0, none⟩ = some (.string s.nm) := by rw [HBX.out.cell]; rfl
          have b3 : (wr.alloc (.cells s.c.toArray 47)).cell? ⟨wr.heap.size, 3, none⟩ = some (.int .u8 s.bd) := by rw [HBX.out.cell]; rfl
          clear z hsc hs HG2 HSN
          by_cases hbd : s.bd = 0
          · have HST : Hid (inn E0 o S (k + 1) = E) := Lib.hid (by rw [HIN.out]; unfold step; rw [if_pos hbd])
            obtain ⟨nm, vl, sz, bd, kd, hd, ix⟩ := s
            simp only at hbd y0 y1 y2 y3 y4 y5 y6 b0 b3
            have eb : (bd == 0) = true := by simp [hbd]
            clear hbd
            go_wp2_with fail
            go_roundw
            case rel => exact ⟨k + 1, HLK.out, by go_num, by rw [HST.out]; exact HG3.out⟩
            case measure => simp [intOf]; have := HLK.out; omega
          · have HST : Hid (inn E0 o S (k + 1) = match idx E s.nm with
              | some i => E.set i (take (E.getD i (nw s.nm)) s ⟨(o : Int), (k : Int), -1⟩)
              | none => E ++ [take (nw s.nm) s ⟨(o : Int), (k : Int), -1⟩]) := Lib.hid (by rw [HIN.out]; unfold step; rw [if_neg hbd]; cases idx E s.nm <;> rfl)
            obtain ⟨DM, hown, h2, h3, h4⟩ := HG3.out.m
            have HO := Lib.hid hown; have H2 := Lib.hid h2; have H3 := Lib.hid h3; have H4 := Lib.hid h4
            have HK9 := Lib.hid (key9 s.nm (by have := HSZ.out; omega))
            obtain ⟨q, hq⟩ : ∃ q, Maps.has DM (.string s.nm.data.toList) = q := ⟨_, rfl⟩
            have HQ := Lib.hid hq
            have HQ3 : Hid (q = (idx E s.nm).isSome) := Lib.hid (by rw [← hq]; exact h3 s.nm)
            obtain ⟨nm, vl, sz, bd, kd, hd, ix⟩ := s
            simp only at hbd y0 y1 y2 y3 y4 y5 y6 b0 b3
            have eb : (bd == 0) = false := by simp [hbd]
            clear hbd hown h2 h3 h4
            go_upto_region 10 with fail
            generalize wr.alloc (.cells #[.string nm, .int .u32 vl, .int .u32 sz, .int .u8 bd, .int .u8 kd, .bool hd, .int .i64 ix] 47) = W2 at *
            have HQ0 : Hid (w.heap.size + 1 ≤ wr.heap.size) := Lib.hid HWS.out
            generalize wr.heap.size = q0 at *
            cases q with
            | true =>
              go_wp2_with (at_lookup; refine wpList_lookup_own_ok_int _ rfl _ _ 52 rfl 9 3 .i64 law9 Try.underlying52 Try.underlying3 (zero3 _) w.heap.size E.length DM rfl HO.out _ _ rfl HK9.out ?_; intro c hat hwc)
              obtain ⟨i, hi⟩ : ∃ i, idx E nm = some i := Option.isSome_iff_exists.1 HQ3.out.symm
              obtain ⟨n, hn, hntx⟩ := idx_at hi
              have hci : c = (i : Int) := by
                have h := H4.out nm i hi
                rw [hat] at h
                injection h with h
                injection h with _ h
              subst hci
              have hil := (List.getElem?_eq_some_iff.1 hn).1
              have HST2 : Hid (inn E0 o S (k + 1) = E.set i (take n ⟨nm, vl, sz, bd, kd, hd, ix⟩ ⟨(o : Int), (k : Int), -1⟩)) := Lib.hid (by
                rw [HST.out]
                simp only [hi]
                rw [List.getD_eq_getElem?_getD, hn]
                rfl)
              clear HST
              have HST := HST2
              clear HST2
              rcases HG3.out.n.form with ⟨rfl, e0⟩ | ⟨g, cap, cur, rfl, hgb, hgB, hgn, hgm, hgs, hgt⟩
              · rw [e0] at hil
                exact absurd hil (by simp)
              have HGB := Lib.hid hgB
              have HAT := Lib.hid (hgt i n hn)
              have hiw : IntKind.i64.wrap (i : Int) = (i : Int) := by rw [IntKind.wrap_i64]; have := HLE.out; omega
              have hilt : (i : Int) < (E.length : Int) := by omega
              have HQG : Hid (q0 ≠ g) := Lib.hid (fun e => by
                have h1 := HBX.out
                rw [e] at h1
                have := h1.symm.trans hgB
                injection this with this
                injection this with _ h2
                exact absurd h2 (by decide))
              have HTKE : Hid (∀ w6, Blk w6 g 57 (putA cur (i * 12) (take n ⟨nm, vl, sz, bd, kd, hd, ix⟩ ⟨(o : Int), (k : Int), -1⟩).c) → Only g W2.drew w6 → Gs w w6 (.slice (some ⟨g, 0, none⟩) E.length cap) (E.set i (take n ⟨nm, vl, sz, bd, kd, hd, ix⟩ ⟨(o : Int), (k : Int), -1⟩))) := Lib.hid (fun w6 h1 h2 => (HG3.out.below (Below.refl _ _).drew).take hgb hgn hgm hgs hgt hn h1 h2)
              clear hgB hgt hn hi hat hwc
              have HCS : Hid (∀ W, Blk W q0 47 #[.string nm, .int .u32 vl, .int .u32 sz, .int .u8 bd, .int .u8 kd, .bool hd, .int .i64 ix] → W.cell? ⟨q0, 0, none⟩ = some (.string nm) ∧ W.cell? ⟨q0, 1, none⟩ = some (.int .u32 vl) ∧ W.cell? ⟨q0, 2, none⟩ = some (.int .u32 sz) ∧ W.cell? ⟨q0, 3, none⟩ = some (.int .u8 bd) ∧ W.cell? ⟨q0, 4, none⟩ = some (.int .u8 kd) ∧ W.cell? ⟨q0, 5, none⟩ = some (.bool hd) ∧ W.cell? ⟨q0, 6, none⟩ = some (.int .i64 ix)) := Lib.hid (fun W h => ⟨h.cell 0, h.cell 1, h.cell 2, h.cell 3, h.cell 4, h.cell 5, h.cell 6⟩)
              have KT : Hid (Calls Try.prog 29 #[.pointer (some ⟨g, i * 12, none⟩), .agg #[.string nm, .int .u32 vl, .int .u32 sz, .int .u8 bd, .int .u8 kd, .bool hd, .int .i64 ix], .agg #[.int .i64 (o : Int), .int .i64 (k : Int), .int .i64 (-1)]] W2.drew fun e w' => e = .returned (.tuple #[]) ∧ Blk w' g 57 (putA cur (i * 12) (take n ⟨nm, vl, sz, bd, kd, hd, ix⟩ ⟨(o : Int), (k : Int), -1⟩).c) ∧ Only g W2.drew w') := Lib.hid (take29 g (i * 12) 57 cur n ⟨nm, vl, sz, bd, kd, hd, ix⟩ ⟨(o : Int), (k : Int), -1⟩ W2.drew HGB.out.drew HAT.out)
              have HI : Hid (W2.drew.cell? ⟨q0, 0, none⟩ = some (.string nm) ∧ W2.drew.cell? ⟨q0, 1, none⟩ = some (.int .u32 vl) ∧ W2.drew.cell? ⟨q0, 2, none⟩ = some (.int .u32 sz) ∧ W2.drew.cell? ⟨q0, 3, none⟩ = some (.int .u8 bd) ∧ W2.drew.cell? ⟨q0, 4, none⟩ = some (.int .u8 kd) ∧ W2.drew.cell? ⟨q0, 5, none⟩ = some (.bool hd) ∧ W2.drew.cell? ⟨q0, 6, none⟩ = some (.int .i64 ix)) := Lib.hid (HCS.out _ HBX.out.drew)
              generalize take n ⟨nm, vl, sz, bd, kd, hd, ix⟩ ⟨(o : Int), (k : Int), -1⟩ = N2 at KT HST HTKE
              go_region_held3 (fun W => W.cell? ⟨q0, 0, none⟩ = some (.string nm) ∧ W.cell? ⟨q0, 1, none⟩ = some (.int .u32 vl) ∧ W.cell? ⟨q0, 2, none⟩ = some (.int .u32 sz) ∧ W.cell? ⟨q0, 3, none⟩ = some (.int .u8 bd) ∧ W.cell? ⟨q0, 4, none⟩ = some (.int .u8 kd) ∧ W.cell? ⟨q0, 5, none⟩ = some (.bool hd) ∧ W.cell? ⟨q0, 6, none⟩ = some (.int .i64 ix))
                (first | assumption | exact HI.out)
                (first | (go_at_call 29; (with_reducible refine KT.out.mono ?_); rintro _ w6 ⟨rfl, hb6, ho6⟩; have HS6 : w6.cell? ⟨q0, 0, none⟩ = some (.string nm) ∧ w6.cell? ⟨q0, 1, none⟩ = some (.int .u32 vl) ∧ w6.cell? ⟨q0, 2, none⟩ = some (.int .u32 sz) ∧ w6.cell? ⟨q0, 3, none⟩ = some (.int .u8 bd) ∧ w6.cell? ⟨q0, 4, none⟩ = some (.int .u8 kd) ∧ w6.cell? ⟨q0, 5, none⟩ = some (.bool hd) ∧ w6.cell? ⟨q0, 6, none⟩ = some (.int .i64 ix) := HCS.out _ (ho6.blk HQG.out HBX.out.drew)))
              rename_i hHeld
              have HB6 := Lib.hid hb6
              have HO6 := Lib.hid ho6
              clear hHeld HS6 HI hb6 ho6 KT HCS
              go_wp2_with fail
              go_roundw
              case rel =>
                refine ⟨k + 1, HLK.out, by go_num, ?_⟩
                rw [HST.out]
                exact HTKE.out _ HB6.out HO6.out
              case measure => simp [intOf]; have := HLK.out; omega
            | false =>
              have hi : idx E nm = none := by
                have := HQ3.out
                cases h : idx E nm with
                | none => rfl
                | some i => rw [h] at this; cases this
              have HI0 := Lib.hid hi
              have HV : Hid (∃ A cap, u3 = .slice A E.length cap) := Lib.hid (by
                rcases HG3.out.n.form with ⟨rfl, e0⟩ | ⟨g, cap, cur, rfl, _⟩
                · exact ⟨none, 0, by rw [e0]; rfl⟩
                · exact ⟨_, _, rfl⟩)
              obtain ⟨vA, vc, rfl⟩ := HV.out
              have hlw : IntKind.i64.wrap (E.length : Int) = (E.length : Int) := by rw [IntKind.wrap_i64]; have := HLE.out; omega
              clear hi
              have HNR := Lib.hid HG3.out.n
              have HGBB := Lib.hid HG3.out.b
              go_wp2_with (first | (at_lookup; refine wpList_lookup_own_ok_int _ rfl _ _ 52 rfl 9 3 .i64 law9 Try.underlying52 Try.underlying3 (zero3 _) w.heap.size E.length DM rfl HO.out _ _ rfl HK9.out ?_; intro c hat hwc) | (at_mapUpdate; refine wpList_mapUpdate_own _ rfl _ _ _ 52 rfl 9 3 law9 Try.underlying52 _ w.heap.size E.length DM rfl HO.out (by have := HLE.out; unfold maxLen; omega) _ _ _ rfl rfl HK9.out _ [] (plainElem_int Try.underlying3 (wf_nat E.length (by have := HLE.out; omega))) ?_; intro w1 hown1 hgrow1; have HM1 := Lib.hid (mf_put H2.out H3.out H4.out hown1); have HB1 : Hid (Below w.heap.size w w1) := Lib.hid (HGBB.out.grown hgrow1 HGBB.out.size (fun j hj => by simp at hj; omega)); have HBX1 : Hid (Blk w1 q0 47 #[.string nm, .int .u32 vl, .int .u32 sz, .int .u8 bd, .int .u8 kd, .bool hd, .int .i64 ix]) := Lib.hid ((hgrow1.block q0 HBX.out.lt (by have := HQ0.out; simp; omega)).trans HBX.out); have HN1 : Hid (NmR w1 (w.heap.size + 1) (.slice vA E.length vc) E) := Lib.hid (World.ownsRow.kept HNR.out hgrow1 (own_ne HNR.out)); have c0 : w1.cell? ⟨q0, 0, none⟩ = some (.string nm) := (by rw [HBX1.out.cell]; rfl); clear hown1 hgrow1))
              refine (clone28 nm w1 (by have := HSZ.out; omega)).mono ?_
              rintro _ w2 ⟨rfl, hb2⟩
              have HB2 := Lib.hid hb2
              clear hb2
              go_wp2_with fail
              refine (none22 w2).mono ?_
              rintro _ w3 ⟨rfl, hb3⟩
              have HB3 : Hid (Below w1.heap.size w1 w3) := Lib.hid (HB2.out.trans (hb3.mono HB2.out.size))
              clear hb3
              go_wp2_with fail
              refine (none22 w3).mono ?_
              rintro _ w4 ⟨rfl, hb4⟩
              have HB4 : Hid (Below w1.heap.size w1 w4) := Lib.hid (HB3.out.trans (hb4.mono HB3.out.size))
              clear hb4
              go_wp2_with fail
              refine (none22 w4).mono ?_
              rintro _ w5 ⟨rfl, hb5⟩
              have HB5 : Hid (Below w1.heap.size w1 w5) := Lib.hid (HB4.out.trans (hb5.mono HB4.out.size))
              have HN5 : Hid (NmR w5 (w.heap.size + 1) (.slice vA E.length vc) E) := Lib.hid (World.ownsRow.kept HN1.out (grown_below HB5.out) (own_none HN1.out))
              have HSZ5 : Hid (w.heap.size + 1 ≤ w5.heap.size) := Lib.hid (by have h1 := HB5.out.size; have h2 := HBX1.out.lt; have h3 := HQ0.out; omega)
              clear hb5 HB4 HB3 HB2
              obtain ⟨i0, hi0, hz0, hz1, hz2⟩ := info_parts info57
              go_wp2_with (at_builtin; refine wpList_append_own _ rfl _ _ 50 rfl (w.heap.size + 1) 57 i0 (.agg #[.string ⟨#[]⟩, .int .i64 0, .int .i64 0, .int .i64 0, .int .i64 0, .int .i64 0, .int .i64 0, .int .i64 0, .int .i64 0, .int .i64 0, .bool false, .bool false]) 12 96 Try.underlying50 hi0 hz0 hz1 hz2 rfl (by decide) _ E.length _ rfl (World.ownsRow.alloc HN5.out _) ⟨w5.heap.size, 0, none⟩ 1 1 (Nm.c (nw nm)) rfl rfl (cells_new w5 _ 57) (nm_one _) (by have := HLE.out; unfold maxLen; omega) (by have := HLE.out; omega) (by rw [World.size_alloc]; have := HSZ5.out; omega) ?_; intro v' w6 hown' hgrow' _; obtain ⟨g, cap, cur, rfl, hgb, hgB, hgn, hgm, hgs, hgt⟩ := nmr_app hown'; have HGR : Hid ((w5.alloc (.cells (nw nm).c.toArray 57)).grownBy w6 (Value.slice vA E.length vc).ownBlock) := Lib.hid hgrow'; have HON := Lib.hid hown'; clear hown' hgrow')
              have hlen : (E ++ [nw nm]).length = E.length + 1 := by simp
              have HN6 : Hid (NmR w6 (w.heap.size + 1) (.slice (some ⟨g, 0, none⟩) (E ++ [nw nm]).length cap) (E ++ [nw nm])) := Lib.hid (by rw [hlen]; exact nmr_mk HON.out)
              have HAT := Lib.hid (hgt E.length (nw nm) (by simp))
              have HGB := Lib.hid hgB
              have HBL6 : Hid (Below w.heap.size w w6) := Lib.hid (((HB1.out.trans (HB5.out.mono HB1.out.size)).alloc (by have := HSZ5.out; omega) _).grown HGR.out (by rw [World.size_alloc]; have := HSZ5.out; omega) (fun j hj => by
                rcases HN5.out.form with ⟨e, _⟩ | ⟨g0, cap0, cur0, e, hb0, _⟩
                · rw [e] at hj; cases hj
                · rw [e] at hj; simp [Value.ownBlock] at hj; omega))
              have HW6 : Hid (w.heap.size < w6.heap.size) := Lib.hid (by have h1 := HGR.out.size; rw [World.size_alloc] at h1; have := HSZ5.out; omega)
              have HMM6 : Hid (Mf w6 w.heap.size (E.length + 1) (idx (E ++ [nw nm]))) := Lib.hid (by
                have e : idx (E ++ [nw nm]) = fun t => if t = nm then some E.length else idx E t := funext fun u => idx_app E (nw nm) HI0.out u
                rw [e]
                have h5 := HM1.out.below HB5.out
                obtain ⟨D6, d1, d2⟩ := h5
                refine ⟨D6, (d1.kept (World.grownBy_alloc w5 _ none) (by simp)).kept HGR.out ?_, d2⟩
                rcases own_ne (w0 := w) HN5.out with h | h
                · rw [h]; simp
                · exact fun e => h e.symm)
              have HG6 : Hid (Gs w w6 (.slice (some ⟨g, 0, none⟩) (E ++ [nw nm]).length cap) (E ++ [nw nm])) := Lib.hid ⟨HBL6.out, HN6.out, by rw [hlen]; exact HMM6.out⟩
              have HBX6 : Hid (Blk w6 q0 47 #[.string nm, .int .u32 vl, .int .u32 sz, .int .u8 bd, .int .u8 kd, .bool hd, .int .i64 ix]) := Lib.hid (by
                have h1 := (HBX1.out.below HB5.out HBX1.out.lt).alloc (.cells (nw nm).c.toArray 57)
                refine (HGR.out.block q0 h1.lt (fun e => ?_)).trans h1
                rcases HN5.out.form with ⟨e1, _⟩ | ⟨g0, cap0, cur0, e1, hb0, hB0, _⟩
                · rw [e1] at e; cases e
                · rw [e1] at e
                  simp [Value.ownBlock] at e
                  subst e
                  have := h1.symm.trans (hB0.alloc (.cells (nw nm).c.toArray 57))
                  injection this with this
                  injection this with _ h2
                  exact absurd h2 (by decide))
              have HST2 : Hid (inn E0 o S (k + 1) = (E ++ [nw nm]).set E.length (take (nw nm) ⟨nm, vl, sz, bd, kd, hd, ix⟩ ⟨(o : Int), (k : Int), -1⟩)) := Lib.hid (by
                rw [HST.out]
                simp only [HI0.out]
                rw [List.set_append_right _ _ (Nat.le_refl _)]
                simp)
              clear HST
              have HST := HST2
              clear HST2
              have hiw : IntKind.i64.wrap (E.length : Int) = (E.length : Int) := by rw [IntKind.wrap_i64]; have := HLE.out; omega
              have hilt : (E.length : Int) < (E.length : Int) + 1 := by omega
              have HQG : Hid (q0 ≠ g) := Lib.hid (fun e => by
                have h1 := HBX6.out
                rw [e] at h1
                have := h1.symm.trans hgB
                injection this with this
                injection this with _ h2
                exact absurd h2 (by decide))
              have HTKE : Hid (∀ w7, Blk w7 g 57 (putA cur (E.length * 12) (take (nw nm) ⟨nm, vl, sz, bd, kd, hd, ix⟩ ⟨(o : Int), (k : Int), -1⟩).c) → Only g w6.drew w7 → Gs w w7 (.slice (some ⟨g, 0, none⟩) (E ++ [nw nm]).length cap) ((E ++ [nw nm]).set E.length (take (nw nm) ⟨nm, vl, sz, bd, kd, hd, ix⟩ ⟨(o : Int), (k : Int), -1⟩))) := Lib.hid (fun w7 h1 h2 => (HG6.out.below (Below.refl _ _).drew).take hgb (by rw [hlen]; exact hgn) hgm hgs hgt (by simp) h1 h2)
              rw [hlen] at HTKE
              clear hgB hgt hat hwc hlen
              have HCS : Hid (∀ W, Blk W q0 47 #[.string nm, .int .u32 vl, .int .u32 sz, .int .u8 bd, .int .u8 kd, .bool hd, .int .i64 ix] → W.cell? ⟨q0, 0, none⟩ = some (.string nm) ∧ W.cell? ⟨q0, 1, none⟩ = some (.int .u32 vl) ∧ W.cell? ⟨q0, 2, none⟩ = some (.int .u32 sz) ∧ W.cell? ⟨q0, 3, none⟩ = some (.int .u8 bd) ∧ W.cell? ⟨q0, 4, none⟩ = some (.int .u8 kd) ∧ W.cell? ⟨q0, 5, none⟩ = some (.bool hd) ∧ W.cell? ⟨q0, 6, none⟩ = some (.int .i64 ix)) := Lib.hid (fun W h => ⟨h.cell 0, h.cell 1, h.cell 2, h.cell 3, h.cell 4, h.cell 5, h.cell 6⟩)
              have KT : Hid (Calls Try.prog 29 #[.pointer (some ⟨g, E.length * 12, none⟩), .agg #[.string nm, .int .u32 vl, .int .u32 sz, .int .u8 bd, .int .u8 kd, .bool hd, .int .i64 ix], .agg #[.int .i64 (o : Int), .int .i64 (k : Int), .int .i64 (-1)]] w6.drew fun e w' => e = .returned (.tuple #[]) ∧ Blk w' g 57 (putA cur (E.length * 12) (take (nw nm) ⟨nm, vl, sz, bd, kd, hd, ix⟩ ⟨(o : Int), (k : Int), -1⟩).c) ∧ Only g w6.drew w') := Lib.hid (take29 g (E.length * 12) 57 cur (nw nm) ⟨nm, vl, sz, bd, kd, hd, ix⟩ ⟨(o : Int), (k : Int), -1⟩ w6.drew HGB.out.drew HAT.out)
              have HI : Hid (w6.drew.cell? ⟨q0, 0, none⟩ = some (.string nm) ∧ w6.drew.cell? ⟨q0, 1, none⟩ = some (.int .u32 vl) ∧ w6.drew.cell? ⟨q0, 2, none⟩ = some (.int .u32 sz) ∧ w6.drew.cell? ⟨q0, 3, none⟩ = some (.int .u8 bd) ∧ w6.drew.cell? ⟨q0, 4, none⟩ = some (.int .u8 kd) ∧ w6.drew.cell? ⟨q0, 5, none⟩ = some (.bool hd) ∧ w6.drew.cell? ⟨q0, 6, none⟩ = some (.int .i64 ix)) := Lib.hid (HCS.out _ HBX6.out.drew)
              generalize take (nw nm) ⟨nm, vl, sz, bd, kd, hd, ix⟩ ⟨(o : Int), (k : Int), -1⟩ = N2 at KT HST HTKE
              go_region_held3 (fun W => W.cell? ⟨q0, 0, none⟩ = some (.string nm) ∧ W.cell? ⟨q0, 1, none⟩ = some (.int .u32 vl) ∧ W.cell? ⟨q0, 2, none⟩ = some (.int .u32 sz) ∧ W.cell? ⟨q0, 3, none⟩ = some (.int .u8 bd) ∧ W.cell? ⟨q0, 4, none⟩ = some (.int .u8 kd) ∧ W.cell? ⟨q0, 5, none⟩ = some (.bool hd) ∧ W.cell? ⟨q0, 6, none⟩ = some (.int .i64 ix))
                (first | assumption | exact HI.out)
                (first | (go_at_call 29; (with_reducible refine KT.out.mono ?_); rintro _ w7 ⟨rfl, hb6, ho6⟩; have HS6 : w7.cell? ⟨q0, 0, none⟩ = some (.string nm) ∧ w7.cell? ⟨q0, 1, none⟩ = some (.int .u32 vl) ∧ w7.cell? ⟨q0, 2, none⟩ = some (.int .u32 sz) ∧ w7.cell? ⟨q0, 3, none⟩ = some (.int .u8 bd) ∧ w7.cell? ⟨q0, 4, none⟩ = some (.int .u8 kd) ∧ w7.cell? ⟨q0, 5, none⟩ = some (.bool hd) ∧ w7.cell? ⟨q0, 6, none⟩ = some (.int .i64 ix) := HCS.out _ (ho6.blk HQG.out HBX6.out.drew)))
              rename_i hHeld
              have HB6 := Lib.hid hb6
              have HO6 := Lib.hid ho6
              clear hHeld HS6 HI hb6 ho6 KT HCS
              go_wp2_with fail
              go_roundw
              case rel =>
                refine ⟨k + 1, HLK.out, by go_num, ?_⟩
                rw [HST.out]
                exact HTKE.out _ HB6.out HO6.out
              case measure => simp [intOf]; have := HLK.out; omega
        · have hkn : k = S.length := by omega
          subst hkn
          have HOE : Hid (outE (D.map (·.2)) (o + 1) = inn E0 o S S.length) := Lib.hid (by
            rw [outE, List.getElem?_map, HX.out, ← HE0.out]
            rfl)
          generalize inn E0 o S S.length = E at *
          go_wp2_with fail
          go_roundw
          case rel => exact ⟨o + 1, HLT.out, by go_num, by rw [HOE.out]; exact HG2.out⟩
          case measure => simp [intOf]; have := HLT.out; omega
    · obtain rfl : o = D.length := by omega
      have HEL : Hid ((outE (D.map (·.2)) D.length).length ≤ 1048576) := Lib.hid (by
        have h2 := outE_len (D.map (·.2)) D.length
        have h3 := tot_take (D.map (·.2)) D.length
        have h4 := HT.out
        omega)
      obtain ⟨E, hE⟩ : ∃ E, outE (D.map (·.2)) D.length = E := ⟨_, rfl⟩
      have HEE := Lib.hid hE
      rw [hE] at HG HEL
      clear hE
      rcases HG.out.n.form with ⟨rfl, e0⟩ | ⟨g, cap, cur, rfl, hgb, hgB, hgn, hgm, hgs, hgt⟩
      · have e1 : E = [] := e0
        have KN : Hid (Calls Try.prog 30 #[.slice none 0 0, .func (.func 31) #[] #[]] wr fun e w' => e = .returned (.tuple #[]) ∧ w' = wr) := Lib.hid (AnyF.slices_SortFunc_none Try.sortNm none 0 (.func (.func 31) #[] #[]) wr)
        go_wp2_with fail
        refine KN.out.mono ?_
        rintro _ w6 ⟨rfl, e6⟩
        have HE6 := Lib.hid e6
        clear e6
        go_wp2_with fail
        go_ret
        rw [HE6.out]
        exact ⟨_, E, rfl, by rw [HEE.out], by rw [e1]; exact List.Pairwise.nil, HG.out.n, HG.out.b⟩
      · have eg : ∀ args w, (callFunc 31 args).run Try.prog w = .ok (.enter 31 args) w := enters_of Try.func31 (by kernel_rfl) rfl
        have KS : Hid (Calls Try.prog 30 #[.slice (some ⟨g, 0, none⟩) E.length cap, .func (.func 31) #[] #[]] wr fun e w' => e = .returned (.tuple #[]) ∧ ∃ d' n os, Go.Sort.PermIn 0 E.toArray.size E.toArray d' ∧ Go.Sort.SortedIn (ltOf fun x y : Nm => cmpS x.tx y.tx) 0 E.toArray.size d' ∧ w' = sortWorldK Nm.c 12 wr g 0 n d' os) :=
          Lib.hid (AnyQ.slices_SortFunc Try.sortNm 12 Try.isAgg57 Try.sizeOf57 Nm.c Nm.len (fun x => nm_one x) (fun x y => cmpS x.tx y.tx) swoN 31 #[] g 0 cap E.toArray wr eg (fun _ _ _ _ x y => less31 x y _) (NmR.holds (cap := cap) hgB hgt) hgB.lt (by have := HEL.out; simp; omega))
        have HPS : Hid (∀ d' n os, Go.Sort.PermIn 0 E.toArray.size E.toArray d' → Go.Sort.SortedIn (ltOf fun x y : Nm => cmpS x.tx y.tx) 0 E.toArray.size d' → ∃ E' : List Nm, E'.Perm E ∧ E'.Pairwise (fun a b => ltN b.tx a.tx = false) ∧ NmR (sortWorldK Nm.c 12 wr g 0 n d' os) (w.heap.size + 1) (.slice (some ⟨g, 0, none⟩) E.length cap) E' ∧ Below w.heap.size w (sortWorldK Nm.c 12 wr g 0 n d' os)) := Lib.hid (fun d' n os h1 h2 => by
          have hsz : d'.size = E.length := h1.1
          obtain ⟨p1, p2⟩ := NmR.sort hgb hgB hgn hgm hgs d' hsz n os
          refine ⟨d'.toList, perm_of h1, sorted_of h2 hsz, p1, HG.out.b.grown p2 HG.out.b.size (fun j hj => by cases hj; omega)⟩)
        clear hgB hgt
        go_wp2_with fail
        refine KS.out.mono ?_
        rintro _ w6 ⟨rfl, d', n, os, h1, h2, rfl⟩
        obtain ⟨E', p1, p2, p3, p4⟩ := HPS.out d' n os h1 h2
        have P3 := Lib.hid p3; have P4 := Lib.hid p4
        clear h1 h2 p3 p4
        generalize sortWorldK Nm.c 12 wr g 0 n d' os = W9 at *
        go_wp2_with fail
        go_ret
        exact ⟨_, E', rfl, by rw [HEE.out]; exact p1, p2, P3.out, P4.out⟩
end Go.Proofs.Ytoiiiobamanclaa
