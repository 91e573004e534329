import Derived.Test.YtblfnjdbihhglaaGreatDoorGe
import Derived.Test.YtblfnjdbihhglaaGreatDoorGa
import Derived.Test.YtblfnjdbihhglaaGreatDoorRgz
import Derived.Test.YtblfnjdbihhglaaGreatDoorLXb
import Derived.Test.YtblfnjdbihhglaaGreatDoorLXez
import Derived.Test.YtblfnjdbihhglaaGreatDoorRhz
import Derived.Test.YtblfnjdbihhglaaGreatDoorRows
namespace Go.Proofs.YtblfnjdbihhglaaGreatDoor
open Go.ChangeShapes Go.WideShapes Go.ChangeAt Go.RowKit
open Li (Ss Gl Wl Ws Reads rdE rdV putV outN lineP longP AlikeW)
set_option linter.unusedVariables false
set_option linter.unusedSimpArgs false
theorem fm5 : ∀ (es : List Ed) (k : Nat) (h : k < es.length) (j : Nat), j < 5 → (es.flatMap Ed.cs)[k * 5 + j]? = (es[k]).cs[j]?
  | [], _, h, _, _ => absurd h (by simp)
  | x :: r, 0, _, j, hj => by
    rw [List.flatMap_cons, List.getElem?_append_left (by show _ < 5; omega)]
    simp
  | x :: r, k + 1, h, j, hj => by
    have ih := fm5 r k (by simpa using h) j hj
    rw [List.flatMap_cons, List.getElem?_append_right (by show 5 ≤ _; omega)]
    show (r.flatMap Ed.cs)[(k + 1) * 5 + j - 5]? = _
    rw [show (k + 1) * 5 + j - 5 = k * 5 + j by omega, ih]
    rfl
/-- a row of edges, read -/
theorem own_es {w : World} {B : Nat} {A : Option Addr} {n c : Nat} {es : List Ed} (h : w.ownsRow B 42 5 (.slice A n c) es.length (es.flatMap Ed.cs)) (hs : ∀ y ∈ es, y.ok) : n = es.length ∧ Es w A es.length (ef es) := by
  have h0 := h
  obtain ⟨h1, h2⟩ := h
  rcases h2 with ⟨h2, h3⟩ | ⟨g, cap, cur, a, b, c', d, e⟩
  · simp at h2
    obtain ⟨rfl, rfl, rfl⟩ := h2
    exact ⟨h3.symm, fun hp => by omega⟩
  · simp at a
    obtain ⟨rfl, rfl, rfl⟩ := a
    refine ⟨rfl, fun _ => ⟨g, 0, rfl, (h0.lt g rfl).2, fun k hk => ?_⟩⟩
    have he : ef es k = es[k] := by unfold ef; rw [List.getElem?_eq_getElem hk]; rfl
    have hc : ∀ j u, j < 5 → (es[k]).cs[j]? = some u → w.cell? ⟨g, 0 + k * 5 + j, none⟩ = some u := fun j u hj hu => by
      have := h0.cells (g := g) rfl (k * 5 + j) u ((fm5 es k hk j hj).trans hu)
      rw [Li.addr_add] at this
      rwa [Nat.zero_add]
    rw [he]
    exact ⟨hs _ (List.getElem_mem hk), hc 0 _ (by decide) rfl, hc 1 _ (by decide) rfl, hc 2 _ (by decide) rfl, hc 3 _ (by decide) rfl, hc 4 _ (by decide) rfl⟩
theorem ss_congr {w : World} {A : Option Addr} {n : Nat} {f f' : Nat → ByteArray} (h : Ss w A n f) (he : ∀ k, k < n → f k = f' k) : Ss w A n f' := fun h0 => by
  obtain ⟨b, o, e, hl, hc⟩ := h h0
  exact ⟨b, o, e, hl, fun k hk => by rw [← he k hk]; exact hc k hk⟩
theorem es_congr {w : World} {A : Option Addr} {n : Nat} {f f' : Nat → Ed} (h : Es w A n f) (he : ∀ k, k < n → f k = f' k) : Es w A n f' := fun h0 => by
  obtain ⟨b, o, e, hl, hc⟩ := h h0
  exact ⟨b, o, e, hl, fun k hk => by rw [← he k hk]; exact hc k hk⟩
theorem what_lt {k wh : Nat} (h : whatB k wh = true) : wh < 4294967296 := by
  unfold whatB w1 w3 at h
  split at h
  · simp at h; omega
  split at h
  · simp at h; omega
  split at h
  · simp at h; omega
  · simp at h; omega
theorem edB_ok {x : Ed} {n : Nat} (h : edB x n = true) : x.ok := by
  obtain ⟨⟨h1, h2, _, _⟩, _, h3, h4⟩ := edB_out h
  exact ⟨by omega, what_lt h4, by have := nmB_size h3; omega⟩
theorem out_small (g : Nat → Wl) (n : Nat) (h : ∀ k, k < n → ¬ longP (g k)) (hn : n ≤ 400) : (outN g n).size ≤ 16777215 := by
  have := outN_bound g n (fun k hk => by have := h k hk; unfold longP at this; omega)
  omega
/-- what a put text is -/
theorem put_ok {nc n : Nat} {g : Nat → ByteArray} {f : Nat → Ed} {s : ByteArray} (h : gputV nc g n f = .tuple #[.string s, .int .i64 0]) : GrP nc g n f ∧ putR (gR nc g f n) = .tuple #[.string s, .int .i64 0] ∧ s.size ≤ 16777215 := by
  unfold gputV at h
  by_cases hg : grB nc g n f = true
  · rw [if_pos hg] at h
    refine ⟨grB_true hg, h, ?_⟩
    unfold putR at h
    rcases Li.putV_cases _ _ with ⟨e, he, hp, _⟩ | ⟨hp, h1, h2, h3⟩
    · have := hp.symm.trans h
      simp at this
      omega
    · have := hp.symm.trans h
      simp at this
      rw [← this]
      exact out_small _ _ h2 h3
  · rw [if_neg hg] at h
    simp at h
/-- of a text that was put, got -/
theorem k9_put {nc n : Nat} {g : Nat → ByteArray} {f : Nat → Ed} {s : ByteArray} (h : gputV nc g n f = .tuple #[.string s, .int .i64 0]) (hok : ∀ k, k < n → (f k).ok) (W : World) (hG : Gl W) :
    Calls Tryz.prog 9 #[.string s] W fun e w' => ∃ A a B b, e = .returned (.tuple #[.agg #[.slice A nc a, .slice B n b], .int .i64 0, .int .i64 0]) ∧ Ss w' A nc g ∧ Es w' B n f ∧ Below W.heap.size W w' := by
  obtain ⟨h1, h2, h3⟩ := put_ok h
  have hv := back_get h1 hok s h2
  refine (c9 s h3 W hG).mono ?_
  rintro e w' ⟨V, U, he, hV, hU, hb⟩
  rw [hv] at he hV hU
  obtain ⟨A, a, rfl, _⟩ := Li.own_slice hV
  obtain ⟨B, b, rfl, _⟩ := Li.own_slice hU
  obtain ⟨_, _, s1⟩ := Li.own_ss hV (fun y hy => by
    obtain ⟨i, hi, rfl⟩ := List.mem_map.1 hy
    have := nameB_size (h1.1 i (List.mem_range.1 hi)).1
    omega)
  obtain ⟨_, s2⟩ := own_es hU (fun y hy => by
    obtain ⟨i, hi, rfl⟩ := List.mem_map.1 hy
    exact hok i (List.mem_range.1 hi))
  simp only [List.length_map, List.length_range] at he s1 s2
  exact ⟨A, a, B, b, he, ss_congr s1 (fun k hk => by rw [List.getElem?_map, List.getElem?_range hk]; rfl), es_congr s2 (fun k hk => by unfold ef; rw [List.getElem?_map, List.getElem?_range hk]; rfl), hb⟩
def rdG (R : List (Nat × List ByteArray)) (k : Nat) : Wl := ⟨((((R[k]?).map (·.1)).getD 0 : Nat) : Int), none, (rowW R k).length, 0, fun j => ((rowW R k)[j]?).getD ⟨#[]⟩⟩
theorem rdG_reads (R : List (Nat × List ByteArray)) : Reads (rdG R) R := fun k hk => by
  unfold rdG rowW
  rw [List.getElem?_eq_getElem hk]
  exact ⟨rfl, rfl, fun _ => rfl⟩
theorem wd_rd {g : Nat → Wl} {R : List (Nat × List ByteArray)} (h : Reads g R) (k : Nat) (hk : k < R.length) : Wd (g k) = R[k].2 := by
  obtain ⟨_, h2, h3⟩ := h k hk
  unfold Wd
  rw [h2]
  refine List.ext_getElem (by simp) fun j a b => ?_
  simp only [List.getElem_map, List.getElem_range, h3 j, List.getElem?_eq_getElem b, Option.getD_some]
theorem alike_wd {g g' : Nat → Wl} {N : Nat} (h : ∀ k, k < N → Wd (g k) = Wd (g' k)) : AlikeW N g g' := fun k hk => by
  have e := h k hk
  have hn : (g k).n = (g' k).n := by have := congrArg List.length e; simpa [Wd] using this
  refine ⟨hn, fun j hj => ?_⟩
  have := congrArg (fun l => l[j]?) e
  simp only [Wd, List.getElem?_map, List.getElem?_range hj, List.getElem?_range (show j < (g' k).n by omega), Option.map_some, Option.some.injEq] at this
  exact this
/-- of a text that is got -/
theorem back2 {text : ByteArray} {cs : List ByteArray} {es : List Ed} (hv : getV text = ((0, 0), cs, es)) :
    ∃ t, gputV cs.length (nf cs) es.length (ef es) = .tuple #[.string t, .int .i64 0] ∧ rdE text = 0 ∧ rdE t = 0 ∧ (rdV t).length = (rdV text).length ∧ t.size ≤ 16777215 ∧ (rdV text).length ≤ 400 ∧
      (∀ g g', Reads g (rdV text) → Reads g' (rdV t) → AlikeW (rdV text).length g g') ∧ cs.length + es.length ≤ 400 ∧ (∀ y ∈ cs, y.size ≤ 16) ∧ (∀ y ∈ es, y.ok) := by
  have he : rdE text = 0 := by
    apply Decidable.byContradiction
    intro h0
    rw [getV_err h0] at hv
    have := congrArg (fun x => x.1.2) hv
    exact h0 this
  obtain ⟨h1, h2, h3, h4, h5⟩ := get_back he (rdG_reads _) hv
  obtain ⟨m1, m2⟩ := Li.back_maths _ _ h2 h3 h4
  have hg : GrP cs.length (nf cs) es.length (ef es) := (put_ok h1).1
  refine ⟨_, h1, he, m1, by rw [m2]; simp, (put_ok h1).2.2, h4, fun g g' hr hr' => alike_wd fun k hk => ?_, by omega, fun y hy => ?_, fun y hy => ?_⟩
  · rw [m2] at hr'
    rw [wd_rd hr k hk, wd_rd hr' k (by simpa using hk)]
    simp only [List.getElem_map, List.getElem_range]
    exact (wd_rd (rdG_reads _) k hk).symm
  · obtain ⟨i, hi, rfl⟩ := List.getElem_of_mem hy
    have := nameB_size (hg.1 i hi).1
    unfold nf at this
    rwa [List.getElem?_eq_getElem hi] at this
  · obtain ⟨i, hi, rfl⟩ := List.getElem_of_mem hy
    have := edB_ok (hg.2 i hi).1
    unfold ef at this
    rwa [List.getElem?_eq_getElem hi] at this
/-- of any text, got -/
theorem k9_any (s : ByteArray) (hs : s.size ≤ 16777215) (ln : Int) (c : Nat) (cs : List ByteArray) (es : List Ed) (hv : getV s = ((ln, c), cs, es)) (hz : c = 0 → ln = 0 ∧ (∀ y ∈ cs, y.size ≤ 16) ∧ ∀ y ∈ es, y.ok) (W : World) (hG : Gl W) :
    Calls Tryz.prog 9 #[.string s] W fun e w' => ∃ A a B b, e = .returned (.tuple #[.agg #[.slice A cs.length a, .slice B es.length b], .int .i64 ln, .int .i64 (c : Int)]) ∧ (c = 0 → Ss w' A cs.length (nf cs) ∧ Es w' B es.length (ef es)) ∧ Below W.heap.size W w' := by
  refine (c9 s hs W hG).mono ?_
  rintro e w' ⟨V, U, he, hV, hU, hb⟩
  rw [hv] at he hV hU
  obtain ⟨A, a, rfl, _⟩ := Li.own_slice hV
  obtain ⟨B, b, rfl, _⟩ := Li.own_slice hU
  refine ⟨A, a, B, b, he, fun h0 => ?_, hb⟩
  obtain ⟨_, z1, z2⟩ := hz h0
  obtain ⟨_, _, s1⟩ := Li.own_ss hV (fun y hy => by have := z1 y hy; omega)
  exact ⟨s1, (own_es hU z2).2⟩
end Go.Proofs.YtblfnjdbihhglaaGreatDoor
namespace Go.Proofs.YtblfnjdbihhglaaGreatDoor
open Go.ChangeShapes Go.WideShapes Go.ChangeAt Go.RowKit
open Li (Ss Gl Wl Ws Reads rdE rdV)
set_option linter.unusedVariables false
set_option linter.unusedSimpArgs false
theorem runG_nil (g : Nat → Wl) : ∀ (m k : Nat) (cs : List ByteArray) (es : List Ed), (runG g m k cs es).1.2 ≠ 0 → (runG g m k cs es).2 = ([], [])
  | 0, _, _, _, h => absurd rfl h
  | m + 1, k, cs, es, h => by
    rw [runG] at h ⊢
    by_cases h0 : (stepM cs es (g k).n (g k).f).1 = 0
    · rw [if_pos h0] at h ⊢
      exact runG_nil g m (k + 1) _ _ h
    · rw [if_neg h0]
theorem getV_nil {s : ByteArray} (h : (getV s).1.2 ≠ 0) : (getV s).2 = ([], []) := by
  by_cases he : rdE s = 0
  · rw [getV_reads he (rdG_reads _)] at h ⊢
    exact runG_nil _ _ _ _ _ h
  · rw [getV_err he]
theorem runG_z (g : Nat → Wl) : ∀ (m k : Nat) (cs : List ByteArray) (es : List Ed), (runG g m k cs es).1.2 = 0 → (runG g m k cs es).1.1 = 0
  | 0, _, _, _, _ => rfl
  | m + 1, k, cs, es, h => by
    rw [runG] at h ⊢
    by_cases h0 : (stepM cs es (g k).n (g k).f).1 = 0
    · rw [if_pos h0] at h ⊢
      exact runG_z g m (k + 1) _ _ h
    · rw [if_neg h0] at h
      exact absurd h h0
theorem getV_z {s : ByteArray} (h : (getV s).1.2 = 0) : (getV s).1.1 = 0 := by
  by_cases he : rdE s = 0
  · rw [getV_reads he (rdG_reads _)] at h ⊢
    exact runG_z _ _ _ _ _ h
  · rw [getV_err he]
/-- what is got, in plain words -/
def Got (t : ByteArray) (w : World) (ln : Int) (ec p q : Nat) (gg : Nat → ByteArray) (ff : Nat → Ed) (e : Ending) (w' : World) : Prop :=
  ∃ A a B b, e = .returned (.tuple #[.agg #[.slice A p a, .slice B q b], .int .i64 ln, .int .i64 (ec : Int)]) ∧ Ss w' A p gg ∧ Es w' B q ff ∧ Below w.heap.size w w'
theorem got_of {t : ByteArray} {w w' : World} {e : Ending} {ln : Int} {ec : Nat} {cs : List ByteArray} {es : List Ed} (hv : getV t = ((ln, ec), cs, es)) (h : GetPost t w e w') : Got t w ln ec cs.length es.length (nf cs) (ef es) e w' := by
  have hz : (∀ y ∈ cs, y.size ≤ 16) ∧ ∀ y ∈ es, y.ok := by
    by_cases h0 : ec = 0
    · have := getV_z (s := t)
      rw [hv] at this
      have hl := this h0
      simp only at hl
      subst h0 hl
      obtain ⟨_, _, _, _, _, _, _, _, _, z1, z2⟩ := back2 hv
      exact ⟨z1, z2⟩
    · have := getV_nil (s := t)
      rw [hv] at this
      have hl := this h0
      simp only [Prod.mk.injEq] at hl
      obtain ⟨rfl, rfl⟩ := hl
      exact ⟨fun y hy => (by cases hy), fun y hy => (by cases hy)⟩
  obtain ⟨V, U, he, hV, hU, hb⟩ := h
  rw [hv] at he hV hU
  obtain ⟨A, a, rfl, _⟩ := Li.own_slice hV
  obtain ⟨B, b, rfl, _⟩ := Li.own_slice hU
  obtain ⟨_, _, s1⟩ := Li.own_ss hV (fun y hy => by have := hz.1 y hy; omega)
  exact ⟨A, a, B, b, he, s1, (own_es hU hz.2).2, hb⟩
theorem pack4 (t : ByteArray) (ht : t.size ≤ 16777215) (W : World) (hg : Gx W) : ∃ (ln : Int) (ec p q : Nat) (gg : Nat → ByteArray) (ff : Nat → Ed), p + q ≤ 400 ∧
    (∀ w', Below W.heap.size W w' → Calls Tryz.prog 9 #[.string t] w' fun e w2 => Got t w' ln ec p q gg ff e w2) ∧ (∀ w', Below W.heap.size W w' → Calls Tryz.prog 10 #[.string t] w' fun e w2 => Got t w' ln ec p q gg ff e w2) := by
  obtain ⟨⟨⟨ln, ec⟩, cs, es⟩, hv⟩ : ∃ x, getV t = x := ⟨_, rfl⟩
  refine ⟨ln, ec, cs.length, es.length, nf cs, ef es, ?_, fun w' hb => (c9 t ht w' (hg.below hb).1).mono fun e w2 h => got_of hv h, fun w' hb => (c10 t ht w' (hg.below hb).2).mono fun e w2 h => got_of hv h⟩
  by_cases h0 : ec = 0
  · have := getV_z (s := t)
    rw [hv] at this
    have hl := this h0
    simp only at hl
    subst h0 hl
    obtain ⟨_, _, _, _, _, _, _, _, z, _, _⟩ := back2 hv
    exact z
  · have := getV_nil (s := t)
    rw [hv] at this
    have hl := this h0
    simp only [Prod.mk.injEq] at hl
    obtain ⟨rfl, rfl⟩ := hl
    exact Nat.zero_le _
set_option maxRecDepth 100000 in
set_option maxHeartbeats 8000000 in
theorem walk4 (t : ByteArray) (ht : t.size ≤ 16777215) {W : World} (w : World) (hw : W = w) (hg : Gx w) : Calls Tryz.prog 4 #[.string t] w fun e w' => e = .returned (.bool true) ∧ Below w.heap.size w w' := by
  subst hw
  have K6 : Hid (∀ w', Below W.heap.size W w' → Calls Tryz.prog 6 #[] w' fun e w2 => e = .returned (.bool true) ∧ Below w'.heap.size w' w2) := Lib.hid (fun w' hb => c6 w' (hg.below hb).1 (hg.below hb).2)
  obtain ⟨ln, ec, p, q, gg, ff, hpq, k9, k10⟩ := pack4 t ht W hg
  have K9 := Lib.hid k9
  have K10 := Lib.hid k10
  have HPQ := Lib.hid hpq
  clear k9 k10 hpq hg
  unfold Got at K9 K10
  have hl1 : (ln == ln) = true := by simp
  have hl2 : ((ec : Int) == (ec : Int)) = true := by simp
  go_enter Tryz.func4, Tryz.ntmps4
  go_wp2_with fail
  refine (K9.out _ (Below.refl _ _)).mono ?_
  rintro _ w1 ⟨A1, a1, B1, b1, rfl, sa1, sb1, hb1⟩
  have HC1 : Hid (Below w1.heap.size w1 (w1.alloc (.cells #[.slice A1 p a1, .slice B1 q b1] 25))) := Lib.hid ((Below.refl _ w1).alloc (Nat.le_refl _) _)
  have HB1 : Hid (Below W.heap.size W (w1.alloc (.cells #[.slice A1 p a1, .slice B1 q b1] 25))) := Lib.hid (hb1.trans (HC1.out.mono hb1.size))
  have HSA := Lib.hid (sa1.below HC1.out)
  have HSB := Lib.hid (sb1.below HC1.out)
  have HX : Hid (∀ W', Below (w1.alloc (.cells #[.slice A1 p a1, .slice B1 q b1] 25)).heap.size (w1.alloc (.cells #[.slice A1 p a1, .slice B1 q b1] 25)) W' → W'.cell? ⟨w1.heap.size, 0, none⟩ = some (.slice A1 p a1) ∧ W'.cell? ⟨w1.heap.size, 1, none⟩ = some (.slice B1 q b1)) := Lib.hid (fun W' hW =>
    ⟨(hW.cell (p := ⟨w1.heap.size, 0, none⟩) (by simp)).trans (World.cell?_alloc_new _ _ _ _), (hW.cell (p := ⟨w1.heap.size, 1, none⟩) (by simp)).trans (World.cell?_alloc_new _ _ _ _)⟩)
  have HN1 : Hid (w1.heap.size < (w1.alloc (.cells #[.slice A1 p a1, .slice B1 q b1] 25)).heap.size) := Lib.hid (by simp)
  clear sa1 sb1 hb1
  go_wp2_with fail
  refine (K10.out _ HB1.out).mono ?_
  rintro _ w2 ⟨A2, a2, B2, b2, rfl, sa2, sb2, hb2⟩
  have HC2 : Hid (Below w2.heap.size w2 (w2.alloc (.cells #[.slice A2 p a2, .slice B2 q b2] 25))) := Lib.hid ((Below.refl _ w2).alloc (Nat.le_refl _) _)
  have HB12 : Hid (Below (w1.alloc (.cells #[.slice A1 p a1, .slice B1 q b1] 25)).heap.size (w1.alloc (.cells #[.slice A1 p a1, .slice B1 q b1] 25)) (w2.alloc (.cells #[.slice A2 p a2, .slice B2 q b2] 25))) := Lib.hid (hb2.trans (HC2.out.mono hb2.size))
  have HB2 : Hid (Below W.heap.size W (w2.alloc (.cells #[.slice A2 p a2, .slice B2 q b2] 25))) := Lib.hid (HB1.out.trans (HB12.out.mono HB1.out.size))
  have K11 := Lib.hid (c11 A1 A2 p a1 a2 B1 B2 q b1 b2 gg ff (w2.alloc (.cells #[.slice A2 p a2, .slice B2 q b2] 25)) (HSA.out.below HB12.out) (sa2.below HC2.out) (HSB.out.below HB12.out) (sb2.below HC2.out) (by have := HPQ.out; omega) (by have := HPQ.out; omega))
  obtain ⟨x0, x1⟩ := HX.out _ HB12.out
  have hne : w1.heap.size ≠ w2.heap.size := by have := HN1.out; have := hb2.size; omega
  clear sa2 sb2 hb2
  go_wp2_with fail
  refine K11.out.mono ?_
  rintro _ w3 ⟨rfl, hb3⟩
  have HB3 : Hid (Below W.heap.size W w3) := Lib.hid (HB2.out.trans (hb3.mono HB2.out.size))
  clear hb3 x0 x1 hne
  go_wp2_with fail
  refine (K6.out _ HB3.out).mono ?_
  rintro _ w4 ⟨rfl, hb4⟩
  go_wp2_with fail
  go_ret
  exact ⟨rfl, HB3.out.trans (hb4.mono HB3.out.size)⟩
end Go.Proofs.YtblfnjdbihhglaaGreatDoor
namespace Go.Proofs.YtblfnjdbihhglaaGreatDoor
open Go.ChangeShapes Go.WideShapes Go.ChangeAt Go.RowKit
set_option linter.unusedVariables false
theorem bulk_one {H : Type} (d : DataW H) : 1 ≤ Rows.uptoBulk d := by
  cases d with
  | lit l => cases l <;> simp [Rows.uptoBulk]
  | nil => simp [Rows.uptoBulk]
  | ptr d => simp [Rows.uptoBulk]
  | slice elems spare => simp [Rows.uptoBulk]
  | agg parts => simp [Rows.uptoBulk]
  | iface t d => simp [Rows.uptoBulk]
  | map entries => simp [Rows.uptoBulk]
  | held h => simp [Rows.uptoBulk]
theorem bulk_part {H : Type} {d : DataW H} {l : List (DataW H)} (h : d ∈ l) : Rows.uptoBulk d ≤ Rows.uptoBulkAll l := by
  induction l with
  | nil => cases h
  | cons x r ih =>
    simp only [Rows.uptoBulkAll]
    cases List.mem_cons.1 h with
    | inl e => subst e; omega
    | inr e => have := ih e; omega
theorem part_small {H : Type} {d : DataW H} {l : List (DataW H)} (hk : Rows.uptoSmall H l = true) (h : d ∈ l) : Rows.uptoBulk d ≤ 1048576 := by
  have h1 : Rows.uptoBulkAll l ≤ 1048576 := of_decide_eq_true hk
  have := bulk_part h
  omega
theorem bulk_string {H : Type} {b : List UInt8} {l : List (DataW H)} (hk : Rows.uptoSmall H l = true) (h : DataW.lit (.string b) ∈ l) : b.length ≤ 1048576 := by
  have h1 := part_small hk h
  simp only [Rows.uptoBulk] at h1
  omega
theorem walk4u (t : ByteArray) {W : World} (ht : t.size ≤ 1048576) (w : World) (hw : W = w) (hg : Gx w) : Calls Tryz.prog 4 #[.string t] w fun e w' => e = .returned (.bool true) ∧ Below w.heap.size w w' := walk4 t (by omega) w hw hg
end Go.Proofs.YtblfnjdbihhglaaGreatDoor
