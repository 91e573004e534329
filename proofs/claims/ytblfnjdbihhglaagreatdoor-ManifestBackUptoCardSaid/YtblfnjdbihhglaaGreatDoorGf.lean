import Derived.Test.YtblfnjdbihhglaaGreatDoorGe
import Derived.Test.YtblfnjdbihhglaaGreatDoorGa
import Derived.Test.YtblfnjdbihhglaaGreatDoorRg
import Derived.Test.YtblfnjdbihhglaaGreatDoorLXb
import Derived.Test.YtblfnjdbihhglaaGreatDoorLXe
import Derived.Test.YtblfnjdbihhglaaGreatDoorRows
namespace Go.Proofs.YtblfnjdbihhglaaGreatDoor
open Go.ChangeShapes Go.WideShapes Go.ChangeAt Go.RowKit
open Li (Ss Gl Wl Ws Reads rdE rdV putV outN lineP longP AlikeW)
set_option linter.unusedVariables false
set_option linter.unusedSimpArgs false
theorem fm5 : ∀ (es : List Ed) (k : Nat) (h : k < es.length) (j : Nat), j < 5 → (es.flatMap Ed.cs)[k * 5 + j]? = (es[k]).cs[j]?
  | [], _, h, _, _ => absurd h (by simp)
  | x :: r, 0, _, j, hj => by
    rw [List.flatMap_cons, List.getElem?_append_left (by show _ < 5; omega)]
    simp
  | x :: r, k + 1, h, j, hj => by
    have ih := fm5 r k (by simpa using h) j hj
    rw [List.flatMap_cons, List.getElem?_append_right (by show 5 ≤ _; omega)]
    show (r.flatMap Ed.cs)[(k + 1) * 5 + j - 5]? = _
    rw [show (k + 1) * 5 + j - 5 = k * 5 + j by omega, ih]
    rfl
/-- a row of edges, read -/
theorem own_es {w : World} {B : Nat} {A : Option Addr} {n c : Nat} {es : List Ed} (h : w.ownsRow B 42 5 (.slice A n c) es.length (es.flatMap Ed.cs)) (hs : ∀ y ∈ es, y.ok) : n = es.length ∧ Es w A es.length (ef es) := by
  have h0 := h
  obtain ⟨h1, h2⟩ := h
  rcases h2 with ⟨h2, h3⟩ | ⟨g, cap, cur, a, b, c', d, e⟩
  · simp at h2
    obtain ⟨rfl, rfl, rfl⟩ := h2
    exact ⟨h3.symm, fun hp => by omega⟩
  · simp at a
    obtain ⟨rfl, rfl, rfl⟩ := a
    refine ⟨rfl, fun _ => ⟨g, 0, rfl, (h0.lt g rfl).2, fun k hk => ?_⟩⟩
    have he : ef es k = es[k] := by unfold ef; rw [List.getElem?_eq_getElem hk]; rfl
    have hc : ∀ j u, j < 5 → (es[k]).cs[j]? = some u → w.cell? ⟨g, 0 + k * 5 + j, none⟩ = some u := fun j u hj hu => by
      have := h0.cells (g := g) rfl (k * 5 + j) u ((fm5 es k hk j hj).trans hu)
      rw [Li.addr_add] at this
      rwa [Nat.zero_add]
    rw [he]
    exact ⟨hs _ (List.getElem_mem hk), hc 0 _ (by decide) rfl, hc 1 _ (by decide) rfl, hc 2 _ (by decide) rfl, hc 3 _ (by decide) rfl, hc 4 _ (by decide) rfl⟩
theorem ss_congr {w : World} {A : Option Addr} {n : Nat} {f f' : Nat → ByteArray} (h : Ss w A n f) (he : ∀ k, k < n → f k = f' k) : Ss w A n f' := fun h0 => by
  obtain ⟨b, o, e, hl, hc⟩ := h h0
  exact ⟨b, o, e, hl, fun k hk => by rw [← he k hk]; exact hc k hk⟩
theorem es_congr {w : World} {A : Option Addr} {n : Nat} {f f' : Nat → Ed} (h : Es w A n f) (he : ∀ k, k < n → f k = f' k) : Es w A n f' := fun h0 => by
  obtain ⟨b, o, e, hl, hc⟩ := h h0
  exact ⟨b, o, e, hl, fun k hk => by rw [← he k hk]; exact hc k hk⟩
theorem what_lt {k wh : Nat} (h : whatB k wh = true) : wh < 4294967296 := by
  unfold whatB w1 w3 at h
  split at h
  · simp at h; omega
  split at h
  · simp at h; omega
  split at h
  · simp at h; omega
  · simp at h; omega
theorem edB_ok {x : Ed} {n : Nat} (h : edB x n = true) : x.ok := by
  obtain ⟨⟨h1, h2, _, _⟩, _, h3, h4⟩ := edB_out h
  exact ⟨by omega, what_lt h4, by have := nmB_size h3; omega⟩
theorem out_small (g : Nat → Wl) (n : Nat) (h : ∀ k, k < n → ¬ longP (g k)) (hn : n ≤ 400) : (outN g n).size ≤ 16777215 := by
  have := outN_bound g n (fun k hk => by have := h k hk; unfold longP at this; omega)
  omega
/-- what a put text is -/
theorem put_ok {nc n : Nat} {g : Nat → ByteArray} {f : Nat → Ed} {s : ByteArray} (h : gputV nc g n f = .tuple #[.string s, .int .i64 0]) : GrP nc g n f ∧ putR (gR nc g f n) = .tuple #[.string s, .int .i64 0] ∧ s.size ≤ 16777215 := by
  unfold gputV at h
  by_cases hg : grB nc g n f = true
  · rw [if_pos hg] at h
    refine ⟨grB_true hg, h, ?_⟩
    unfold putR at h
    rcases Li.putV_cases _ _ with ⟨e, he, hp, _⟩ | ⟨hp, h1, h2, h3⟩
    · have := hp.symm.trans h
      simp at this
      omega
    · have := hp.symm.trans h
      simp at this
      rw [← this]
      exact out_small _ _ h2 h3
  · rw [if_neg hg] at h
    simp at h
/-- of a text that was put, got -/
theorem k9_put {nc n : Nat} {g : Nat → ByteArray} {f : Nat → Ed} {s : ByteArray} (h : gputV nc g n f = .tuple #[.string s, .int .i64 0]) (hok : ∀ k, k < n → (f k).ok) (W : World) (hG : Gl W) :
    Calls Tryz.prog 9 #[.string s] W fun e w' => ∃ A a B b, e = .returned (.tuple #[.agg #[.slice A nc a, .slice B n b], .int .i64 0, .int .i64 0]) ∧ Ss w' A nc g ∧ Es w' B n f ∧ Below W.heap.size W w' := by
  obtain ⟨h1, h2, h3⟩ := put_ok h
  have hv := back_get h1 hok s h2
  refine (c9 s h3 W hG).mono ?_
  rintro e w' ⟨V, U, he, hV, hU, hb⟩
  rw [hv] at he hV hU
  obtain ⟨A, a, rfl, _⟩ := Li.own_slice hV
  obtain ⟨B, b, rfl, _⟩ := Li.own_slice hU
  obtain ⟨_, _, s1⟩ := Li.own_ss hV (fun y hy => by
    obtain ⟨i, hi, rfl⟩ := List.mem_map.1 hy
    have := nameB_size (h1.1 i (List.mem_range.1 hi)).1
    omega)
  obtain ⟨_, s2⟩ := own_es hU (fun y hy => by
    obtain ⟨i, hi, rfl⟩ := List.mem_map.1 hy
    exact hok i (List.mem_range.1 hi))
  simp only [List.length_map, List.length_range] at he s1 s2
  exact ⟨A, a, B, b, he, ss_congr s1 (fun k hk => by rw [List.getElem?_map, List.getElem?_range hk]; rfl), es_congr s2 (fun k hk => by unfold ef; rw [List.getElem?_map, List.getElem?_range hk]; rfl), hb⟩
def rdG (R : List (Nat × List ByteArray)) (k : Nat) : Wl := ⟨((((R[k]?).map (·.1)).getD 0 : Nat) : Int), none, (rowW R k).length, 0, fun j => ((rowW R k)[j]?).getD ⟨#[]⟩⟩
theorem rdG_reads (R : List (Nat × List ByteArray)) : Reads (rdG R) R := fun k hk => by
  unfold rdG rowW
  rw [List.getElem?_eq_getElem hk]
  exact ⟨rfl, rfl, fun _ => rfl⟩
theorem wd_rd {g : Nat → Wl} {R : List (Nat × List ByteArray)} (h : Reads g R) (k : Nat) (hk : k < R.length) : Wd (g k) = R[k].2 := by
  obtain ⟨_, h2, h3⟩ := h k hk
  unfold Wd
  rw [h2]
  refine List.ext_getElem (by simp) fun j a b => ?_
  simp only [List.getElem_map, List.getElem_range, h3 j, List.getElem?_eq_getElem b, Option.getD_some]
theorem alike_wd {g g' : Nat → Wl} {N : Nat} (h : ∀ k, k < N → Wd (g k) = Wd (g' k)) : AlikeW N g g' := fun k hk => by
  have e := h k hk
  have hn : (g k).n = (g' k).n := by have := congrArg List.length e; simpa [Wd] using this
  refine ⟨hn, fun j hj => ?_⟩
  have := congrArg (fun l => l[j]?) e
  simp only [Wd, List.getElem?_map, List.getElem?_range hj, List.getElem?_range (show j < (g' k).n by omega), Option.map_some, Option.some.injEq] at this
  exact this
/-- of a text that is got -/
theorem back2 {text : ByteArray} {cs : List ByteArray} {es : List Ed} (hv : getV text = ((0, 0), cs, es)) :
    ∃ t, gputV cs.length (nf cs) es.length (ef es) = .tuple #[.string t, .int .i64 0] ∧ rdE text = 0 ∧ rdE t = 0 ∧ (rdV t).length = (rdV text).length ∧ t.size ≤ 16777215 ∧ (rdV text).length ≤ 400 ∧
      (∀ g g', Reads g (rdV text) → Reads g' (rdV t) → AlikeW (rdV text).length g g') ∧ cs.length + es.length ≤ 400 ∧ (∀ y ∈ cs, y.size ≤ 16) ∧ (∀ y ∈ es, y.ok) := by
  have he : rdE text = 0 := by
    apply Decidable.byContradiction
    intro h0
    rw [getV_err h0] at hv
    have := congrArg (fun x => x.1.2) hv
    exact h0 this
  obtain ⟨h1, h2, h3, h4, h5⟩ := get_back he (rdG_reads _) hv
  obtain ⟨m1, m2⟩ := Li.back_maths _ _ h2 h3 h4
  have hg : GrP cs.length (nf cs) es.length (ef es) := (put_ok h1).1
  refine ⟨_, h1, he, m1, by rw [m2]; simp, (put_ok h1).2.2, h4, fun g g' hr hr' => alike_wd fun k hk => ?_, by omega, fun y hy => ?_, fun y hy => ?_⟩
  · rw [m2] at hr'
    rw [wd_rd hr k hk, wd_rd hr' k (by simpa using hk)]
    simp only [List.getElem_map, List.getElem_range]
    exact (wd_rd (rdG_reads _) k hk).symm
  · obtain ⟨i, hi, rfl⟩ := List.getElem_of_mem hy
    have := nameB_size (hg.1 i hi).1
    unfold nf at this
    rwa [List.getElem?_eq_getElem hi] at this
  · obtain ⟨i, hi, rfl⟩ := List.getElem_of_mem hy
    have := edB_ok (hg.2 i hi).1
    unfold ef at this
    rwa [List.getElem?_eq_getElem hi] at this
/-- of any text, got -/
theorem k9_any (s : ByteArray) (hs : s.size ≤ 16777215) (ln : Int) (c : Nat) (cs : List ByteArray) (es : List Ed) (hv : getV s = ((ln, c), cs, es)) (hz : c = 0 → ln = 0 ∧ (∀ y ∈ cs, y.size ≤ 16) ∧ ∀ y ∈ es, y.ok) (W : World) (hG : Gl W) :
    Calls Tryz.prog 9 #[.string s] W fun e w' => ∃ A a B b, e = .returned (.tuple #[.agg #[.slice A cs.length a, .slice B es.length b], .int .i64 ln, .int .i64 (c : Int)]) ∧ (c = 0 → Ss w' A cs.length (nf cs) ∧ Es w' B es.length (ef es)) ∧ Below W.heap.size W w' := by
  refine (c9 s hs W hG).mono ?_
  rintro e w' ⟨V, U, he, hV, hU, hb⟩
  rw [hv] at he hV hU
  obtain ⟨A, a, rfl, _⟩ := Li.own_slice hV
  obtain ⟨B, b, rfl, _⟩ := Li.own_slice hU
  refine ⟨A, a, B, b, he, fun h0 => ?_, hb⟩
  obtain ⟨_, z1, z2⟩ := hz h0
  obtain ⟨_, _, s1⟩ := Li.own_ss hV (fun y hy => by have := z1 y hy; omega)
  exact ⟨s1, (own_es hU z2).2⟩
end Go.Proofs.YtblfnjdbihhglaaGreatDoor
namespace Go.Proofs.YtblfnjdbihhglaaGreatDoor
open Go.ChangeShapes Go.WideShapes Go.ChangeAt Go.RowKit
open Li (Ss Gl Wl Ws Reads rdE rdV putV outN lineP longP AlikeW)
set_option linter.unusedVariables false
set_option linter.unusedSimpArgs false
theorem runG_zero (g : Nat → Wl) : ∀ (m k : Nat) (cs : List ByteArray) (es : List Ed), (runG g m k cs es).1.2 = 0 → (runG g m k cs es).1.1 = 0
  | 0, _, _, _, _ => rfl
  | m + 1, k, cs, es, h => by
    rw [runG] at h ⊢
    by_cases h0 : (stepM cs es (g k).n (g k).f).1 = 0
    · rw [if_pos h0] at h ⊢
      exact runG_zero g m (k + 1) _ _ h
    · rw [if_neg h0] at h
      exact absurd h h0
theorem getV_zero {s : ByteArray} (h : (getV s).1.2 = 0) : (getV s).1.1 = 0 := by
  by_cases he : rdE s = 0
  · rw [getV_reads he (rdG_reads _)] at h ⊢
    exact runG_zero _ _ _ _ _ h
  · rw [getV_err he]
/-- what the law asks of a text, over numbers -/
theorem pack5 (t : ByteArray) (ht : t.size ≤ 16777215) (W : World) (hg : Gx W) : ∃ (ln : Int) (ec p q : Nat) (gg : Nat → ByteArray) (ff : Nat → Ed),
    (∀ w', Below W.heap.size W w' → Calls Tryz.prog 9 #[.string t] w' fun e w2 => ∃ A a B b, e = .returned (.tuple #[.agg #[.slice A p a, .slice B q b], .int .i64 ln, .int .i64 (ec : Int)]) ∧ (ec = 0 → Ss w2 A p gg ∧ Es w2 B q ff) ∧ Below w'.heap.size w' w2) ∧
    (ec = 0 → ∃ (t2 : ByteArray) (N : Nat) (P1 P2 : (Nat → Wl) → Prop), N ≤ 400 ∧
      (∀ w' A a B b, Below W.heap.size W w' → Ss w' A p gg → Es w' B q ff → Calls Tryz.prog 7 #[.agg #[.slice A p a, .slice B q b]] w' fun e w2 => e = .returned (.tuple #[.string t2, .int .i64 0]) ∧ Below w'.heap.size w' w2) ∧
      (∀ w', Below W.heap.size W w' → Calls Tryz.prog 12 #[.string t] w' fun e w2 => ∃ A c g', e = .returned (.tuple #[.slice A N c, .int .i64 0]) ∧ Ws w2 A N g' ∧ P1 g' ∧ Below w'.heap.size w' w2) ∧
      (∀ w', Below W.heap.size W w' → Calls Tryz.prog 12 #[.string t2] w' fun e w2 => ∃ A c g', e = .returned (.tuple #[.slice A N c, .int .i64 0]) ∧ Ws w2 A N g' ∧ P2 g' ∧ Below w'.heap.size w' w2) ∧
      (∀ g g', P1 g → P2 g' → AlikeW N g g')) := by
  obtain ⟨⟨⟨ln, ec⟩, cs, es⟩, hv⟩ : ∃ x, getV t = x := ⟨_, rfl⟩
  have hln : ec = 0 → ln = 0 := fun h => by
    have := getV_zero (s := t)
    rw [hv] at this
    exact this h
  have hb2 : ec = 0 → _ := fun h => by
    have h1 := hln h
    subst h h1
    exact back2 hv
  refine ⟨ln, ec, cs.length, es.length, nf cs, ef es, fun w' hb => k9_any t ht ln ec cs es hv (fun h => ?_) w' (hg.below hb).1, fun h => ?_⟩
  · obtain ⟨_, _, _, _, _, _, _, _, _, z1, z2⟩ := hb2 h
    exact ⟨hln h, z1, z2⟩
  · obtain ⟨t2, b1, b2, b3, b4, b5, b6, b7, b8, b9, b10⟩ := hb2 h
    refine ⟨t2, (rdV t).length, fun g => Reads g (rdV t), fun g => Reads g (rdV t2), b6, fun w' A a B b hb hA hB => ?_, fun w' hb => ?_, fun w' hb => ?_, b7⟩
    · have := c7 A cs.length a B es.length b (nf cs) (ef es) w' hA hB b8 (hg.below hb).2
      rwa [b1] at this
    · refine (Li.c9 t ht w').mono fun e w2 hp => ?_
      obtain ⟨A, c, g, he, h1, h2, _, h3⟩ := Li.post_ws hp
      rw [b2] at he
      exact ⟨A, c, g, he, h1, h2, h3⟩
    · refine (Li.c9 t2 b5 w').mono fun e w2 hp => ?_
      obtain ⟨A, c, g, he, h1, h2, _, h3⟩ := Li.post_ws hp
      rw [b3, b4] at he
      rw [b4] at h1
      exact ⟨A, c, g, he, h1, h2, h3⟩
set_option maxRecDepth 100000 in
set_option maxHeartbeats 8000000 in
theorem walk5 (v : Value) (t : ByteArray) (ht : t.size ≤ 16777215) {W : World} (hv : ∃ A nc cc B n c g f, Gra W v A nc cc B n c g f) (w : World) (hw : W = w) (hg : Gx w) : Calls Tryz.prog 5 #[v, .string t] w fun e w' => e = .returned (.bool true) ∧ Below w.heap.size w w' := by
  subst hw
  obtain ⟨A, nc, cc, B, n, c, g, f, rfl, hA, hB, hnc, hn⟩ := hv
  have K6 : Hid (∀ w', Below W.heap.size W w' → Calls Tryz.prog 6 #[] w' fun e w2 => e = .returned (.bool true) ∧ Below w'.heap.size w' w2) := Lib.hid (fun w' hb => c6 w' (hg.below hb).1 (hg.below hb).2)
  by_cases hs : n ≤ 300 ∧ nc ≤ 50
  · obtain ⟨h1, h2⟩ := hs
    have d1 : decide ((300 : Int) < (n : Int)) = false := by simp; omega
    have d2 : decide ((50 : Int) < (nc : Int)) = false := by simp; omega
    have K7 : Hid (∀ w', Below W.heap.size W w' → Calls Tryz.prog 7 #[.agg #[.slice A nc cc, .slice B n c]] w' fun e w2 => e = .returned (gputV nc g n f) ∧ Below w'.heap.size w' w2) := Lib.hid (fun w' hb => c7 A nc cc B n c g f w' (hA.below hb) (hB.below hb) (by omega) (hg.below hb).2)
    obtain ⟨s, e0, hse⟩ := gputV_two nc g n f
    rw [hse] at K7
    obtain ⟨ln, ec, p, q, gg, ff, k9t, htx⟩ := pack5 t ht W hg
    have K9t := Lib.hid k9t
    have HTX := Lib.hid htx
    have K9s : Hid (e0 = 0 → ∀ w', Below W.heap.size W w' → Calls Tryz.prog 9 #[.string s] w' fun e w2 => ∃ A a B b, e = .returned (.tuple #[.agg #[.slice A nc a, .slice B n b], .int .i64 0, .int .i64 0]) ∧ Ss w2 A nc g ∧ Es w2 B n f ∧ Below w'.heap.size w' w2) := Lib.hid (by
      intro h0 w' hb
      subst h0
      refine k9_put hse (fun k hk => ?_) w' (hg.below hb).1
      obtain ⟨_, _, _, _, hc⟩ := hB (by omega)
      exact (hc k hk).1)
    have HA : Hid (∀ w', Below W.heap.size W w' → Ss w' A nc g ∧ Es w' B n f) := Lib.hid (fun w' hb => ⟨hA.below hb, hB.below hb⟩)
    have HB1 : Hid (Below W.heap.size W (W.alloc (.cells #[.slice A nc cc, .slice B n c] 25))) := Lib.hid ((Below.refl _ W).alloc (Nat.le_refl _) _)
    clear hA hB hg hse k9t htx
    go_enter Tryz.func5, Tryz.ntmps5
    go_wp2_with fail
    refine (K7.out _ HB1.out).mono ?_
    rintro _ w2 ⟨rfl, hb2⟩
    have HB2 : Hid (Below W.heap.size W w2) := Lib.hid (HB1.out.trans (hb2.mono HB1.out.size))
    by_cases e00 : e0 = 0
    · subst e00
      have K9 := Lib.hid (K9s.out rfl)
      obtain ⟨x0, x1⟩ : w2.cell? ⟨W.heap.size, 0, none⟩ = some (.slice A nc cc) ∧ w2.cell? ⟨W.heap.size, 1, none⟩ = some (.slice B n c) :=
        ⟨(hb2.cell (p := ⟨W.heap.size, 0, none⟩) (by simp)).trans (World.cell?_alloc_new _ _ _ _), (hb2.cell (p := ⟨W.heap.size, 1, none⟩) (by simp)).trans (World.cell?_alloc_new _ _ _ _)⟩
      have hl2 : W.heap.size < w2.heap.size := Nat.lt_of_lt_of_le (by simp) hb2.size
      clear hb2
      go_wp2_with fail
      refine (K9.out _ HB2.out).mono ?_
      rintro _ w3 ⟨A3, a3, B3, b3, rfl, sa3, sb3, hb3⟩
      have HC3 : Hid (Below w3.heap.size w3 (w3.alloc (.cells #[.slice A3 nc a3, .slice B3 n b3] 25))) := Lib.hid ((Below.refl _ w3).alloc (Nat.le_refl _) _)
      have HB3 : Hid (Below W.heap.size W (w3.alloc (.cells #[.slice A3 nc a3, .slice B3 n b3] 25))) := Lib.hid ((HB2.out.trans (hb3.mono HB2.out.size)).trans (HC3.out.mono (Nat.le_trans HB2.out.size hb3.size)))
      have K11 := Lib.hid (c11 A A3 nc cc a3 B B3 n c b3 g f (w3.alloc (.cells #[.slice A3 nc a3, .slice B3 n b3] 25)) (HA.out _ HB3.out).1 (sa3.below HC3.out) (HA.out _ HB3.out).2 (sb3.below HC3.out) (by omega) (by omega))
      rw [← (hb3.trans (HC3.out.mono hb3.size)).cell (p := ⟨W.heap.size, 0, none⟩) hl2] at x0
      rw [← (hb3.trans (HC3.out.mono hb3.size)).cell (p := ⟨W.heap.size, 1, none⟩) hl2] at x1
      have hne : W.heap.size ≠ w3.heap.size := by have := hb3.size; omega
      clear hb3 sa3 sb3 hl2
      go_wp2_with fail
      refine K11.out.mono ?_
      rintro _ w4 ⟨rfl, hb4⟩
      have HB4 : Hid (Below W.heap.size W w4) := Lib.hid (HB3.out.trans (hb4.mono HB3.out.size))
      clear hb4 x0 x1 hne
      by_cases h0 : ec = 0
      · subst h0
        obtain ⟨t2, N, P1, P2, hN, k7t, k12t, k12u, hal⟩ := HTX.out rfl
        have K7t := Lib.hid k7t
        have K12t := Lib.hid k12t
        have K12u := Lib.hid k12u
        have HAL := Lib.hid hal
        clear k7t k12t k12u hal
        go_wp2_with fail
        refine (K9t.out _ HB4.out).mono ?_
        rintro _ w5 ⟨A5, a5, B5, b5, rfl, hs5, hb5⟩
        obtain ⟨sa5, sb5⟩ := hs5 trivial
        have HC5 : Hid (Below w5.heap.size w5 (w5.alloc (.cells #[.slice A5 p a5, .slice B5 q b5] 25))) := Lib.hid ((Below.refl _ w5).alloc (Nat.le_refl _) _)
        have HB5 : Hid (Below W.heap.size W (w5.alloc (.cells #[.slice A5 p a5, .slice B5 q b5] 25))) := Lib.hid ((HB4.out.trans (hb5.mono HB4.out.size)).trans (HC5.out.mono (Nat.le_trans HB4.out.size hb5.size)))
        have K7 := Lib.hid (K7t.out _ A5 a5 B5 b5 HB5.out (sa5.below HC5.out) (sb5.below HC5.out))
        clear hs5 hb5 sa5 sb5
        go_wp2_with fail
        refine K7.out.mono ?_
        rintro _ w6 ⟨rfl, hb6⟩
        have HB6 : Hid (Below W.heap.size W w6) := Lib.hid (HB5.out.trans (hb6.mono HB5.out.size))
        clear hb6
        go_wp2_with fail
        refine (K12t.out _ HB6.out).mono ?_
        rintro _ w7 ⟨A7, c7, g7, rfl, hw7, hp7, hb7⟩
        have HB7 : Hid (Below W.heap.size W w7) := Lib.hid (HB6.out.trans (hb7.mono HB6.out.size))
        have HW7 := Lib.hid hw7
        have HP7 := Lib.hid hp7
        clear hb7 hw7 hp7
        go_wp2_with fail
        refine (K12u.out _ HB7.out).mono ?_
        rintro _ w8 ⟨A8, c8, g8, rfl, hw8, hp8, hb8⟩
        have HB8 : Hid (Below W.heap.size W w8) := Lib.hid (HB7.out.trans (hb8.mono HB7.out.size))
        have K13 := Lib.hid (Li.c16 A7 A8 N c7 c8 g7 g8 w8 (by omega) (HW7.out.below hb8) hw8 (HAL.out g7 g8 HP7.out hp8))
        clear hb8 hw8 hp8
        go_wp2_with fail
        refine K13.out.mono ?_
        rintro _ w9 ⟨rfl, q9, rfl⟩
        have HB9 : Hid (Below W.heap.size W (w8.drewN q9)) := Lib.hid (below_drewN HB8.out q9)
        go_wp2_with fail
        refine (K6.out _ HB9.out).mono ?_
        rintro _ w10 ⟨rfl, hb10⟩
        go_wp2_with fail
        go_ret
        exact ⟨rfl, HB9.out.trans (hb10.mono HB9.out.size)⟩
      · have hne : ((ec : Int) != 0) = true := by simp; omega
        clear HTX
        go_wp2_with fail
        refine (K9t.out _ HB4.out).mono ?_
        rintro _ w5 ⟨A5, a5, B5, b5, rfl, hs5, hb5⟩
        have HB5 : Hid (Below W.heap.size W (w5.alloc (.cells #[.slice A5 p a5, .slice B5 q b5] 25))) := Lib.hid ((HB4.out.trans (hb5.mono HB4.out.size)).alloc (Nat.le_trans HB4.out.size hb5.size) _)
        clear hs5 hb5
        go_wp2_with fail
        refine (K6.out _ HB5.out).mono ?_
        rintro _ w6 ⟨rfl, hb6⟩
        go_wp2_with fail
        go_ret
        exact ⟨rfl, HB5.out.trans (hb6.mono HB5.out.size)⟩
    · have hne0 : ((e0 : Int) == 0) = false := by simp; omega
      clear hb2 K9s
      by_cases h0 : ec = 0
      · subst h0
        obtain ⟨t2, N, P1, P2, hN, k7t, k12t, k12u, hal⟩ := HTX.out rfl
        have K7t := Lib.hid k7t
        have K12t := Lib.hid k12t
        have K12u := Lib.hid k12u
        have HAL := Lib.hid hal
        clear k7t k12t k12u hal
        go_wp2_with fail
        refine (K9t.out _ HB2.out).mono ?_
        rintro _ w5 ⟨A5, a5, B5, b5, rfl, hs5, hb5⟩
        obtain ⟨sa5, sb5⟩ := hs5 trivial
        have HC5 : Hid (Below w5.heap.size w5 (w5.alloc (.cells #[.slice A5 p a5, .slice B5 q b5] 25))) := Lib.hid ((Below.refl _ w5).alloc (Nat.le_refl _) _)
        have HB5 : Hid (Below W.heap.size W (w5.alloc (.cells #[.slice A5 p a5, .slice B5 q b5] 25))) := Lib.hid ((HB2.out.trans (hb5.mono HB2.out.size)).trans (HC5.out.mono (Nat.le_trans HB2.out.size hb5.size)))
        have K7 := Lib.hid (K7t.out _ A5 a5 B5 b5 HB5.out (sa5.below HC5.out) (sb5.below HC5.out))
        clear hs5 hb5 sa5 sb5
        go_wp2_with fail
        refine K7.out.mono ?_
        rintro _ w6 ⟨rfl, hb6⟩
        have HB6 : Hid (Below W.heap.size W w6) := Lib.hid (HB5.out.trans (hb6.mono HB5.out.size))
        clear hb6
        go_wp2_with fail
        refine (K12t.out _ HB6.out).mono ?_
        rintro _ w7 ⟨A7, c7, g7, rfl, hw7, hp7, hb7⟩
        have HB7 : Hid (Below W.heap.size W w7) := Lib.hid (HB6.out.trans (hb7.mono HB6.out.size))
        have HW7 := Lib.hid hw7
        have HP7 := Lib.hid hp7
        clear hb7 hw7 hp7
        go_wp2_with fail
        refine (K12u.out _ HB7.out).mono ?_
        rintro _ w8 ⟨A8, c8, g8, rfl, hw8, hp8, hb8⟩
        have HB8 : Hid (Below W.heap.size W w8) := Lib.hid (HB7.out.trans (hb8.mono HB7.out.size))
        have K13 := Lib.hid (Li.c16 A7 A8 N c7 c8 g7 g8 w8 (by omega) (HW7.out.below hb8) hw8 (HAL.out g7 g8 HP7.out hp8))
        clear hb8 hw8 hp8
        go_wp2_with fail
        refine K13.out.mono ?_
        rintro _ w9 ⟨rfl, q9, rfl⟩
        have HB9 : Hid (Below W.heap.size W (w8.drewN q9)) := Lib.hid (below_drewN HB8.out q9)
        go_wp2_with fail
        refine (K6.out _ HB9.out).mono ?_
        rintro _ w10 ⟨rfl, hb10⟩
        go_wp2_with fail
        go_ret
        exact ⟨rfl, HB9.out.trans (hb10.mono HB9.out.size)⟩
      · have hne : ((ec : Int) != 0) = true := by simp; omega
        clear HTX
        go_wp2_with fail
        refine (K9t.out _ HB2.out).mono ?_
        rintro _ w5 ⟨A5, a5, B5, b5, rfl, hs5, hb5⟩
        have HB5 : Hid (Below W.heap.size W (w5.alloc (.cells #[.slice A5 p a5, .slice B5 q b5] 25))) := Lib.hid ((HB2.out.trans (hb5.mono HB2.out.size)).alloc (Nat.le_trans HB2.out.size hb5.size) _)
        clear hs5 hb5
        go_wp2_with fail
        refine (K6.out _ HB5.out).mono ?_
        rintro _ w6 ⟨rfl, hb6⟩
        go_wp2_with fail
        go_ret
        exact ⟨rfl, HB5.out.trans (hb6.mono HB5.out.size)⟩
  · have HB1 : Hid (Below W.heap.size W (W.alloc (.cells #[.slice A nc cc, .slice B n c] 25))) := Lib.hid ((Below.refl _ W).alloc (Nat.le_refl _) _)
    clear hA hB hg
    by_cases h1 : n ≤ 300
    · have d1 : decide ((300 : Int) < (n : Int)) = false := by simp; omega
      have d2 : decide ((50 : Int) < (nc : Int)) = true := by simp; omega
      go_enter Tryz.func5, Tryz.ntmps5
      go_wp2_with fail
      refine (K6.out _ HB1.out).mono ?_
      rintro _ w4 ⟨rfl, hb4⟩
      go_wp2_with fail
      go_ret
      exact ⟨rfl, HB1.out.trans (hb4.mono HB1.out.size)⟩
    · have d1 : decide ((300 : Int) < (n : Int)) = true := by simp; omega
      go_enter Tryz.func5, Tryz.ntmps5
      go_wp2_with fail
      refine (K6.out _ HB1.out).mono ?_
      rintro _ w4 ⟨rfl, hb4⟩
      go_wp2_with fail
      go_ret
      exact ⟨rfl, HB1.out.trans (hb4.mono HB1.out.size)⟩
end Go.Proofs.YtblfnjdbihhglaaGreatDoor
namespace Go.Proofs.YtblfnjdbihhglaaGreatDoor
open Go.ChangeShapes Go.WideShapes Go.ChangeAt Go.RowKit
set_option linter.unusedVariables false
theorem bulk_one {H : Type} (d : DataW H) : 1 ≤ Rows.uptoBulk d := by
  cases d with
  | lit l => cases l <;> simp [Rows.uptoBulk]
  | nil => simp [Rows.uptoBulk]
  | ptr d => simp [Rows.uptoBulk]
  | slice elems spare => simp [Rows.uptoBulk]
  | agg parts => simp [Rows.uptoBulk]
  | iface t d => simp [Rows.uptoBulk]
  | map entries => simp [Rows.uptoBulk]
  | held h => simp [Rows.uptoBulk]
theorem bulk_part {H : Type} {d : DataW H} {l : List (DataW H)} (h : d ∈ l) : Rows.uptoBulk d ≤ Rows.uptoBulkAll l := by
  induction l with
  | nil => cases h
  | cons x r ih =>
    simp only [Rows.uptoBulkAll]
    cases List.mem_cons.1 h with
    | inl e => subst e; omega
    | inr e => have := ih e; omega
theorem part_small {H : Type} {d : DataW H} {l : List (DataW H)} (hk : Rows.uptoSmall H l = true) (h : d ∈ l) : Rows.uptoBulk d ≤ 1048576 := by
  have h1 : Rows.uptoBulkAll l ≤ 1048576 := of_decide_eq_true hk
  have := bulk_part h
  omega
theorem bulk_string {H : Type} {b : List UInt8} {l : List (DataW H)} (hk : Rows.uptoSmall H l = true) (h : DataW.lit (.string b) ∈ l) : b.length ≤ 1048576 := by
  have h1 := part_small hk h
  simp only [Rows.uptoBulk] at h1
  omega
theorem walk5u (v : Value) (t : ByteArray) {W : World} (hv : ∃ A nc cc B n c g f, Gra W v A nc cc B n c g f) (ht : t.size ≤ 1048576) (w : World) (hw : W = w) (hg : Gx w) : Calls Tryz.prog 5 #[v, .string t] w fun e w' => e = .returned (.bool true) ∧ Below w.heap.size w w' := walk5 v t (by omega) hv w hw hg
end Go.Proofs.YtblfnjdbihhglaaGreatDoor
