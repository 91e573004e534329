import Derived.Test.YtapdiionikfgpaaGreatDoorGr
namespace Go.Proofs.YtapdiionikfgpaaGreatDoor
open Go.ChangeShapes Go.WideShapes Go.ChangeAt Go.RowKit
set_option linter.unusedVariables false
set_option linter.unusedSimpArgs false
theorem far_of {w : World} {B e z n b : Nat} {v : Value} {xs : List Value} (h : w.ownsRow B e z v n xs) (hb : b < B) : v.ownBlock = none ∨ v.ownBlock ≠ some b := by
  rcases own_old h with h | ⟨g, h1, h2, h3⟩
  · exact Or.inl h
  · exact Or.inr (by rw [h1]; intro e; cases e; omega)
/-- a store below: a plan above stays -/
theorem PlIn.far {W : World} {B b : Nat} {SV CV : Value} {ss : List (ByteArray × Nat)} {D : List (Sv × Co)} (h : PlIn W B SV CV ss D) (hb : b < B) (j : Nat) (u : Value) : PlIn (W.setCell ⟨b, j, none⟩ u) B SV CV ss D := by
  have hg := grown_set (W := W) b j u
  exact ⟨h.1.kept hg (far_of h.1 hb), h.2.1.kept hg (far_of h.2.1 hb), fun i x hx => by
    have hX := h.2.2.1 i x hx
    exact hX.grown hg (far_of hX.1 hb) (far_of hX.2.1 hb) (far_of hX.2.2.1 hb) (far_of hX.2.2.2.1 hb) (far_of hX.2.2.2.2 hb), h.2.2.2⟩
/-- a compartment's name is stored -/
theorem PlIn.nm {W : World} {B i g c : Nat} {SV CV : Value} {ss : List (ByteArray × Nat)} {D : List (Sv × Co)} {x : Sv × Co} (h : PlIn W B SV CV ss D) (hx : D[i]? = some x) (hcv : CV = .slice (some ⟨g, 0, none⟩) D.length c) (u : ByteArray) :
    PlIn (W.setCell ⟨g, i * 6 + 0, none⟩ (.string u)) B SV CV ss (D.set i ((x.1, { x.2 with nm := u }) : Sv × Co)) := by
  obtain ⟨hS, hC, hL, hSep⟩ := h
  have hcb : CV.ownBlock = some g := by rw [hcv]; rfl
  have hset := grown_set (W := W) g (i * 6 + 0) (.string u)
  have far : ∀ {e zz n : Nat} {v : Value} {xs : List Value}, W.ownsRow B e zz v n xs → e ≠ 48 → (W.setCell ⟨g, i * 6 + 0, none⟩ (.string u)).ownsRow B e zz v n xs := fun hr he => hr.kept hset (by rw [← hcb]; exact own_apart hr hC he)
  have hi : i < D.length := (List.getElem?_eq_some_iff.1 hx).1
  have all : ∀ (m : Nat) (z : Sv × Co), D[m]? = some z → CoIn (W.setCell ⟨g, i * 6 + 0, none⟩ (.string u)) B z := fun m z hz => by
    have hZ := hL m z hz
    exact ⟨far hZ.1 (by decide), far hZ.2.1 (by decide), far hZ.2.2.1 (by decide), far hZ.2.2.2.1 (by decide), far hZ.2.2.2.2 (by decide)⟩
  refine ⟨far hS (by decide), ?_, fun m z hz => ?_, fun a b p q hab hp hq => ?_⟩
  · rw [hcv] at hC
    have h1 := (hC.stored (i * 6 + 0) (.string u)).1
    rw [flat_set cCo 6 len_cCo D i 0 x ((x.1, { x.2 with nm := u }) : Sv × Co) (.string u) hx (by decide) rfl] at h1
    rw [List.length_set, hcv]
    exact h1
  · by_cases hm : m = i
    · subst hm
      rw [List.getElem?_set_self hi] at hz
      cases hz
      exact all m x hx
    · rw [List.getElem?_set_ne (fun e => hm e.symm)] at hz
      exact all m z hz
  · have hp' : ∃ p', D[a]? = some p' ∧ p'.1 = p.1 := by
      by_cases hm : a = i
      · subst hm; rw [List.getElem?_set_self hi] at hp; cases hp; exact ⟨x, hx, rfl⟩
      · rw [List.getElem?_set_ne (fun e => hm e.symm)] at hp; exact ⟨p, hp, rfl⟩
    have hq' : ∃ q', D[b]? = some q' ∧ q'.1 = q.1 := by
      by_cases hm : b = i
      · subst hm; rw [List.getElem?_set_self hi] at hq; cases hq; exact ⟨x, hx, rfl⟩
      · rw [List.getElem?_set_ne (fun e => hm e.symm)] at hq; exact ⟨q, hq, rfl⟩
    obtain ⟨p', h1, h2⟩ := hp'
    obtain ⟨q', h3, h4⟩ := hq'
    rw [← h2, ← h4]
    exact hSep a b p' q' hab h1 h3
/-- an export's name is stored -/
theorem PlIn.en {W : World} {B i k g c : Nat} {SV CV : Value} {ss : List (ByteArray × Nat)} {D : List (Sv × Co)} {x : Sv × Co} {y : ByteArray × Nat × Nat} (h : PlIn W B SV CV ss D) (hx : D[i]? = some x) (hy : x.2.es[k]? = some y) (hev : x.1.e = .slice (some ⟨g, 0, none⟩) x.2.es.length c) (u : ByteArray) :
    PlIn (W.setCell ⟨g, k * 3 + 0, none⟩ (.string u)) B SV CV ss (D.set i ((x.1, { x.2 with es := x.2.es.set k (u, y.2) }) : Sv × Co)) := by
  obtain ⟨hS, hC, hL, hSep⟩ := h
  have hX := hL i x hx
  have hE := hX.2.1
  have heb : x.1.e.ownBlock = some g := by rw [hev]; rfl
  have hset := grown_set (W := W) g (k * 3 + 0) (.string u)
  have far : ∀ {e zz n : Nat} {v : Value} {xs : List Value}, W.ownsRow B e zz v n xs → e ≠ 50 → (W.setCell ⟨g, k * 3 + 0, none⟩ (.string u)).ownsRow B e zz v n xs := fun hr he => hr.kept hset (by rw [← heb]; exact own_apart hr hE he)
  have hi : i < D.length := (List.getElem?_eq_some_iff.1 hx).1
  refine ⟨far hS (by decide), ?_, fun m z hz => ?_, fun a b p q hab hp hq => ?_⟩
  · have h1 := far hC (by decide)
    rw [List.length_set]
    have h2 := flat_set cCo 6 len_cCo D i 2 x ((x.1, { x.2 with es := x.2.es.set k (u, y.2) }) : Sv × Co) x.1.e hx (by decide) rfl
    rw [← h2]
    have h3 : (D.flatMap cCo).set (i * 6 + 2) x.1.e = D.flatMap cCo := by
      apply List.ext_getElem?
      intro m
      by_cases hm : m = i * 6 + 2
      · subst hm
        have := flat_at cCo 6 len_cCo D i 2 x hx (by decide)
        rw [this, List.getElem?_set_self (List.getElem?_eq_some_iff.1 this).1]
        rfl
      · rw [List.getElem?_set_ne (fun e => hm e.symm)]
    rw [h3]
    exact h1
  · by_cases hm : m = i
    · subst hm
      rw [List.getElem?_set_self hi] at hz
      cases hz
      refine ⟨far hX.1 (by decide), ?_, far hX.2.2.1 (by decide), far hX.2.2.2.1 (by decide), far hX.2.2.2.2 (by decide)⟩
      rw [hev] at hE
      have h1 := (hE.stored (k * 3 + 0) (.string u)).1
      rw [flat_set cEs 3 len_cEs x.2.es k 0 y (u, y.2) (.string u) hy (by decide) rfl] at h1
      show World.ownsRow _ B 50 3 x.1.e (x.2.es.set k (u, y.2)).length _
      rw [List.length_set, hev]
      exact h1
    · rw [List.getElem?_set_ne (fun e => hm e.symm)] at hz
      have hZ := hL m z hz
      have hne : z.1.e.ownBlock = none ∨ z.1.e.ownBlock ≠ some g := by
        rw [← heb]
        rcases Nat.lt_or_ge m i with hlt | hge
        · exact (hSep m i z x hlt hz hx).2.1
        · rcases (hSep i m x z (by omega) hx hz).2.1 with h | h
          · rw [heb] at h; cases h
          · exact Or.inr (Ne.symm h)
      exact ⟨far hZ.1 (by decide), hZ.2.1.kept hset hne, far hZ.2.2.1 (by decide), far hZ.2.2.2.1 (by decide), far hZ.2.2.2.2 (by decide)⟩
  · have hp' : ∃ p', D[a]? = some p' ∧ p'.1 = p.1 := by
      by_cases hm : a = i
      · subst hm; rw [List.getElem?_set_self hi] at hp; cases hp; exact ⟨x, hx, rfl⟩
      · rw [List.getElem?_set_ne (fun e => hm e.symm)] at hp; exact ⟨p, hp, rfl⟩
    have hq' : ∃ q', D[b]? = some q' ∧ q'.1 = q.1 := by
      by_cases hm : b = i
      · subst hm; rw [List.getElem?_set_self hi] at hq; cases hq; exact ⟨x, hx, rfl⟩
      · rw [List.getElem?_set_ne (fun e => hm e.symm)] at hq; exact ⟨q, hq, rfl⟩
    obtain ⟨p', h1, h2⟩ := hp'
    obtain ⟨q', h3, h4⟩ := hq'
    rw [← h2, ← h4]
    exact hSep a b p' q' hab h1 h3
theorem Bx.far {W : World} {b b' t j : Nat} {cs : Array Value} {u : Value} (h : Bx W b cs t) (hne : b ≠ b') : Bx (W.setCell ⟨b', j, none⟩ u) b cs t := by
  unfold Bx
  rw [Below.heap_setCell _ _ _ _ hne]
  exact h
end Go.Proofs.YtapdiionikfgpaaGreatDoor
namespace Go.Proofs.YtapdiionikfgpaaGreatDoor
open Go.ChangeShapes Go.WideShapes Go.ChangeAt Go.RowKit
open Li (Gl)
set_option linter.unusedVariables false
set_option linter.unusedSimpArgs false
/-- Read's answer, in one shape -/
def RdG (q : Pm) (nn kk : Nat) (w : World) (e : Ending) (w' : World) : Prop := ∃ A n c E m d D B, w.heap.size ≤ B ∧ PlIn w' B (.slice A n c) (.slice E m d) q.ss D ∧ D.map (·.2) = q.cs ∧
  e = .returned (.tuple #[.agg #[.int .i64 (q.st : Int), .int .i64 (q.tr : Int), .slice A n c, .slice E m d, .int .i64 (q.s0 : Int), .string q.mn], .int .i64 (nn : Int), .int .i64 (kk : Int)]) ∧ Below w.heap.size w w'
noncomputable def rdQ (s : ByteArray) : Pm := (readP s).2.getD Pm.zero
theorem own_nil (W : World) (B e sz : Nat) : W.ownsRow B e sz (.slice none 0 0) 0 [] := ⟨by simp, Or.inl ⟨rfl, rfl⟩⟩
theorem rdg_of {s : ByteArray} {w w' : World} {e : Ending} (h : RdP s w e w') : RdG (rdQ s) (readP s).1.1 (readP s).1.2 w e w' := by
  obtain ⟨hb, ⟨n, k, h1, h2⟩ | ⟨q, SV, CV, D, B, h1, hB, hpl, hD, hsm, rfl⟩⟩ := h
  · refine ⟨none, 0, 0, none, 0, 0, [], w.heap.size, Nat.le_refl _, ?_, ?_, ?_, hb⟩
    · unfold rdQ; rw [h1]
      exact ⟨own_nil _ _ _ _, own_nil _ _ _ _, fun i x hx => by simp at hx, fun i j x y _ hx => by simp at hx⟩
    · unfold rdQ; rw [h1]; rfl
    · unfold rdQ; rw [h1, h2]; rfl
  · obtain ⟨A, c, e1, -⟩ := own_slice hpl.1
    obtain ⟨E, d, e2, -⟩ := own_slice hpl.2.1
    subst e1 e2
    have hq : rdQ s = q := by unfold rdQ; rw [h1]; rfl
    rw [hq, h1]
    exact ⟨A, _, c, E, _, d, D, B, hB, hpl, hD, rfl, hb⟩
theorem sm_rdQ (s : ByteArray) : Sm (rdQ s) := by
  rcases readP_or s with ⟨n, k, h⟩ | ⟨q, h⟩
  · unfold rdQ; rw [h]; exact sm_zero
  · have := sm_read h
    unfold rdQ; rw [h]; exact this
theorem okp_rdQ (s : ByteArray) : OkP (toI (rdQ s)) := by
  rcases readP_or s with ⟨n, k, h⟩ | ⟨q, h⟩
  · unfold rdQ; rw [h]
    show OkP (toI Pm.zero)
    refine okp_of ⟨by decide, fun x hx => (by cases hx), fun x hx => (by cases hx)⟩ ⟨by decide, by decide⟩ ⟨by decide, by decide⟩ (by decide)
  · have := okp_read h (sm_read h)
    unfold rdQ; rw [h]; exact this
def Lo (b : Nat) (D : List (Sv × Co)) : Prop := ∀ (i : Nat) (x : Sv × Co), D[i]? = some x → x.2.es.length ≤ 16 ∧ ∀ g, x.1.e.ownBlock = some g → g < b
theorem Lo.set {b i : Nat} {D : List (Sv × Co)} {x y : Sv × Co} (h : Lo b D) (hx : D[i]? = some x) (h1 : y.1 = x.1) (h2 : y.2.es.length = x.2.es.length) : Lo b (D.set i y) := by
  intro j z hz
  have hi : i < D.length := (List.getElem?_eq_some_iff.1 hx).1
  by_cases hm : j = i
  · subst hm
    rw [List.getElem?_set_self hi] at hz
    cases hz
    rw [h1, h2]
    exact h _ x hx
  · rw [List.getElem?_set_ne (fun e => hm e.symm)] at hz
    exact h j z hz
/-- the loops' world: p may be spoilt, q and the boxes stay -/
structure Jw (w : World) (B1 B2 b1 b2 L : Nat) (SVp CVp SVq CVq : Value) (cs1 cs2 : Array Value) (ss : List (ByteArray × Nat)) (Dq : List (Sv × Co)) (X : World) (D : List (Sv × Co)) : Prop where
  below : Below w.heap.size w X
  pl : PlIn X B1 SVp CVp ss D
  len : D.length = L
  lo : Lo b1 D
  ql : PlIn X B2 SVq CVq ss Dq
  x1 : Bx X b1 cs1 25
  x2 : Bx X b2 cs2 25
theorem Jw.nm {w : World} {B1 B2 b1 b2 L : Nat} {SVp CVp SVq CVq : Value} {cs1 cs2 : Array Value} {ss : List (ByteArray × Nat)} {Dq : List (Sv × Co)} {X : World} {D : List (Sv × Co)} (h : Jw w B1 B2 b1 b2 L SVp CVp SVq CVq cs1 cs2 ss Dq X D)
    {i g c : Nat} {x : Sv × Co} (hx : D[i]? = some x) (hcv : CVp = .slice (some ⟨g, 0, none⟩) L c) (h1 : w.heap.size ≤ B1) (h2 : b1 < B2) (h3 : b1 < b2) (h4 : B1 ≤ g) (h5 : g < b1) (u : ByteArray) :
    Jw w B1 B2 b1 b2 L SVp CVp SVq CVq cs1 cs2 ss Dq (X.setCell ⟨g, i * 6, none⟩ (.string u)) (D.set i ((x.1, { x.2 with nm := u }) : Sv × Co)) :=
  ⟨h.below.setCell (show w.heap.size ≤ g by omega) _, h.pl.nm hx (by rw [hcv, h.len]) u, by rw [List.length_set]; exact h.len, h.lo.set hx rfl rfl, h.ql.far (by omega) _ _, h.x1.far (by omega), h.x2.far (by omega)⟩
theorem Jw.en {w : World} {B1 B2 b1 b2 L : Nat} {SVp CVp SVq CVq : Value} {cs1 cs2 : Array Value} {ss : List (ByteArray × Nat)} {Dq : List (Sv × Co)} {X : World} {D : List (Sv × Co)} (h : Jw w B1 B2 b1 b2 L SVp CVp SVq CVq cs1 cs2 ss Dq X D)
    {i k g c : Nat} {x : Sv × Co} {y : ByteArray × Nat × Nat} (hx : D[i]? = some x) (hy : x.2.es[k]? = some y) (hev : x.1.e = .slice (some ⟨g, 0, none⟩) x.2.es.length c) (h1 : w.heap.size ≤ B1) (h2 : b1 < B2) (h3 : b1 < b2) (u : ByteArray) :
    Jw w B1 B2 b1 b2 L SVp CVp SVq CVq cs1 cs2 ss Dq (X.setCell ⟨g, k * 3, none⟩ (.string u)) (D.set i ((x.1, { x.2 with es := x.2.es.set k (u, y.2) }) : Sv × Co)) := by
  have hob : x.1.e.ownBlock = some g := by rw [hev]; rfl
  have hg1 : B1 ≤ g := by
    rcases own_old (h.pl.2.2.1 i x hx).2.1 with e | ⟨g', e1, e2, e3⟩
    · rw [hob] at e; cases e
    · rw [hob] at e1; cases e1; exact e3
  have hg2 : g < b1 := (h.lo i x hx).2 g hob
  exact ⟨h.below.setCell (show w.heap.size ≤ g by omega) _, h.pl.en hx hy hev u, by rw [List.length_set]; exact h.len, h.lo.set hx rfl (by simp), h.ql.far (by omega) _ _, h.x1.far (by omega), h.x2.far (by omega)⟩
set_option maxRecDepth 100000 in
set_option maxHeartbeats 8000000 in
theorem walk7 (s : ByteArray) (hs : s.size ≤ 1048576) {W : World} (w : World) (hw : W = w) (hg : Gx W) : Calls Tryz.prog 7 #[.string s] w fun e w' => e = .returned (.bool true) ∧ Below w.heap.size w w' := by
  subst hw
  have HG : Hid (∀ X, Below W.heap.size W X → Gl X ∧ Gt X) := Lib.hid (fun X hX => ⟨hg.1.below hX, hg.2.below hX⟩)
  have HSM := sm_rdQ s
  have HOK := Lib.hid (okp_rdQ s)
  have K8 : Hid (∀ X, Below W.heap.size W X → Calls Tryz.prog 8 #[.string s] X fun e w' => RdG (rdQ s) (readP s).1.1 (readP s).1.2 X e w') := Lib.hid (fun X hX => (n8 s (by omega) X (HG.out X hX).1).mono fun _ _ h => rdg_of h)
  have K9 : Hid (∀ X, Calls Tryz.prog 9 #[.string s] X fun e w' => RdG (rdQ s) (readP s).1.1 (readP s).1.2 X e w') := Lib.hid (fun X => (r9 s (by omega) X).mono fun _ _ h => rdg_of h)
  have K11 : Hid (∀ X, Below W.heap.size W X → Calls Tryz.prog 11 #[] X fun e w' => e = .returned (.bool true) ∧ Below X.heap.size X w') := Lib.hid (fun X hX => n11 X (HG.out X hX).1 (HG.out X hX).2)
  generalize rdQ s = q at HSM HOK K8 K9
  generalize (readP s).1.1 = nn at K8 K9
  generalize (readP s).1.2 = kk at K8 K9
  have HSM := Lib.hid HSM
  have e1 : ((kk : Int) != (kk : Int)) = false := by simp
  have e2 : ((kk : Int) == (kk : Int)) = true := by simp
  clear hg hs
  go_enter Tryz.func7, Tryz.ntmps7
  go_wp2_with fail
  refine (K8.out _ (Below.refl _ _)).mono ?_
  rintro _ w1 ⟨A1, n1, c1, E1, m1, d1, D1, B1, hB1, hp1, hD1, rfl, hb1⟩
  have HB1 := Lib.hid hb1
  obtain ⟨w2, hw2⟩ : ∃ w2, w1.alloc (.cells #[.int .i64 (q.st : Int), .int .i64 (q.tr : Int), .slice A1 n1 c1, .slice E1 m1 d1, .int .i64 (q.s0 : Int), .string q.mn] 25) = w2 := ⟨_, rfl⟩
  have HAw2 : Hid (Below w1.heap.size w1 w2) := Lib.hid (by rw [← hw2]; exact (Below.refl _ _).alloc (Nat.le_refl _) _)
  have HBw2 : Hid (Below W.heap.size W w2) := Lib.hid (HB1.out.trans (HAw2.out.mono HB1.out.size))
  have HXw2 : Hid (Bx w2 w1.heap.size #[.int .i64 (q.st : Int), .int .i64 (q.tr : Int), .slice A1 n1 c1, .slice E1 m1 d1, .int .i64 (q.s0 : Int), .string q.mn] 25) := Lib.hid (by rw [← hw2]; exact bx_alloc' _ _ _)
  have HLO : Hid (Lo w1.heap.size D1) := Lib.hid (fun i x hx => ⟨by
      have hm : x.2 ∈ q.cs := by rw [← hD1]; exact List.mem_map.2 ⟨x, List.mem_of_getElem? hx, rfl⟩
      exact (HSM.out.2.2 _ hm).2.1, fun g hgg => by
      rcases own_old (hp1.2.2.1 i x hx).2.1 with e | ⟨g', e1, e2, e3⟩
      · rw [hgg] at e; cases e
      · rw [hgg] at e1; cases e1; exact e2⟩)
  have HCB : Hid (∀ g, (Value.slice E1 m1 d1).ownBlock = some g → B1 ≤ g ∧ g < w1.heap.size) := Lib.hid (fun g hgg => by
      rcases own_old hp1.2.1 with e | ⟨g', e1, e2, e3⟩
      · rw [hgg] at e; cases e
      · rw [hgg] at e1; cases e1; exact ⟨e3, e2⟩)
  have HW2 : Hid (w2.heap.size = w1.heap.size + 1) := Lib.hid (by rw [← hw2]; simp)
  have HP2 := Lib.hid (hp1.below HAw2.out)
  have HWB := Lib.hid hB1
  have HD1 := Lib.hid hD1
  clear hp1 hB1 hD1 hb1
  go_wp2_with fail
  refine (K9.out _).mono ?_
  rintro _ w3 ⟨A2, n2, c2, E2, m2, d2, D2, B2, hB2, hp2, hD2, rfl, hb3⟩
  have HB3 : Hid (Below W.heap.size W w3) := Lib.hid (HBw2.out.trans (hb3.mono HBw2.out.size))
  obtain ⟨w4, hw4⟩ : ∃ w4, w3.alloc (.cells #[.int .i64 (q.st : Int), .int .i64 (q.tr : Int), .slice A2 n2 c2, .slice E2 m2 d2, .int .i64 (q.s0 : Int), .string q.mn] 25) = w4 := ⟨_, rfl⟩
  have HAw4 : Hid (Below w3.heap.size w3 w4) := Lib.hid (by rw [← hw4]; exact (Below.refl _ _).alloc (Nat.le_refl _) _)
  have HBw4 : Hid (Below W.heap.size W w4) := Lib.hid (HB3.out.trans (HAw4.out.mono HB3.out.size))
  have HXw4 : Hid (Bx w4 w3.heap.size #[.int .i64 (q.st : Int), .int .i64 (q.tr : Int), .slice A2 n2 c2, .slice E2 m2 d2, .int .i64 (q.s0 : Int), .string q.mn] 25) := Lib.hid (by rw [← hw4]; exact bx_alloc' _ _ _)
  have HLT : Hid (w1.heap.size < B2 ∧ w1.heap.size < w3.heap.size) := Lib.hid (by have h1 := HW2.out; have := hb3.size; omega)
  have HP4 := Lib.hid ((HP2.out.below hb3).below HAw4.out)
  have HQ4 := Lib.hid (hp2.below HAw4.out)
  have HX14 := Lib.hid ((HXw2.out.below hb3).below HAw4.out)
  have HD2 := Lib.hid hD2
  have K12 := Lib.hid (n12 _ _ (toI q) _ w4 (pl_ly HP4.out HD1.out) HOK.out (HG.out _ HBw4.out).2 (HG.out _ HBw4.out).1)
  unfold plV at K12
  simp only [toI] at K12
  have x0 := HX14.out.cell 0
  have x1 := HX14.out.cell 1
  have x2 := HX14.out.cell 2
  have x3 := HX14.out.cell 3
  have x4 := HX14.out.cell 4
  have x5 := HX14.out.cell 5
  simp at x0 x1 x2 x3 x4 x5
  clear hp2 hB2 hD2 hb3 K9
  go_wp2_with fail
  with_reducible refine K12.out.mono ?_
  rintro _ w5 ⟨rfl, hb5⟩
  have HB5 : Hid (Below W.heap.size W w5) := Lib.hid (HBw4.out.trans (hb5.mono HBw4.out.size))
  have HP5 := Lib.hid (HP4.out.below hb5)
  have HQ5 := Lib.hid (HQ4.out.below hb5)
  have HX15 := Lib.hid (HX14.out.below hb5)
  have HX25 := Lib.hid (HXw4.out.below hb5)
  have K10 := Lib.hid (kSame (pl_ly HP5.out HD1.out) (pl_ly HQ5.out HD2.out) HOK.out.1)
  simp only [toI] at K10
  clear x0 x1 x2 x3 x4 x5
  have x0 := HX15.out.cell 0
  have x1 := HX15.out.cell 1
  have x2 := HX15.out.cell 2
  have x3 := HX15.out.cell 3
  have x4 := HX15.out.cell 4
  have x5 := HX15.out.cell 5
  simp at x0 x1 x2 x3 x4 x5
  have y0 := HX25.out.cell 0
  have y1 := HX25.out.cell 1
  have y2 := HX25.out.cell 2
  have y3 := HX25.out.cell 3
  have y4 := HX25.out.cell 4
  have y5 := HX25.out.cell 5
  simp at y0 y1 y2 y3 y4 y5
  clear hb5 K12
  go_wp2_with fail
  with_reducible refine K10.out.mono ?_
  rintro _ w6 ⟨rfl, hb6⟩
  have HB6 : Hid (Below W.heap.size W w6) := Lib.hid (HB5.out.trans (hb6.mono HB5.out.size))
  obtain ⟨b1, hbe1⟩ : ∃ b1, w1.heap.size = b1 := ⟨_, rfl⟩
  obtain ⟨b2, hbe2⟩ : ∃ b2, w3.heap.size = b2 := ⟨_, rfl⟩
  have HJ6 : Hid (Jw W B1 B2 b1 b2 D1.length (.slice A1 n1 c1) (.slice E1 m1 d1) (.slice A2 n2 c2) (.slice E2 m2 d2) #[.int .i64 (q.st : Int), .int .i64 (q.tr : Int), .slice A1 n1 c1, .slice E1 m1 d1, .int .i64 (q.s0 : Int), .string q.mn] #[.int .i64 (q.st : Int), .int .i64 (q.tr : Int), .slice A2 n2 c2, .slice E2 m2 d2, .int .i64 (q.s0 : Int), .string q.mn] q.ss D2 w6 D1) := Lib.hid ⟨HB6.out, HP5.out.below hb6, rfl, hbe1 ▸ HLO.out, HQ5.out.below hb6, hbe1 ▸ (HX15.out.below hb6), hbe2 ▸ (HX25.out.below hb6)⟩
  rw [hbe1] at HCB
  rw [hbe1, hbe2] at HLT
  rw [hbe1, hbe2]
  have HM1 : Hid (m1 = D1.length) := Lib.hid (by
    obtain ⟨A, c, e, -⟩ := own_slice HJ6.out.pl.2.1
    cases e; rfl)
  clear x0 x1 x2 x3 x4 x5 y0 y1 y2 y3 y4 y5
  clear hb6 K10 hbe1 hbe2 HX15 HX25 HP5 HQ5 HX14 HXw4 HP4 HQ4 HXw2 HP2 HLO
  go_wp2_with fail
  go_loopw [9, 10] (fun i _ wr => ∃ k, k ≤ D1.length ∧ i = .int .i64 (k : Int) ∧ ∃ D, Jw W B1 B2 b1 b2 D1.length (.slice A1 n1 c1) (.slice E1 m1 d1) (.slice A2 n2 c2) (.slice E2 m2 d2) #[.int .i64 (q.st : Int), .int .i64 (q.tr : Int), .slice A1 n1 c1, .slice E1 m1 d1, .int .i64 (q.s0 : Int), .string q.mn] #[.int .i64 (q.st : Int), .int .i64 (q.tr : Int), .slice A2 n2 c2, .slice E2 m2 d2, .int .i64 (q.s0 : Int), .string q.mn] q.ss D2 wr D) (fun i _ _ => D1.length - (intOf i).toNat)
  case atStart => exact ⟨0, Nat.zero_le _, rfl, D1, HJ6.out⟩
  case round =>
    obtain ⟨k, hk, rfl, D, hj⟩ := hrel
    have HJ := Lib.hid hj
    have x3 := HJ.out.x1.cell 3
    simp at x3
    have HM1' := HM1.out
    subst HM1'
    clear hj
    by_cases hlt : k < D1.length
    · obtain ⟨x, hx⟩ : ∃ x, D[k]? = some x := ⟨_, List.getElem?_eq_getElem (by rw [HJ.out.len]; exact hlt)⟩
      have hkn : (k : Int) < (D1.length : Int) := by omega
      have hkb : k ≤ 1048576 := by have h1 := congrArg List.length HD1.out; have h2 := HSM.out.1; rw [List.length_map] at h1; omega
      have hkw : IntKind.i64.wrap (k : Int) = (k : Int) := by rw [IntKind.wrap_i64]; omega
      obtain ⟨g, cg, hv, -, -⟩ := HJ.out.pl.2.1.form (by rw [HJ.out.len]; omega)
      simp only [Value.slice.injEq] at hv
      obtain ⟨rfl, -, -⟩ := hv
      have HGB := Lib.hid (HCB.out g rfl)
      have hkl : k < D.length := by rw [HJ.out.len]; exact hlt
      have y0 : wr.cell? ⟨g, k * 6, none⟩ = some (.string x.2.nm) := by
        have h1 := HJ.out.pl.2.1
        rw [HJ.out.len] at h1
        have h2 := h1.cellAt (k * 6 + 0) (by omega)
        rw [flat_at cCo 6 len_cCo D k 0 x hx (by decide)] at h2
        exact h2
      have f0 : wr.frozen? ⟨g, k * 6, none⟩ = false := by
        have h1 := HJ.out.pl.2.1
        rw [HJ.out.len] at h1
        exact h1.frozenAt (k * 6)
      obtain ⟨A5, c5, e5, -⟩ := own_slice (HJ.out.pl.2.2.1 k x hx).2.1
      obtain ⟨M, hM⟩ : ∃ M, x.2.es.length = M := ⟨_, rfl⟩
      rw [hM] at e5
      have HMB : Hid (M ≤ 16) := Lib.hid (by rw [← hM]; exact (HJ.out.lo k x hx).1)
      obtain ⟨w7, hw7⟩ : ∃ w7, wr.setCell ⟨g, k * 6, none⟩ (.string ⟨#[45]⟩) = w7 := ⟨_, rfl⟩
      have HJ7 : Hid (Jw W B1 B2 b1 b2 D1.length (.slice A1 n1 c1) (.slice (some ⟨g, 0, none⟩) D1.length d1) (.slice A2 n2 c2) (.slice E2 m2 d2) #[.int .i64 (q.st : Int), .int .i64 (q.tr : Int), .slice A1 n1 c1, .slice (some ⟨g, 0, none⟩) D1.length d1, .int .i64 (q.s0 : Int), .string q.mn] #[.int .i64 (q.st : Int), .int .i64 (q.tr : Int), .slice A2 n2 c2, .slice E2 m2 d2, .int .i64 (q.s0 : Int), .string q.mn] q.ss D2 w7 (D.set k ((x.1, { x.2 with nm := ⟨#[45]⟩ }) : Sv × Co))) := Lib.hid (hw7 ▸ HJ.out.nm hx rfl HWB.out HLT.out.1 HLT.out.2 HGB.out.1 HGB.out.2 ⟨#[45]⟩)
      have HX7 : Hid ((D.set k ((x.1, { x.2 with nm := ⟨#[45]⟩ }) : Sv × Co))[k]? = some (x.1, { x.2 with nm := ⟨#[45]⟩ })) := Lib.hid (List.getElem?_set_self hkl)
      have HE5 := Lib.hid e5
      have HM5 := Lib.hid hM
      have HK := Lib.hid hlt
      clear hx hkl e5 hM hlt
      go_wp2_with fail
      go_loopw [10] (fun j wr => ∃ m, m ≤ M ∧ j = .int .i64 (m : Int) ∧ ∃ D x, Jw W B1 B2 b1 b2 D1.length (.slice A1 n1 c1) (.slice (some ⟨g, 0, none⟩) D1.length d1) (.slice A2 n2 c2) (.slice E2 m2 d2) #[.int .i64 (q.st : Int), .int .i64 (q.tr : Int), .slice A1 n1 c1, .slice (some ⟨g, 0, none⟩) D1.length d1, .int .i64 (q.s0 : Int), .string q.mn] #[.int .i64 (q.st : Int), .int .i64 (q.tr : Int), .slice A2 n2 c2, .slice E2 m2 d2, .int .i64 (q.s0 : Int), .string q.mn] q.ss D2 wr D ∧ D[k]? = some x ∧ x.1.e = .slice A5 M c5 ∧ x.2.es.length = M) (fun j _ => M - (intOf j).toNat)
      case atStart => exact ⟨0, Nat.zero_le _, rfl, _, _, HJ7.out, HX7.out, HE5.out, HM5.out⟩
      case round =>
        obtain ⟨m, hm, rfl, D', x', hj, hx', he', hM'⟩ := hrel
        have HJ' := Lib.hid hj
        have z3 := HJ'.out.x1.cell 3
        simp at z3
        have z2 : wr.cell? ⟨g, k * 6 + 2, none⟩ = some (.slice A5 M c5) := by
          have h1 := HJ'.out.pl.2.1
          have h3 := HK.out
          rw [HJ'.out.len] at h1
          have h2 := h1.cellAt (k * 6 + 2) (by omega)
          rw [flat_at cCo 6 len_cCo D' k 2 x' hx' (by decide)] at h2
          rw [h2, ← he']
          rfl
        clear hj
        by_cases hlt : m < M
        · obtain ⟨y, hy⟩ : ∃ y, x'.2.es[m]? = some y := ⟨_, List.getElem?_eq_getElem (by omega)⟩
          have hE := (HJ'.out.pl.2.2.1 k x' hx').2.1
          rw [he', hM'] at hE
          obtain ⟨g5, c6, hv, -, -⟩ := hE.form (by omega)
          simp only [Value.slice.injEq] at hv
          obtain ⟨rfl, -, -⟩ := hv
          have z0 : wr.cell? ⟨g5, m * 3, none⟩ = some (.string y.1) := by
            have h2 := hE.cellAt (m * 3 + 0) (by omega)
            rw [flat_at cEs 3 len_cEs x'.2.es m 0 y hy (by decide)] at h2
            exact h2
          have f5 : wr.frozen? ⟨g5, m * 3, none⟩ = false := hE.frozenAt (m * 3)
          have hmn : (m : Int) < (M : Int) := by omega
          have hmb : m ≤ 1048576 := by have := HMB.out; omega
          have hmw : IntKind.i64.wrap (m : Int) = (m : Int) := by rw [IntKind.wrap_i64]; omega
          have hk' : k < D'.length := (List.getElem?_eq_some_iff.1 hx').1
          obtain ⟨w8, hw8⟩ : ∃ w8, wr.setCell ⟨g5, m * 3, none⟩ (.string ⟨#[45]⟩) = w8 := ⟨_, rfl⟩
          have HJ8 : Hid (Jw W B1 B2 b1 b2 D1.length (.slice A1 n1 c1) (.slice (some ⟨g, 0, none⟩) D1.length d1) (.slice A2 n2 c2) (.slice E2 m2 d2) #[.int .i64 (q.st : Int), .int .i64 (q.tr : Int), .slice A1 n1 c1, .slice (some ⟨g, 0, none⟩) D1.length d1, .int .i64 (q.s0 : Int), .string q.mn] #[.int .i64 (q.st : Int), .int .i64 (q.tr : Int), .slice A2 n2 c2, .slice E2 m2 d2, .int .i64 (q.s0 : Int), .string q.mn] q.ss D2 w8 (D'.set k ((x'.1, { x'.2 with es := x'.2.es.set m (⟨#[45]⟩, y.2) }) : Sv × Co))) := Lib.hid (hw8 ▸ HJ'.out.en hx' hy (by rw [he', hM']) HWB.out HLT.out.1 HLT.out.2 ⟨#[45]⟩)
          have HX8 : Hid ((D'.set k ((x'.1, { x'.2 with es := x'.2.es.set m (⟨#[45]⟩, y.2) }) : Sv × Co))[k]? = some (x'.1, { x'.2 with es := x'.2.es.set m (⟨#[45]⟩, y.2) })) := Lib.hid (List.getElem?_set_self hk')
          have HE8 := Lib.hid he'
          have HM8 : Hid ((x'.2.es.set m (⟨#[45]⟩, y.2)).length = M) := Lib.hid (by rw [List.length_set]; exact hM')
          have HLM := Lib.hid hlt
          clear hx' hy hE hk' he' hM' hlt
          go_wp2_with fail
          go_roundw
          case rel => exact ⟨m + 1, HLM.out, by go_num, _, _, HJ8.out, HX8.out, HE8.out, HM8.out⟩
          case measure => simp [intOf]; have := HLM.out; omega
        · obtain rfl : m = M := by omega
          clear hx' he' hM' hm hlt
          go_wp2_with fail
          go_roundw
          case rel => exact ⟨k + 1, HK.out, by go_num, D', HJ'.out⟩
          case measure => simp [intOf]; have := HK.out; omega
    · obtain rfl : k = D1.length := by omega
      have HBr := Lib.hid HJ.out.below
      have HQr := Lib.hid HJ.out.ql
      have HXr := Lib.hid HJ.out.x2
      clear hk hlt
      go_wp2_with fail
      refine (K8.out _ HBr.out).mono ?_
      rintro _ w8 ⟨A3, n3, c3, E3, m3, d3, D3, B3, hB3, hp3, hD3, rfl, hb8⟩
      have HB8 : Hid (Below W.heap.size W w8) := Lib.hid (HBr.out.trans (hb8.mono HBr.out.size))
      obtain ⟨w9, hw9⟩ : ∃ w9, w8.alloc (.cells #[.int .i64 (q.st : Int), .int .i64 (q.tr : Int), .slice A3 n3 c3, .slice E3 m3 d3, .int .i64 (q.s0 : Int), .string q.mn] 25) = w9 := ⟨_, rfl⟩
      have HAw9 : Hid (Below w8.heap.size w8 w9) := Lib.hid (by rw [← hw9]; exact (Below.refl _ _).alloc (Nat.le_refl _) _)
      have HBw9 : Hid (Below W.heap.size W w9) := Lib.hid (HB8.out.trans (HAw9.out.mono HB8.out.size))
      have HXw9 : Hid (Bx w9 w8.heap.size #[.int .i64 (q.st : Int), .int .i64 (q.tr : Int), .slice A3 n3 c3, .slice E3 m3 d3, .int .i64 (q.s0 : Int), .string q.mn] 25) := Lib.hid (by rw [← hw9]; exact bx_alloc' _ _ _)
      have HX29 := Lib.hid ((HXr.out.below hb8).below HAw9.out)
      have K10 := Lib.hid (kSame (pl_ly (hp3.below HAw9.out) hD3) (pl_ly ((HQr.out.below hb8).below HAw9.out) HD2.out) HOK.out.1)
      simp only [toI] at K10
      have y0 := HX29.out.cell 0
      have y1 := HX29.out.cell 1
      have y2 := HX29.out.cell 2
      have y3 := HX29.out.cell 3
      have y4 := HX29.out.cell 4
      have y5 := HX29.out.cell 5
      simp at y0 y1 y2 y3 y4 y5
      have z0 := HXw9.out.cell 0
      have z1 := HXw9.out.cell 1
      have z2 := HXw9.out.cell 2
      have z3 := HXw9.out.cell 3
      have z4 := HXw9.out.cell 4
      have z5 := HXw9.out.cell 5
      simp at z0 z1 z2 z3 z4 z5
      clear hp3 hB3 hD3 hb8 x3
      go_wp2_with fail
      with_reducible refine K10.out.mono ?_
      rintro _ w10 ⟨rfl, hb10⟩
      have HB10 : Hid (Below W.heap.size W w10) := Lib.hid (HBw9.out.trans (hb10.mono HBw9.out.size))
      clear hb10 K10 y0 y1 y2 y3 y4 y5 z0 z1 z2 z3 z4 z5
      go_wp2_with fail
      refine (K11.out _ HB10.out).mono ?_
      rintro _ w11 ⟨rfl, hb11⟩
      have HB11 : Hid (Below W.heap.size W w11) := Lib.hid (HB10.out.trans (hb11.mono HB10.out.size))
      clear hb11
      go_wp2_with fail
      go_ret
      exact ⟨rfl, HB11.out⟩
end Go.Proofs.YtapdiionikfgpaaGreatDoor
