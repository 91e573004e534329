import Derived.Test.YtapdiionikfgpaaGreatDoorRaz
import Derived.WalkSmall
namespace Go.Proofs.YtapdiionikfgpaaGreatDoor
open Go.ChangeShapes Go.WideShapes Go.ChangeAt Go.RowKit
set_option linter.unusedVariables false
set_option linter.unusedSimpArgs false
/-- a compartment's lists lie there -/
def CoL (W : World) (x : Sv × CoI) : Prop := Ly W x.1.f 2 iFs x.2.fs ∧ Ly W x.1.e 3 iEs x.2.es ∧ Ly W x.1.i 2 iIs x.2.is ∧ Ly W x.1.d 3 iDs x.2.ds ∧ Ly W x.1.g 2 iGs x.2.gs
theorem CoL.below {W W' : World} {x : Sv × CoI} (h : CoL W x) (hb : Below W.heap.size W W') : CoL W' x := ⟨h.1.below hb, h.2.1.below hb, h.2.2.1.below hb, h.2.2.2.1.below hb, h.2.2.2.2.below hb⟩
def BdC (c : CoI) : Prop := c.fs.length ≤ 1048576 ∧ c.es.length ≤ 1048576 ∧ c.is.length ≤ 1048576 ∧ c.ds.length ≤ 1048576 ∧ c.gs.length ≤ 1048576
def PlL (W : World) (SV CV : Value) (P : PlI) (D : List (Sv × CoI)) : Prop := Ly W SV 2 iSs P.ss ∧ Ly W CV 6 iCo D ∧ D.map (·.2) = P.cs ∧ ∀ x ∈ D, CoL W x
theorem PlL.below {W W' : World} {SV CV : Value} {P : PlI} {D : List (Sv × CoI)} (h : PlL W SV CV P D) (hb : Below W.heap.size W W') : PlL W' SV CV P D := ⟨h.1.below hb, h.2.1.below hb, h.2.2.1, fun x hx => (h.2.2.2 x hx).below hb⟩
def BdP (P : PlI) : Prop := P.ss.length ≤ 1048576 ∧ P.cs.length ≤ 1048576 ∧ ∀ c ∈ P.cs, BdC c
def plV (SV CV : Value) (P : PlI) : Value := .agg #[.int .i64 P.st, .int .i64 P.tr, SV, CV, .int .i64 P.s0, .string P.mn]
/-- a yes or no that tells whether -/
def YN (e : Ending) (p : Prop) : Prop := ∃ b : Bool, e = .returned (.bool b) ∧ (b = true ↔ p)
theorem isS_ly {α : Type} {W : World} {v : Value} {sz : Nat} {f : α → List Value} {L : List α} (h : Ly W v sz f L) : IsS v := by
  obtain ⟨A, c, e, _⟩ := h
  exact ⟨A, _, c, e⟩
theorem bx_alloc' (w : World) (cs : Array Value) (t : Nat) : Bx (w.alloc (.cells cs t)) w.heap.size cs t := heap_alloc_new w _
theorem co_ext {a b : CoI} (h0 : a.nm = b.nm) (h1 : a.fs = b.fs) (h2 : a.es = b.es) (h3 : a.is = b.is) (h4 : a.ds = b.ds) (h5 : a.gs = b.gs) : a = b := by
  cases a; cases b; simp only at h0 h1 h2 h3 h4 h5; subst h0 h1 h2 h3 h4 h5; rfl
set_option maxRecDepth 100000 in
set_option maxHeartbeats 8000000 in
/-- same.compartments -/
theorem n63 (x y : Sv × CoI) (w : World) (h1 : CoL w x) (h2 : CoL w y) (b1 : BdC x.2) (b2 : BdC y.2) :
    Calls Tryz.prog 63 #[.agg #[.string x.2.nm, x.1.f, x.1.e, x.1.i, x.1.d, x.1.g], .agg #[.string y.2.nm, y.1.f, y.1.e, y.1.i, y.1.d, y.1.g]] w fun e w' => YN e (x.2 = y.2) ∧ Below w.heap.size w w' := by
  have HBA : Hid (Below w.heap.size w ((w.alloc (.cells #[.string x.2.nm, x.1.f, x.1.e, x.1.i, x.1.d, x.1.g] 48)).alloc (.cells #[.string y.2.nm, y.1.f, y.1.e, y.1.i, y.1.d, y.1.g] 48))) := Lib.hid (((Below.refl _ w).alloc (Nat.le_refl _) _).alloc (by simp) _)
  obtain ⟨W0, hW0⟩ : ∃ W0, ((w.alloc (.cells #[.string x.2.nm, x.1.f, x.1.e, x.1.i, x.1.d, x.1.g] 48)).alloc (.cells #[.string y.2.nm, y.1.f, y.1.e, y.1.i, y.1.d, y.1.g] 48)) = W0 := ⟨_, rfl⟩
  rw [hW0] at HBA
  have HX0 : Hid (Bx W0 w.heap.size #[.string x.2.nm, x.1.f, x.1.e, x.1.i, x.1.d, x.1.g] 48) := Lib.hid (by rw [← hW0]; exact (show Bx (w.alloc (.cells #[.string x.2.nm, x.1.f, x.1.e, x.1.i, x.1.d, x.1.g] 48)) w.heap.size #[.string x.2.nm, x.1.f, x.1.e, x.1.i, x.1.d, x.1.g] 48 from heap_alloc_new w _).below ((Below.refl _ _).alloc (Nat.le_refl _) _))
  have HY0 : Hid (Bx W0 (w.heap.size + 1) #[.string y.2.nm, y.1.f, y.1.e, y.1.i, y.1.d, y.1.g] 48) := Lib.hid (by
    rw [← hW0]
    have := heap_alloc_new (w.alloc (.cells #[.string x.2.nm, x.1.f, x.1.e, x.1.i, x.1.d, x.1.g] 48)) (.cells #[.string y.2.nm, y.1.f, y.1.e, y.1.i, y.1.d, y.1.g] 48)
    rw [show (w.alloc (.cells #[.string x.2.nm, x.1.f, x.1.e, x.1.i, x.1.d, x.1.g] 48)).heap.size = w.heap.size + 1 from by simp] at this
    exact this)
  obtain ⟨⟨F1, n1, c1, g1⟩, ⟨F2, n2, c2, g2⟩, ⟨F3, n3, c3, g3⟩, ⟨F4, n4, c4, g4⟩, ⟨F5, n5, c5, g5⟩⟩ : IsS x.1.f ∧ IsS x.1.e ∧ IsS x.1.i ∧ IsS x.1.d ∧ IsS x.1.g := ⟨isS_ly h1.1, isS_ly h1.2.1, isS_ly h1.2.2.1, isS_ly h1.2.2.2.1, isS_ly h1.2.2.2.2⟩
  obtain ⟨⟨E1, m1, d1, k1⟩, ⟨E2, m2, d2, k2⟩, ⟨E3, m3, d3, k3⟩, ⟨E4, m4, d4, k4⟩, ⟨E5, m5, d5, k5⟩⟩ : IsS y.1.f ∧ IsS y.1.e ∧ IsS y.1.i ∧ IsS y.1.d ∧ IsS y.1.g := ⟨isS_ly h2.1, isS_ly h2.2.1, isS_ly h2.2.2.1, isS_ly h2.2.2.2.1, isS_ly h2.2.2.2.2⟩
  have Hfs : Hid (∀ W, Below w.heap.size w W → Calls Tryz.prog 107 #[x.1.f, y.1.f] W fun e w' => e = .returned (.bool (decide (x.2.fs = y.2.fs))) ∧ Below W.heap.size W w') := Lib.hid (fun W hW => n107 _ _ _ _ W (h1.1.below hW) (h2.1.below hW) b1.1 b2.1)
  have Hes : Hid (∀ W, Below w.heap.size w W → Calls Tryz.prog 108 #[x.1.e, y.1.e] W fun e w' => e = .returned (.bool (decide (x.2.es = y.2.es))) ∧ Below W.heap.size W w') := Lib.hid (fun W hW => n108 _ _ _ _ W (h1.2.1.below hW) (h2.2.1.below hW) b1.2.1 b2.2.1)
  have His : Hid (∀ W, Below w.heap.size w W → Calls Tryz.prog 109 #[x.1.i, y.1.i] W fun e w' => e = .returned (.bool (decide (x.2.is = y.2.is))) ∧ Below W.heap.size W w') := Lib.hid (fun W hW => n109 _ _ _ _ W (h1.2.2.1.below hW) (h2.2.2.1.below hW) b1.2.2.1 b2.2.2.1)
  have Hds : Hid (∀ W, Below w.heap.size w W → Calls Tryz.prog 110 #[x.1.d, y.1.d] W fun e w' => e = .returned (.bool (decide (x.2.ds = y.2.ds))) ∧ Below W.heap.size W w') := Lib.hid (fun W hW => n110 _ _ _ _ W (h1.2.2.2.1.below hW) (h2.2.2.2.1.below hW) b1.2.2.2.1 b2.2.2.2.1)
  have Hgs : Hid (∀ W, Below w.heap.size w W → Calls Tryz.prog 111 #[x.1.g, y.1.g] W fun e w' => e = .returned (.bool (decide (x.2.gs = y.2.gs))) ∧ Below W.heap.size W w') := Lib.hid (fun W hW => n111 _ _ _ _ W (h1.2.2.2.2.below hW) (h2.2.2.2.2.below hW) b1.2.2.2.2 b2.2.2.2.2)
  obtain ⟨⟨xf, xe, xi, xd, xg⟩, xc⟩ := x
  obtain ⟨⟨yf, ye, yi, yd, yg⟩, yc⟩ := y
  simp only at g1 g2 g3 g4 g5 k1 k2 k3 k4 k5 Hfs Hes His Hds Hgs HX0 HY0
  subst g1 g2 g3 g4 g5 k1 k2 k3 k4 k5
  have HU : Hid (∀ W, Below W0.heap.size W0 W → Bx W w.heap.size #[.string xc.nm, .slice F1 n1 c1, .slice F2 n2 c2, .slice F3 n3 c3, .slice F4 n4 c4, .slice F5 n5 c5] 48 ∧ Bx W (w.heap.size + 1) #[.string yc.nm, .slice E1 m1 d1, .slice E2 m2 d2, .slice E3 m3 d3, .slice E4 m4 d4, .slice E5 m5 d5] 48) := Lib.hid (fun W hW => ⟨HX0.out.below hW, HY0.out.below hW⟩)
  have HB0 : Hid (Below W0.heap.size W0 W0) := Lib.hid (Below.refl _ _)
  clear h1 h2 b1 b2
  obtain ⟨hx, hy⟩ := HU.out _ HB0.out
  by_cases hq0 : ¬ (xc.nm = yc.nm)
  · have h0 := hq0
    have t0 : (xc.nm.toList == yc.nm.toList) = false := by rw [bs_eq]; exact decide_eq_false h0
    have HR : Hid (false = true ↔ xc = yc) := Lib.hid ⟨(fun h => by cases h), fun h => absurd (by rw [h]) h0⟩
    clear h0
    have p0 := hx.cell 0
    have q0 := hy.cell 0
    have p1 := hx.cell 1
    have q1 := hy.cell 1
    have p2 := hx.cell 2
    have q2 := hy.cell 2
    have p3 := hx.cell 3
    have q3 := hy.cell 3
    have p4 := hx.cell 4
    have q4 := hy.cell 4
    have p5 := hx.cell 5
    have q5 := hy.cell 5
    simp at p0 p1 p2 p3 p4 p5 q0 q1 q2 q3 q4 q5
    clear hx hy
    go_enter Tryz.func63, Tryz.ntmps63
    go_wp2_with fail
    go_ret
    exact ⟨⟨_, rfl, by first | exact HR.out | (have := HR.out; simpa using this)⟩, HBA.out.trans (HB0.out.mono HBA.out.size)⟩
  have h0 := Classical.not_not.1 hq0
  clear hq0
  by_cases hq1 : ¬ (xc.fs = yc.fs)
  · have h1 := hq1
    have t0 : (xc.nm.toList == yc.nm.toList) = true := by rw [bs_eq]; exact decide_eq_true h0
    rw [decide_eq_false h1] at Hfs
    have HR : Hid (false = true ↔ xc = yc) := Lib.hid ⟨(fun h => by cases h), fun h => absurd (by rw [h]) h1⟩
    clear h0 h1
    have p0 := hx.cell 0
    have q0 := hy.cell 0
    have p1 := hx.cell 1
    have q1 := hy.cell 1
    have p2 := hx.cell 2
    have q2 := hy.cell 2
    have p3 := hx.cell 3
    have q3 := hy.cell 3
    have p4 := hx.cell 4
    have q4 := hy.cell 4
    have p5 := hx.cell 5
    have q5 := hy.cell 5
    simp at p0 p1 p2 p3 p4 p5 q0 q1 q2 q3 q4 q5
    clear hx hy
    go_enter Tryz.func63, Tryz.ntmps63
    go_wp2_with fail
    with_reducible refine (Hfs.out _ (HBA.out.trans (HB0.out.mono HBA.out.size))).mono ?_
    rintro _ w1 ⟨rfl, hb⟩
    have HB1 : Hid (Below W0.heap.size W0 w1) := Lib.hid (HB0.out.trans (hb.mono HB0.out.size))
    clear hb
    obtain ⟨hx, hy⟩ := HU.out _ HB1.out
    have p0 := hx.cell 0
    have q0 := hy.cell 0
    have p1 := hx.cell 1
    have q1 := hy.cell 1
    have p2 := hx.cell 2
    have q2 := hy.cell 2
    have p3 := hx.cell 3
    have q3 := hy.cell 3
    have p4 := hx.cell 4
    have q4 := hy.cell 4
    have p5 := hx.cell 5
    have q5 := hy.cell 5
    simp at p0 p1 p2 p3 p4 p5 q0 q1 q2 q3 q4 q5
    clear hx hy
    go_wp2_with fail
    go_ret
    exact ⟨⟨_, rfl, by first | exact HR.out | (have := HR.out; simpa using this)⟩, HBA.out.trans (HB1.out.mono HBA.out.size)⟩
  have h1 := Classical.not_not.1 hq1
  clear hq1
  by_cases hq2 : ¬ (xc.es = yc.es)
  · have h2 := hq2
    have t0 : (xc.nm.toList == yc.nm.toList) = true := by rw [bs_eq]; exact decide_eq_true h0
    rw [decide_eq_true h1] at Hfs
    rw [decide_eq_false h2] at Hes
    have HR : Hid (false = true ↔ xc = yc) := Lib.hid ⟨(fun h => by cases h), fun h => absurd (by rw [h]) h2⟩
    clear h0 h1 h2
    have p0 := hx.cell 0
    have q0 := hy.cell 0
    have p1 := hx.cell 1
    have q1 := hy.cell 1
    have p2 := hx.cell 2
    have q2 := hy.cell 2
    have p3 := hx.cell 3
    have q3 := hy.cell 3
    have p4 := hx.cell 4
    have q4 := hy.cell 4
    have p5 := hx.cell 5
    have q5 := hy.cell 5
    simp at p0 p1 p2 p3 p4 p5 q0 q1 q2 q3 q4 q5
    clear hx hy
    go_enter Tryz.func63, Tryz.ntmps63
    go_wp2_with fail
    with_reducible refine (Hfs.out _ (HBA.out.trans (HB0.out.mono HBA.out.size))).mono ?_
    rintro _ w1 ⟨rfl, hb⟩
    have HB1 : Hid (Below W0.heap.size W0 w1) := Lib.hid (HB0.out.trans (hb.mono HB0.out.size))
    clear hb
    obtain ⟨hx, hy⟩ := HU.out _ HB1.out
    have p0 := hx.cell 0
    have q0 := hy.cell 0
    have p1 := hx.cell 1
    have q1 := hy.cell 1
    have p2 := hx.cell 2
    have q2 := hy.cell 2
    have p3 := hx.cell 3
    have q3 := hy.cell 3
    have p4 := hx.cell 4
    have q4 := hy.cell 4
    have p5 := hx.cell 5
    have q5 := hy.cell 5
    simp at p0 p1 p2 p3 p4 p5 q0 q1 q2 q3 q4 q5
    clear hx hy
    go_wp2_with fail
    with_reducible refine (Hes.out _ (HBA.out.trans (HB1.out.mono HBA.out.size))).mono ?_
    rintro _ w2 ⟨rfl, hb⟩
    have HB2 : Hid (Below W0.heap.size W0 w2) := Lib.hid (HB1.out.trans (hb.mono HB1.out.size))
    clear hb
    obtain ⟨hx, hy⟩ := HU.out _ HB2.out
    have p0 := hx.cell 0
    have q0 := hy.cell 0
    have p1 := hx.cell 1
    have q1 := hy.cell 1
    have p2 := hx.cell 2
    have q2 := hy.cell 2
    have p3 := hx.cell 3
    have q3 := hy.cell 3
    have p4 := hx.cell 4
    have q4 := hy.cell 4
    have p5 := hx.cell 5
    have q5 := hy.cell 5
    simp at p0 p1 p2 p3 p4 p5 q0 q1 q2 q3 q4 q5
    clear hx hy
    go_wp2_with fail
    go_ret
    exact ⟨⟨_, rfl, by first | exact HR.out | (have := HR.out; simpa using this)⟩, HBA.out.trans (HB2.out.mono HBA.out.size)⟩
  have h2 := Classical.not_not.1 hq2
  clear hq2
  by_cases hq3 : ¬ (xc.is = yc.is)
  · have h3 := hq3
    have t0 : (xc.nm.toList == yc.nm.toList) = true := by rw [bs_eq]; exact decide_eq_true h0
    rw [decide_eq_true h1] at Hfs
    rw [decide_eq_true h2] at Hes
    rw [decide_eq_false h3] at His
    have HR : Hid (false = true ↔ xc = yc) := Lib.hid ⟨(fun h => by cases h), fun h => absurd (by rw [h]) h3⟩
    clear h0 h1 h2 h3
    have p0 := hx.cell 0
    have q0 := hy.cell 0
    have p1 := hx.cell 1
    have q1 := hy.cell 1
    have p2 := hx.cell 2
    have q2 := hy.cell 2
    have p3 := hx.cell 3
    have q3 := hy.cell 3
    have p4 := hx.cell 4
    have q4 := hy.cell 4
    have p5 := hx.cell 5
    have q5 := hy.cell 5
    simp at p0 p1 p2 p3 p4 p5 q0 q1 q2 q3 q4 q5
    clear hx hy
    go_enter Tryz.func63, Tryz.ntmps63
    go_wp2_with fail
    with_reducible refine (Hfs.out _ (HBA.out.trans (HB0.out.mono HBA.out.size))).mono ?_
    rintro _ w1 ⟨rfl, hb⟩
    have HB1 : Hid (Below W0.heap.size W0 w1) := Lib.hid (HB0.out.trans (hb.mono HB0.out.size))
    clear hb
    obtain ⟨hx, hy⟩ := HU.out _ HB1.out
    have p0 := hx.cell 0
    have q0 := hy.cell 0
    have p1 := hx.cell 1
    have q1 := hy.cell 1
    have p2 := hx.cell 2
    have q2 := hy.cell 2
    have p3 := hx.cell 3
    have q3 := hy.cell 3
    have p4 := hx.cell 4
    have q4 := hy.cell 4
    have p5 := hx.cell 5
    have q5 := hy.cell 5
    simp at p0 p1 p2 p3 p4 p5 q0 q1 q2 q3 q4 q5
    clear hx hy
    go_wp2_with fail
    with_reducible refine (Hes.out _ (HBA.out.trans (HB1.out.mono HBA.out.size))).mono ?_
    rintro _ w2 ⟨rfl, hb⟩
    have HB2 : Hid (Below W0.heap.size W0 w2) := Lib.hid (HB1.out.trans (hb.mono HB1.out.size))
    clear hb
    obtain ⟨hx, hy⟩ := HU.out _ HB2.out
    have p0 := hx.cell 0
    have q0 := hy.cell 0
    have p1 := hx.cell 1
    have q1 := hy.cell 1
    have p2 := hx.cell 2
    have q2 := hy.cell 2
    have p3 := hx.cell 3
    have q3 := hy.cell 3
    have p4 := hx.cell 4
    have q4 := hy.cell 4
    have p5 := hx.cell 5
    have q5 := hy.cell 5
    simp at p0 p1 p2 p3 p4 p5 q0 q1 q2 q3 q4 q5
    clear hx hy
    go_wp2_with fail
    with_reducible refine (His.out _ (HBA.out.trans (HB2.out.mono HBA.out.size))).mono ?_
    rintro _ w3 ⟨rfl, hb⟩
    have HB3 : Hid (Below W0.heap.size W0 w3) := Lib.hid (HB2.out.trans (hb.mono HB2.out.size))
    clear hb
    obtain ⟨hx, hy⟩ := HU.out _ HB3.out
    have p0 := hx.cell 0
    have q0 := hy.cell 0
    have p1 := hx.cell 1
    have q1 := hy.cell 1
    have p2 := hx.cell 2
    have q2 := hy.cell 2
    have p3 := hx.cell 3
    have q3 := hy.cell 3
    have p4 := hx.cell 4
    have q4 := hy.cell 4
    have p5 := hx.cell 5
    have q5 := hy.cell 5
    simp at p0 p1 p2 p3 p4 p5 q0 q1 q2 q3 q4 q5
    clear hx hy
    go_wp2_with fail
    go_ret
    exact ⟨⟨_, rfl, by first | exact HR.out | (have := HR.out; simpa using this)⟩, HBA.out.trans (HB3.out.mono HBA.out.size)⟩
  have h3 := Classical.not_not.1 hq3
  clear hq3
  by_cases hq4 : ¬ (xc.ds = yc.ds)
  · have h4 := hq4
    have t0 : (xc.nm.toList == yc.nm.toList) = true := by rw [bs_eq]; exact decide_eq_true h0
    rw [decide_eq_true h1] at Hfs
    rw [decide_eq_true h2] at Hes
    rw [decide_eq_true h3] at His
    rw [decide_eq_false h4] at Hds
    have HR : Hid (false = true ↔ xc = yc) := Lib.hid ⟨(fun h => by cases h), fun h => absurd (by rw [h]) h4⟩
    clear h0 h1 h2 h3 h4
    have p0 := hx.cell 0
    have q0 := hy.cell 0
    have p1 := hx.cell 1
    have q1 := hy.cell 1
    have p2 := hx.cell 2
    have q2 := hy.cell 2
    have p3 := hx.cell 3
    have q3 := hy.cell 3
    have p4 := hx.cell 4
    have q4 := hy.cell 4
    have p5 := hx.cell 5
    have q5 := hy.cell 5
    simp at p0 p1 p2 p3 p4 p5 q0 q1 q2 q3 q4 q5
    clear hx hy
    go_enter Tryz.func63, Tryz.ntmps63
    go_wp2_with fail
    with_reducible refine (Hfs.out _ (HBA.out.trans (HB0.out.mono HBA.out.size))).mono ?_
    rintro _ w1 ⟨rfl, hb⟩
    have HB1 : Hid (Below W0.heap.size W0 w1) := Lib.hid (HB0.out.trans (hb.mono HB0.out.size))
    clear hb
    obtain ⟨hx, hy⟩ := HU.out _ HB1.out
    have p0 := hx.cell 0
    have q0 := hy.cell 0
    have p1 := hx.cell 1
    have q1 := hy.cell 1
    have p2 := hx.cell 2
    have q2 := hy.cell 2
    have p3 := hx.cell 3
    have q3 := hy.cell 3
    have p4 := hx.cell 4
    have q4 := hy.cell 4
    have p5 := hx.cell 5
    have q5 := hy.cell 5
    simp at p0 p1 p2 p3 p4 p5 q0 q1 q2 q3 q4 q5
    clear hx hy
    go_wp2_with fail
    with_reducible refine (Hes.out _ (HBA.out.trans (HB1.out.mono HBA.out.size))).mono ?_
    rintro _ w2 ⟨rfl, hb⟩
    have HB2 : Hid (Below W0.heap.size W0 w2) := Lib.hid (HB1.out.trans (hb.mono HB1.out.size))
    clear hb
    obtain ⟨hx, hy⟩ := HU.out _ HB2.out
    have p0 := hx.cell 0
    have q0 := hy.cell 0
    have p1 := hx.cell 1
    have q1 := hy.cell 1
    have p2 := hx.cell 2
    have q2 := hy.cell 2
    have p3 := hx.cell 3
    have q3 := hy.cell 3
    have p4 := hx.cell 4
    have q4 := hy.cell 4
    have p5 := hx.cell 5
    have q5 := hy.cell 5
    simp at p0 p1 p2 p3 p4 p5 q0 q1 q2 q3 q4 q5
    clear hx hy
    go_wp2_with fail
    with_reducible refine (His.out _ (HBA.out.trans (HB2.out.mono HBA.out.size))).mono ?_
    rintro _ w3 ⟨rfl, hb⟩
    have HB3 : Hid (Below W0.heap.size W0 w3) := Lib.hid (HB2.out.trans (hb.mono HB2.out.size))
    clear hb
    obtain ⟨hx, hy⟩ := HU.out _ HB3.out
    have p0 := hx.cell 0
    have q0 := hy.cell 0
    have p1 := hx.cell 1
    have q1 := hy.cell 1
    have p2 := hx.cell 2
    have q2 := hy.cell 2
    have p3 := hx.cell 3
    have q3 := hy.cell 3
    have p4 := hx.cell 4
    have q4 := hy.cell 4
    have p5 := hx.cell 5
    have q5 := hy.cell 5
    simp at p0 p1 p2 p3 p4 p5 q0 q1 q2 q3 q4 q5
    clear hx hy
    go_wp2_with fail
    with_reducible refine (Hds.out _ (HBA.out.trans (HB3.out.mono HBA.out.size))).mono ?_
    rintro _ w4 ⟨rfl, hb⟩
    have HB4 : Hid (Below W0.heap.size W0 w4) := Lib.hid (HB3.out.trans (hb.mono HB3.out.size))
    clear hb
    obtain ⟨hx, hy⟩ := HU.out _ HB4.out
    have p0 := hx.cell 0
    have q0 := hy.cell 0
    have p1 := hx.cell 1
    have q1 := hy.cell 1
    have p2 := hx.cell 2
    have q2 := hy.cell 2
    have p3 := hx.cell 3
    have q3 := hy.cell 3
    have p4 := hx.cell 4
    have q4 := hy.cell 4
    have p5 := hx.cell 5
    have q5 := hy.cell 5
    simp at p0 p1 p2 p3 p4 p5 q0 q1 q2 q3 q4 q5
    clear hx hy
    go_wp2_with fail
    go_ret
    exact ⟨⟨_, rfl, by first | exact HR.out | (have := HR.out; simpa using this)⟩, HBA.out.trans (HB4.out.mono HBA.out.size)⟩
  have h4 := Classical.not_not.1 hq4
  clear hq4
  by_cases hq5 : ¬ (xc.gs = yc.gs)
  · have h5 := hq5
    have t0 : (xc.nm.toList == yc.nm.toList) = true := by rw [bs_eq]; exact decide_eq_true h0
    rw [decide_eq_true h1] at Hfs
    rw [decide_eq_true h2] at Hes
    rw [decide_eq_true h3] at His
    rw [decide_eq_true h4] at Hds
    rw [decide_eq_false h5] at Hgs
    have HR : Hid (false = true ↔ xc = yc) := Lib.hid ⟨(fun h => by cases h), fun h => absurd (by rw [h]) h5⟩
    clear h0 h1 h2 h3 h4 h5
    have p0 := hx.cell 0
    have q0 := hy.cell 0
    have p1 := hx.cell 1
    have q1 := hy.cell 1
    have p2 := hx.cell 2
    have q2 := hy.cell 2
    have p3 := hx.cell 3
    have q3 := hy.cell 3
    have p4 := hx.cell 4
    have q4 := hy.cell 4
    have p5 := hx.cell 5
    have q5 := hy.cell 5
    simp at p0 p1 p2 p3 p4 p5 q0 q1 q2 q3 q4 q5
    clear hx hy
    go_enter Tryz.func63, Tryz.ntmps63
    go_wp2_with fail
    with_reducible refine (Hfs.out _ (HBA.out.trans (HB0.out.mono HBA.out.size))).mono ?_
    rintro _ w1 ⟨rfl, hb⟩
    have HB1 : Hid (Below W0.heap.size W0 w1) := Lib.hid (HB0.out.trans (hb.mono HB0.out.size))
    clear hb
    obtain ⟨hx, hy⟩ := HU.out _ HB1.out
    have p0 := hx.cell 0
    have q0 := hy.cell 0
    have p1 := hx.cell 1
    have q1 := hy.cell 1
    have p2 := hx.cell 2
    have q2 := hy.cell 2
    have p3 := hx.cell 3
    have q3 := hy.cell 3
    have p4 := hx.cell 4
    have q4 := hy.cell 4
    have p5 := hx.cell 5
    have q5 := hy.cell 5
    simp at p0 p1 p2 p3 p4 p5 q0 q1 q2 q3 q4 q5
    clear hx hy
    go_wp2_with fail
    with_reducible refine (Hes.out _ (HBA.out.trans (HB1.out.mono HBA.out.size))).mono ?_
    rintro _ w2 ⟨rfl, hb⟩
    have HB2 : Hid (Below W0.heap.size W0 w2) := Lib.hid (HB1.out.trans (hb.mono HB1.out.size))
    clear hb
    obtain ⟨hx, hy⟩ := HU.out _ HB2.out
    have p0 := hx.cell 0
    have q0 := hy.cell 0
    have p1 := hx.cell 1
    have q1 := hy.cell 1
    have p2 := hx.cell 2
    have q2 := hy.cell 2
    have p3 := hx.cell 3
    have q3 := hy.cell 3
    have p4 := hx.cell 4
    have q4 := hy.cell 4
    have p5 := hx.cell 5
    have q5 := hy.cell 5
    simp at p0 p1 p2 p3 p4 p5 q0 q1 q2 q3 q4 q5
    clear hx hy
    go_wp2_with fail
    with_reducible refine (His.out _ (HBA.out.trans (HB2.out.mono HBA.out.size))).mono ?_
    rintro _ w3 ⟨rfl, hb⟩
    have HB3 : Hid (Below W0.heap.size W0 w3) := Lib.hid (HB2.out.trans (hb.mono HB2.out.size))
    clear hb
    obtain ⟨hx, hy⟩ := HU.out _ HB3.out
    have p0 := hx.cell 0
    have q0 := hy.cell 0
    have p1 := hx.cell 1
    have q1 := hy.cell 1
    have p2 := hx.cell 2
    have q2 := hy.cell 2
    have p3 := hx.cell 3
    have q3 := hy.cell 3
    have p4 := hx.cell 4
    have q4 := hy.cell 4
    have p5 := hx.cell 5
    have q5 := hy.cell 5
    simp at p0 p1 p2 p3 p4 p5 q0 q1 q2 q3 q4 q5
    clear hx hy
    go_wp2_with fail
    with_reducible refine (Hds.out _ (HBA.out.trans (HB3.out.mono HBA.out.size))).mono ?_
    rintro _ w4 ⟨rfl, hb⟩
    have HB4 : Hid (Below W0.heap.size W0 w4) := Lib.hid (HB3.out.trans (hb.mono HB3.out.size))
    clear hb
    obtain ⟨hx, hy⟩ := HU.out _ HB4.out
    have p0 := hx.cell 0
    have q0 := hy.cell 0
    have p1 := hx.cell 1
    have q1 := hy.cell 1
    have p2 := hx.cell 2
    have q2 := hy.cell 2
    have p3 := hx.cell 3
    have q3 := hy.cell 3
    have p4 := hx.cell 4
    have q4 := hy.cell 4
    have p5 := hx.cell 5
    have q5 := hy.cell 5
    simp at p0 p1 p2 p3 p4 p5 q0 q1 q2 q3 q4 q5
    clear hx hy
    go_wp2_with fail
    with_reducible refine (Hgs.out _ (HBA.out.trans (HB4.out.mono HBA.out.size))).mono ?_
    rintro _ w5 ⟨rfl, hb⟩
    have HB5 : Hid (Below W0.heap.size W0 w5) := Lib.hid (HB4.out.trans (hb.mono HB4.out.size))
    clear hb
    obtain ⟨hx, hy⟩ := HU.out _ HB5.out
    have p0 := hx.cell 0
    have q0 := hy.cell 0
    have p1 := hx.cell 1
    have q1 := hy.cell 1
    have p2 := hx.cell 2
    have q2 := hy.cell 2
    have p3 := hx.cell 3
    have q3 := hy.cell 3
    have p4 := hx.cell 4
    have q4 := hy.cell 4
    have p5 := hx.cell 5
    have q5 := hy.cell 5
    simp at p0 p1 p2 p3 p4 p5 q0 q1 q2 q3 q4 q5
    clear hx hy
    go_wp2_with fail
    go_ret
    exact ⟨⟨_, rfl, by first | exact HR.out | (have := HR.out; simpa using this)⟩, HBA.out.trans (HB5.out.mono HBA.out.size)⟩
  have h5 := Classical.not_not.1 hq5
  clear hq5
  have t0 : (xc.nm.toList == yc.nm.toList) = true := by rw [bs_eq]; exact decide_eq_true h0
  rw [decide_eq_true h1] at Hfs
  rw [decide_eq_true h2] at Hes
  rw [decide_eq_true h3] at His
  rw [decide_eq_true h4] at Hds
  rw [decide_eq_true h5] at Hgs
  have HR : Hid (true = true ↔ xc = yc) := Lib.hid ⟨fun _ => co_ext h0 h1 h2 h3 h4 h5, fun _ => rfl⟩
  clear h0 h1 h2 h3 h4 h5
  have p0 := hx.cell 0
  have q0 := hy.cell 0
  have p1 := hx.cell 1
  have q1 := hy.cell 1
  have p2 := hx.cell 2
  have q2 := hy.cell 2
  have p3 := hx.cell 3
  have q3 := hy.cell 3
  have p4 := hx.cell 4
  have q4 := hy.cell 4
  have p5 := hx.cell 5
  have q5 := hy.cell 5
  simp at p0 p1 p2 p3 p4 p5 q0 q1 q2 q3 q4 q5
  clear hx hy
  go_enter Tryz.func63, Tryz.ntmps63
  go_wp2_with fail
  with_reducible refine (Hfs.out _ (HBA.out.trans (HB0.out.mono HBA.out.size))).mono ?_
  rintro _ w1 ⟨rfl, hb⟩
  have HB1 : Hid (Below W0.heap.size W0 w1) := Lib.hid (HB0.out.trans (hb.mono HB0.out.size))
  clear hb
  obtain ⟨hx, hy⟩ := HU.out _ HB1.out
  have p0 := hx.cell 0
  have q0 := hy.cell 0
  have p1 := hx.cell 1
  have q1 := hy.cell 1
  have p2 := hx.cell 2
  have q2 := hy.cell 2
  have p3 := hx.cell 3
  have q3 := hy.cell 3
  have p4 := hx.cell 4
  have q4 := hy.cell 4
  have p5 := hx.cell 5
  have q5 := hy.cell 5
  simp at p0 p1 p2 p3 p4 p5 q0 q1 q2 q3 q4 q5
  clear hx hy
  go_wp2_with fail
  with_reducible refine (Hes.out _ (HBA.out.trans (HB1.out.mono HBA.out.size))).mono ?_
  rintro _ w2 ⟨rfl, hb⟩
  have HB2 : Hid (Below W0.heap.size W0 w2) := Lib.hid (HB1.out.trans (hb.mono HB1.out.size))
  clear hb
  obtain ⟨hx, hy⟩ := HU.out _ HB2.out
  have p0 := hx.cell 0
  have q0 := hy.cell 0
  have p1 := hx.cell 1
  have q1 := hy.cell 1
  have p2 := hx.cell 2
  have q2 := hy.cell 2
  have p3 := hx.cell 3
  have q3 := hy.cell 3
  have p4 := hx.cell 4
  have q4 := hy.cell 4
  have p5 := hx.cell 5
  have q5 := hy.cell 5
  simp at p0 p1 p2 p3 p4 p5 q0 q1 q2 q3 q4 q5
  clear hx hy
  go_wp2_with fail
  with_reducible refine (His.out _ (HBA.out.trans (HB2.out.mono HBA.out.size))).mono ?_
  rintro _ w3 ⟨rfl, hb⟩
  have HB3 : Hid (Below W0.heap.size W0 w3) := Lib.hid (HB2.out.trans (hb.mono HB2.out.size))
  clear hb
  obtain ⟨hx, hy⟩ := HU.out _ HB3.out
  have p0 := hx.cell 0
  have q0 := hy.cell 0
  have p1 := hx.cell 1
  have q1 := hy.cell 1
  have p2 := hx.cell 2
  have q2 := hy.cell 2
  have p3 := hx.cell 3
  have q3 := hy.cell 3
  have p4 := hx.cell 4
  have q4 := hy.cell 4
  have p5 := hx.cell 5
  have q5 := hy.cell 5
  simp at p0 p1 p2 p3 p4 p5 q0 q1 q2 q3 q4 q5
  clear hx hy
  go_wp2_with fail
  with_reducible refine (Hds.out _ (HBA.out.trans (HB3.out.mono HBA.out.size))).mono ?_
  rintro _ w4 ⟨rfl, hb⟩
  have HB4 : Hid (Below W0.heap.size W0 w4) := Lib.hid (HB3.out.trans (hb.mono HB3.out.size))
  clear hb
  obtain ⟨hx, hy⟩ := HU.out _ HB4.out
  have p0 := hx.cell 0
  have q0 := hy.cell 0
  have p1 := hx.cell 1
  have q1 := hy.cell 1
  have p2 := hx.cell 2
  have q2 := hy.cell 2
  have p3 := hx.cell 3
  have q3 := hy.cell 3
  have p4 := hx.cell 4
  have q4 := hy.cell 4
  have p5 := hx.cell 5
  have q5 := hy.cell 5
  simp at p0 p1 p2 p3 p4 p5 q0 q1 q2 q3 q4 q5
  clear hx hy
  go_wp2_with fail
  with_reducible refine (Hgs.out _ (HBA.out.trans (HB4.out.mono HBA.out.size))).mono ?_
  rintro _ w5 ⟨rfl, hb⟩
  have HB5 : Hid (Below W0.heap.size W0 w5) := Lib.hid (HB4.out.trans (hb.mono HB4.out.size))
  clear hb
  obtain ⟨hx, hy⟩ := HU.out _ HB5.out
  have p0 := hx.cell 0
  have q0 := hy.cell 0
  have p1 := hx.cell 1
  have q1 := hy.cell 1
  have p2 := hx.cell 2
  have q2 := hy.cell 2
  have p3 := hx.cell 3
  have q3 := hy.cell 3
  have p4 := hx.cell 4
  have q4 := hy.cell 4
  have p5 := hx.cell 5
  have q5 := hy.cell 5
  simp at p0 p1 p2 p3 p4 p5 q0 q1 q2 q3 q4 q5
  clear hx hy
  go_wp2_with fail
  go_ret
  exact ⟨⟨_, rfl, by first | exact HR.out | (have := HR.out; simpa using this)⟩, HBA.out.trans (HB5.out.mono HBA.out.size)⟩
end Go.Proofs.YtapdiionikfgpaaGreatDoor
