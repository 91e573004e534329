import Derived.Test.YtapdiionikfgpaaGreatDoorRbz
import Derived.WalkSmall
namespace Go.Proofs.YtapdiionikfgpaaGreatDoor
open Go.ChangeShapes Go.WideShapes Go.ChangeAt Go.RowKit
set_option linter.unusedVariables false
set_option linter.unusedSimpArgs false
def RF (w : World) (L1 L2 : List CoI) (n : Nat) (i : Value) (wr : World) : Prop := ∃ k : Nat, k ≤ n ∧ i = .int .i64 (k : Int) ∧ Below w.heap.size w wr ∧ ∀ j, j < k → L1[j]? = L2[j]?
theorem ent_63 (args : Array Value) (W : World) : (callFunc 63 args).run Tryz.prog W = .ok (.enter 63 args) W := by kernel_rfl
theorem ne_of_at {α : Type} {L1 L2 : List α} {k : Nat} {x y : α} (hx : L1[k]? = some x) (hy : L2[k]? = some y) (h : x ≠ y) : L1 ≠ L2 := fun e => h (by
  rw [e, hy] at hx
  cases hx
  rfl)
theorem eq_of_all {α : Type} {L1 L2 : List α} (hl : L1.length = L2.length) (h : ∀ j, j < L1.length → L1[j]? = L2[j]?) : L1 = L2 := List.ext_getElem? (fun j => by
  rcases Nat.lt_or_ge j L1.length with h1 | h1
  · exact h j h1
  · rw [List.getElem?_eq_none h1, List.getElem?_eq_none (by omega)])
set_option maxRecDepth 100000 in
set_option maxHeartbeats 8000000 in
/-- slices.EqualFunc of compartments -/
theorem n62 (V1 V2 : Value) (D1 D2 : List (Sv × CoI)) (w : World) (h1 : Ly w V1 6 iCo D1) (h2 : Ly w V2 6 iCo D2) (c1 : ∀ x ∈ D1, CoL w x) (c2 : ∀ x ∈ D2, CoL w x) (b1 : ∀ x ∈ D1, BdC x.2) (b2 : ∀ x ∈ D2, BdC x.2) (hl1 : D1.length ≤ 1048576) :
    Calls Tryz.prog 62 #[V1, V2, .func (.func 63) #[] #[]] w fun e w' => YN e (D1.map (·.2) = D2.map (·.2)) ∧ Below w.heap.size w w' := by
  obtain ⟨A1, a1, rfl, g1⟩ := h1
  obtain ⟨A2, a2, rfl, g2⟩ := h2
  have G1 := Lib.hid g1
  have G2 := Lib.hid g2
  have HL1 := Lib.hid hl1
  have HI1 : Hid (∀ x ∈ D1, IsS x.1.f ∧ IsS x.1.e ∧ IsS x.1.i ∧ IsS x.1.d ∧ IsS x.1.g) := Lib.hid (fun x hx => ⟨isS_ly (c1 x hx).1, isS_ly (c1 x hx).2.1, isS_ly (c1 x hx).2.2.1, isS_ly (c1 x hx).2.2.2.1, isS_ly (c1 x hx).2.2.2.2⟩)
  have HI2 : Hid (∀ x ∈ D2, IsS x.1.f ∧ IsS x.1.e ∧ IsS x.1.i ∧ IsS x.1.d ∧ IsS x.1.g) := Lib.hid (fun x hx => ⟨isS_ly (c2 x hx).1, isS_ly (c2 x hx).2.1, isS_ly (c2 x hx).2.2.1, isS_ly (c2 x hx).2.2.2.1, isS_ly (c2 x hx).2.2.2.2⟩)
  have HC : Hid (∀ x y, x ∈ D1 → y ∈ D2 → ∀ W, Below w.heap.size w W → Calls Tryz.prog 63 #[.agg #[.string x.2.nm, x.1.f, x.1.e, x.1.i, x.1.d, x.1.g], .agg #[.string y.2.nm, y.1.f, y.1.e, y.1.i, y.1.d, y.1.g]] W fun e w' => YN e (x.2 = y.2) ∧ Below W.heap.size W w') := Lib.hid (fun x y hx hy W hW => n63 x y W ((c1 x hx).below hW) ((c2 y hy).below hW) (b1 x hx) (b2 y hy))
  clear g1 g2 c1 c2 b1 b2
  by_cases hl : D1.length = D2.length
  · have e0 : ((D1.length : Int) != (D2.length : Int)) = false := by simp; omega
    have HL := Lib.hid hl
    clear hl
    go_enter Tryz.func62, Tryz.ntmps62
    go_wp2_with fail
    go_loopw [7, 8, 9, 17] (fun _ _ _ i wr => RF w (D1.map (·.2)) (D2.map (·.2)) D1.length i wr) (fun _ _ _ i _ => D1.length - (intOf i).toNat)
    case atStart => exact ⟨0, Nat.zero_le _, rfl, Below.refl _ _, fun j hj => absurd hj (by omega)⟩
    case round =>
      obtain ⟨k, hk, rfl, hb, hm⟩ := hrel
      have HB := Lib.hid hb
      have HM := Lib.hid hm
      clear hb hm
      by_cases hlt : k < D1.length
      · obtain ⟨x, hx⟩ : ∃ x, D1[k]? = some x := ⟨_, List.getElem?_eq_getElem hlt⟩
        obtain ⟨y, hy⟩ : ∃ y, D2[k]? = some y := ⟨_, List.getElem?_eq_getElem (by have := HL.out; omega)⟩
        obtain ⟨b1, o1, rfl, hb1, hc1⟩ := G1.out (by omega)
        obtain ⟨b2, o2, rfl, hb2, hc2⟩ := G2.out (by have := HL.out; omega)
        have HCA := Lib.hid (HC.out x y (List.mem_of_getElem? hx) (List.mem_of_getElem? hy))
        obtain ⟨⟨F1, n1, c1, g1⟩, ⟨F2, n2, c2, g2⟩, ⟨F3, n3, c3, g3⟩, ⟨F4, n4, c4, g4⟩, ⟨F5, n5, c5, g5⟩⟩ := HI1.out x (List.mem_of_getElem? hx)
        obtain ⟨⟨E1, m1, d1, k1⟩, ⟨E2, m2, d2, k2⟩, ⟨E3, m3, d3, k3⟩, ⟨E4, m4, d4, k4⟩, ⟨E5, m5, d5, k5⟩⟩ := HI2.out y (List.mem_of_getElem? hy)
        obtain ⟨⟨xf, xe, xi, xd, xg⟩, xc⟩ := x
        obtain ⟨⟨yf, ye, yi, yd, yg⟩, yc⟩ := y
        simp only at g1 g2 g3 g4 g5 k1 k2 k3 k4 k5 HCA
        subst g1 g2 g3 g4 g5 k1 k2 k3 k4 k5
        have p0 : wr.cell? ⟨b1, o1 + k * 6, none⟩ = some (.string xc.nm) := (HB.out.cell (p := ⟨b1, _, none⟩) hb1).trans (hc1 k _ hx 0 _ rfl)
        have p1 : wr.cell? ⟨b1, o1 + k * 6 + 1, none⟩ = some (.slice F1 n1 c1) := (HB.out.cell (p := ⟨b1, _, none⟩) hb1).trans (hc1 k _ hx 1 _ rfl)
        have p2 : wr.cell? ⟨b1, o1 + k * 6 + 2, none⟩ = some (.slice F2 n2 c2) := (HB.out.cell (p := ⟨b1, _, none⟩) hb1).trans (hc1 k _ hx 2 _ rfl)
        have p3 : wr.cell? ⟨b1, o1 + k * 6 + 3, none⟩ = some (.slice F3 n3 c3) := (HB.out.cell (p := ⟨b1, _, none⟩) hb1).trans (hc1 k _ hx 3 _ rfl)
        have p4 : wr.cell? ⟨b1, o1 + k * 6 + 4, none⟩ = some (.slice F4 n4 c4) := (HB.out.cell (p := ⟨b1, _, none⟩) hb1).trans (hc1 k _ hx 4 _ rfl)
        have p5 : wr.cell? ⟨b1, o1 + k * 6 + 5, none⟩ = some (.slice F5 n5 c5) := (HB.out.cell (p := ⟨b1, _, none⟩) hb1).trans (hc1 k _ hx 5 _ rfl)
        have HBY : Hid (Below wr.heap.size wr (wr.alloc (.cells #[.string xc.nm, .slice F1 n1 c1, .slice F2 n2 c2, .slice F3 n3 c3, .slice F4 n4 c4, .slice F5 n5 c5] 48))) := Lib.hid ((Below.refl _ _).alloc (Nat.le_refl _) _)
        have HBX := Lib.hid (HB.out.trans (HBY.out.mono HB.out.size))
        have q0 : (wr.alloc (.cells #[.string xc.nm, .slice F1 n1 c1, .slice F2 n2 c2, .slice F3 n3 c3, .slice F4 n4 c4, .slice F5 n5 c5] 48)).cell? ⟨b2, o2 + k * 6, none⟩ = some (.string yc.nm) := (HBX.out.cell (p := ⟨b2, _, none⟩) hb2).trans (hc2 k _ hy 0 _ rfl)
        have q1 : (wr.alloc (.cells #[.string xc.nm, .slice F1 n1 c1, .slice F2 n2 c2, .slice F3 n3 c3, .slice F4 n4 c4, .slice F5 n5 c5] 48)).cell? ⟨b2, o2 + k * 6 + 1, none⟩ = some (.slice E1 m1 d1) := (HBX.out.cell (p := ⟨b2, _, none⟩) hb2).trans (hc2 k _ hy 1 _ rfl)
        have q2 : (wr.alloc (.cells #[.string xc.nm, .slice F1 n1 c1, .slice F2 n2 c2, .slice F3 n3 c3, .slice F4 n4 c4, .slice F5 n5 c5] 48)).cell? ⟨b2, o2 + k * 6 + 2, none⟩ = some (.slice E2 m2 d2) := (HBX.out.cell (p := ⟨b2, _, none⟩) hb2).trans (hc2 k _ hy 2 _ rfl)
        have q3 : (wr.alloc (.cells #[.string xc.nm, .slice F1 n1 c1, .slice F2 n2 c2, .slice F3 n3 c3, .slice F4 n4 c4, .slice F5 n5 c5] 48)).cell? ⟨b2, o2 + k * 6 + 3, none⟩ = some (.slice E3 m3 d3) := (HBX.out.cell (p := ⟨b2, _, none⟩) hb2).trans (hc2 k _ hy 3 _ rfl)
        have q4 : (wr.alloc (.cells #[.string xc.nm, .slice F1 n1 c1, .slice F2 n2 c2, .slice F3 n3 c3, .slice F4 n4 c4, .slice F5 n5 c5] 48)).cell? ⟨b2, o2 + k * 6 + 4, none⟩ = some (.slice E4 m4 d4) := (HBX.out.cell (p := ⟨b2, _, none⟩) hb2).trans (hc2 k _ hy 4 _ rfl)
        have q5 : (wr.alloc (.cells #[.string xc.nm, .slice F1 n1 c1, .slice F2 n2 c2, .slice F3 n3 c3, .slice F4 n4 c4, .slice F5 n5 c5] 48)).cell? ⟨b2, o2 + k * 6 + 5, none⟩ = some (.slice E5 m5 d5) := (HBX.out.cell (p := ⟨b2, _, none⟩) hb2).trans (hc2 k _ hy 5 _ rfl)
        have HBZ : Hid (Below w.heap.size w ((wr.alloc (.cells #[.string xc.nm, .slice F1 n1 c1, .slice F2 n2 c2, .slice F3 n3 c3, .slice F4 n4 c4, .slice F5 n5 c5] 48)).alloc (.cells #[.string yc.nm, .slice E1 m1 d1, .slice E2 m2 d2, .slice E3 m3 d3, .slice E4 m4 d4, .slice E5 m5 d5] 48))) := Lib.hid (HBX.out.alloc HBX.out.size _)
        have HXB := Lib.hid ((bx_alloc' wr #[.string xc.nm, .slice F1 n1 c1, .slice F2 n2 c2, .slice F3 n3 c3, .slice F4 n4 c4, .slice F5 n5 c5] 48).below ((Below.refl _ _).alloc (Nat.le_refl _) (.cells #[.string yc.nm, .slice E1 m1 d1, .slice E2 m2 d2, .slice E3 m3 d3, .slice E4 m4 d4, .slice E5 m5 d5] 48)))
        have s0 := HXB.out.cell 0
        have s1 := HXB.out.cell 1
        have s2 := HXB.out.cell 2
        have s3 := HXB.out.cell 3
        have s4 := HXB.out.cell 4
        have s5 := HXB.out.cell 5
        simp at s0 s1 s2 s3 s4 s5
        have hkn : (k : Int) < (D1.length : Int) := by omega
        have hkn2 : (k : Int) < (D2.length : Int) := by have := HL.out; omega
        have hkw : IntKind.i64.wrap (k : Int) = (k : Int) := by rw [IntKind.wrap_i64]; omega
        have HX : Hid ((D1.map (·.2))[k]? = some xc) := Lib.hid (by rw [List.getElem?_map, hx]; rfl)
        have HY : Hid ((D2.map (·.2))[k]? = some yc) := Lib.hid (by rw [List.getElem?_map, hy]; rfl)
        have HLT := Lib.hid hlt
        clear hx hy hlt hc1 hc2 hb1 hb2
        go_wp2_with fail
        with_reducible refine (HCA.out _ HBZ.out).mono ?_
        rintro _ w5 ⟨⟨q, rfl, hq⟩, hb5⟩
        have HB5 : Hid (Below w.heap.size w w5) := Lib.hid (HBZ.out.trans (hb5.mono HBZ.out.size))
        have HQ := Lib.hid hq
        clear hb5 hq p0 p1 p2 p3 p4 p5 q0 q1 q2 q3 q4 q5
        cases q
        · have HR : Hid (false = true ↔ D1.map (·.2) = D2.map (·.2)) := Lib.hid ⟨(fun h => by cases h), fun h => absurd h (ne_of_at HX.out HY.out (fun e => by have := HQ.out.2 e; cases this))⟩
          go_wp2_with fail
          go_ret
          exact ⟨⟨_, rfl, by first | exact HR.out | (have := HR.out; simpa using this)⟩, HB5.out⟩
        · have HXY : Hid (xc = yc) := Lib.hid (HQ.out.1 rfl)
          go_wp2_with fail
          go_roundw
          case rel => exact ⟨k + 1, HLT.out, by go_num, HB5.out, fun j hj => by
            by_cases hjk : j = k
            · rw [hjk, HX.out, HY.out, HXY.out]
            · exact HM.out j (by omega)⟩
          case measure => simp [intOf]; have := HLT.out; omega
      · have HR : Hid (true = true ↔ D1.map (·.2) = D2.map (·.2)) := Lib.hid ⟨fun _ => eq_of_all (by simpa using HL.out) (fun j hj => HM.out j (by simp at hj; omega)), fun _ => rfl⟩
        obtain rfl : k = D1.length := by omega
        clear hlt hk
        go_wp2_with fail
        go_ret
        exact ⟨⟨_, rfl, by first | exact HR.out | (have := HR.out; simpa using this)⟩, HB.out⟩
  · have e0 : ((D1.length : Int) != (D2.length : Int)) = true := by simp; omega
    have HR : Hid (false = true ↔ D1.map (·.2) = D2.map (·.2)) := Lib.hid ⟨(fun h => by cases h), fun h => absurd (by have := congrArg List.length h; simpa using this) hl⟩
    go_enter Tryz.func62, Tryz.ntmps62
    go_wp2_with fail
    go_ret
    exact ⟨⟨_, rfl, by first | exact HR.out | (have := HR.out; simpa using this)⟩, Below.refl _ _⟩
end Go.Proofs.YtapdiionikfgpaaGreatDoor
namespace Go.Proofs.YtapdiionikfgpaaGreatDoor
open Go.ChangeShapes Go.WideShapes Go.ChangeAt Go.RowKit
set_option linter.unusedVariables false
set_option linter.unusedSimpArgs false
theorem pl_ext {a b : PlI} (h0 : a.st = b.st) (h1 : a.tr = b.tr) (h2 : a.s0 = b.s0) (h3 : a.mn = b.mn) (h4 : a.ss = b.ss) (h5 : a.cs = b.cs) : a = b := by
  cases a; cases b; simp only at h0 h1 h2 h3 h4 h5; subst h0 h1 h2 h3 h4 h5; rfl
set_option maxRecDepth 100000 in
set_option maxHeartbeats 8000000 in
theorem n30 (SV1 CV1 SV2 CV2 : Value) (P1 P2 : PlI) (D1 D2 : List (Sv × CoI)) (w : World) (h1 : PlL w SV1 CV1 P1 D1) (h2 : PlL w SV2 CV2 P2 D2) (b1 : BdP P1) (b2 : BdP P2) :
    Calls Tryz.prog 30 #[plV SV1 CV1 P1, plV SV2 CV2 P2] w fun e w' => YN e (P1 = P2) ∧ Below w.heap.size w w' := by
  have hd1 : D1.length = P1.cs.length := by rw [← h1.2.2.1]; simp
  have hd2 : D2.length = P2.cs.length := by rw [← h2.2.2.1]; simp
  have HD1 := Lib.hid h1.2.2.1
  have HD2 := Lib.hid h2.2.2.1
  have HB1 : Hid (∀ x ∈ D1, BdC x.2) := Lib.hid (fun x hx => b1.2.2 _ (by rw [← h1.2.2.1]; exact List.mem_map.2 ⟨x, hx, rfl⟩))
  have HB2 : Hid (∀ x ∈ D2, BdC x.2) := Lib.hid (fun x hx => b2.2.2 _ (by rw [← h2.2.2.1]; exact List.mem_map.2 ⟨x, hx, rfl⟩))
  have HP1 : Hid (∀ W, Below w.heap.size w W → PlL W SV1 CV1 P1 D1) := Lib.hid (fun W hW => h1.below hW)
  have HP2 : Hid (∀ W, Below w.heap.size w W → PlL W SV2 CV2 P2 D2) := Lib.hid (fun W hW => h2.below hW)
  obtain ⟨AS1, cs1, rfl, -⟩ := h1.1
  obtain ⟨AS2, cs2, rfl, -⟩ := h2.1
  obtain ⟨AC1, cc1, rfl, -⟩ := h1.2.1
  obtain ⟨AC2, cc2, rfl, -⟩ := h2.2.1
  unfold plV
  have HBA : Hid (Below w.heap.size w ((w.alloc (.cells #[.int .i64 P1.st, .int .i64 P1.tr, .slice AS1 P1.ss.length cs1, .slice AC1 D1.length cc1, .int .i64 P1.s0, .string P1.mn] 25)).alloc (.cells #[.int .i64 P2.st, .int .i64 P2.tr, .slice AS2 P2.ss.length cs2, .slice AC2 D2.length cc2, .int .i64 P2.s0, .string P2.mn] 25))) := Lib.hid (((Below.refl _ w).alloc (Nat.le_refl _) _).alloc (by simp) _)
  obtain ⟨W0, hW0⟩ : ∃ W0, ((w.alloc (.cells #[.int .i64 P1.st, .int .i64 P1.tr, .slice AS1 P1.ss.length cs1, .slice AC1 D1.length cc1, .int .i64 P1.s0, .string P1.mn] 25)).alloc (.cells #[.int .i64 P2.st, .int .i64 P2.tr, .slice AS2 P2.ss.length cs2, .slice AC2 D2.length cc2, .int .i64 P2.s0, .string P2.mn] 25)) = W0 := ⟨_, rfl⟩
  rw [hW0] at HBA
  have HX0 : Hid (Bx W0 w.heap.size #[.int .i64 P1.st, .int .i64 P1.tr, .slice AS1 P1.ss.length cs1, .slice AC1 D1.length cc1, .int .i64 P1.s0, .string P1.mn] 25) := Lib.hid (by rw [← hW0]; exact (bx_alloc' w _ _).below ((Below.refl _ _).alloc (Nat.le_refl _) _))
  have HY0 : Hid (Bx W0 (w.heap.size + 1) #[.int .i64 P2.st, .int .i64 P2.tr, .slice AS2 P2.ss.length cs2, .slice AC2 D2.length cc2, .int .i64 P2.s0, .string P2.mn] 25) := Lib.hid (by
    rw [← hW0]
    have := bx_alloc' (w.alloc (.cells #[.int .i64 P1.st, .int .i64 P1.tr, .slice AS1 P1.ss.length cs1, .slice AC1 D1.length cc1, .int .i64 P1.s0, .string P1.mn] 25)) #[.int .i64 P2.st, .int .i64 P2.tr, .slice AS2 P2.ss.length cs2, .slice AC2 D2.length cc2, .int .i64 P2.s0, .string P2.mn] 25
    rw [show (w.alloc (.cells #[.int .i64 P1.st, .int .i64 P1.tr, .slice AS1 P1.ss.length cs1, .slice AC1 D1.length cc1, .int .i64 P1.s0, .string P1.mn] 25)).heap.size = w.heap.size + 1 from by simp] at this
    exact this)
  have HU : Hid (∀ W, Below W0.heap.size W0 W → Bx W w.heap.size #[.int .i64 P1.st, .int .i64 P1.tr, .slice AS1 P1.ss.length cs1, .slice AC1 D1.length cc1, .int .i64 P1.s0, .string P1.mn] 25 ∧ Bx W (w.heap.size + 1) #[.int .i64 P2.st, .int .i64 P2.tr, .slice AS2 P2.ss.length cs2, .slice AC2 D2.length cc2, .int .i64 P2.s0, .string P2.mn] 25) := Lib.hid (fun W hW => ⟨HX0.out.below hW, HY0.out.below hW⟩)
  have HB0 : Hid (Below W0.heap.size W0 W0) := Lib.hid (Below.refl _ _)
  have L1 := Lib.hid b1.2.1
  have L2 := Lib.hid b1.1
  have L3 := Lib.hid b2.1
  have L4 := Lib.hid hd1
  have L5 := Lib.hid hd2
  clear h1 h2 b1 b2 hd1 hd2
  have HSS : Hid (∀ W, Below w.heap.size w W → Calls Tryz.prog 61 #[.slice AS1 P1.ss.length cs1, .slice AS2 P2.ss.length cs2] W fun e w' => e = .returned (.bool (decide (P1.ss = P2.ss))) ∧ Below W.heap.size W w') := Lib.hid (fun W hW => n61 _ _ _ _ W (HP1.out W hW).1 (HP2.out W hW).1 L2.out L3.out)
  have HCC : Hid (∀ W, Below w.heap.size w W → Calls Tryz.prog 62 #[.slice AC1 D1.length cc1, .slice AC2 D2.length cc2, .func (.func 63) #[] #[]] W fun e w' => YN e (P1.cs = P2.cs) ∧ Below W.heap.size W w') := Lib.hid (fun W hW => by
    have := n62 _ _ D1 D2 W (HP1.out W hW).2.1 (HP2.out W hW).2.1 (HP1.out W hW).2.2.2 (HP2.out W hW).2.2.2 HB1.out HB2.out (by have := L1.out; have := L4.out; omega)
    rw [HD1.out, HD2.out] at this
    exact this)
  by_cases hq0 : ¬ (P1.st = P2.st)
  · have h0 := hq0
    have t0 : (P1.st == P2.st) = false := by simpa using h0
    have u0 : (P1.st != P2.st) = true := by simpa using h0
    have HR : Hid (false = true ↔ P1 = P2) := Lib.hid ⟨(fun h => by cases h), fun h => absurd (by rw [h]) h0⟩
    clear h0 hq0
    obtain ⟨hx, hy⟩ := HU.out _ HB0.out
    have p0 := hx.cell 0
    have q0 := hy.cell 0
    have p1 := hx.cell 1
    have q1 := hy.cell 1
    have p2 := hx.cell 2
    have q2 := hy.cell 2
    have p3 := hx.cell 3
    have q3 := hy.cell 3
    have p4 := hx.cell 4
    have q4 := hy.cell 4
    have p5 := hx.cell 5
    have q5 := hy.cell 5
    simp at p0 p1 p2 p3 p4 p5 q0 q1 q2 q3 q4 q5
    clear hx hy
    go_enter Tryz.func30, Tryz.ntmps30
    go_wp2_with fail
    go_ret
    exact ⟨⟨_, rfl, by first | exact HR.out | (have := HR.out; simpa using this)⟩, HBA.out.trans (HB0.out.mono HBA.out.size)⟩
  have h0 := Classical.not_not.1 hq0
  clear hq0
  by_cases hq1 : ¬ (P1.tr = P2.tr)
  · have h1 := hq1
    have t0 : (P1.st == P2.st) = true := by simpa using h0
    have u0 : (P1.st != P2.st) = false := by simpa using h0
    have t1 : (P1.tr == P2.tr) = false := by simpa using h1
    have u1 : (P1.tr != P2.tr) = true := by simpa using h1
    have HR : Hid (false = true ↔ P1 = P2) := Lib.hid ⟨(fun h => by cases h), fun h => absurd (by rw [h]) h1⟩
    clear h0 h1 hq1
    obtain ⟨hx, hy⟩ := HU.out _ HB0.out
    have p0 := hx.cell 0
    have q0 := hy.cell 0
    have p1 := hx.cell 1
    have q1 := hy.cell 1
    have p2 := hx.cell 2
    have q2 := hy.cell 2
    have p3 := hx.cell 3
    have q3 := hy.cell 3
    have p4 := hx.cell 4
    have q4 := hy.cell 4
    have p5 := hx.cell 5
    have q5 := hy.cell 5
    simp at p0 p1 p2 p3 p4 p5 q0 q1 q2 q3 q4 q5
    clear hx hy
    go_enter Tryz.func30, Tryz.ntmps30
    go_wp2_with fail
    go_ret
    exact ⟨⟨_, rfl, by first | exact HR.out | (have := HR.out; simpa using this)⟩, HBA.out.trans (HB0.out.mono HBA.out.size)⟩
  have h1 := Classical.not_not.1 hq1
  clear hq1
  by_cases hq2 : ¬ (P1.s0 = P2.s0)
  · have h2 := hq2
    have t0 : (P1.st == P2.st) = true := by simpa using h0
    have u0 : (P1.st != P2.st) = false := by simpa using h0
    have t1 : (P1.tr == P2.tr) = true := by simpa using h1
    have u1 : (P1.tr != P2.tr) = false := by simpa using h1
    have t2 : (P1.s0 == P2.s0) = false := by simpa using h2
    have u2 : (P1.s0 != P2.s0) = true := by simpa using h2
    have HR : Hid (false = true ↔ P1 = P2) := Lib.hid ⟨(fun h => by cases h), fun h => absurd (by rw [h]) h2⟩
    clear h0 h1 h2 hq2
    obtain ⟨hx, hy⟩ := HU.out _ HB0.out
    have p0 := hx.cell 0
    have q0 := hy.cell 0
    have p1 := hx.cell 1
    have q1 := hy.cell 1
    have p2 := hx.cell 2
    have q2 := hy.cell 2
    have p3 := hx.cell 3
    have q3 := hy.cell 3
    have p4 := hx.cell 4
    have q4 := hy.cell 4
    have p5 := hx.cell 5
    have q5 := hy.cell 5
    simp at p0 p1 p2 p3 p4 p5 q0 q1 q2 q3 q4 q5
    clear hx hy
    go_enter Tryz.func30, Tryz.ntmps30
    go_wp2_with fail
    go_ret
    exact ⟨⟨_, rfl, by first | exact HR.out | (have := HR.out; simpa using this)⟩, HBA.out.trans (HB0.out.mono HBA.out.size)⟩
  have h2 := Classical.not_not.1 hq2
  clear hq2
  by_cases hq3 : ¬ (P1.mn = P2.mn)
  · have h3 := hq3
    have t0 : (P1.st == P2.st) = true := by simpa using h0
    have u0 : (P1.st != P2.st) = false := by simpa using h0
    have t1 : (P1.tr == P2.tr) = true := by simpa using h1
    have u1 : (P1.tr != P2.tr) = false := by simpa using h1
    have t2 : (P1.s0 == P2.s0) = true := by simpa using h2
    have u2 : (P1.s0 != P2.s0) = false := by simpa using h2
    have t3 : (P1.mn.toList == P2.mn.toList) = false := by rw [bs_eq]; exact decide_eq_false h3
    have u3 : (P1.mn.toList != P2.mn.toList) = true := by rw [bne, t3]; rfl
    have HR : Hid (false = true ↔ P1 = P2) := Lib.hid ⟨(fun h => by cases h), fun h => absurd (by rw [h]) h3⟩
    clear h0 h1 h2 h3 hq3
    obtain ⟨hx, hy⟩ := HU.out _ HB0.out
    have p0 := hx.cell 0
    have q0 := hy.cell 0
    have p1 := hx.cell 1
    have q1 := hy.cell 1
    have p2 := hx.cell 2
    have q2 := hy.cell 2
    have p3 := hx.cell 3
    have q3 := hy.cell 3
    have p4 := hx.cell 4
    have q4 := hy.cell 4
    have p5 := hx.cell 5
    have q5 := hy.cell 5
    simp at p0 p1 p2 p3 p4 p5 q0 q1 q2 q3 q4 q5
    clear hx hy
    go_enter Tryz.func30, Tryz.ntmps30
    go_wp2_with fail
    go_ret
    exact ⟨⟨_, rfl, by first | exact HR.out | (have := HR.out; simpa using this)⟩, HBA.out.trans (HB0.out.mono HBA.out.size)⟩
  have h3 := Classical.not_not.1 hq3
  clear hq3
  by_cases hq4 : ¬ (P1.ss = P2.ss)
  · have h4 := hq4
    rw [decide_eq_false h4] at HSS
    have t0 : (P1.st == P2.st) = true := by simpa using h0
    have u0 : (P1.st != P2.st) = false := by simpa using h0
    have t1 : (P1.tr == P2.tr) = true := by simpa using h1
    have u1 : (P1.tr != P2.tr) = false := by simpa using h1
    have t2 : (P1.s0 == P2.s0) = true := by simpa using h2
    have u2 : (P1.s0 != P2.s0) = false := by simpa using h2
    have t3 : (P1.mn.toList == P2.mn.toList) = true := by rw [bs_eq]; exact decide_eq_true h3
    have u3 : (P1.mn.toList != P2.mn.toList) = false := by rw [bne, t3]; rfl
    have HR : Hid (false = true ↔ P1 = P2) := Lib.hid ⟨(fun h => by cases h), fun h => absurd (by rw [h]) h4⟩
    clear h0 h1 h2 h3 h4 hq4
    obtain ⟨hx, hy⟩ := HU.out _ HB0.out
    have p0 := hx.cell 0
    have q0 := hy.cell 0
    have p1 := hx.cell 1
    have q1 := hy.cell 1
    have p2 := hx.cell 2
    have q2 := hy.cell 2
    have p3 := hx.cell 3
    have q3 := hy.cell 3
    have p4 := hx.cell 4
    have q4 := hy.cell 4
    have p5 := hx.cell 5
    have q5 := hy.cell 5
    simp at p0 p1 p2 p3 p4 p5 q0 q1 q2 q3 q4 q5
    clear hx hy
    go_enter Tryz.func30, Tryz.ntmps30
    go_wp2_with fail
    with_reducible refine (HSS.out _ HBA.out).mono ?_
    rintro _ w1 ⟨rfl, hb⟩
    have HB3 : Hid (Below W0.heap.size W0 w1) := Lib.hid hb
    clear hb
    obtain ⟨hx, hy⟩ := HU.out _ HB3.out
    have p0 := hx.cell 0
    have q0 := hy.cell 0
    have p1 := hx.cell 1
    have q1 := hy.cell 1
    have p2 := hx.cell 2
    have q2 := hy.cell 2
    have p3 := hx.cell 3
    have q3 := hy.cell 3
    have p4 := hx.cell 4
    have q4 := hy.cell 4
    have p5 := hx.cell 5
    have q5 := hy.cell 5
    simp at p0 p1 p2 p3 p4 p5 q0 q1 q2 q3 q4 q5
    clear hx hy
    go_wp2_with fail
    go_ret
    exact ⟨⟨_, rfl, by first | exact HR.out | (have := HR.out; simpa using this)⟩, HBA.out.trans (HB3.out.mono HBA.out.size)⟩
  have h4 := Classical.not_not.1 hq4
  clear hq4
  rw [decide_eq_true h4] at HSS
  have t0 : (P1.st == P2.st) = true := by simpa using h0
  have u0 : (P1.st != P2.st) = false := by simpa using h0
  have t1 : (P1.tr == P2.tr) = true := by simpa using h1
  have u1 : (P1.tr != P2.tr) = false := by simpa using h1
  have t2 : (P1.s0 == P2.s0) = true := by simpa using h2
  have u2 : (P1.s0 != P2.s0) = false := by simpa using h2
  have t3 : (P1.mn.toList == P2.mn.toList) = true := by rw [bs_eq]; exact decide_eq_true h3
  have u3 : (P1.mn.toList != P2.mn.toList) = false := by rw [bne, t3]; rfl
  have HH : Hid (P1.cs = P2.cs ↔ P1 = P2) := Lib.hid ⟨fun h5 => pl_ext h0 h1 h2 h3 h4 h5, fun h => by rw [h]⟩
  clear h0 h1 h2 h3 h4
  obtain ⟨hx, hy⟩ := HU.out _ HB0.out
  have p0 := hx.cell 0
  have q0 := hy.cell 0
  have p1 := hx.cell 1
  have q1 := hy.cell 1
  have p2 := hx.cell 2
  have q2 := hy.cell 2
  have p3 := hx.cell 3
  have q3 := hy.cell 3
  have p4 := hx.cell 4
  have q4 := hy.cell 4
  have p5 := hx.cell 5
  have q5 := hy.cell 5
  simp at p0 p1 p2 p3 p4 p5 q0 q1 q2 q3 q4 q5
  clear hx hy
  go_enter Tryz.func30, Tryz.ntmps30
  go_wp2_with fail
  with_reducible refine (HSS.out _ HBA.out).mono ?_
  rintro _ w1 ⟨rfl, hb⟩
  have HB3 : Hid (Below W0.heap.size W0 w1) := Lib.hid hb
  clear hb
  obtain ⟨hx, hy⟩ := HU.out _ HB3.out
  have p0 := hx.cell 0
  have q0 := hy.cell 0
  have p1 := hx.cell 1
  have q1 := hy.cell 1
  have p2 := hx.cell 2
  have q2 := hy.cell 2
  have p3 := hx.cell 3
  have q3 := hy.cell 3
  have p4 := hx.cell 4
  have q4 := hy.cell 4
  have p5 := hx.cell 5
  have q5 := hy.cell 5
  simp at p0 p1 p2 p3 p4 p5 q0 q1 q2 q3 q4 q5
  clear hx hy
  go_wp2_with fail
  with_reducible refine (HCC.out _ (HBA.out.trans (HB3.out.mono HBA.out.size))).mono ?_
  rintro _ w2 ⟨⟨b, rfl, hb5⟩, hb⟩
  have HR := Lib.hid (hb5.trans HH.out)
  have HB4 : Hid (Below W0.heap.size W0 w2) := Lib.hid (HB3.out.trans (hb.mono HB3.out.size))
  clear hb hb5
  go_wp2_with fail
  go_ret
  exact ⟨⟨_, rfl, by first | exact HR.out | (have := HR.out; simpa using this)⟩, HBA.out.trans (HB4.out.mono HBA.out.size)⟩
end Go.Proofs.YtapdiionikfgpaaGreatDoor
