import Derived.Test.YtapdiionikfgpaaGreatDoorGo
import Derived.WalkSmall
import Derived.Deep.Cut
import Derived.Deep.CutRange
import Derived.Deep.RegionHeld3
import Derived.Laws.StructEq
namespace Go.Proofs.YtapdiionikfgpaaGreatDoor
open Go.ChangeShapes Go.WideShapes Go.ChangeAt Go.RowKit
set_option linter.unusedVariables false
set_option linter.unusedSimpArgs false
theorem two_al (w : World) (c1 c2 : Array Value) : Bx ((w.alloc (.cells c1 48)).alloc (.cells c2 48)) w.heap.size c1 48 ∧ Bx ((w.alloc (.cells c1 48)).alloc (.cells c2 48)) (w.heap.size + 1) c2 48 ∧ Below w.heap.size w ((w.alloc (.cells c1 48)).alloc (.cells c2 48)) :=
  ⟨(bx_alloc' w c1 48).below ((Below.refl _ _).alloc (Nat.le_refl _) _), by have := bx_alloc' (w.alloc (.cells c1 48)) c2 48; rw [show (w.alloc (.cells c1 48)).heap.size = w.heap.size + 1 from by simp] at this; exact this, ((Below.refl _ _).alloc (Nat.le_refl _) _).alloc (by simp) _⟩
theorem Bx.drw {W : World} {b t : Nat} {cs : Array Value} (h : Bx W b cs t) : Bx W.drew b cs t := h
set_option maxRecDepth 100000 in
set_option maxHeartbeats 8000000 in
theorem r10 (SV1 CV1 SV2 CV2 : Value) (P1 P2 : PlI) (D1 D2 : List (Sv × CoI)) (w : World) (h1 : PlL w SV1 CV1 P1 D1) (h2 : PlL w SV2 CV2 P2 D2) (b1 : BdP P1) (b2 : BdP P2) :
    Calls Tryz.prog 10 #[plV SV1 CV1 P1, plV SV2 CV2 P2] w fun e w' => YN e (P1 = P2) ∧ Below w.heap.size w w' := by
  have hd1 : D1.length = P1.cs.length := by rw [← h1.2.2.1]; simp
  have hd2 : D2.length = P2.cs.length := by rw [← h2.2.2.1]; simp
  have HD1 := Lib.hid h1.2.2.1
  have HD2 := Lib.hid h2.2.2.1
  have HB1 : Hid (∀ x ∈ D1, BdC x.2) := Lib.hid (fun x hx => b1.2.2 _ (by rw [← h1.2.2.1]; exact List.mem_map.2 ⟨x, hx, rfl⟩))
  have HB2 : Hid (∀ x ∈ D2, BdC x.2) := Lib.hid (fun x hx => b2.2.2 _ (by rw [← h2.2.2.1]; exact List.mem_map.2 ⟨x, hx, rfl⟩))
  have HP1 : Hid (∀ W, Below w.heap.size w W → PlL W SV1 CV1 P1 D1) := Lib.hid (fun W hW => h1.below hW)
  have HP2 : Hid (∀ W, Below w.heap.size w W → PlL W SV2 CV2 P2 D2) := Lib.hid (fun W hW => h2.below hW)
  obtain ⟨AS1, cs1, rfl, -⟩ := h1.1
  obtain ⟨AS2, cs2, rfl, -⟩ := h2.1
  obtain ⟨AC1, cc1, rfl, -⟩ := h1.2.1
  obtain ⟨AC2, cc2, rfl, -⟩ := h2.2.1
  unfold plV
  have HBA : Hid (Below w.heap.size w ((w.alloc (.cells #[.int .i64 P1.st, .int .i64 P1.tr, .slice AS1 P1.ss.length cs1, .slice AC1 D1.length cc1, .int .i64 P1.s0, .string P1.mn] 25)).alloc (.cells #[.int .i64 P2.st, .int .i64 P2.tr, .slice AS2 P2.ss.length cs2, .slice AC2 D2.length cc2, .int .i64 P2.s0, .string P2.mn] 25))) := Lib.hid (((Below.refl _ w).alloc (Nat.le_refl _) _).alloc (by simp) _)
  obtain ⟨W0, hW0⟩ : ∃ W0, ((w.alloc (.cells #[.int .i64 P1.st, .int .i64 P1.tr, .slice AS1 P1.ss.length cs1, .slice AC1 D1.length cc1, .int .i64 P1.s0, .string P1.mn] 25)).alloc (.cells #[.int .i64 P2.st, .int .i64 P2.tr, .slice AS2 P2.ss.length cs2, .slice AC2 D2.length cc2, .int .i64 P2.s0, .string P2.mn] 25)) = W0 := ⟨_, rfl⟩
  rw [hW0] at HBA
  have HX0 : Hid (Bx W0 w.heap.size #[.int .i64 P1.st, .int .i64 P1.tr, .slice AS1 P1.ss.length cs1, .slice AC1 D1.length cc1, .int .i64 P1.s0, .string P1.mn] 25) := Lib.hid (by rw [← hW0]; exact (bx_alloc' w _ _).below ((Below.refl _ _).alloc (Nat.le_refl _) _))
  have HY0 : Hid (Bx W0 (w.heap.size + 1) #[.int .i64 P2.st, .int .i64 P2.tr, .slice AS2 P2.ss.length cs2, .slice AC2 D2.length cc2, .int .i64 P2.s0, .string P2.mn] 25) := Lib.hid (by
    rw [← hW0]
    have := bx_alloc' (w.alloc (.cells #[.int .i64 P1.st, .int .i64 P1.tr, .slice AS1 P1.ss.length cs1, .slice AC1 D1.length cc1, .int .i64 P1.s0, .string P1.mn] 25)) #[.int .i64 P2.st, .int .i64 P2.tr, .slice AS2 P2.ss.length cs2, .slice AC2 D2.length cc2, .int .i64 P2.s0, .string P2.mn] 25
    rw [show (w.alloc (.cells #[.int .i64 P1.st, .int .i64 P1.tr, .slice AS1 P1.ss.length cs1, .slice AC1 D1.length cc1, .int .i64 P1.s0, .string P1.mn] 25)).heap.size = w.heap.size + 1 from by simp] at this
    exact this)
  have HU : Hid (∀ W, Below W0.heap.size W0 W → Bx W w.heap.size #[.int .i64 P1.st, .int .i64 P1.tr, .slice AS1 P1.ss.length cs1, .slice AC1 D1.length cc1, .int .i64 P1.s0, .string P1.mn] 25 ∧ Bx W (w.heap.size + 1) #[.int .i64 P2.st, .int .i64 P2.tr, .slice AS2 P2.ss.length cs2, .slice AC2 D2.length cc2, .int .i64 P2.s0, .string P2.mn] 25) := Lib.hid (fun W hW => ⟨HX0.out.below hW, HY0.out.below hW⟩)
  have HB0 : Hid (Below W0.heap.size W0 W0) := Lib.hid (Below.refl _ _)
  have L1 := Lib.hid b1.2.1
  have L2 := Lib.hid b1.1
  have L3 := Lib.hid b2.1
  have L4 := Lib.hid hd1
  have L5 := Lib.hid hd2
  clear h1 h2 b1 b2 hd1 hd2
  have HI1 : Hid (∀ x ∈ D1, IsS x.1.f ∧ IsS x.1.e ∧ IsS x.1.i ∧ IsS x.1.d ∧ IsS x.1.g) := Lib.hid (fun x hx => by have c1 := (HP1.out w (Below.refl _ _)).2.2.2 x hx; exact ⟨isS_ly c1.1, isS_ly c1.2.1, isS_ly c1.2.2.1, isS_ly c1.2.2.2.1, isS_ly c1.2.2.2.2⟩)
  have HI2 : Hid (∀ x ∈ D2, IsS x.1.f ∧ IsS x.1.e ∧ IsS x.1.i ∧ IsS x.1.d ∧ IsS x.1.g) := Lib.hid (fun x hx => by have c1 := (HP2.out w (Below.refl _ _)).2.2.2 x hx; exact ⟨isS_ly c1.1, isS_ly c1.2.1, isS_ly c1.2.2.1, isS_ly c1.2.2.2.1, isS_ly c1.2.2.2.2⟩)
  by_cases hq0 : ¬ (P1.st = P2.st)
  · have h0 := hq0
    have t0 : (P1.st == P2.st) = false := by simpa using h0
    have u0 : (P1.st != P2.st) = true := by simpa using h0
    have HR : Hid (false = true ↔ P1 = P2) := Lib.hid ⟨(fun h => by cases h), fun h => absurd (by rw [h]) h0⟩
    clear h0 hq0
    obtain ⟨hx, hy⟩ := HU.out _ HB0.out
    have p0 := hx.cell 0
    have q0 := hy.cell 0
    have p1 := hx.cell 1
    have q1 := hy.cell 1
    have p2 := hx.cell 2
    have q2 := hy.cell 2
    have p3 := hx.cell 3
    have q3 := hy.cell 3
    have p4 := hx.cell 4
    have q4 := hy.cell 4
    have p5 := hx.cell 5
    have q5 := hy.cell 5
    simp at p0 p1 p2 p3 p4 p5 q0 q1 q2 q3 q4 q5
    clear hx hy
    go_enter Tryz.func10, Tryz.ntmps10
    go_wp2_with fail
    go_ret
    exact ⟨⟨_, rfl, by first | exact HR.out | (have := HR.out; simpa using this)⟩, HBA.out.trans (HB0.out.mono HBA.out.size)⟩
  have h0 := Classical.not_not.1 hq0
  clear hq0
  by_cases hq1 : ¬ (P1.tr = P2.tr)
  · have h1 := hq1
    have t0 : (P1.st == P2.st) = true := by simpa using h0
    have u0 : (P1.st != P2.st) = false := by simpa using h0
    have t1 : (P1.tr == P2.tr) = false := by simpa using h1
    have u1 : (P1.tr != P2.tr) = true := by simpa using h1
    have HR : Hid (false = true ↔ P1 = P2) := Lib.hid ⟨(fun h => by cases h), fun h => absurd (by rw [h]) h1⟩
    clear h0 h1 hq1
    obtain ⟨hx, hy⟩ := HU.out _ HB0.out
    have p0 := hx.cell 0
    have q0 := hy.cell 0
    have p1 := hx.cell 1
    have q1 := hy.cell 1
    have p2 := hx.cell 2
    have q2 := hy.cell 2
    have p3 := hx.cell 3
    have q3 := hy.cell 3
    have p4 := hx.cell 4
    have q4 := hy.cell 4
    have p5 := hx.cell 5
    have q5 := hy.cell 5
    simp at p0 p1 p2 p3 p4 p5 q0 q1 q2 q3 q4 q5
    clear hx hy
    go_enter Tryz.func10, Tryz.ntmps10
    go_wp2_with fail
    go_ret
    exact ⟨⟨_, rfl, by first | exact HR.out | (have := HR.out; simpa using this)⟩, HBA.out.trans (HB0.out.mono HBA.out.size)⟩
  have h1 := Classical.not_not.1 hq1
  clear hq1
  by_cases hq2 : ¬ (P1.s0 = P2.s0)
  · have h2 := hq2
    have t0 : (P1.st == P2.st) = true := by simpa using h0
    have u0 : (P1.st != P2.st) = false := by simpa using h0
    have t1 : (P1.tr == P2.tr) = true := by simpa using h1
    have u1 : (P1.tr != P2.tr) = false := by simpa using h1
    have t2 : (P1.s0 == P2.s0) = false := by simpa using h2
    have u2 : (P1.s0 != P2.s0) = true := by simpa using h2
    have HR : Hid (false = true ↔ P1 = P2) := Lib.hid ⟨(fun h => by cases h), fun h => absurd (by rw [h]) h2⟩
    clear h0 h1 h2 hq2
    obtain ⟨hx, hy⟩ := HU.out _ HB0.out
    have p0 := hx.cell 0
    have q0 := hy.cell 0
    have p1 := hx.cell 1
    have q1 := hy.cell 1
    have p2 := hx.cell 2
    have q2 := hy.cell 2
    have p3 := hx.cell 3
    have q3 := hy.cell 3
    have p4 := hx.cell 4
    have q4 := hy.cell 4
    have p5 := hx.cell 5
    have q5 := hy.cell 5
    simp at p0 p1 p2 p3 p4 p5 q0 q1 q2 q3 q4 q5
    clear hx hy
    go_enter Tryz.func10, Tryz.ntmps10
    go_wp2_with fail
    go_ret
    exact ⟨⟨_, rfl, by first | exact HR.out | (have := HR.out; simpa using this)⟩, HBA.out.trans (HB0.out.mono HBA.out.size)⟩
  have h2 := Classical.not_not.1 hq2
  clear hq2
  by_cases hq3 : ¬ (P1.mn = P2.mn)
  · have h3 := hq3
    have t0 : (P1.st == P2.st) = true := by simpa using h0
    have u0 : (P1.st != P2.st) = false := by simpa using h0
    have t1 : (P1.tr == P2.tr) = true := by simpa using h1
    have u1 : (P1.tr != P2.tr) = false := by simpa using h1
    have t2 : (P1.s0 == P2.s0) = true := by simpa using h2
    have u2 : (P1.s0 != P2.s0) = false := by simpa using h2
    have t3 : (P1.mn.toList == P2.mn.toList) = false := by rw [bs_eq]; exact decide_eq_false h3
    have u3 : (P1.mn.toList != P2.mn.toList) = true := by rw [bne, t3]; rfl
    have HR : Hid (false = true ↔ P1 = P2) := Lib.hid ⟨(fun h => by cases h), fun h => absurd (by rw [h]) h3⟩
    clear h0 h1 h2 h3 hq3
    obtain ⟨hx, hy⟩ := HU.out _ HB0.out
    have p0 := hx.cell 0
    have q0 := hy.cell 0
    have p1 := hx.cell 1
    have q1 := hy.cell 1
    have p2 := hx.cell 2
    have q2 := hy.cell 2
    have p3 := hx.cell 3
    have q3 := hy.cell 3
    have p4 := hx.cell 4
    have q4 := hy.cell 4
    have p5 := hx.cell 5
    have q5 := hy.cell 5
    simp at p0 p1 p2 p3 p4 p5 q0 q1 q2 q3 q4 q5
    clear hx hy
    go_enter Tryz.func10, Tryz.ntmps10
    go_wp2_with fail
    go_ret
    exact ⟨⟨_, rfl, by first | exact HR.out | (have := HR.out; simpa using this)⟩, HBA.out.trans (HB0.out.mono HBA.out.size)⟩
  have h3 := Classical.not_not.1 hq3
  clear hq3
  by_cases hq4 : ¬ (P1.ss.length = P2.ss.length)
  · have h4 := hq4
    have t0 : (P1.st == P2.st) = true := by simpa using h0
    have u0 : (P1.st != P2.st) = false := by simpa using h0
    have t1 : (P1.tr == P2.tr) = true := by simpa using h1
    have u1 : (P1.tr != P2.tr) = false := by simpa using h1
    have t2 : (P1.s0 == P2.s0) = true := by simpa using h2
    have u2 : (P1.s0 != P2.s0) = false := by simpa using h2
    have t3 : (P1.mn.toList == P2.mn.toList) = true := by rw [bs_eq]; exact decide_eq_true h3
    have u3 : (P1.mn.toList != P2.mn.toList) = false := by rw [bne, t3]; rfl
    have t4 : ((P1.ss.length : Int) != (P2.ss.length : Int)) = true := by simp; omega
    have HR : Hid (false = true ↔ P1 = P2) := Lib.hid ⟨(fun h => by cases h), fun h => absurd (by rw [h]) h4⟩
    clear h0 h1 h2 h3 h4 hq4
    obtain ⟨hx, hy⟩ := HU.out _ HB0.out
    have p0 := hx.cell 0
    have q0 := hy.cell 0
    have p1 := hx.cell 1
    have q1 := hy.cell 1
    have p2 := hx.cell 2
    have q2 := hy.cell 2
    have p3 := hx.cell 3
    have q3 := hy.cell 3
    have p4 := hx.cell 4
    have q4 := hy.cell 4
    have p5 := hx.cell 5
    have q5 := hy.cell 5
    simp at p0 p1 p2 p3 p4 p5 q0 q1 q2 q3 q4 q5
    clear hx hy
    go_enter Tryz.func10, Tryz.ntmps10
    go_wp2_with fail
    go_ret
    exact ⟨⟨_, rfl, by first | exact HR.out | (have := HR.out; simpa using this)⟩, HBA.out.trans (HB0.out.mono HBA.out.size)⟩
  have h4 := Classical.not_not.1 hq4
  clear hq4
  by_cases hq5 : ¬ (D1.length = D2.length)
  · have h5 := hq5
    have t0 : (P1.st == P2.st) = true := by simpa using h0
    have u0 : (P1.st != P2.st) = false := by simpa using h0
    have t1 : (P1.tr == P2.tr) = true := by simpa using h1
    have u1 : (P1.tr != P2.tr) = false := by simpa using h1
    have t2 : (P1.s0 == P2.s0) = true := by simpa using h2
    have u2 : (P1.s0 != P2.s0) = false := by simpa using h2
    have t3 : (P1.mn.toList == P2.mn.toList) = true := by rw [bs_eq]; exact decide_eq_true h3
    have u3 : (P1.mn.toList != P2.mn.toList) = false := by rw [bne, t3]; rfl
    have t4 : ((P1.ss.length : Int) != (P2.ss.length : Int)) = false := by simp; omega
    have t5 : ((D1.length : Int) != (D2.length : Int)) = true := by simp; omega
    have HR : Hid (false = true ↔ P1 = P2) := Lib.hid ⟨(fun h => by cases h), fun h => absurd (by rw [L4.out, L5.out, h]) h5⟩
    clear h0 h1 h2 h3 h4 h5 hq5
    obtain ⟨hx, hy⟩ := HU.out _ HB0.out
    have p0 := hx.cell 0
    have q0 := hy.cell 0
    have p1 := hx.cell 1
    have q1 := hy.cell 1
    have p2 := hx.cell 2
    have q2 := hy.cell 2
    have p3 := hx.cell 3
    have q3 := hy.cell 3
    have p4 := hx.cell 4
    have q4 := hy.cell 4
    have p5 := hx.cell 5
    have q5 := hy.cell 5
    simp at p0 p1 p2 p3 p4 p5 q0 q1 q2 q3 q4 q5
    clear hx hy
    go_enter Tryz.func10, Tryz.ntmps10
    go_wp2_with fail
    go_ret
    exact ⟨⟨_, rfl, by first | exact HR.out | (have := HR.out; simpa using this)⟩, HBA.out.trans (HB0.out.mono HBA.out.size)⟩
  have h5 := Classical.not_not.1 hq5
  clear hq5
  have t0 : (P1.st == P2.st) = true := by simpa using h0
  have u0 : (P1.st != P2.st) = false := by simpa using h0
  have t1 : (P1.tr == P2.tr) = true := by simpa using h1
  have u1 : (P1.tr != P2.tr) = false := by simpa using h1
  have t2 : (P1.s0 == P2.s0) = true := by simpa using h2
  have u2 : (P1.s0 != P2.s0) = false := by simpa using h2
  have t3 : (P1.mn.toList == P2.mn.toList) = true := by rw [bs_eq]; exact decide_eq_true h3
  have u3 : (P1.mn.toList != P2.mn.toList) = false := by rw [bne, t3]; rfl
  have t4 : ((P1.ss.length : Int) != (P2.ss.length : Int)) = false := by simp; omega
  have t5 : ((D1.length : Int) != (D2.length : Int)) = false := by simp; omega
  have HH : Hid (P1.ss = P2.ss → (P1.cs = P2.cs ↔ P1 = P2)) := Lib.hid (fun h4 => ⟨fun h5 => pl_ext h0 h1 h2 h3 h4 h5, fun h => by rw [h]⟩)
  have M4 := Lib.hid h4
  have M5 := Lib.hid h5
  clear h0 h1 h2 h3 h4 h5
  obtain ⟨hx, hy⟩ := HU.out _ HB0.out
  have p0 := hx.cell 0
  have q0 := hy.cell 0
  have p1 := hx.cell 1
  have q1 := hy.cell 1
  have p2 := hx.cell 2
  have q2 := hy.cell 2
  have p3 := hx.cell 3
  have q3 := hy.cell 3
  have p4 := hx.cell 4
  have q4 := hy.cell 4
  have p5 := hx.cell 5
  have q5 := hy.cell 5
  simp at p0 p1 p2 p3 p4 p5 q0 q1 q2 q3 q4 q5
  clear hx hy
  go_enter Tryz.func10, Tryz.ntmps10
  go_wp2_with fail
  clear p0 p1 p2 p3 p4 p5 q0 q1 q2 q3 q4 q5 t0 t1 t2 t3 t4 t5 u0 u1 u2 u3

  clear hW0
  go_loopw [5] (fun i wr => RE W0 P1.ss P2.ss i wr) (fun i _ => P1.ss.length - (intOf i).toNat)
  case atStart => exact ⟨0, Nat.zero_le _, rfl, Below.refl _ _, fun j hj => absurd hj (by omega)⟩
  case round =>
    obtain ⟨k, hk, rfl, hb, hm⟩ := hrel
    have HB := Lib.hid hb
    have HM := Lib.hid hm
    clear hb hm
    obtain ⟨hx, hy⟩ := HU.out _ HB.out
    have p0 := hx.cell 0
    have q0 := hy.cell 0
    have p1 := hx.cell 1
    have q1 := hy.cell 1
    have p2 := hx.cell 2
    have q2 := hy.cell 2
    have p3 := hx.cell 3
    have q3 := hy.cell 3
    have p4 := hx.cell 4
    have q4 := hy.cell 4
    have p5 := hx.cell 5
    have q5 := hy.cell 5
    simp at p0 p1 p2 p3 p4 p5 q0 q1 q2 q3 q4 q5
    clear hx hy
    by_cases hlt : k < P1.ss.length
    · obtain ⟨x, hx⟩ : ∃ x, P1.ss[k]? = some x := ⟨_, List.getElem?_eq_getElem hlt⟩
      obtain ⟨y, hy⟩ : ∃ y, P2.ss[k]? = some y := ⟨_, List.getElem?_eq_getElem (by have := M4.out; omega)⟩
      have hBW := HBA.out.trans (HB.out.mono HBA.out.size)
      obtain ⟨b1, o1, he1, hb1, hc1⟩ := ((HP1.out _ hBW).1.at').2 (by omega)
      obtain ⟨b2, o2, he2, hb2, hc2⟩ := ((HP2.out _ hBW).1.at').2 (by have := M4.out; omega)
      subst he1 he2
      have r0 : wr.cell? ⟨b1, o1 + k * 2, none⟩ = some (.string x.1) := hc1 k x hx 0 _ rfl
      have r1 : wr.cell? ⟨b1, o1 + k * 2 + 1, none⟩ = some (.int .i64 x.2) := hc1 k x hx 1 _ rfl
      have s0 : wr.cell? ⟨b2, o2 + k * 2, none⟩ = some (.string y.1) := hc2 k y hy 0 _ rfl
      have s1 : wr.cell? ⟨b2, o2 + k * 2 + 1, none⟩ = some (.int .i64 y.2) := hc2 k y hy 1 _ rfl
      have hkn : (k : Int) < (P1.ss.length : Int) := by omega
      have hkn2 : (k : Int) < (P2.ss.length : Int) := by have := M4.out; omega
      have hl1m := L2.out
      have hkw : IntKind.i64.wrap (k : Int) = (k : Int) := by rw [IntKind.wrap_i64]; omega
      have HX := Lib.hid hx
      have HY := Lib.hid hy
      have HLT := Lib.hid hlt
      have HBW := Lib.hid hBW
      clear hx hy hlt hc1 hc2 hb1 hb2 hBW
      by_cases ht0 : ¬ (x.1 = y.1)
      · have z0 : (x.1.toList == y.1.toList) = false := by rw [bs_eq]; exact decide_eq_false ht0
        have HR : Hid (false = true ↔ P1 = P2) := Lib.hid ⟨(fun h => by cases h), fun h => absurd (by rw [h]) (ne_of_at HX.out HY.out (fun e => ht0 (by rw [e])))⟩
        clear ht0
        go_wp2_with fail
        go_quiet (fail)
        go_wp2_with fail
        go_ret
        exact ⟨⟨_, rfl, by first | exact HR.out | (have := HR.out; simpa using this)⟩, by first | exact HBW.out | exact below_drewN HBW.out _⟩
      have z0 : (x.1.toList == y.1.toList) = true := by rw [bs_eq]; exact decide_eq_true (Classical.not_not.1 ht0)
      by_cases ht1 : ¬ (x.2 = y.2)
      · have z1 : (x.2 == y.2) = false := by simpa using ht1
        have HR : Hid (false = true ↔ P1 = P2) := Lib.hid ⟨(fun h => by cases h), fun h => absurd (by rw [h]) (ne_of_at HX.out HY.out (fun e => ht1 (by rw [e])))⟩
        clear ht0 ht1
        go_wp2_with fail
        go_quiet (fail)
        go_wp2_with fail
        go_ret
        exact ⟨⟨_, rfl, by first | exact HR.out | (have := HR.out; simpa using this)⟩, by first | exact HBW.out | exact below_drewN HBW.out _⟩
      have z1 : (x.2 == y.2) = true := by simpa using (Classical.not_not.1 ht1)
      have HXY : Hid (x = y) := Lib.hid (Prod.ext (Classical.not_not.1 ht0) (Classical.not_not.1 ht1))
      clear ht0 ht1
      go_wp2_with fail
      go_quiet (fail)
      go_wp2_with fail
      go_roundw
      case rel => exact ⟨k + 1, HLT.out, by go_num, by first | exact HB.out | exact below_drewN HB.out _, fun j hj => by
        by_cases hjk : j = k
        · rw [hjk, HX.out, HY.out, HXY.out]
        · exact HM.out j (by omega)⟩
      case measure => simp [intOf]; have := HLT.out; omega
    · have HSQ : Hid (P1.ss = P2.ss) := Lib.hid (eq_of_all M4.out (fun j hj => HM.out j (by omega)))
      have HH2 : Hid (P1.cs = P2.cs ↔ P1 = P2) := Lib.hid (HH.out HSQ.out)
      obtain rfl : k = P1.ss.length := by omega
      clear hlt hk HM
      go_wp2_with fail
      clear p0 p1 p2 p3 p4 p5 q0 q1 q2 q3 q4 q5
      generalize wr = W1 at *
      go_loopw [6, 7, 8] (fun i _ _ wr => RF W0 P1.cs P2.cs D1.length i wr) (fun i _ _ _ => D1.length - (intOf i).toNat)
      case atStart => exact ⟨0, Nat.zero_le _, rfl, HB.out, fun j hj => absurd hj (by omega)⟩
      case round =>
        obtain ⟨k, hk, rfl, hb, hm⟩ := hrel
        have HB5 := Lib.hid hb
        have HM := Lib.hid hm
        clear hb hm
        obtain ⟨hx, hy⟩ := HU.out _ HB5.out
        have p0 := hx.cell 0
        have q0 := hy.cell 0
        have p1 := hx.cell 1
        have q1 := hy.cell 1
        have p2 := hx.cell 2
        have q2 := hy.cell 2
        have p3 := hx.cell 3
        have q3 := hy.cell 3
        have p4 := hx.cell 4
        have q4 := hy.cell 4
        have p5 := hx.cell 5
        have q5 := hy.cell 5
        simp at p0 p1 p2 p3 p4 p5 q0 q1 q2 q3 q4 q5
        clear hx hy
        by_cases hlt : k < D1.length
        · obtain ⟨x, hx⟩ : ∃ x, D1[k]? = some x := ⟨_, List.getElem?_eq_getElem hlt⟩
          obtain ⟨y, hy⟩ : ∃ y, D2[k]? = some y := ⟨_, List.getElem?_eq_getElem (by have := M5.out; omega)⟩
          have hBW := HBA.out.trans (HB5.out.mono HBA.out.size)
          have hcx := (HP1.out w (Below.refl _ _)).2.2.2 x (List.mem_of_getElem? hx)
          have hcy := (HP2.out w (Below.refl _ _)).2.2.2 y (List.mem_of_getElem? hy)
          have hbx := HB1.out x (List.mem_of_getElem? hx)
          have hby := HB2.out y (List.mem_of_getElem? hy)
          have Hfs : Hid (∀ W, Below w.heap.size w W → Calls Tryz.prog 23 #[x.1.f, y.1.f] W fun e w' => e = .returned (.bool (decide (x.2.fs = y.2.fs))) ∧ Below W.heap.size W w') := Lib.hid (fun W hW => r23 _ _ _ _ W (hcx.1.below hW) (hcy.1.below hW) hbx.1 hby.1)
          have Hes : Hid (∀ W, Below w.heap.size w W → Calls Tryz.prog 24 #[x.1.e, y.1.e] W fun e w' => e = .returned (.bool (decide (x.2.es = y.2.es))) ∧ Below W.heap.size W w') := Lib.hid (fun W hW => r24 _ _ _ _ W (hcx.2.1.below hW) (hcy.2.1.below hW) hbx.2.1 hby.2.1)
          have His : Hid (∀ W, Below w.heap.size w W → Calls Tryz.prog 25 #[x.1.i, y.1.i] W fun e w' => e = .returned (.bool (decide (x.2.is = y.2.is))) ∧ Below W.heap.size W w') := Lib.hid (fun W hW => r25 _ _ _ _ W (hcx.2.2.1.below hW) (hcy.2.2.1.below hW) hbx.2.2.1 hby.2.2.1)
          have Hds : Hid (∀ W, Below w.heap.size w W → Calls Tryz.prog 26 #[x.1.d, y.1.d] W fun e w' => e = .returned (.bool (decide (x.2.ds = y.2.ds))) ∧ Below W.heap.size W w') := Lib.hid (fun W hW => r26 _ _ _ _ W (hcx.2.2.2.1.below hW) (hcy.2.2.2.1.below hW) hbx.2.2.2.1 hby.2.2.2.1)
          have Hgs : Hid (∀ W, Below w.heap.size w W → Calls Tryz.prog 27 #[x.1.g, y.1.g] W fun e w' => e = .returned (.bool (decide (x.2.gs = y.2.gs))) ∧ Below W.heap.size W w') := Lib.hid (fun W hW => r27 _ _ _ _ W (hcx.2.2.2.2.below hW) (hcy.2.2.2.2.below hW) hbx.2.2.2.2 hby.2.2.2.2)
          clear hcx hcy hbx hby
          obtain ⟨⟨F1, n1, c1, g1⟩, ⟨F2, n2, c2, g2⟩, ⟨F3, n3, c3, g3⟩, ⟨F4, n4, c4, g4⟩, ⟨F5, n5, c5, g5⟩⟩ := HI1.out x (List.mem_of_getElem? hx)
          obtain ⟨⟨E1, m1, d1, k1⟩, ⟨E2, m2, d2, k2⟩, ⟨E3, m3, d3, k3⟩, ⟨E4, m4, d4, k4⟩, ⟨E5, m5, d5, k5⟩⟩ := HI2.out y (List.mem_of_getElem? hy)
          obtain ⟨⟨xf, xe, xi, xd, xg⟩, xc⟩ := x
          obtain ⟨⟨yf, ye, yi, yd, yg⟩, yc⟩ := y
          simp only at g1 g2 g3 g4 g5 k1 k2 k3 k4 k5 Hfs Hes His Hds Hgs
          subst g1 g2 g3 g4 g5 k1 k2 k3 k4 k5
          obtain ⟨b1, o1, he1, hb1, hc1⟩ := ((HP1.out _ hBW).2.1.at').2 (by omega)
          obtain ⟨b2, o2, he2, hb2, hc2⟩ := ((HP2.out _ hBW).2.1.at').2 (by have := M5.out; omega)
          subst he1 he2
          have HCL : Hid (∀ W, Below wr.heap.size wr W → W.cell? ⟨b1, o1 + k * 6, none⟩ = some (.string xc.nm) ∧ W.cell? ⟨b2, o2 + k * 6, none⟩ = some (.string yc.nm) ∧ W.cell? ⟨b1, o1 + k * 6 + 1, none⟩ = some (.slice F1 n1 c1) ∧ W.cell? ⟨b2, o2 + k * 6 + 1, none⟩ = some (.slice E1 m1 d1) ∧ W.cell? ⟨b1, o1 + k * 6 + 2, none⟩ = some (.slice F2 n2 c2) ∧ W.cell? ⟨b2, o2 + k * 6 + 2, none⟩ = some (.slice E2 m2 d2) ∧ W.cell? ⟨b1, o1 + k * 6 + 3, none⟩ = some (.slice F3 n3 c3) ∧ W.cell? ⟨b2, o2 + k * 6 + 3, none⟩ = some (.slice E3 m3 d3) ∧ W.cell? ⟨b1, o1 + k * 6 + 4, none⟩ = some (.slice F4 n4 c4) ∧ W.cell? ⟨b2, o2 + k * 6 + 4, none⟩ = some (.slice E4 m4 d4) ∧ W.cell? ⟨b1, o1 + k * 6 + 5, none⟩ = some (.slice F5 n5 c5) ∧ W.cell? ⟨b2, o2 + k * 6 + 5, none⟩ = some (.slice E5 m5 d5) ∧ W.cell? ⟨w.heap.size, 3, none⟩ = some (.slice (some ⟨b1, o1, none⟩) D1.length cc1) ∧ W.cell? ⟨w.heap.size + 1, 3, none⟩ = some (.slice (some ⟨b2, o2, none⟩) D2.length cc2)) := Lib.hid (fun W hW => by
            obtain ⟨hx', hy'⟩ := HU.out W (HB5.out.trans (hW.mono HB5.out.size))
            refine ⟨(hW.cell (p := ⟨b1, _, none⟩) hb1).trans (hc1 k _ hx 0 _ rfl), (hW.cell (p := ⟨b2, _, none⟩) hb2).trans (hc2 k _ hy 0 _ rfl), (hW.cell (p := ⟨b1, _, none⟩) hb1).trans (hc1 k _ hx 1 _ rfl), (hW.cell (p := ⟨b2, _, none⟩) hb2).trans (hc2 k _ hy 1 _ rfl), (hW.cell (p := ⟨b1, _, none⟩) hb1).trans (hc1 k _ hx 2 _ rfl), (hW.cell (p := ⟨b2, _, none⟩) hb2).trans (hc2 k _ hy 2 _ rfl), (hW.cell (p := ⟨b1, _, none⟩) hb1).trans (hc1 k _ hx 3 _ rfl), (hW.cell (p := ⟨b2, _, none⟩) hb2).trans (hc2 k _ hy 3 _ rfl), (hW.cell (p := ⟨b1, _, none⟩) hb1).trans (hc1 k _ hx 4 _ rfl), (hW.cell (p := ⟨b2, _, none⟩) hb2).trans (hc2 k _ hy 4 _ rfl), (hW.cell (p := ⟨b1, _, none⟩) hb1).trans (hc1 k _ hx 5 _ rfl), (hW.cell (p := ⟨b2, _, none⟩) hb2).trans (hc2 k _ hy 5 _ rfl), hx'.cell 3, hy'.cell 3⟩)
          have hkn : (k : Int) < (D1.length : Int) := by omega
          have hkn2 : (k : Int) < (D2.length : Int) := by have := M5.out; omega
          have hl1m := L1.out
          have hk20 : k ≤ 1048576 := by have := L4.out; omega
          have hkw : IntKind.i64.wrap (k : Int) = (k : Int) := by rw [IntKind.wrap_i64]; have := L4.out; omega
          have HX : Hid (P1.cs[k]? = some xc) := Lib.hid (by rw [← HD1.out, List.getElem?_map, hx]; rfl)
          have HY : Hid (P2.cs[k]? = some yc) := Lib.hid (by rw [← HD2.out, List.getElem?_map, hy]; rfl)
          have HLT := Lib.hid hlt
          have HBW := Lib.hid hBW
          clear hx hy hlt hc1 hc2 hb1 hb2 hBW p0 p1 p2 p3 p4 p5 q0 q1 q2 q3 q4 q5
          obtain ⟨p0, q0, p1, q1, p2, q2, p3, q3, p4, q4, p5, q5, p6, q6⟩ := HCL.out wr (Below.refl _ _)
          go_upto_region 14 with fail
          go_cut [7, 8] from 78 to 87 (fun u v W' => ∃ p7 p8 : Nat, u = .pointer (some ⟨p7, 0, none⟩) ∧ v = .pointer (some ⟨p8, 0, none⟩) ∧ Bx W' p7 #[.string xc.nm, .slice F1 n1 c1, .slice F2 n2 c2, .slice F3 n3 c3, .slice F4 n4 c4, .slice F5 n5 c5] 48 ∧ Bx W' p8 #[.string yc.nm, .slice E1 m1 d1, .slice E2 m2 d2, .slice E3 m3 d3, .slice E4 m4 d4, .slice E5 m5 d5] 48 ∧ Below wr.heap.size wr W')
          case first =>
            have hz1 := fun cs => HCL.out (wr.alloc (.cells cs 48)) ((Below.refl _ _).alloc (Nat.le_refl _) _)
            have hz2 := fun cs cs' => HCL.out ((wr.alloc (.cells cs 48)).alloc (.cells cs' 48)) (((Below.refl _ _).alloc (Nat.le_refl _) _).alloc (by simp) _)
            have a0 := fun cs => (hz1 cs).1
            have e0 := fun cs cs' => (hz2 cs cs').1
            have a1 := fun cs => (hz1 cs).2.1
            have e1 := fun cs cs' => (hz2 cs cs').2.1
            have a2 := fun cs => (hz1 cs).2.2.1
            have e2 := fun cs cs' => (hz2 cs cs').2.2.1
            have a3 := fun cs => (hz1 cs).2.2.2.1
            have e3 := fun cs cs' => (hz2 cs cs').2.2.2.1
            have a4 := fun cs => (hz1 cs).2.2.2.2.1
            have e4 := fun cs cs' => (hz2 cs cs').2.2.2.2.1
            have a5 := fun cs => (hz1 cs).2.2.2.2.2.1
            have e5 := fun cs cs' => (hz2 cs cs').2.2.2.2.2.1
            have a6 := fun cs => (hz1 cs).2.2.2.2.2.2.1
            have e6 := fun cs cs' => (hz2 cs cs').2.2.2.2.2.2.1
            have a7 := fun cs => (hz1 cs).2.2.2.2.2.2.2.1
            have e7 := fun cs cs' => (hz2 cs cs').2.2.2.2.2.2.2.1
            have a8 := fun cs => (hz1 cs).2.2.2.2.2.2.2.2.1
            have e8 := fun cs cs' => (hz2 cs cs').2.2.2.2.2.2.2.2.1
            have a9 := fun cs => (hz1 cs).2.2.2.2.2.2.2.2.2.1
            have e9 := fun cs cs' => (hz2 cs cs').2.2.2.2.2.2.2.2.2.1
            have a10 := fun cs => (hz1 cs).2.2.2.2.2.2.2.2.2.2.1
            have e10 := fun cs cs' => (hz2 cs cs').2.2.2.2.2.2.2.2.2.2.1
            have a11 := fun cs => (hz1 cs).2.2.2.2.2.2.2.2.2.2.2.1
            have e11 := fun cs cs' => (hz2 cs cs').2.2.2.2.2.2.2.2.2.2.2.1
            have a12 := fun cs => (hz1 cs).2.2.2.2.2.2.2.2.2.2.2.2.1
            have e12 := fun cs cs' => (hz2 cs cs').2.2.2.2.2.2.2.2.2.2.2.2.1
            have a13 := fun cs => (hz1 cs).2.2.2.2.2.2.2.2.2.2.2.2.2
            have e13 := fun cs cs' => (hz2 cs cs').2.2.2.2.2.2.2.2.2.2.2.2.2
            clear hz1 hz2
            go_region
            all_goals
              go_wp2_with fail
              go_meet
              case rel =>
                first
                | exact ⟨_, _, rfl, rfl, (two_al wr _ _).1, (two_al wr _ _).2.1, (two_al wr _ _).2.2⟩
                | exact ⟨_, _, rfl, rfl, (two_al wr _ _).2.1, (two_al wr _ _).1, (two_al wr _ _).2.2⟩
                | exact ⟨_, _, rfl, rfl, (two_al wr _ _).1.drw, (two_al wr _ _).2.1.drw, (two_al wr _ _).2.2.drew⟩
                | exact ⟨_, _, rfl, rfl, (two_al wr _ _).2.1.drw, (two_al wr _ _).1.drw, (two_al wr _ _).2.2.drew⟩
          case rest =>
            obtain ⟨p7, p8, rfl, rfl, hx7, hy8, hb7⟩ := hcut
            have HX7 := Lib.hid hx7
            have HY8 := Lib.hid hy8
            have HB7 : Hid (Below W0.heap.size W0 wc) := Lib.hid (HB5.out.trans (hb7.mono HB5.out.size))
            have HW7 : Hid (Below w.heap.size w wc) := Lib.hid (HBA.out.trans (HB7.out.mono HBA.out.size))
            clear hx7 hy8 hb7 p0 q0 p1 q1 p2 q2 p3 q3 p4 q4 p5 q5 p6 q6 HCL
            have HBc0 : Hid (Below wc.heap.size wc wc) := Lib.hid (Below.refl _ _)
            by_cases hq0 : ¬ (xc.nm = yc.nm)
            · have h0 := hq0
              have t0 : (xc.nm.toList == yc.nm.toList) = false := by rw [bs_eq]; exact decide_eq_false h0
              have u0 : (xc.nm.toList != yc.nm.toList) = true := by rw [bne, t0]; rfl
              have HR : Hid (false = true ↔ P1 = P2) := Lib.hid ⟨(fun h => by cases h), fun h => absurd (by rw [h]) (ne_of_at HX.out HY.out (fun e => h0 (by rw [e])))⟩
              clear h0
              have p0 := (HX7.out.below HBc0.out).cell 0
              have q0 := (HY8.out.below HBc0.out).cell 0
              have p1 := (HX7.out.below HBc0.out).cell 1
              have q1 := (HY8.out.below HBc0.out).cell 1
              have p2 := (HX7.out.below HBc0.out).cell 2
              have q2 := (HY8.out.below HBc0.out).cell 2
              have p3 := (HX7.out.below HBc0.out).cell 3
              have q3 := (HY8.out.below HBc0.out).cell 3
              have p4 := (HX7.out.below HBc0.out).cell 4
              have q4 := (HY8.out.below HBc0.out).cell 4
              have p5 := (HX7.out.below HBc0.out).cell 5
              have q5 := (HY8.out.below HBc0.out).cell 5
              simp at p0 p1 p2 p3 p4 p5 q0 q1 q2 q3 q4 q5
              go_wp2_with fail
              go_ret
              exact ⟨⟨_, rfl, by first | exact HR.out | (have := HR.out; simpa using this)⟩, HW7.out.trans (HBc0.out.mono HW7.out.size)⟩
            have h0 := Classical.not_not.1 hq0
            clear hq0
            by_cases hq1 : ¬ (xc.fs = yc.fs)
            · have h1 := hq1
              have t0 : (xc.nm.toList == yc.nm.toList) = true := by rw [bs_eq]; exact decide_eq_true h0
              have u0 : (xc.nm.toList != yc.nm.toList) = false := by rw [bne, t0]; rfl
              rw [decide_eq_false h1] at Hfs
              have HR : Hid (false = true ↔ P1 = P2) := Lib.hid ⟨(fun h => by cases h), fun h => absurd (by rw [h]) (ne_of_at HX.out HY.out (fun e => h1 (by rw [e])))⟩
              clear h0 h1
              have p0 := (HX7.out.below HBc0.out).cell 0
              have q0 := (HY8.out.below HBc0.out).cell 0
              have p1 := (HX7.out.below HBc0.out).cell 1
              have q1 := (HY8.out.below HBc0.out).cell 1
              have p2 := (HX7.out.below HBc0.out).cell 2
              have q2 := (HY8.out.below HBc0.out).cell 2
              have p3 := (HX7.out.below HBc0.out).cell 3
              have q3 := (HY8.out.below HBc0.out).cell 3
              have p4 := (HX7.out.below HBc0.out).cell 4
              have q4 := (HY8.out.below HBc0.out).cell 4
              have p5 := (HX7.out.below HBc0.out).cell 5
              have q5 := (HY8.out.below HBc0.out).cell 5
              simp at p0 p1 p2 p3 p4 p5 q0 q1 q2 q3 q4 q5
              go_wp2_with fail
              with_reducible refine (Hfs.out _ (HW7.out.trans (HBc0.out.mono HW7.out.size))).mono ?_
              rintro _ wy1 ⟨rfl, hb⟩
              have HBc1 : Hid (Below wc.heap.size wc wy1) := Lib.hid (HBc0.out.trans (hb.mono HBc0.out.size))
              clear hb
              have p0 := (HX7.out.below HBc1.out).cell 0
              have q0 := (HY8.out.below HBc1.out).cell 0
              have p1 := (HX7.out.below HBc1.out).cell 1
              have q1 := (HY8.out.below HBc1.out).cell 1
              have p2 := (HX7.out.below HBc1.out).cell 2
              have q2 := (HY8.out.below HBc1.out).cell 2
              have p3 := (HX7.out.below HBc1.out).cell 3
              have q3 := (HY8.out.below HBc1.out).cell 3
              have p4 := (HX7.out.below HBc1.out).cell 4
              have q4 := (HY8.out.below HBc1.out).cell 4
              have p5 := (HX7.out.below HBc1.out).cell 5
              have q5 := (HY8.out.below HBc1.out).cell 5
              simp at p0 p1 p2 p3 p4 p5 q0 q1 q2 q3 q4 q5
              go_wp2_with fail
              go_ret
              exact ⟨⟨_, rfl, by first | exact HR.out | (have := HR.out; simpa using this)⟩, HW7.out.trans (HBc1.out.mono HW7.out.size)⟩
            have h1 := Classical.not_not.1 hq1
            clear hq1
            by_cases hq2 : ¬ (xc.es = yc.es)
            · have h2 := hq2
              have t0 : (xc.nm.toList == yc.nm.toList) = true := by rw [bs_eq]; exact decide_eq_true h0
              have u0 : (xc.nm.toList != yc.nm.toList) = false := by rw [bne, t0]; rfl
              rw [decide_eq_true h1] at Hfs
              rw [decide_eq_false h2] at Hes
              have HR : Hid (false = true ↔ P1 = P2) := Lib.hid ⟨(fun h => by cases h), fun h => absurd (by rw [h]) (ne_of_at HX.out HY.out (fun e => h2 (by rw [e])))⟩
              clear h0 h1 h2
              have p0 := (HX7.out.below HBc0.out).cell 0
              have q0 := (HY8.out.below HBc0.out).cell 0
              have p1 := (HX7.out.below HBc0.out).cell 1
              have q1 := (HY8.out.below HBc0.out).cell 1
              have p2 := (HX7.out.below HBc0.out).cell 2
              have q2 := (HY8.out.below HBc0.out).cell 2
              have p3 := (HX7.out.below HBc0.out).cell 3
              have q3 := (HY8.out.below HBc0.out).cell 3
              have p4 := (HX7.out.below HBc0.out).cell 4
              have q4 := (HY8.out.below HBc0.out).cell 4
              have p5 := (HX7.out.below HBc0.out).cell 5
              have q5 := (HY8.out.below HBc0.out).cell 5
              simp at p0 p1 p2 p3 p4 p5 q0 q1 q2 q3 q4 q5
              go_wp2_with fail
              with_reducible refine (Hfs.out _ (HW7.out.trans (HBc0.out.mono HW7.out.size))).mono ?_
              rintro _ wy1 ⟨rfl, hb⟩
              have HBc1 : Hid (Below wc.heap.size wc wy1) := Lib.hid (HBc0.out.trans (hb.mono HBc0.out.size))
              clear hb
              have p0 := (HX7.out.below HBc1.out).cell 0
              have q0 := (HY8.out.below HBc1.out).cell 0
              have p1 := (HX7.out.below HBc1.out).cell 1
              have q1 := (HY8.out.below HBc1.out).cell 1
              have p2 := (HX7.out.below HBc1.out).cell 2
              have q2 := (HY8.out.below HBc1.out).cell 2
              have p3 := (HX7.out.below HBc1.out).cell 3
              have q3 := (HY8.out.below HBc1.out).cell 3
              have p4 := (HX7.out.below HBc1.out).cell 4
              have q4 := (HY8.out.below HBc1.out).cell 4
              have p5 := (HX7.out.below HBc1.out).cell 5
              have q5 := (HY8.out.below HBc1.out).cell 5
              simp at p0 p1 p2 p3 p4 p5 q0 q1 q2 q3 q4 q5
              go_wp2_with fail
              with_reducible refine (Hes.out _ (HW7.out.trans (HBc1.out.mono HW7.out.size))).mono ?_
              rintro _ wy2 ⟨rfl, hb⟩
              have HBc2 : Hid (Below wc.heap.size wc wy2) := Lib.hid (HBc1.out.trans (hb.mono HBc1.out.size))
              clear hb
              have p0 := (HX7.out.below HBc2.out).cell 0
              have q0 := (HY8.out.below HBc2.out).cell 0
              have p1 := (HX7.out.below HBc2.out).cell 1
              have q1 := (HY8.out.below HBc2.out).cell 1
              have p2 := (HX7.out.below HBc2.out).cell 2
              have q2 := (HY8.out.below HBc2.out).cell 2
              have p3 := (HX7.out.below HBc2.out).cell 3
              have q3 := (HY8.out.below HBc2.out).cell 3
              have p4 := (HX7.out.below HBc2.out).cell 4
              have q4 := (HY8.out.below HBc2.out).cell 4
              have p5 := (HX7.out.below HBc2.out).cell 5
              have q5 := (HY8.out.below HBc2.out).cell 5
              simp at p0 p1 p2 p3 p4 p5 q0 q1 q2 q3 q4 q5
              go_wp2_with fail
              go_ret
              exact ⟨⟨_, rfl, by first | exact HR.out | (have := HR.out; simpa using this)⟩, HW7.out.trans (HBc2.out.mono HW7.out.size)⟩
            have h2 := Classical.not_not.1 hq2
            clear hq2
            by_cases hq3 : ¬ (xc.is = yc.is)
            · have h3 := hq3
              have t0 : (xc.nm.toList == yc.nm.toList) = true := by rw [bs_eq]; exact decide_eq_true h0
              have u0 : (xc.nm.toList != yc.nm.toList) = false := by rw [bne, t0]; rfl
              rw [decide_eq_true h1] at Hfs
              rw [decide_eq_true h2] at Hes
              rw [decide_eq_false h3] at His
              have HR : Hid (false = true ↔ P1 = P2) := Lib.hid ⟨(fun h => by cases h), fun h => absurd (by rw [h]) (ne_of_at HX.out HY.out (fun e => h3 (by rw [e])))⟩
              clear h0 h1 h2 h3
              have p0 := (HX7.out.below HBc0.out).cell 0
              have q0 := (HY8.out.below HBc0.out).cell 0
              have p1 := (HX7.out.below HBc0.out).cell 1
              have q1 := (HY8.out.below HBc0.out).cell 1
              have p2 := (HX7.out.below HBc0.out).cell 2
              have q2 := (HY8.out.below HBc0.out).cell 2
              have p3 := (HX7.out.below HBc0.out).cell 3
              have q3 := (HY8.out.below HBc0.out).cell 3
              have p4 := (HX7.out.below HBc0.out).cell 4
              have q4 := (HY8.out.below HBc0.out).cell 4
              have p5 := (HX7.out.below HBc0.out).cell 5
              have q5 := (HY8.out.below HBc0.out).cell 5
              simp at p0 p1 p2 p3 p4 p5 q0 q1 q2 q3 q4 q5
              go_wp2_with fail
              with_reducible refine (Hfs.out _ (HW7.out.trans (HBc0.out.mono HW7.out.size))).mono ?_
              rintro _ wy1 ⟨rfl, hb⟩
              have HBc1 : Hid (Below wc.heap.size wc wy1) := Lib.hid (HBc0.out.trans (hb.mono HBc0.out.size))
              clear hb
              have p0 := (HX7.out.below HBc1.out).cell 0
              have q0 := (HY8.out.below HBc1.out).cell 0
              have p1 := (HX7.out.below HBc1.out).cell 1
              have q1 := (HY8.out.below HBc1.out).cell 1
              have p2 := (HX7.out.below HBc1.out).cell 2
              have q2 := (HY8.out.below HBc1.out).cell 2
              have p3 := (HX7.out.below HBc1.out).cell 3
              have q3 := (HY8.out.below HBc1.out).cell 3
              have p4 := (HX7.out.below HBc1.out).cell 4
              have q4 := (HY8.out.below HBc1.out).cell 4
              have p5 := (HX7.out.below HBc1.out).cell 5
              have q5 := (HY8.out.below HBc1.out).cell 5
              simp at p0 p1 p2 p3 p4 p5 q0 q1 q2 q3 q4 q5
              go_wp2_with fail
              with_reducible refine (Hes.out _ (HW7.out.trans (HBc1.out.mono HW7.out.size))).mono ?_
              rintro _ wy2 ⟨rfl, hb⟩
              have HBc2 : Hid (Below wc.heap.size wc wy2) := Lib.hid (HBc1.out.trans (hb.mono HBc1.out.size))
              clear hb
              have p0 := (HX7.out.below HBc2.out).cell 0
              have q0 := (HY8.out.below HBc2.out).cell 0
              have p1 := (HX7.out.below HBc2.out).cell 1
              have q1 := (HY8.out.below HBc2.out).cell 1
              have p2 := (HX7.out.below HBc2.out).cell 2
              have q2 := (HY8.out.below HBc2.out).cell 2
              have p3 := (HX7.out.below HBc2.out).cell 3
              have q3 := (HY8.out.below HBc2.out).cell 3
              have p4 := (HX7.out.below HBc2.out).cell 4
              have q4 := (HY8.out.below HBc2.out).cell 4
              have p5 := (HX7.out.below HBc2.out).cell 5
              have q5 := (HY8.out.below HBc2.out).cell 5
              simp at p0 p1 p2 p3 p4 p5 q0 q1 q2 q3 q4 q5
              go_wp2_with fail
              with_reducible refine (His.out _ (HW7.out.trans (HBc2.out.mono HW7.out.size))).mono ?_
              rintro _ wy3 ⟨rfl, hb⟩
              have HBc3 : Hid (Below wc.heap.size wc wy3) := Lib.hid (HBc2.out.trans (hb.mono HBc2.out.size))
              clear hb
              have p0 := (HX7.out.below HBc3.out).cell 0
              have q0 := (HY8.out.below HBc3.out).cell 0
              have p1 := (HX7.out.below HBc3.out).cell 1
              have q1 := (HY8.out.below HBc3.out).cell 1
              have p2 := (HX7.out.below HBc3.out).cell 2
              have q2 := (HY8.out.below HBc3.out).cell 2
              have p3 := (HX7.out.below HBc3.out).cell 3
              have q3 := (HY8.out.below HBc3.out).cell 3
              have p4 := (HX7.out.below HBc3.out).cell 4
              have q4 := (HY8.out.below HBc3.out).cell 4
              have p5 := (HX7.out.below HBc3.out).cell 5
              have q5 := (HY8.out.below HBc3.out).cell 5
              simp at p0 p1 p2 p3 p4 p5 q0 q1 q2 q3 q4 q5
              go_wp2_with fail
              go_ret
              exact ⟨⟨_, rfl, by first | exact HR.out | (have := HR.out; simpa using this)⟩, HW7.out.trans (HBc3.out.mono HW7.out.size)⟩
            have h3 := Classical.not_not.1 hq3
            clear hq3
            by_cases hq4 : ¬ (xc.ds = yc.ds)
            · have h4 := hq4
              have t0 : (xc.nm.toList == yc.nm.toList) = true := by rw [bs_eq]; exact decide_eq_true h0
              have u0 : (xc.nm.toList != yc.nm.toList) = false := by rw [bne, t0]; rfl
              rw [decide_eq_true h1] at Hfs
              rw [decide_eq_true h2] at Hes
              rw [decide_eq_true h3] at His
              rw [decide_eq_false h4] at Hds
              have HR : Hid (false = true ↔ P1 = P2) := Lib.hid ⟨(fun h => by cases h), fun h => absurd (by rw [h]) (ne_of_at HX.out HY.out (fun e => h4 (by rw [e])))⟩
              clear h0 h1 h2 h3 h4
              have p0 := (HX7.out.below HBc0.out).cell 0
              have q0 := (HY8.out.below HBc0.out).cell 0
              have p1 := (HX7.out.below HBc0.out).cell 1
              have q1 := (HY8.out.below HBc0.out).cell 1
              have p2 := (HX7.out.below HBc0.out).cell 2
              have q2 := (HY8.out.below HBc0.out).cell 2
              have p3 := (HX7.out.below HBc0.out).cell 3
              have q3 := (HY8.out.below HBc0.out).cell 3
              have p4 := (HX7.out.below HBc0.out).cell 4
              have q4 := (HY8.out.below HBc0.out).cell 4
              have p5 := (HX7.out.below HBc0.out).cell 5
              have q5 := (HY8.out.below HBc0.out).cell 5
              simp at p0 p1 p2 p3 p4 p5 q0 q1 q2 q3 q4 q5
              go_wp2_with fail
              with_reducible refine (Hfs.out _ (HW7.out.trans (HBc0.out.mono HW7.out.size))).mono ?_
              rintro _ wy1 ⟨rfl, hb⟩
              have HBc1 : Hid (Below wc.heap.size wc wy1) := Lib.hid (HBc0.out.trans (hb.mono HBc0.out.size))
              clear hb
              have p0 := (HX7.out.below HBc1.out).cell 0
              have q0 := (HY8.out.below HBc1.out).cell 0
              have p1 := (HX7.out.below HBc1.out).cell 1
              have q1 := (HY8.out.below HBc1.out).cell 1
              have p2 := (HX7.out.below HBc1.out).cell 2
              have q2 := (HY8.out.below HBc1.out).cell 2
              have p3 := (HX7.out.below HBc1.out).cell 3
              have q3 := (HY8.out.below HBc1.out).cell 3
              have p4 := (HX7.out.below HBc1.out).cell 4
              have q4 := (HY8.out.below HBc1.out).cell 4
              have p5 := (HX7.out.below HBc1.out).cell 5
              have q5 := (HY8.out.below HBc1.out).cell 5
              simp at p0 p1 p2 p3 p4 p5 q0 q1 q2 q3 q4 q5
              go_wp2_with fail
              with_reducible refine (Hes.out _ (HW7.out.trans (HBc1.out.mono HW7.out.size))).mono ?_
              rintro _ wy2 ⟨rfl, hb⟩
              have HBc2 : Hid (Below wc.heap.size wc wy2) := Lib.hid (HBc1.out.trans (hb.mono HBc1.out.size))
              clear hb
              have p0 := (HX7.out.below HBc2.out).cell 0
              have q0 := (HY8.out.below HBc2.out).cell 0
              have p1 := (HX7.out.below HBc2.out).cell 1
              have q1 := (HY8.out.below HBc2.out).cell 1
              have p2 := (HX7.out.below HBc2.out).cell 2
              have q2 := (HY8.out.below HBc2.out).cell 2
              have p3 := (HX7.out.below HBc2.out).cell 3
              have q3 := (HY8.out.below HBc2.out).cell 3
              have p4 := (HX7.out.below HBc2.out).cell 4
              have q4 := (HY8.out.below HBc2.out).cell 4
              have p5 := (HX7.out.below HBc2.out).cell 5
              have q5 := (HY8.out.below HBc2.out).cell 5
              simp at p0 p1 p2 p3 p4 p5 q0 q1 q2 q3 q4 q5
              go_wp2_with fail
              with_reducible refine (His.out _ (HW7.out.trans (HBc2.out.mono HW7.out.size))).mono ?_
              rintro _ wy3 ⟨rfl, hb⟩
              have HBc3 : Hid (Below wc.heap.size wc wy3) := Lib.hid (HBc2.out.trans (hb.mono HBc2.out.size))
              clear hb
              have p0 := (HX7.out.below HBc3.out).cell 0
              have q0 := (HY8.out.below HBc3.out).cell 0
              have p1 := (HX7.out.below HBc3.out).cell 1
              have q1 := (HY8.out.below HBc3.out).cell 1
              have p2 := (HX7.out.below HBc3.out).cell 2
              have q2 := (HY8.out.below HBc3.out).cell 2
              have p3 := (HX7.out.below HBc3.out).cell 3
              have q3 := (HY8.out.below HBc3.out).cell 3
              have p4 := (HX7.out.below HBc3.out).cell 4
              have q4 := (HY8.out.below HBc3.out).cell 4
              have p5 := (HX7.out.below HBc3.out).cell 5
              have q5 := (HY8.out.below HBc3.out).cell 5
              simp at p0 p1 p2 p3 p4 p5 q0 q1 q2 q3 q4 q5
              go_wp2_with fail
              with_reducible refine (Hds.out _ (HW7.out.trans (HBc3.out.mono HW7.out.size))).mono ?_
              rintro _ wy4 ⟨rfl, hb⟩
              have HBc4 : Hid (Below wc.heap.size wc wy4) := Lib.hid (HBc3.out.trans (hb.mono HBc3.out.size))
              clear hb
              have p0 := (HX7.out.below HBc4.out).cell 0
              have q0 := (HY8.out.below HBc4.out).cell 0
              have p1 := (HX7.out.below HBc4.out).cell 1
              have q1 := (HY8.out.below HBc4.out).cell 1
              have p2 := (HX7.out.below HBc4.out).cell 2
              have q2 := (HY8.out.below HBc4.out).cell 2
              have p3 := (HX7.out.below HBc4.out).cell 3
              have q3 := (HY8.out.below HBc4.out).cell 3
              have p4 := (HX7.out.below HBc4.out).cell 4
              have q4 := (HY8.out.below HBc4.out).cell 4
              have p5 := (HX7.out.below HBc4.out).cell 5
              have q5 := (HY8.out.below HBc4.out).cell 5
              simp at p0 p1 p2 p3 p4 p5 q0 q1 q2 q3 q4 q5
              go_wp2_with fail
              go_ret
              exact ⟨⟨_, rfl, by first | exact HR.out | (have := HR.out; simpa using this)⟩, HW7.out.trans (HBc4.out.mono HW7.out.size)⟩
            have h4 := Classical.not_not.1 hq4
            clear hq4
            by_cases hq5 : ¬ (xc.gs = yc.gs)
            · have h5 := hq5
              have t0 : (xc.nm.toList == yc.nm.toList) = true := by rw [bs_eq]; exact decide_eq_true h0
              have u0 : (xc.nm.toList != yc.nm.toList) = false := by rw [bne, t0]; rfl
              rw [decide_eq_true h1] at Hfs
              rw [decide_eq_true h2] at Hes
              rw [decide_eq_true h3] at His
              rw [decide_eq_true h4] at Hds
              rw [decide_eq_false h5] at Hgs
              have HR : Hid (false = true ↔ P1 = P2) := Lib.hid ⟨(fun h => by cases h), fun h => absurd (by rw [h]) (ne_of_at HX.out HY.out (fun e => h5 (by rw [e])))⟩
              clear h0 h1 h2 h3 h4 h5
              have p0 := (HX7.out.below HBc0.out).cell 0
              have q0 := (HY8.out.below HBc0.out).cell 0
              have p1 := (HX7.out.below HBc0.out).cell 1
              have q1 := (HY8.out.below HBc0.out).cell 1
              have p2 := (HX7.out.below HBc0.out).cell 2
              have q2 := (HY8.out.below HBc0.out).cell 2
              have p3 := (HX7.out.below HBc0.out).cell 3
              have q3 := (HY8.out.below HBc0.out).cell 3
              have p4 := (HX7.out.below HBc0.out).cell 4
              have q4 := (HY8.out.below HBc0.out).cell 4
              have p5 := (HX7.out.below HBc0.out).cell 5
              have q5 := (HY8.out.below HBc0.out).cell 5
              simp at p0 p1 p2 p3 p4 p5 q0 q1 q2 q3 q4 q5
              go_wp2_with fail
              with_reducible refine (Hfs.out _ (HW7.out.trans (HBc0.out.mono HW7.out.size))).mono ?_
              rintro _ wy1 ⟨rfl, hb⟩
              have HBc1 : Hid (Below wc.heap.size wc wy1) := Lib.hid (HBc0.out.trans (hb.mono HBc0.out.size))
              clear hb
              have p0 := (HX7.out.below HBc1.out).cell 0
              have q0 := (HY8.out.below HBc1.out).cell 0
              have p1 := (HX7.out.below HBc1.out).cell 1
              have q1 := (HY8.out.below HBc1.out).cell 1
              have p2 := (HX7.out.below HBc1.out).cell 2
              have q2 := (HY8.out.below HBc1.out).cell 2
              have p3 := (HX7.out.below HBc1.out).cell 3
              have q3 := (HY8.out.below HBc1.out).cell 3
              have p4 := (HX7.out.below HBc1.out).cell 4
              have q4 := (HY8.out.below HBc1.out).cell 4
              have p5 := (HX7.out.below HBc1.out).cell 5
              have q5 := (HY8.out.below HBc1.out).cell 5
              simp at p0 p1 p2 p3 p4 p5 q0 q1 q2 q3 q4 q5
              go_wp2_with fail
              with_reducible refine (Hes.out _ (HW7.out.trans (HBc1.out.mono HW7.out.size))).mono ?_
              rintro _ wy2 ⟨rfl, hb⟩
              have HBc2 : Hid (Below wc.heap.size wc wy2) := Lib.hid (HBc1.out.trans (hb.mono HBc1.out.size))
              clear hb
              have p0 := (HX7.out.below HBc2.out).cell 0
              have q0 := (HY8.out.below HBc2.out).cell 0
              have p1 := (HX7.out.below HBc2.out).cell 1
              have q1 := (HY8.out.below HBc2.out).cell 1
              have p2 := (HX7.out.below HBc2.out).cell 2
              have q2 := (HY8.out.below HBc2.out).cell 2
              have p3 := (HX7.out.below HBc2.out).cell 3
              have q3 := (HY8.out.below HBc2.out).cell 3
              have p4 := (HX7.out.below HBc2.out).cell 4
              have q4 := (HY8.out.below HBc2.out).cell 4
              have p5 := (HX7.out.below HBc2.out).cell 5
              have q5 := (HY8.out.below HBc2.out).cell 5
              simp at p0 p1 p2 p3 p4 p5 q0 q1 q2 q3 q4 q5
              go_wp2_with fail
              with_reducible refine (His.out _ (HW7.out.trans (HBc2.out.mono HW7.out.size))).mono ?_
              rintro _ wy3 ⟨rfl, hb⟩
              have HBc3 : Hid (Below wc.heap.size wc wy3) := Lib.hid (HBc2.out.trans (hb.mono HBc2.out.size))
              clear hb
              have p0 := (HX7.out.below HBc3.out).cell 0
              have q0 := (HY8.out.below HBc3.out).cell 0
              have p1 := (HX7.out.below HBc3.out).cell 1
              have q1 := (HY8.out.below HBc3.out).cell 1
              have p2 := (HX7.out.below HBc3.out).cell 2
              have q2 := (HY8.out.below HBc3.out).cell 2
              have p3 := (HX7.out.below HBc3.out).cell 3
              have q3 := (HY8.out.below HBc3.out).cell 3
              have p4 := (HX7.out.below HBc3.out).cell 4
              have q4 := (HY8.out.below HBc3.out).cell 4
              have p5 := (HX7.out.below HBc3.out).cell 5
              have q5 := (HY8.out.below HBc3.out).cell 5
              simp at p0 p1 p2 p3 p4 p5 q0 q1 q2 q3 q4 q5
              go_wp2_with fail
              with_reducible refine (Hds.out _ (HW7.out.trans (HBc3.out.mono HW7.out.size))).mono ?_
              rintro _ wy4 ⟨rfl, hb⟩
              have HBc4 : Hid (Below wc.heap.size wc wy4) := Lib.hid (HBc3.out.trans (hb.mono HBc3.out.size))
              clear hb
              have p0 := (HX7.out.below HBc4.out).cell 0
              have q0 := (HY8.out.below HBc4.out).cell 0
              have p1 := (HX7.out.below HBc4.out).cell 1
              have q1 := (HY8.out.below HBc4.out).cell 1
              have p2 := (HX7.out.below HBc4.out).cell 2
              have q2 := (HY8.out.below HBc4.out).cell 2
              have p3 := (HX7.out.below HBc4.out).cell 3
              have q3 := (HY8.out.below HBc4.out).cell 3
              have p4 := (HX7.out.below HBc4.out).cell 4
              have q4 := (HY8.out.below HBc4.out).cell 4
              have p5 := (HX7.out.below HBc4.out).cell 5
              have q5 := (HY8.out.below HBc4.out).cell 5
              simp at p0 p1 p2 p3 p4 p5 q0 q1 q2 q3 q4 q5
              go_wp2_with fail
              with_reducible refine (Hgs.out _ (HW7.out.trans (HBc4.out.mono HW7.out.size))).mono ?_
              rintro _ wy5 ⟨rfl, hb⟩
              have HBc5 : Hid (Below wc.heap.size wc wy5) := Lib.hid (HBc4.out.trans (hb.mono HBc4.out.size))
              clear hb
              have p0 := (HX7.out.below HBc5.out).cell 0
              have q0 := (HY8.out.below HBc5.out).cell 0
              have p1 := (HX7.out.below HBc5.out).cell 1
              have q1 := (HY8.out.below HBc5.out).cell 1
              have p2 := (HX7.out.below HBc5.out).cell 2
              have q2 := (HY8.out.below HBc5.out).cell 2
              have p3 := (HX7.out.below HBc5.out).cell 3
              have q3 := (HY8.out.below HBc5.out).cell 3
              have p4 := (HX7.out.below HBc5.out).cell 4
              have q4 := (HY8.out.below HBc5.out).cell 4
              have p5 := (HX7.out.below HBc5.out).cell 5
              have q5 := (HY8.out.below HBc5.out).cell 5
              simp at p0 p1 p2 p3 p4 p5 q0 q1 q2 q3 q4 q5
              go_wp2_with fail
              go_ret
              exact ⟨⟨_, rfl, by first | exact HR.out | (have := HR.out; simpa using this)⟩, HW7.out.trans (HBc5.out.mono HW7.out.size)⟩
            have h5 := Classical.not_not.1 hq5
            clear hq5
            have t0 : (xc.nm.toList == yc.nm.toList) = true := by rw [bs_eq]; exact decide_eq_true h0
            have u0 : (xc.nm.toList != yc.nm.toList) = false := by rw [bne, t0]; rfl
            rw [decide_eq_true h1] at Hfs
            rw [decide_eq_true h2] at Hes
            rw [decide_eq_true h3] at His
            rw [decide_eq_true h4] at Hds
            rw [decide_eq_true h5] at Hgs
            have HXY : Hid (xc = yc) := Lib.hid (co_ext h0 h1 h2 h3 h4 h5)
            clear h0 h1 h2 h3 h4 h5
            have p0 := (HX7.out.below HBc0.out).cell 0
            have q0 := (HY8.out.below HBc0.out).cell 0
            have p1 := (HX7.out.below HBc0.out).cell 1
            have q1 := (HY8.out.below HBc0.out).cell 1
            have p2 := (HX7.out.below HBc0.out).cell 2
            have q2 := (HY8.out.below HBc0.out).cell 2
            have p3 := (HX7.out.below HBc0.out).cell 3
            have q3 := (HY8.out.below HBc0.out).cell 3
            have p4 := (HX7.out.below HBc0.out).cell 4
            have q4 := (HY8.out.below HBc0.out).cell 4
            have p5 := (HX7.out.below HBc0.out).cell 5
            have q5 := (HY8.out.below HBc0.out).cell 5
            simp at p0 p1 p2 p3 p4 p5 q0 q1 q2 q3 q4 q5
            go_wp2_with fail
            with_reducible refine (Hfs.out _ (HW7.out.trans (HBc0.out.mono HW7.out.size))).mono ?_
            rintro _ wy1 ⟨rfl, hb⟩
            have HBc1 : Hid (Below wc.heap.size wc wy1) := Lib.hid (HBc0.out.trans (hb.mono HBc0.out.size))
            clear hb
            have p0 := (HX7.out.below HBc1.out).cell 0
            have q0 := (HY8.out.below HBc1.out).cell 0
            have p1 := (HX7.out.below HBc1.out).cell 1
            have q1 := (HY8.out.below HBc1.out).cell 1
            have p2 := (HX7.out.below HBc1.out).cell 2
            have q2 := (HY8.out.below HBc1.out).cell 2
            have p3 := (HX7.out.below HBc1.out).cell 3
            have q3 := (HY8.out.below HBc1.out).cell 3
            have p4 := (HX7.out.below HBc1.out).cell 4
            have q4 := (HY8.out.below HBc1.out).cell 4
            have p5 := (HX7.out.below HBc1.out).cell 5
            have q5 := (HY8.out.below HBc1.out).cell 5
            simp at p0 p1 p2 p3 p4 p5 q0 q1 q2 q3 q4 q5
            go_wp2_with fail
            with_reducible refine (Hes.out _ (HW7.out.trans (HBc1.out.mono HW7.out.size))).mono ?_
            rintro _ wy2 ⟨rfl, hb⟩
            have HBc2 : Hid (Below wc.heap.size wc wy2) := Lib.hid (HBc1.out.trans (hb.mono HBc1.out.size))
            clear hb
            have p0 := (HX7.out.below HBc2.out).cell 0
            have q0 := (HY8.out.below HBc2.out).cell 0
            have p1 := (HX7.out.below HBc2.out).cell 1
            have q1 := (HY8.out.below HBc2.out).cell 1
            have p2 := (HX7.out.below HBc2.out).cell 2
            have q2 := (HY8.out.below HBc2.out).cell 2
            have p3 := (HX7.out.below HBc2.out).cell 3
            have q3 := (HY8.out.below HBc2.out).cell 3
            have p4 := (HX7.out.below HBc2.out).cell 4
            have q4 := (HY8.out.below HBc2.out).cell 4
            have p5 := (HX7.out.below HBc2.out).cell 5
            have q5 := (HY8.out.below HBc2.out).cell 5
            simp at p0 p1 p2 p3 p4 p5 q0 q1 q2 q3 q4 q5
            go_wp2_with fail
            with_reducible refine (His.out _ (HW7.out.trans (HBc2.out.mono HW7.out.size))).mono ?_
            rintro _ wy3 ⟨rfl, hb⟩
            have HBc3 : Hid (Below wc.heap.size wc wy3) := Lib.hid (HBc2.out.trans (hb.mono HBc2.out.size))
            clear hb
            have p0 := (HX7.out.below HBc3.out).cell 0
            have q0 := (HY8.out.below HBc3.out).cell 0
            have p1 := (HX7.out.below HBc3.out).cell 1
            have q1 := (HY8.out.below HBc3.out).cell 1
            have p2 := (HX7.out.below HBc3.out).cell 2
            have q2 := (HY8.out.below HBc3.out).cell 2
            have p3 := (HX7.out.below HBc3.out).cell 3
            have q3 := (HY8.out.below HBc3.out).cell 3
            have p4 := (HX7.out.below HBc3.out).cell 4
            have q4 := (HY8.out.below HBc3.out).cell 4
            have p5 := (HX7.out.below HBc3.out).cell 5
            have q5 := (HY8.out.below HBc3.out).cell 5
            simp at p0 p1 p2 p3 p4 p5 q0 q1 q2 q3 q4 q5
            go_wp2_with fail
            with_reducible refine (Hds.out _ (HW7.out.trans (HBc3.out.mono HW7.out.size))).mono ?_
            rintro _ wy4 ⟨rfl, hb⟩
            have HBc4 : Hid (Below wc.heap.size wc wy4) := Lib.hid (HBc3.out.trans (hb.mono HBc3.out.size))
            clear hb
            have p0 := (HX7.out.below HBc4.out).cell 0
            have q0 := (HY8.out.below HBc4.out).cell 0
            have p1 := (HX7.out.below HBc4.out).cell 1
            have q1 := (HY8.out.below HBc4.out).cell 1
            have p2 := (HX7.out.below HBc4.out).cell 2
            have q2 := (HY8.out.below HBc4.out).cell 2
            have p3 := (HX7.out.below HBc4.out).cell 3
            have q3 := (HY8.out.below HBc4.out).cell 3
            have p4 := (HX7.out.below HBc4.out).cell 4
            have q4 := (HY8.out.below HBc4.out).cell 4
            have p5 := (HX7.out.below HBc4.out).cell 5
            have q5 := (HY8.out.below HBc4.out).cell 5
            simp at p0 p1 p2 p3 p4 p5 q0 q1 q2 q3 q4 q5
            go_wp2_with fail
            with_reducible refine (Hgs.out _ (HW7.out.trans (HBc4.out.mono HW7.out.size))).mono ?_
            rintro _ wy5 ⟨rfl, hb⟩
            have HBc5 : Hid (Below wc.heap.size wc wy5) := Lib.hid (HBc4.out.trans (hb.mono HBc4.out.size))
            clear hb
            have p0 := (HX7.out.below HBc5.out).cell 0
            have q0 := (HY8.out.below HBc5.out).cell 0
            have p1 := (HX7.out.below HBc5.out).cell 1
            have q1 := (HY8.out.below HBc5.out).cell 1
            have p2 := (HX7.out.below HBc5.out).cell 2
            have q2 := (HY8.out.below HBc5.out).cell 2
            have p3 := (HX7.out.below HBc5.out).cell 3
            have q3 := (HY8.out.below HBc5.out).cell 3
            have p4 := (HX7.out.below HBc5.out).cell 4
            have q4 := (HY8.out.below HBc5.out).cell 4
            have p5 := (HX7.out.below HBc5.out).cell 5
            have q5 := (HY8.out.below HBc5.out).cell 5
            simp at p0 p1 p2 p3 p4 p5 q0 q1 q2 q3 q4 q5
            go_wp2_with fail
            go_roundw
            case rel => exact ⟨k + 1, HLT.out, by go_num, HB7.out.trans (HBc5.out.mono HB7.out.size), fun j hj => by
              by_cases hjk : j = k
              · rw [hjk, HX.out, HY.out, HXY.out]
              · exact HM.out j (by omega)⟩
            case measure => simp [intOf]; have := HLT.out; omega
        · have HR : Hid (true = true ↔ P1 = P2) := Lib.hid ⟨fun _ => HH2.out.1 (eq_of_all (by rw [← L4.out, ← L5.out]; exact M5.out) (fun j hj => HM.out j (by have := L4.out; omega))), fun _ => rfl⟩
          obtain rfl : k = D1.length := by omega
          clear hlt hk HM
          go_wp2_with fail
          go_ret
          exact ⟨⟨_, rfl, by first | exact HR.out | (have := HR.out; simpa using this)⟩, HBA.out.trans (HB5.out.mono HBA.out.size)⟩
end Go.Proofs.YtapdiionikfgpaaGreatDoor
