import Derived.Test.YtakkkblopjbegaaGreatDoorD
import Derived.OneCell
namespace Go.Proofs.YtakkkblopjbegaaGreatDoor
open Go.ChangeShapes Go.WideShapes Go.ChangeAt Go.RowKit
set_option linter.unusedVariables false
set_option linter.unusedSimpArgs false
/-- a block known whole -/
def Bx (W : World) (b : Nat) (cs : Array Value) (t : Nat) : Prop := W.heap[b]? = some (.cells cs t (0, 0))
theorem heap_lt {w : World} {b : Nat} {o : Obj} (h : w.heap[b]? = some o) : b < w.heap.size := by
  rcases Nat.lt_or_ge b w.heap.size with hlt | hge
  · exact hlt
  · rw [Array.getElem?_eq_none hge] at h; cases h
theorem Bx.lt {W : World} {b t : Nat} {cs : Array Value} (h : Bx W b cs t) : b < W.heap.size := heap_lt h
theorem Bx.below {W W' : World} {b t : Nat} {cs : Array Value} (h : Bx W b cs t) (hb : Below W.heap.size W W') : Bx W' b cs t := (hb.block b (heap_lt h)).trans h
theorem Bx.cell {W : World} {b t : Nat} {cs : Array Value} (h : Bx W b cs t) (j : Nat) : W.cell? ⟨b, j, none⟩ = cs[j]? := cell_of_row _ _ _ _ _ _ h
theorem Bx.frz {W : World} {b t : Nat} {cs : Array Value} (h : Bx W b cs t) (j : Nat) : W.frozen? ⟨b, j, none⟩ = false := frozen_of_row W b j cs t h
theorem Bx.set {W : World} {b t : Nat} {cs : Array Value} (h : Bx W b cs t) (j : Nat) (u : Value) : Bx (W.setCell ⟨b, j, none⟩ u) b (cs.setIfInBounds j u) t := heap_setCell_same W b j cs t u h
theorem bx_alloc (w : World) (cs : Array Value) (t : Nat) : Bx (w.alloc (.cells cs t)) w.heap.size cs t := heap_alloc_new w _
theorem bel_set {w w' : World} {N : Nat} (h : Below N w w') (g j : Nat) (hg : N ≤ g) (u : Value) : Below N w (w'.setCell ⟨g, j, none⟩ u) := h.setCell hg _
set_option maxRecDepth 100000 in
theorem k134_0 (w : World) (g : Nat) (hx : Bx w g #[.int .u64 0, .int .u64 0, .int .i64 0] 179) (h16 : 16 < g) (q0 : w.cell? ⟨13, 730, none⟩ = some (.int .u64 12800000000000000000)) (q1 : w.cell? ⟨13, 731, none⟩ = some (.int .u64 0)) :
    Calls Tryz.prog 134 #[.pointer (some ⟨g, 0, none⟩), .int .i64 (-67), .int .i64 17, .int .i64 56] w fun e w' => e = .returned (.tuple #[]) ∧ Bx w' g #[.int .u64 12800000000000000000, .int .u64 0, .int .i64 8] 179 ∧ Below g w w' := by
  have HX := Lib.hid hx
  have f0 := hx.frz 0
  have f1 := hx.frz 1
  have f2 := hx.frz 2
  have c0 := hx.cell 0
  have c1 := hx.cell 1
  have c2 := hx.cell 2
  simp at c0 c1 c2
  have hne : g ≠ 13 := by omega
  have hne2 : ¬ (13 = g) := by omega
  clear hx h16
  go_enter Tryz.func134, Tryz.ntmps134
  go_wp2
  go_end0
  exact ⟨rfl, by simpa using ((HX.out.set 0 _).set 1 _).set 2 _, bel_set (bel_set (bel_set (Below.refl _ _) g 0 (Nat.le_refl _) _) g 1 (Nat.le_refl _) _) g 2 (Nat.le_refl _) _⟩
set_option maxRecDepth 100000 in
theorem k134_1 (w : World) (g : Nat) (hx : Bx w g #[.int .u64 0, .int .u64 0, .int .i64 0] 179) (h16 : 16 < g) (q0 : w.cell? ⟨13, 686, none⟩ = some (.int .u64 12089258196146291748)) (q1 : w.cell? ⟨13, 687, none⟩ = some (.int .u64 17307473159717249708)) :
    Calls Tryz.prog 134 #[.pointer (some ⟨g, 0, none⟩), .int .i64 6, .int .i64 (-5), .int .i64 (-17)] w fun e w' => e = .returned (.tuple #[]) ∧ Bx w' g #[.int .u64 12089258196146291748, .int .u64 17307473159717249708, .int .i64 8] 179 ∧ Below g w w' := by
  have HX := Lib.hid hx
  have f0 := hx.frz 0
  have f1 := hx.frz 1
  have f2 := hx.frz 2
  have c0 := hx.cell 0
  have c1 := hx.cell 1
  have c2 := hx.cell 2
  simp at c0 c1 c2
  have hne : g ≠ 13 := by omega
  have hne2 : ¬ (13 = g) := by omega
  clear hx h16
  go_enter Tryz.func134, Tryz.ntmps134
  go_wp2
  go_end0
  exact ⟨rfl, by simpa using ((HX.out.set 0 _).set 1 _).set 2 _, bel_set (bel_set (bel_set (Below.refl _ _) g 0 (Nat.le_refl _) _) g 1 (Nat.le_refl _) _) g 2 (Nat.le_refl _) _⟩
set_option maxRecDepth 100000 in
theorem k135_00 (w : World) (g : Nat) (hx : Bx w g #[.int .u64 12800000000000000000, .int .u64 0, .int .i64 8] 179) : Calls Tryz.prog 135 #[.int .u64 14757395258967641088, .pointer (some ⟨g, 0, none⟩)] w fun e w' => e = .returned (.int .u64 39999999999999999) ∧ w' = w := by
  have c0 := hx.cell 0
  have c1 := hx.cell 1
  have c2 := hx.cell 2
  simp at c0 c1 c2
  have HM := Lib.hid (Tryz.bits_Mul64 14757395258967641088 12800000000000000000 (by decide) (by decide) w)
  have hb1 : bits BinOp.and IntKind.i64 8 63 = 8 := by kernel_rfl
  have hb2 : bits BinOp.or IntKind.u64 39999999999999999 1 = 39999999999999999 := by kernel_rfl
  clear hx
  go_enter Tryz.func135, Tryz.ntmps135
  go_wp2_with fail
  refine HM.out.mono ?_
  rintro _ w1 ⟨rfl, e1⟩
  rw [e1]
  clear e1 HM
  go_wp2_with fail
  go_ret
  exact ⟨rfl, rfl⟩
set_option maxRecDepth 100000 in
theorem k135_01 (w : World) (g : Nat) (hx : Bx w g #[.int .u64 12800000000000000000, .int .u64 0, .int .i64 8] 179) : Calls Tryz.prog 135 #[.int .u64 14757395258967643136, .pointer (some ⟨g, 0, none⟩)] w fun e w' => e = .returned (.int .u64 40000000000000005) ∧ w' = w := by
  have c0 := hx.cell 0
  have c1 := hx.cell 1
  have c2 := hx.cell 2
  simp at c0 c1 c2
  have HM := Lib.hid (Tryz.bits_Mul64 14757395258967643136 12800000000000000000 (by decide) (by decide) w)
  have hb1 : bits BinOp.and IntKind.i64 8 63 = 8 := by kernel_rfl
  have hb2 : bits BinOp.or IntKind.u64 40000000000000004 1 = 40000000000000005 := by kernel_rfl
  clear hx
  go_enter Tryz.func135, Tryz.ntmps135
  go_wp2_with fail
  refine HM.out.mono ?_
  rintro _ w1 ⟨rfl, e1⟩
  rw [e1]
  clear e1 HM
  go_wp2_with fail
  go_ret
  exact ⟨rfl, rfl⟩
set_option maxRecDepth 100000 in
theorem k135_10 (w : World) (g : Nat) (hx : Bx w g #[.int .u64 12089258196146291748, .int .u64 17307473159717249708, .int .i64 8] 179) : Calls Tryz.prog 135 #[.int .u64 15624999999999998976, .pointer (some ⟨g, 0, none⟩)] w fun e w' => e = .returned (.int .u64 39999999999999997) ∧ w' = w := by
  have c0 := hx.cell 0
  have c1 := hx.cell 1
  have c2 := hx.cell 2
  simp at c0 c1 c2
  have HM := Lib.hid (Tryz.bits_Mul64 15624999999999998976 12089258196146291748 (by decide) (by decide) w)
  have hb1 : bits BinOp.and IntKind.i64 8 63 = 8 := by kernel_rfl
  have hb2 : bits BinOp.or IntKind.u64 39999999999999997 1 = 39999999999999997 := by kernel_rfl
  clear hx
  go_enter Tryz.func135, Tryz.ntmps135
  go_wp2_with fail
  refine HM.out.mono ?_
  rintro _ w1 ⟨rfl, e1⟩
  rw [e1]
  clear e1 HM
  go_wp2_with fail
  go_ret
  exact ⟨rfl, rfl⟩
set_option maxRecDepth 100000 in
theorem k135_11 (w : World) (g : Nat) (hx : Bx w g #[.int .u64 12089258196146291748, .int .u64 17307473159717249708, .int .i64 8] 179) : Calls Tryz.prog 135 #[.int .u64 15625000000000001024, .pointer (some ⟨g, 0, none⟩)] w fun e w' => e = .returned (.int .u64 40000000000000003) ∧ w' = w := by
  have c0 := hx.cell 0
  have c1 := hx.cell 1
  have c2 := hx.cell 2
  simp at c0 c1 c2
  have HM := Lib.hid (Tryz.bits_Mul64 15625000000000001024 12089258196146291748 (by decide) (by decide) w)
  have hb1 : bits BinOp.and IntKind.i64 8 63 = 8 := by kernel_rfl
  have hb2 : bits BinOp.or IntKind.u64 40000000000000002 1 = 40000000000000003 := by kernel_rfl
  clear hx
  go_enter Tryz.func135, Tryz.ntmps135
  go_wp2_with fail
  refine HM.out.mono ?_
  rintro _ w1 ⟨rfl, e1⟩
  rw [e1]
  clear e1 HM
  go_wp2_with fail
  go_ret
  exact ⟨rfl, rfl⟩
set_option maxRecDepth 100000 in
set_option maxHeartbeats 4000000 in
theorem k122_0 (w : World) (hg : 16 < w.heap.size) (q0 : w.cell? ⟨13, 730, none⟩ = some (.int .u64 12800000000000000000)) (q1 : w.cell? ⟨13, 731, none⟩ = some (.int .u64 0)) :
    Calls Tryz.prog 122 #[.int .u64 14757395258967642112, .int .i64 (-67)] w fun e w' => e = .returned (.tuple #[.int .u64 1000000000000000, .int .i64 (-16)]) ∧ Below w.heap.size w w' := by
  have HBA : Hid (Below w.heap.size w (w.alloc (.cells #[.int .u64 0, .int .u64 0, .int .i64 0] 179))) := Lib.hid ((Below.refl _ _).alloc (Nat.le_refl _) _)
  have HP := Lib.hid (k134_0 (w.alloc (.cells #[.int .u64 0, .int .u64 0, .int .i64 0] 179)) w.heap.size (bx_alloc w _ _) hg ((HBA.out.cell (p := ⟨13, 730, none⟩) (by show 13 < _; omega)).trans q0) ((HBA.out.cell (p := ⟨13, 731, none⟩) (by show 13 < _; omega)).trans q1))
  have hb1 : bits BinOp.and IntKind.i64 7205759403792794 1 = 0 := by kernel_rfl
  clear q0 q1 hg
  go_enter Tryz.func122, Tryz.ntmps122
  go_wp2_with (first | (go_at_call 117; go_in) | (go_at_call 133; go_in) | (go_at_call 146; go_in) | (go_at_call 147; go_in) | (go_at_call 148; go_in))
  refine HP.out.mono ?_
  rintro _ w1 ⟨rfl, hx1, hb1'⟩
  have HB1 := Lib.hid (HBA.out.trans hb1')
  have HU0 := Lib.hid (k135_00 w1 w.heap.size hx1)
  have HU1 := Lib.hid (k135_01 w1 w.heap.size hx1)
  clear hx1 hb1' HP
  go_wp2_with (first | (go_at_call 117; go_in) | (go_at_call 133; go_in) | (go_at_call 146; go_in) | (go_at_call 147; go_in) | (go_at_call 148; go_in))
  refine HU0.out.mono ?_
  rintro _ w2 ⟨rfl, e2⟩
  rw [e2]
  clear e2 HU0
  go_wp2_with (first | (go_at_call 117; go_in) | (go_at_call 133; go_in) | (go_at_call 146; go_in) | (go_at_call 147; go_in) | (go_at_call 148; go_in))
  refine HU1.out.mono ?_
  rintro _ w2 ⟨rfl, e2⟩
  rw [e2]
  clear e2 HU1
  go_wp2_with (first | (go_at_call 117; go_in) | (go_at_call 133; go_in) | (go_at_call 146; go_in) | (go_at_call 147; go_in) | (go_at_call 148; go_in))
  go_ret2
  exact ⟨rfl, HB1.out⟩
set_option maxRecDepth 100000 in
set_option maxHeartbeats 4000000 in
theorem k122_1 (w : World) (hg : 16 < w.heap.size) (q0 : w.cell? ⟨13, 686, none⟩ = some (.int .u64 12089258196146291748)) (q1 : w.cell? ⟨13, 687, none⟩ = some (.int .u64 17307473159717249708)) :
    Calls Tryz.prog 122 #[.int .u64 15625000000000000000, .int .i64 6] w fun e w' => e = .returned (.tuple #[.int .u64 1000000000000000, .int .i64 6]) ∧ Below w.heap.size w w' := by
  have HBA : Hid (Below w.heap.size w (w.alloc (.cells #[.int .u64 0, .int .u64 0, .int .i64 0] 179))) := Lib.hid ((Below.refl _ _).alloc (Nat.le_refl _) _)
  have HP := Lib.hid (k134_1 (w.alloc (.cells #[.int .u64 0, .int .u64 0, .int .i64 0] 179)) w.heap.size (bx_alloc w _ _) hg ((HBA.out.cell (p := ⟨13, 686, none⟩) (by show 13 < _; omega)).trans q0) ((HBA.out.cell (p := ⟨13, 687, none⟩) (by show 13 < _; omega)).trans q1))
  have hb1 : bits BinOp.and IntKind.i64 7629394531250000 1 = 0 := by kernel_rfl
  clear q0 q1 hg
  go_enter Tryz.func122, Tryz.ntmps122
  go_wp2_with (first | (go_at_call 117; go_in) | (go_at_call 133; go_in) | (go_at_call 146; go_in) | (go_at_call 147; go_in) | (go_at_call 148; go_in))
  refine HP.out.mono ?_
  rintro _ w1 ⟨rfl, hx1, hb1'⟩
  have HB1 := Lib.hid (HBA.out.trans hb1')
  have HU0 := Lib.hid (k135_10 w1 w.heap.size hx1)
  have HU1 := Lib.hid (k135_11 w1 w.heap.size hx1)
  clear hx1 hb1' HP
  go_wp2_with (first | (go_at_call 117; go_in) | (go_at_call 133; go_in) | (go_at_call 146; go_in) | (go_at_call 147; go_in) | (go_at_call 148; go_in))
  refine HU0.out.mono ?_
  rintro _ w2 ⟨rfl, e2⟩
  rw [e2]
  clear e2 HU0
  go_wp2_with (first | (go_at_call 117; go_in) | (go_at_call 133; go_in) | (go_at_call 146; go_in) | (go_at_call 147; go_in) | (go_at_call 148; go_in))
  refine HU1.out.mono ?_
  rintro _ w2 ⟨rfl, e2⟩
  rw [e2]
  clear e2 HU1
  go_wp2_with (first | (go_at_call 117; go_in) | (go_at_call 133; go_in) | (go_at_call 146; go_in) | (go_at_call 147; go_in) | (go_at_call 148; go_in))
  go_ret2
  exact ⟨rfl, HB1.out⟩
end Go.Proofs.YtakkkblopjbegaaGreatDoor
