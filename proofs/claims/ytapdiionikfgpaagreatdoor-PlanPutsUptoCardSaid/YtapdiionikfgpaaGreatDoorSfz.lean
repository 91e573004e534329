import Derived.Test.YtapdiionikfgpaaGreatDoorGu
import Derived.Test.YtapdiionikfgpaaGreatDoorGv
import Derived.Deep.RegionHeld3
namespace Go.Proofs.YtapdiionikfgpaaGreatDoor
open Go.ChangeShapes Go.WideShapes Go.ChangeAt Go.RowKit
open Li (Gl)
set_option linter.unusedVariables false
set_option linter.unusedSimpArgs false

set_option maxRecDepth 100000 in
set_option maxHeartbeats 8000000 in
/-- the law, a plan laid -/
theorem w4 (P : PlI) (D : List (Sv × CoI)) (A0 E0 : Option Addr) (n0 c0 m0 d0 : Nat) (w : World) (hpl : PlL w (.slice A0 n0 c0) (.slice E0 m0 d0) P D) (hok : OkP P) (hg : Gx w) :
    Calls Tryz.prog 4 #[.agg #[.int .i64 P.st, .int .i64 P.tr, .slice A0 n0 c0, .slice E0 m0 d0, .int .i64 P.s0, .string P.mn]] w fun e w' => e = .returned (.bool true) ∧ Below w.heap.size w w' := by
  have HG : Hid (∀ X, Below w.heap.size w X → Gl X ∧ Gt X) := Lib.hid (fun X hX => ⟨hg.1.below hX, hg.2.below hX⟩)
  have H31 : Hid (∀ X, Below w.heap.size w X → ∀ W SV CV, P.cs.length ≤ 20 → P.ss.length ≤ 20 → Below X.heap.size X W → PlL W SV CV P D → Calls Tryz.prog 31 #[plV SV CV P] W fun e w' => Tx P W e w') := Lib.hid (fun X hX W SV CV _ _ hW hp => r31 SV CV P D W hp hok.1 hok.2.1 (HG.out W (hX.trans (hW.mono hX.size))).2 hok.2.2.2)
  have K12 : Hid (∀ X, Below w.heap.size w X → Calls Tryz.prog 12 #[.agg #[.int .i64 P.st, .int .i64 P.tr, .slice A0 n0 c0, .slice E0 m0 d0, .int .i64 P.s0, .string P.mn]] X fun e w' => e = .returned (.tuple #[.string (putP P).1, .int .i64 ((putP P).2 : Int)]) ∧ Below X.heap.size X w') := Lib.hid (fun X hX => n12 _ _ P D X (hpl.below hX) hok (HG.out X hX).2 (HG.out X hX).1)
  have K13 : Hid (∀ X, Below w.heap.size w X → Calls Tryz.prog 13 #[.agg #[.int .i64 P.st, .int .i64 P.tr, .slice A0 n0 c0, .slice E0 m0 d0, .int .i64 P.s0, .string P.mn]] X fun e w' => e = .returned (.tuple #[.string (putP P).1, .int .i64 ((putP P).2 : Int)]) ∧ Below X.heap.size X w') := Lib.hid (fun X hX => by
    have h := r13 _ _ P D X (hpl.below hX) hok (H31.out X hX)
    rw [refP_eq] at h
    exact h)
  have K14 : Hid (∀ X, Below w.heap.size w X → Calls Tryz.prog 14 #[.agg #[.int .i64 P.st, .int .i64 P.tr, .slice A0 n0 c0, .slice E0 m0 d0, .int .i64 P.s0, .string P.mn]] X fun e w' => e = .returned (.bool (decide ((putP P).2 = 0))) ∧ Below X.heap.size X w') := Lib.hid (fun X hX => n14 _ _ P D X (hpl.below hX) hok (HG.out X hX).2 (HG.out X hX).1)
  have K15 : Hid (∀ X, Below w.heap.size w X → Calls Tryz.prog 15 #[.agg #[.int .i64 P.st, .int .i64 P.tr, .slice A0 n0 c0, .slice E0 m0 d0, .int .i64 P.s0, .string P.mn]] X fun e w' => e = .returned (.bool (decide ((putP P).2 = 0))) ∧ Below X.heap.size X w') := Lib.hid (fun X hX => by
    have h := r15 _ _ P D X (hpl.below hX) hok (H31.out X hX)
    rw [refP_eq] at h
    exact h)
  have K11 : Hid (∀ X, Below w.heap.size w X → Calls Tryz.prog 11 #[] X fun e w' => e = .returned (.bool true) ∧ Below X.heap.size X w') := Lib.hid (fun X hX => n11 X (HG.out X hX).1 (HG.out X hX).2)
  generalize putP P = z at K12 K13 K14 K15
  obtain ⟨s, c⟩ := z
  simp only at K12 K13 K14 K15
  generalize decide (c = 0) = d at K14 K15
  obtain ⟨W0, hW0⟩ : ∃ W0, w.alloc (.cells #[.int .i64 P.st, .int .i64 P.tr, .slice A0 n0 c0, .slice E0 m0 d0, .int .i64 P.s0, .string P.mn] 25) = W0 := ⟨_, rfl⟩
  have HB0 : Hid (Below w.heap.size w W0) := Lib.hid (by rw [← hW0]; exact (Below.refl _ _).alloc (Nat.le_refl _) _)
  have HX0 : Hid (Bx W0 w.heap.size #[.int .i64 P.st, .int .i64 P.tr, .slice A0 n0 c0, .slice E0 m0 d0, .int .i64 P.s0, .string P.mn] 25) := Lib.hid (by rw [← hW0]; exact bx_alloc' _ _ _)
  clear hpl hok hg
  have y0 := HX0.out.cell 0
  have y1 := HX0.out.cell 1
  have y2 := HX0.out.cell 2
  have y3 := HX0.out.cell 3
  have y4 := HX0.out.cell 4
  have y5 := HX0.out.cell 5
  simp at y0 y1 y2 y3 y4 y5
  go_enter Tryz.func4, Tryz.ntmps4
  go_wp2_with fail
  refine (K12.out _ HB0.out).mono ?_
  rintro _ w1 ⟨rfl, hb1⟩
  have HB1 : Hid (Below w.heap.size w w1) := Lib.hid (HB0.out.trans (hb1.mono HB0.out.size))
  have HX1 := Lib.hid (HX0.out.below hb1)
  clear hb1 y0 y1 y2 y3 y4 y5
  have y0 := HX1.out.cell 0
  have y1 := HX1.out.cell 1
  have y2 := HX1.out.cell 2
  have y3 := HX1.out.cell 3
  have y4 := HX1.out.cell 4
  have y5 := HX1.out.cell 5
  simp at y0 y1 y2 y3 y4 y5
  go_wp2_with fail
  refine (K13.out _ HB1.out).mono ?_
  rintro _ w2 ⟨rfl, hb2⟩
  have HB2 : Hid (Below w.heap.size w w2) := Lib.hid (HB1.out.trans (hb2.mono HB1.out.size))
  have HX2 := Lib.hid (HX1.out.below hb2)
  clear hb2 y0 y1 y2 y3 y4 y5
  have HLT : Hid (w.heap.size + 1 ≤ w2.heap.size) := Lib.hid HX2.out.lt
  have HU : Hid (∀ X, Below w.heap.size w2 X → Below w.heap.size w X) := Lib.hid (fun X hX => HB2.out.trans hX)
  have HS : Hid (∀ W, Below (w.heap.size + 1) w2 W → W.cell? ⟨w.heap.size, 0, none⟩ = some (.int .i64 P.st) ∧ W.cell? ⟨w.heap.size, 1, none⟩ = some (.int .i64 P.tr) ∧ W.cell? ⟨w.heap.size, 2, none⟩ = some (.slice A0 n0 c0) ∧ W.cell? ⟨w.heap.size, 3, none⟩ = some (.slice E0 m0 d0) ∧ W.cell? ⟨w.heap.size, 4, none⟩ = some (.int .i64 P.s0) ∧ W.cell? ⟨w.heap.size, 5, none⟩ = some (.string P.mn)) := Lib.hid (fun W hW => by
    have h : Bx W w.heap.size #[.int .i64 P.st, .int .i64 P.tr, .slice A0 n0 c0, .slice E0 m0 d0, .int .i64 P.s0, .string P.mn] 25 := (hW.block w.heap.size (by omega)).trans HX2.out
    exact ⟨by simpa using h.cell 0, by simpa using h.cell 1, by simpa using h.cell 2, by simpa using h.cell 3, by simpa using h.cell 4, by simpa using h.cell 5⟩)
  have HF : Hid (∀ X w', Below (w.heap.size + 1) w2 X → Below X.heap.size X w' → Below (w.heap.size + 1) w2 w') := Lib.hid (fun X w' hX h => hX.trans (h.mono (Nat.le_trans HLT.out hX.size)))
  have HV : Hid (∀ X, Below (w.heap.size + 1) w2 X → Below w.heap.size w X) := Lib.hid (fun X hX => HB2.out.trans (hX.mono (Nat.le_succ _)))
  have C14 : Hid (∀ X, Below (w.heap.size + 1) w2 X → Calls Tryz.prog 14 #[.agg #[.int .i64 P.st, .int .i64 P.tr, .slice A0 n0 c0, .slice E0 m0 d0, .int .i64 P.s0, .string P.mn]] X fun e w' => e = .returned (.bool d) ∧ Below (w.heap.size + 1) w2 w') := Lib.hid (fun X hX => by
    refine (K14.out X (HV.out X hX)).mono ?_
    rintro e w' ⟨h1, h2⟩
    exact ⟨h1, HF.out X w' hX h2⟩)
  have C15 : Hid (∀ X, Below (w.heap.size + 1) w2 X → Calls Tryz.prog 15 #[.agg #[.int .i64 P.st, .int .i64 P.tr, .slice A0 n0 c0, .slice E0 m0 d0, .int .i64 P.s0, .string P.mn]] X fun e w' => e = .returned (.bool d) ∧ Below (w.heap.size + 1) w2 w') := Lib.hid (fun X hX => by
    refine (K15.out X (HV.out X hX)).mono ?_
    rintro e w' ⟨h1, h2⟩
    exact ⟨h1, HF.out X w' hX h2⟩)
  have C11 : Hid (∀ X, Below (w.heap.size + 1) w2 X → Calls Tryz.prog 11 #[] X fun e w' => e = .returned (.bool true) ∧ Below (w.heap.size + 1) w2 w') := Lib.hid (fun X hX => by
    refine (K11.out X (HV.out X hX)).mono ?_
    rintro e w' ⟨h1, h2⟩
    exact ⟨h1, HF.out X w' hX h2⟩)
  have HFd : Hid (Below (w.heap.size + 1) w2 w2.drew) := Lib.hid (Below.refl _ _).drew
  have HI := Lib.hid (HS.out _ HFd.out)
  have t1 : (d == d) = true := by simp
  go_upto_region 3 with fail
  clear K12 K13
  go_region_held3 (fun W => W.cell? ⟨w.heap.size, 0, none⟩ = some (.int .i64 P.st) ∧ W.cell? ⟨w.heap.size, 1, none⟩ = some (.int .i64 P.tr) ∧ W.cell? ⟨w.heap.size, 2, none⟩ = some (.slice A0 n0 c0) ∧ W.cell? ⟨w.heap.size, 3, none⟩ = some (.slice E0 m0 d0) ∧ W.cell? ⟨w.heap.size, 4, none⟩ = some (.int .i64 P.s0) ∧ W.cell? ⟨w.heap.size, 5, none⟩ = some (.string P.mn))
    (first | assumption | exact HI.out | (with_reducible exact HS.out _ (by assumption)))
    (first
      | (go_at_call 14; (first | (with_reducible refine (C14.out _ hq6).mono ?_) | (with_reducible refine (C14.out _ HFd.out).mono ?_)); rintro _ w6 ⟨rfl, hq6⟩)
      | (go_at_call 15; (first | (with_reducible refine (C15.out _ hq6).mono ?_) | (with_reducible refine (C15.out _ HFd.out).mono ?_)); rintro _ w6 ⟨rfl, hq6⟩)
      | (go_at_call 11; (with_reducible refine (C11.out _ hq6).mono ?_); rintro _ w6 ⟨rfl, hq6⟩))
  all_goals
    have HZ := Lib.hid (HV.out _ hq6)
    clear hq6
    go_wp2_with fail
    go_ret
    exact ⟨rfl, HZ.out⟩
theorem walk4 (v : Value) {W : World} (h : Pla W 1048576 v) (w : World) (hw : W = w) (hg : Gx W) : Calls Tryz.prog 4 #[v] w fun e w' => e = .returned (.bool true) ∧ Below w.heap.size w w' := by
  subst hw
  obtain ⟨SV, CV, P, D, rfl, hpl, hok⟩ := ok_pla h
  obtain ⟨A0, n0, c0, e1⟩ := isS_ly hpl.1
  obtain ⟨E0, m0, d0, e2⟩ := isS_ly hpl.2.1
  subst e1 e2
  unfold plV
  exact w4 P D A0 E0 n0 c0 m0 d0 W hpl hok hg
end Go.Proofs.YtapdiionikfgpaaGreatDoor
