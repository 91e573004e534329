import Derived.Test.YtakkkblopjbegaaGreatDoorG
import Derived.Deep.RegionHeld3
namespace Go.Proofs.YtakkkblopjbegaaGreatDoor
open Go.ChangeShapes Go.WideShapes Go.ChangeAt Go.RowKit
set_option linter.unusedVariables false
set_option linter.unusedSimpArgs false
/-- all variables that the layer's own runs want -/
def Gn (w : World) : Prop := Gr w ∧ Lib.TabIs Tryz.prog w "internal/strconv.uint64pow10" .u64 Lib.pow10Tab ∧ w.cell? ⟨13, 730, none⟩ = some (.int .u64 12800000000000000000) ∧ w.cell? ⟨13, 731, none⟩ = some (.int .u64 0) ∧ w.cell? ⟨13, 686, none⟩ = some (.int .u64 12089258196146291748) ∧ w.cell? ⟨13, 687, none⟩ = some (.int .u64 17307473159717249708)
theorem Gr.lt {w : World} (h : Gr w) : 16 < w.heap.size := by
  obtain ⟨ev, m, h1, h2, h3, h4, h5⟩ := h
  exact h5
theorem Gn.below {w w' : World} (h : Gn w) (hb : Below w.heap.size w w') : Gn w' := by
  obtain ⟨h0, h1, h2, h3, h4, h5⟩ := h
  have hl := h0.lt
  exact ⟨h0.below hb, var?_below hb (show Tryz.prog.globalNamed "internal/strconv.uint64pow10" = some 9 by kernel_rfl) (by omega) h1, (hb.cell (p := ⟨13, 730, none⟩) (by show 13 < _; omega)).trans h2, (hb.cell (p := ⟨13, 731, none⟩) (by show 13 < _; omega)).trans h3, (hb.cell (p := ⟨13, 686, none⟩) (by show 13 < _; omega)).trans h4, (hb.cell (p := ⟨13, 687, none⟩) (by show 13 < _; omega)).trans h5⟩
theorem St.later {B : Nat} {w0 w W : World} {A : Option Addr} {n c : Nat} {xs : List Value} (h : St B w0 w A n c xs) (hb : Below w.heap.size w W) : St B w0 W A n c xs :=
  ⟨h.1.kept (grown_of_below hb none) (none_or _), h.2.1.trans (hb.mono h.2.2), Nat.le_trans h.2.2 hb.size⟩
theorem z32_alloc (w : World) : Bx (w.alloc (.cells Z32 156)) w.heap.size Z32 156 := bx_alloc w _ _
set_option maxRecDepth 100000 in
set_option maxHeartbeats 4000000 in
theorem k79_0 (w0 w : World) (B h0 c0 : Nat) (hs : St B w0 w (some ⟨h0, 0, none⟩) 0 c0 []) (hg : Gn w) :
    Calls Tryz.prog 79 #[.slice (some ⟨h0, 0, none⟩) 0 c0, .float .f64 4591870180066957722, .int .u8 101, .int .i64 (-1)] w fun e w' => ∃ A c, e = .returned (.slice (some ⟨A, 0, none⟩) 5 c) ∧ St B w0 w' (some ⟨A, 0, none⟩) 5 c [.int .u8 49, .int .u8 101, .int .u8 45, .int .u8 48, .int .u8 49] := by
  have HS := Lib.hid hs
  have HG := Lib.hid hg
  have h110 := x110
  have hb1 : bits BinOp.and IntKind.i64 1019 2047 = 1019 := by kernel_rfl
  have hb2 : bits BinOp.and IntKind.u64 4591870180066957722 4503599627370495 = 2702159776422298 := by kernel_rfl
  have hb3 : bits BinOp.or IntKind.u64 2702159776422298 4503599627370496 = 7205759403792794 := by kernel_rfl
  have HL : Hid (∀ W, Calls Tryz.prog 114 #[.int .u64 7205759403792794] W fun e w' => e = .returned (.int .i64 53) ∧ w' = W) := Lib.hid (fun W => by
    have h := Tryz.bits_Len64 7205759403792794 W (by decide) (by decide)
    have e : Lib.bitLen (Int.toNat 7205759403792794) = 53 := by kernel_rfl
    rw [e] at h
    exact h)
  clear hs hg
  go_enter Tryz.func79, Tryz.ntmps79
  go_wp2_with fail
  go_quiet (fail)
  go_wp2_with fail
  obtain ⟨wa, hwa⟩ : ∃ wa, (w.drewN nq).alloc (.cells #[.int .u8 0, .int .u8 0, .int .u8 0, .int .u8 0, .int .u8 0, .int .u8 0, .int .u8 0, .int .u8 0, .int .u8 0, .int .u8 0, .int .u8 0, .int .u8 0, .int .u8 0, .int .u8 0, .int .u8 0, .int .u8 0, .int .u8 0, .int .u8 0, .int .u8 0, .int .u8 0, .int .u8 0, .int .u8 0, .int .u8 0, .int .u8 0, .int .u8 0, .int .u8 0, .int .u8 0, .int .u8 0, .int .u8 0, .int .u8 0, .int .u8 0, .int .u8 0] 156) = wa := ⟨_, rfl⟩
  have HBa : Hid (Below w.heap.size w wa) := Lib.hid (by rw [← hwa]; exact (below_drewN (Below.refl _ _) nq).alloc (Nat.le_refl _) _)
  have HXa : Hid (Bx wa w.heap.size Z32 156) := Lib.hid (by rw [← hwa]; exact z32_alloc (w.drewN nq))
  rw [hwa]
  clear hwa
  have HGa := Lib.hid (HG.out.below HBa.out)
  refine (HL.out _).mono ?_
  rintro _ w1 ⟨rfl, e1⟩
  rw [e1]
  clear e1 HL hb1 hb2 hb3
  have H122 := Lib.hid (k122_0 wa HGa.out.1.lt HGa.out.2.2.1 HGa.out.2.2.2.1)
  go_wp2_with fail
  refine H122.out.mono ?_
  rintro _ w2 ⟨rfl, hb2⟩
  have HB2 := Lib.hid (HBa.out.trans (hb2.mono HBa.out.size))
  have HX2 := Lib.hid (HXa.out.below hb2)
  have HG2 := Lib.hid (HG.out.below HB2.out)
  clear hb2 H122
  have C85 : Hid (∀ X, Below w2.heap.size w2 X → Calls Tryz.prog 85 #[.int .u64 1000000000000000] X fun e w' => e = .returned (.int .i64 16) ∧ Below w2.heap.size w2 w') := Lib.hid (fun X hX => by
    have h := Tryz.internal_strconv_numDigits 1000000000000000 (by decide) (by decide) X (HG2.out.below hX).2.1
    have e : Lib.nDigits 1000000000000000 = 16 := by kernel_rfl
    rw [e] at h
    refine h.mono ?_
    rintro e w' ⟨h1, rfl⟩
    exact ⟨h1, hX⟩)
  have C116 : Hid (∀ X, Below w2.heap.size w2 X → Calls Tryz.prog 116 #[.slice (some ⟨w.heap.size, 0, none⟩) 32 32, .int .u64 1000000000000000, .int .i64 (-16), .int .i64 16] X fun e w' => e = .returned (.tuple #[.int .i64 0, .int .i64 1]) ∧ Bx w' w.heap.size C32 156 ∧ Below w.heap.size w w') := Lib.hid (fun X hX => by
    refine (k116_0 X w.heap.size (HX2.out.below hX)).mono ?_
    rintro e w' ⟨h1, h2, h3⟩
    exact ⟨h1, h2, (HB2.out.trans (hX.mono HB2.out.size)).trans h3⟩)
  have HFd : Hid (Below w2.heap.size w2 w2.drew) := Lib.hid (Below.refl _ _).drew
  go_wp2_with fail
  go_region_held3 (fun _ => True)
    (first | trivial | assumption)
    (first
      | (go_at_call 85; (first | (with_reducible refine (C85.out _ hq6).mono ?_) | (with_reducible refine (C85.out _ HFd.out).mono ?_)); rintro _ w6 ⟨rfl, hq6⟩)
      | (go_at_call 116; (first | (with_reducible refine (C116.out _ hq6).mono ?_) | (with_reducible refine (C116.out _ HFd.out).mono ?_)); rintro _ w7 ⟨rfl, hx7, hb7⟩))
  all_goals
    have HT7 := Lib.hid (HS.out.later hb7)
    have HX7 := Lib.hid hx7
    clear hx7 hb7 C85 C116 HXa HX2 HBa HB2 HG2 HGa HFd
    go_wp2_with fail
    refine (k113_0 w0 w7 B w.heap.size h0 c0 HT7.out HX7.out).mono ?_
    rintro _ w8 ⟨A, c, rfl, hst⟩
    have HST := Lib.hid hst
    clear hst
    go_wp2_with fail
    go_ret
    exact ⟨A, c, rfl, HST.out⟩
set_option maxRecDepth 100000 in
set_option maxHeartbeats 4000000 in
theorem k79_1 (w0 w : World) (B h0 c0 : Nat) (hs : St B w0 w (some ⟨h0, 0, none⟩) 0 c0 []) (hg : Gn w) :
    Calls Tryz.prog 79 #[.slice (some ⟨h0, 0, none⟩) 0 c0, .float .f64 4921056587992461136, .int .u8 101, .int .i64 (-1)] w fun e w' => ∃ A c, e = .returned (.slice (some ⟨A, 0, none⟩) 5 c) ∧ St B w0 w' (some ⟨A, 0, none⟩) 5 c [.int .u8 49, .int .u8 101, .int .u8 43, .int .u8 50, .int .u8 49] := by
  have HS := Lib.hid hs
  have HG := Lib.hid hg
  have h110 := x110
  have hb1 : bits BinOp.and IntKind.i64 1092 2047 = 1092 := by kernel_rfl
  have hb2 : bits BinOp.and IntKind.u64 4921056587992461136 4503599627370495 = 3125794903879504 := by kernel_rfl
  have hb3 : bits BinOp.or IntKind.u64 3125794903879504 4503599627370496 = 7629394531250000 := by kernel_rfl
  have HL : Hid (∀ W, Calls Tryz.prog 114 #[.int .u64 7629394531250000] W fun e w' => e = .returned (.int .i64 53) ∧ w' = W) := Lib.hid (fun W => by
    have h := Tryz.bits_Len64 7629394531250000 W (by decide) (by decide)
    have e : Lib.bitLen (Int.toNat 7629394531250000) = 53 := by kernel_rfl
    rw [e] at h
    exact h)
  clear hs hg
  go_enter Tryz.func79, Tryz.ntmps79
  go_wp2_with fail
  go_quiet (fail)
  go_wp2_with fail
  obtain ⟨wa, hwa⟩ : ∃ wa, (w.drewN nq).alloc (.cells #[.int .u8 0, .int .u8 0, .int .u8 0, .int .u8 0, .int .u8 0, .int .u8 0, .int .u8 0, .int .u8 0, .int .u8 0, .int .u8 0, .int .u8 0, .int .u8 0, .int .u8 0, .int .u8 0, .int .u8 0, .int .u8 0, .int .u8 0, .int .u8 0, .int .u8 0, .int .u8 0, .int .u8 0, .int .u8 0, .int .u8 0, .int .u8 0, .int .u8 0, .int .u8 0, .int .u8 0, .int .u8 0, .int .u8 0, .int .u8 0, .int .u8 0, .int .u8 0] 156) = wa := ⟨_, rfl⟩
  have HBa : Hid (Below w.heap.size w wa) := Lib.hid (by rw [← hwa]; exact (below_drewN (Below.refl _ _) nq).alloc (Nat.le_refl _) _)
  have HXa : Hid (Bx wa w.heap.size Z32 156) := Lib.hid (by rw [← hwa]; exact z32_alloc (w.drewN nq))
  rw [hwa]
  clear hwa
  have HGa := Lib.hid (HG.out.below HBa.out)
  refine (HL.out _).mono ?_
  rintro _ w1 ⟨rfl, e1⟩
  rw [e1]
  clear e1 HL hb1 hb2 hb3
  have H122 := Lib.hid (k122_1 wa HGa.out.1.lt HGa.out.2.2.2.2.1 HGa.out.2.2.2.2.2)
  go_wp2_with fail
  refine H122.out.mono ?_
  rintro _ w2 ⟨rfl, hb2⟩
  have HB2 := Lib.hid (HBa.out.trans (hb2.mono HBa.out.size))
  have HX2 := Lib.hid (HXa.out.below hb2)
  have HG2 := Lib.hid (HG.out.below HB2.out)
  clear hb2 H122
  have C85 : Hid (∀ X, Below w2.heap.size w2 X → Calls Tryz.prog 85 #[.int .u64 1000000000000000] X fun e w' => e = .returned (.int .i64 16) ∧ Below w2.heap.size w2 w') := Lib.hid (fun X hX => by
    have h := Tryz.internal_strconv_numDigits 1000000000000000 (by decide) (by decide) X (HG2.out.below hX).2.1
    have e : Lib.nDigits 1000000000000000 = 16 := by kernel_rfl
    rw [e] at h
    refine h.mono ?_
    rintro e w' ⟨h1, rfl⟩
    exact ⟨h1, hX⟩)
  have C116 : Hid (∀ X, Below w2.heap.size w2 X → Calls Tryz.prog 116 #[.slice (some ⟨w.heap.size, 0, none⟩) 32 32, .int .u64 1000000000000000, .int .i64 6, .int .i64 16] X fun e w' => e = .returned (.tuple #[.int .i64 22, .int .i64 1]) ∧ Bx w' w.heap.size C32 156 ∧ Below w.heap.size w w') := Lib.hid (fun X hX => by
    refine (k116_1 X w.heap.size (HX2.out.below hX)).mono ?_
    rintro e w' ⟨h1, h2, h3⟩
    exact ⟨h1, h2, (HB2.out.trans (hX.mono HB2.out.size)).trans h3⟩)
  have HFd : Hid (Below w2.heap.size w2 w2.drew) := Lib.hid (Below.refl _ _).drew
  go_wp2_with fail
  go_region_held3 (fun _ => True)
    (first | trivial | assumption)
    (first
      | (go_at_call 85; (first | (with_reducible refine (C85.out _ hq6).mono ?_) | (with_reducible refine (C85.out _ HFd.out).mono ?_)); rintro _ w6 ⟨rfl, hq6⟩)
      | (go_at_call 116; (first | (with_reducible refine (C116.out _ hq6).mono ?_) | (with_reducible refine (C116.out _ HFd.out).mono ?_)); rintro _ w7 ⟨rfl, hx7, hb7⟩))
  all_goals
    have HT7 := Lib.hid (HS.out.later hb7)
    have HX7 := Lib.hid hx7
    clear hx7 hb7 C85 C116 HXa HX2 HBa HB2 HG2 HGa HFd
    go_wp2_with fail
    refine (k113_1 w0 w7 B w.heap.size h0 c0 HT7.out HX7.out).mono ?_
    rintro _ w8 ⟨A, c, rfl, hst⟩
    have HST := Lib.hid hst
    clear hst
    go_wp2_with fail
    go_ret
    exact ⟨A, c, rfl, HST.out⟩
theorem cv5 (w : World) (B A c : Nat) (l : List UInt8) (xs : List Value) (h : w.ownsRow B 5 1 (.slice (some ⟨A, 0, none⟩) l.length c) l.length xs) (hx : xs = l.map (fun b => Value.int .u8 (b.toNat : Int))) :
    (convert 70 9 (.slice (some ⟨A, 0, none⟩) l.length c)).run Tryz.prog w = .ok (.string ⟨l.toArray⟩) w := by
  refine run_convert_bytes_back (P := Tryz.prog) w 70 9 5 ⟨A, 0, none⟩ c l Tryz.underlying70 Tryz.underlying5 Tryz.underlying9 (fun j hj => ?_)
  refine h.cells rfl j _ ?_
  rw [hx, List.getElem?_map, List.getElem?_eq_getElem hj]
  rfl
set_option maxRecDepth 100000 in
theorem k57_0 (w : World) (hg : Gn w) : Calls Tryz.prog 57 #[.float .f64 4591870180066957722, .int .u8 101, .int .i64 (-1), .int .i64 64] w fun e w' => e = .returned (.string ⟨#[49, 101, 45, 48, 49]⟩) ∧ Below w.heap.size w w' := by
  obtain ⟨i0, hi0, hz0, hz1, hz2⟩ := info5
  have HI0 := Lib.hid hi0
  have HZ0 := Lib.hid hz0
  have HZ1 := Lib.hid hz1
  have HZ2 := Lib.hid hz2
  have HB24 : Hid (i0.bytes * 24 ≤ 281474976710656) := Lib.hid (by rw [hz2]; decide)
  have HG := Lib.hid hg
  clear hi0 hz0 hz1 hz2 hg
  go_enter Tryz.func57, Tryz.ntmps57
  go_wp2_with (at_make; refine wpList_make_own _ rfl _ _ 70 rfl w.heap.size 5 i0 (.int .u8 0) 1 Tryz.underlying70 HI0.out HZ0.out HZ1.out .i64 .i64 24 24 rfl rfl rfl HB24.out (by decide) (Nat.le_refl _) ?_; intro w1 hown hgrow; have HB1 : Hid (Below w.heap.size w w1) := Lib.hid ⟨hgrow.os, hgrow.tape, hgrow.output, hgrow.size, fun k hk => hgrow.block k hk (by simp)⟩; have HS : Hid (St w.heap.size w w1 (some ⟨w.heap.size, 0, none⟩) 0 24 []) := Lib.hid ⟨hown, HB1.out, HB1.out.size⟩; clear hown hgrow)
  refine (k79_0 w w1 w.heap.size w.heap.size 24 HS.out (HG.out.below HB1.out)).mono ?_
  rintro _ w2 ⟨A, c, rfl, hst⟩
  have HST := Lib.hid hst
  have hcv := cv5 w2 w.heap.size A c [49, 101, 45, 48, 49] _ hst.1 rfl
  clear hst
  simp only [List.length_cons, List.length_nil] at hcv
  go_wp2_with fail
  go_ret
  exact ⟨rfl, HST.out.2.1⟩
theorem k38_0 (w : World) (hg : Gn w) : Calls Tryz.prog 38 #[.float .f64 4591870180066957722, .int .u8 101, .int .i64 (-1), .int .i64 64] w fun e w' => e = .returned (.string ⟨#[49, 101, 45, 48, 49]⟩) ∧ Below w.heap.size w w' := by
  have H := Lib.hid (k57_0 w hg)
  clear hg
  go_enter Tryz.func38, Tryz.ntmps38
  go_wp2_with fail
  refine H.out.mono ?_
  rintro _ w1 ⟨rfl, hb⟩
  have HB := Lib.hid hb
  clear hb H
  go_wp2_with fail
  go_ret
  exact ⟨rfl, HB.out⟩
set_option maxRecDepth 100000 in
theorem k57_1 (w : World) (hg : Gn w) : Calls Tryz.prog 57 #[.float .f64 4921056587992461136, .int .u8 101, .int .i64 (-1), .int .i64 64] w fun e w' => e = .returned (.string ⟨#[49, 101, 43, 50, 49]⟩) ∧ Below w.heap.size w w' := by
  obtain ⟨i0, hi0, hz0, hz1, hz2⟩ := info5
  have HI0 := Lib.hid hi0
  have HZ0 := Lib.hid hz0
  have HZ1 := Lib.hid hz1
  have HZ2 := Lib.hid hz2
  have HB24 : Hid (i0.bytes * 24 ≤ 281474976710656) := Lib.hid (by rw [hz2]; decide)
  have HG := Lib.hid hg
  clear hi0 hz0 hz1 hz2 hg
  go_enter Tryz.func57, Tryz.ntmps57
  go_wp2_with (at_make; refine wpList_make_own _ rfl _ _ 70 rfl w.heap.size 5 i0 (.int .u8 0) 1 Tryz.underlying70 HI0.out HZ0.out HZ1.out .i64 .i64 24 24 rfl rfl rfl HB24.out (by decide) (Nat.le_refl _) ?_; intro w1 hown hgrow; have HB1 : Hid (Below w.heap.size w w1) := Lib.hid ⟨hgrow.os, hgrow.tape, hgrow.output, hgrow.size, fun k hk => hgrow.block k hk (by simp)⟩; have HS : Hid (St w.heap.size w w1 (some ⟨w.heap.size, 0, none⟩) 0 24 []) := Lib.hid ⟨hown, HB1.out, HB1.out.size⟩; clear hown hgrow)
  refine (k79_1 w w1 w.heap.size w.heap.size 24 HS.out (HG.out.below HB1.out)).mono ?_
  rintro _ w2 ⟨A, c, rfl, hst⟩
  have HST := Lib.hid hst
  have hcv := cv5 w2 w.heap.size A c [49, 101, 43, 50, 49] _ hst.1 rfl
  clear hst
  simp only [List.length_cons, List.length_nil] at hcv
  go_wp2_with fail
  go_ret
  exact ⟨rfl, HST.out.2.1⟩
theorem k38_1 (w : World) (hg : Gn w) : Calls Tryz.prog 38 #[.float .f64 4921056587992461136, .int .u8 101, .int .i64 (-1), .int .i64 64] w fun e w' => e = .returned (.string ⟨#[49, 101, 43, 50, 49]⟩) ∧ Below w.heap.size w w' := by
  have H := Lib.hid (k57_1 w hg)
  clear hg
  go_enter Tryz.func38, Tryz.ntmps38
  go_wp2_with fail
  refine H.out.mono ?_
  rintro _ w1 ⟨rfl, hb⟩
  have HB := Lib.hid hb
  clear hb H
  go_wp2_with fail
  go_ret
  exact ⟨rfl, HB.out⟩
end Go.Proofs.YtakkkblopjbegaaGreatDoor
