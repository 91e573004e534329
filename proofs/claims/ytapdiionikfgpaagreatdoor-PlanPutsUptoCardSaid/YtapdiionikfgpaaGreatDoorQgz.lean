import Derived.Test.YtapdiionikfgpaaGreatDoorGj
namespace Go.Proofs.YtapdiionikfgpaaGreatDoor
open Go.ChangeShapes Go.WideShapes Go.ChangeAt Go.RowKit
open Li (Gl)
set_option linter.unusedVariables false
set_option linter.unusedSimpArgs false
set_option maxRecDepth 100000 in
set_option maxHeartbeats 8000000 in
theorem d40_o (a t : ByteArray)  (w : World) (B tb : Nat) (SV CV : Value) (p : Pm) (D : List (Sv × Co)) (h : RD w B tb SV CV p D) (hB : B ≤ w.heap.size) (hsm : Sm p) (hsa : a.size ≤ 281474976710656) (hst : t.size ≤ 281474976710656) (b o c : Nat) (q0 : w.cell? ⟨b, o, none⟩ = some (.string ⟨#[111, 98, 106, 101, 99, 116]⟩)) (q1 : w.cell? ⟨b, o + 1, none⟩ = some (.string a)) (q2 : w.cell? ⟨b, o + 2, none⟩ = some (.string t)) :
    Calls Tryz.prog 40 #[.pointer (some ⟨tb, 0, none⟩), .slice (some ⟨b, o, none⟩) 3 c] w fun e w' => Lq tb B (fileV p false a t) w e w' := by
  have HBA : Hid (Below w.heap.size w (w.alloc (.cells #[.slice (some ⟨b, o, none⟩) 3 c] 55))) := Lib.hid ((Below.refl _ w).alloc (Nat.le_refl _) _)
  have HTB : Hid (tb < w.heap.size) := Lib.hid h.1.lt
  have HBB := Lib.hid hB
  have HLEN : Hid (D.length ≤ 12) := Lib.hid (by rw [h.len]; exact h.2.2.2.2.1)
  have HCS := Lib.hid h.2.2.1
  have hq0 := World.block_lt_of_cell? w _ q0
  have hq1 := World.block_lt_of_cell? w _ q1
  have hq2 := World.block_lt_of_cell? w _ q2
  have HU : Hid (∀ W, Below (w.alloc (.cells #[.slice (some ⟨b, o, none⟩) 3 c] 55)).heap.size (w.alloc (.cells #[.slice (some ⟨b, o, none⟩) 3 c] 55)) W → Below w.heap.size w W ∧ W.cell? ⟨w.heap.size, 0, none⟩ = some (.slice (some ⟨b, o, none⟩) 3 c) ∧ W.cell? ⟨b, o, none⟩ = some (.string ⟨#[111, 98, 106, 101, 99, 116]⟩) ∧ W.cell? ⟨b, o + 1, none⟩ = some (.string a) ∧ W.cell? ⟨b, o + 2, none⟩ = some (.string t) ∧ RD W B tb SV CV p D) := Lib.hid (fun W hW => ⟨HBA.out.trans (hW.mono HBA.out.size), (bx_alloc w #[.slice (some ⟨b, o, none⟩) 3 c] 55 |>.below hW).cell 0, ((HBA.out.trans (hW.mono HBA.out.size)).cell (p := ⟨b, _, none⟩) hq0).trans q0, ((HBA.out.trans (hW.mono HBA.out.size)).cell (p := ⟨b, _, none⟩) hq1).trans q1, ((HBA.out.trans (hW.mono HBA.out.size)).cell (p := ⟨b, _, none⟩) hq2).trans q2, h.below (HBA.out.trans (hW.mono HBA.out.size))⟩)
  have H75a := Lib.hid (c28 a (by omega))
  have H78a := Lib.hid (c72 a (by omega))
  have H75t := Lib.hid (c28 t (by omega))
  have H78t := Lib.hid (c72 t (by omega))
  have H79 : Hid (∀ s W, Below w.heap.size w W → _) := Lib.hid (fun s W hW => n79 s W B tb SV CV p D (h.below hW))
  have HB0 : Hid (Below (w.alloc (.cells #[.slice (some ⟨b, o, none⟩) 3 c] 55)).heap.size (w.alloc (.cells #[.slice (some ⟨b, o, none⟩) 3 c] 55)) (w.alloc (.cells #[.slice (some ⟨b, o, none⟩) 3 c] 55))) := Lib.hid (Below.refl _ _)
  obtain ⟨-, s0, r0, r1, r2, hr⟩ := HU.out _ HB0.out
  have HR0 := Lib.hid hr
  clear hr
  clear q0 hq0 q1 hq1 q2 hq2 hB
  have HSM := Lib.hid hsm
  cases hna : nameB a
  · rw [hna] at H75a
    have HX : Hid (fileV p false a t = (5, p)) := Lib.hid (by unfold fileV; rw [if_neg (by rw [hna]; simp)])
    clear hna h
    go_enter Tryz.func40, Tryz.ntmps40
    go_wp2_with fail
    with_reducible refine (H75a.out _).mono ?_
    rintro _ wx ⟨rfl, rfl⟩
    go_wp2_with fail
    go_ret
    rw [HX.out]
    exact lq_err (k := 4) (p := p) rfl (HU.out _ HB0.out).1 HTB.out HBB.out
  rw [hna] at H75a
  cases hst : symB t
  · rw [hst] at H78t
    have HX : Hid (fileV p false a t = (5, p)) := Lib.hid (by unfold fileV; rw [if_neg (by rw [hst]; simp)])
    clear hna hst h
    go_enter Tryz.func40, Tryz.ntmps40
    go_wp2_with fail
    with_reducible refine (H75a.out _).mono ?_
    rintro _ wx ⟨rfl, rfl⟩
    go_wp2_with fail
    with_reducible refine (H78t.out _).mono ?_
    rintro _ wx ⟨rfl, rfl⟩
    go_wp2_with fail
    go_ret
    rw [HX.out]
    exact lq_err (k := 4) (p := p) rfl (HU.out _ HB0.out).1 HTB.out HBB.out
  rw [hst] at H78t
  cases hfa : fnd (byName a) p.cs with
  | none =>
    have HX : Hid (fileV p false a t = (6, p)) := Lib.hid (by unfold fileV; rw [if_pos ⟨hna, hst⟩, hfa])
    clear hna hst h
    go_enter Tryz.func40, Tryz.ntmps40
    go_wp2_with fail
    with_reducible refine (H75a.out _).mono ?_
    rintro _ wx ⟨rfl, rfl⟩
    go_wp2_with fail
    with_reducible refine (H78t.out _).mono ?_
    rintro _ wx ⟨rfl, rfl⟩
    go_wp2_with fail
    with_reducible refine (H79.out a _ (HU.out _ HB0.out).1).mono ?_
    rintro _ w1 hh
    rw [hfa] at hh
    obtain ⟨rfl, hb⟩ := hh
    have HB1 : Hid (Below (w.alloc (.cells #[.slice (some ⟨b, o, none⟩) 3 c] 55)).heap.size (w.alloc (.cells #[.slice (some ⟨b, o, none⟩) 3 c] 55)) w1) := Lib.hid (HB0.out.trans (hb.mono HB0.out.size))
    clear hb
    obtain ⟨-, s0, r0, r1, r2, hr⟩ := HU.out _ HB1.out
    have HR1 := Lib.hid hr
    clear hr
    go_wp2_with fail
    go_ret
    rw [HX.out]
    exact lq_err (k := 5) (p := p) rfl (HU.out _ HB1.out).1 HTB.out HBB.out
  | some k =>
    obtain ⟨hk, -, -⟩ := fnd_some hfa
    have hkD : k < D.length := by rw [h.len]; exact hk
    obtain ⟨x, hx, hxc⟩ : ∃ x, D[k]? = some x ∧ p.cs[k]? = some x.2 := ⟨D[k], List.getElem?_eq_getElem hkD, by rw [← HCS.out, List.getElem?_map, List.getElem?_eq_getElem hkD]; rfl⟩
    have HX0 := Lib.hid hx
    obtain ⟨g, cc, hce, hg, hBg, -⟩ := own_at len_cCo h.2.1.2.1 (by omega)
    subst hce
    have e1 : decide ((k : Int) < 0) = false := by simp
    have HGN : Hid (g < w.heap.size) := Lib.hid hg
    have HX : Hid (fileV p false a t = addV x.2.fs (t, false) (fun y => decide (y.1 = t)) 16 (fun l => upd p k { x.2 with fs := l }) p) := Lib.hid (by unfold fileV; rw [if_pos ⟨hna, hst⟩, hfa]; simp only [hxc])
    have HXC := Lib.hid hxc
    clear hna hst h hx hxc hk hkD hg hBg
    go_enter Tryz.func40, Tryz.ntmps40
    go_wp2_with fail
    with_reducible refine (H75a.out _).mono ?_
    rintro _ wx ⟨rfl, rfl⟩
    go_wp2_with fail
    with_reducible refine (H78t.out _).mono ?_
    rintro _ wx ⟨rfl, rfl⟩
    go_wp2_with fail
    with_reducible refine (H79.out a _ (HU.out _ HB0.out).1).mono ?_
    rintro _ w1 hh
    rw [hfa] at hh
    obtain ⟨⟨g', c', hce, -, -, rfl⟩, hb⟩ := hh
    cases hce
    have HB1 : Hid (Below (w.alloc (.cells #[.slice (some ⟨b, o, none⟩) 3 c] 55)).heap.size (w.alloc (.cells #[.slice (some ⟨b, o, none⟩) 3 c] 55)) w1) := Lib.hid (HB0.out.trans (hb.mono HB0.out.size))
    clear hb
    obtain ⟨-, s0, r0, r1, r2, hr⟩ := HU.out _ HB1.out
    have HR1 := Lib.hid hr
    clear hr
    go_wp2_with fail
    have HLF : Hid (x.2.fs.length ≤ 400) := Lib.hid (by have := HSM.out.2.2 x.2 (List.mem_of_getElem? HXC.out); omega)
    have HAD : Hid (∀ W, Below w1.heap.size w1 W → Calls Tryz.prog 80 #[.pointer (some ⟨g, k * 6 + 1, none⟩), .agg #[.string t, .bool false], .func (.func 81) #[] #[.pointer (some ⟨w.heap.size, 0, none⟩)], .int .i64 16] W fun e w' => Lq tb B (addV x.2.fs (t, false) (fun y => decide (y.1 = t)) 16 (fun l => upd p k { x.2 with fs := l }) p) w e w') := Lib.hid (fun W hW => by
      have hW0 := HB1.out.trans (hW.mono HB1.out.size)
      have hU := HU.out W hW0
      have hR : RD W B tb _ _ p D := (HR0.out.below hW0)
      have hro := (hR.2.1.2.2.1 k x HX0.out).1
      obtain ⟨AF, cf, hfe, _⟩ := own_slice hro
      rw [hfe] at hro
      have hC := add_Fs (fun y => decide (y.1 = t)) 81 w.heap.size AF cf x.2.fs (t, false) 16 g (k * 6 + 1) W B hro HLF.out (by omega) ent_81 (fun y hy W' hW' => by
        have hW1 := hW0.trans (hW'.mono hW0.size)
        have hU1 := HU.out W' hW1
        exact clo_81 y w.heap.size W' 3 c b o t (by omega) hU1.2.1 hU1.2.2.2.2.1)
        (by have := hU.1.size; have := HBB.out; omega) (fun W1 W2 h1 h2 => cell_of_list (j := 1) (v := .slice AF x.2.fs.length cf) hR.2.1 HX0.out hro (by decide) (by omega) (by rw [← hfe]; rfl) h1 h2)
      rw [← hfe] at hC
      exact hC.mono fun e w' hp => addp_f hR hU.1 HTB.out HBB.out HX0.out hp)
    go_region_law (go_simp; go_at_call 80; refine (HAD.out _ (by first | exact Below.refl _ _ | exact (Below.refl _ _).drew)).mono ?_; rintro _ wz ⟨rfl, h62, h63⟩)
    all_goals
      go_wp2_with fail
      go_ret
      rw [HX.out]
      exact ⟨rfl, h62, h63⟩
set_option maxRecDepth 100000 in
set_option maxHeartbeats 8000000 in
theorem d40_a (a t : ByteArray)  (w : World) (B tb : Nat) (SV CV : Value) (p : Pm) (D : List (Sv × Co)) (h : RD w B tb SV CV p D) (hB : B ≤ w.heap.size) (hsm : Sm p) (hsa : a.size ≤ 281474976710656) (hst : t.size ≤ 281474976710656) (b o c : Nat) (q0 : w.cell? ⟨b, o, none⟩ = some (.string ⟨#[97, 114, 99, 104, 105, 118, 101]⟩)) (q1 : w.cell? ⟨b, o + 1, none⟩ = some (.string a)) (q2 : w.cell? ⟨b, o + 2, none⟩ = some (.string t)) :
    Calls Tryz.prog 40 #[.pointer (some ⟨tb, 0, none⟩), .slice (some ⟨b, o, none⟩) 3 c] w fun e w' => Lq tb B (fileV p true a t) w e w' := by
  have HBA : Hid (Below w.heap.size w (w.alloc (.cells #[.slice (some ⟨b, o, none⟩) 3 c] 55))) := Lib.hid ((Below.refl _ w).alloc (Nat.le_refl _) _)
  have HTB : Hid (tb < w.heap.size) := Lib.hid h.1.lt
  have HBB := Lib.hid hB
  have HLEN : Hid (D.length ≤ 12) := Lib.hid (by rw [h.len]; exact h.2.2.2.2.1)
  have HCS := Lib.hid h.2.2.1
  have hq0 := World.block_lt_of_cell? w _ q0
  have hq1 := World.block_lt_of_cell? w _ q1
  have hq2 := World.block_lt_of_cell? w _ q2
  have HU : Hid (∀ W, Below (w.alloc (.cells #[.slice (some ⟨b, o, none⟩) 3 c] 55)).heap.size (w.alloc (.cells #[.slice (some ⟨b, o, none⟩) 3 c] 55)) W → Below w.heap.size w W ∧ W.cell? ⟨w.heap.size, 0, none⟩ = some (.slice (some ⟨b, o, none⟩) 3 c) ∧ W.cell? ⟨b, o, none⟩ = some (.string ⟨#[97, 114, 99, 104, 105, 118, 101]⟩) ∧ W.cell? ⟨b, o + 1, none⟩ = some (.string a) ∧ W.cell? ⟨b, o + 2, none⟩ = some (.string t) ∧ RD W B tb SV CV p D) := Lib.hid (fun W hW => ⟨HBA.out.trans (hW.mono HBA.out.size), (bx_alloc w #[.slice (some ⟨b, o, none⟩) 3 c] 55 |>.below hW).cell 0, ((HBA.out.trans (hW.mono HBA.out.size)).cell (p := ⟨b, _, none⟩) hq0).trans q0, ((HBA.out.trans (hW.mono HBA.out.size)).cell (p := ⟨b, _, none⟩) hq1).trans q1, ((HBA.out.trans (hW.mono HBA.out.size)).cell (p := ⟨b, _, none⟩) hq2).trans q2, h.below (HBA.out.trans (hW.mono HBA.out.size))⟩)
  have H75a := Lib.hid (c28 a (by omega))
  have H78a := Lib.hid (c72 a (by omega))
  have H75t := Lib.hid (c28 t (by omega))
  have H78t := Lib.hid (c72 t (by omega))
  have H79 : Hid (∀ s W, Below w.heap.size w W → _) := Lib.hid (fun s W hW => n79 s W B tb SV CV p D (h.below hW))
  have HB0 : Hid (Below (w.alloc (.cells #[.slice (some ⟨b, o, none⟩) 3 c] 55)).heap.size (w.alloc (.cells #[.slice (some ⟨b, o, none⟩) 3 c] 55)) (w.alloc (.cells #[.slice (some ⟨b, o, none⟩) 3 c] 55))) := Lib.hid (Below.refl _ _)
  obtain ⟨-, s0, r0, r1, r2, hr⟩ := HU.out _ HB0.out
  have HR0 := Lib.hid hr
  clear hr
  clear q0 hq0 q1 hq1 q2 hq2 hB
  have HSM := Lib.hid hsm
  cases hna : nameB a
  · rw [hna] at H75a
    have HX : Hid (fileV p true a t = (5, p)) := Lib.hid (by unfold fileV; rw [if_neg (by rw [hna]; simp)])
    clear hna h
    go_enter Tryz.func40, Tryz.ntmps40
    go_wp2_with fail
    with_reducible refine (H75a.out _).mono ?_
    rintro _ wx ⟨rfl, rfl⟩
    go_wp2_with fail
    go_ret
    rw [HX.out]
    exact lq_err (k := 4) (p := p) rfl (HU.out _ HB0.out).1 HTB.out HBB.out
  rw [hna] at H75a
  cases hst : symB t
  · rw [hst] at H78t
    have HX : Hid (fileV p true a t = (5, p)) := Lib.hid (by unfold fileV; rw [if_neg (by rw [hst]; simp)])
    clear hna hst h
    go_enter Tryz.func40, Tryz.ntmps40
    go_wp2_with fail
    with_reducible refine (H75a.out _).mono ?_
    rintro _ wx ⟨rfl, rfl⟩
    go_wp2_with fail
    with_reducible refine (H78t.out _).mono ?_
    rintro _ wx ⟨rfl, rfl⟩
    go_wp2_with fail
    go_ret
    rw [HX.out]
    exact lq_err (k := 4) (p := p) rfl (HU.out _ HB0.out).1 HTB.out HBB.out
  rw [hst] at H78t
  cases hfa : fnd (byName a) p.cs with
  | none =>
    have HX : Hid (fileV p true a t = (6, p)) := Lib.hid (by unfold fileV; rw [if_pos ⟨hna, hst⟩, hfa])
    clear hna hst h
    go_enter Tryz.func40, Tryz.ntmps40
    go_wp2_with fail
    with_reducible refine (H75a.out _).mono ?_
    rintro _ wx ⟨rfl, rfl⟩
    go_wp2_with fail
    with_reducible refine (H78t.out _).mono ?_
    rintro _ wx ⟨rfl, rfl⟩
    go_wp2_with fail
    with_reducible refine (H79.out a _ (HU.out _ HB0.out).1).mono ?_
    rintro _ w1 hh
    rw [hfa] at hh
    obtain ⟨rfl, hb⟩ := hh
    have HB1 : Hid (Below (w.alloc (.cells #[.slice (some ⟨b, o, none⟩) 3 c] 55)).heap.size (w.alloc (.cells #[.slice (some ⟨b, o, none⟩) 3 c] 55)) w1) := Lib.hid (HB0.out.trans (hb.mono HB0.out.size))
    clear hb
    obtain ⟨-, s0, r0, r1, r2, hr⟩ := HU.out _ HB1.out
    have HR1 := Lib.hid hr
    clear hr
    go_wp2_with fail
    go_ret
    rw [HX.out]
    exact lq_err (k := 5) (p := p) rfl (HU.out _ HB1.out).1 HTB.out HBB.out
  | some k =>
    obtain ⟨hk, -, -⟩ := fnd_some hfa
    have hkD : k < D.length := by rw [h.len]; exact hk
    obtain ⟨x, hx, hxc⟩ : ∃ x, D[k]? = some x ∧ p.cs[k]? = some x.2 := ⟨D[k], List.getElem?_eq_getElem hkD, by rw [← HCS.out, List.getElem?_map, List.getElem?_eq_getElem hkD]; rfl⟩
    have HX0 := Lib.hid hx
    obtain ⟨g, cc, hce, hg, hBg, -⟩ := own_at len_cCo h.2.1.2.1 (by omega)
    subst hce
    have e1 : decide ((k : Int) < 0) = false := by simp
    have HGN : Hid (g < w.heap.size) := Lib.hid hg
    have HX : Hid (fileV p true a t = addV x.2.fs (t, true) (fun y => decide (y.1 = t)) 16 (fun l => upd p k { x.2 with fs := l }) p) := Lib.hid (by unfold fileV; rw [if_pos ⟨hna, hst⟩, hfa]; simp only [hxc])
    have HXC := Lib.hid hxc
    clear hna hst h hx hxc hk hkD hg hBg
    go_enter Tryz.func40, Tryz.ntmps40
    go_wp2_with fail
    with_reducible refine (H75a.out _).mono ?_
    rintro _ wx ⟨rfl, rfl⟩
    go_wp2_with fail
    with_reducible refine (H78t.out _).mono ?_
    rintro _ wx ⟨rfl, rfl⟩
    go_wp2_with fail
    with_reducible refine (H79.out a _ (HU.out _ HB0.out).1).mono ?_
    rintro _ w1 hh
    rw [hfa] at hh
    obtain ⟨⟨g', c', hce, -, -, rfl⟩, hb⟩ := hh
    cases hce
    have HB1 : Hid (Below (w.alloc (.cells #[.slice (some ⟨b, o, none⟩) 3 c] 55)).heap.size (w.alloc (.cells #[.slice (some ⟨b, o, none⟩) 3 c] 55)) w1) := Lib.hid (HB0.out.trans (hb.mono HB0.out.size))
    clear hb
    obtain ⟨-, s0, r0, r1, r2, hr⟩ := HU.out _ HB1.out
    have HR1 := Lib.hid hr
    clear hr
    go_wp2_with fail
    have HLF : Hid (x.2.fs.length ≤ 400) := Lib.hid (by have := HSM.out.2.2 x.2 (List.mem_of_getElem? HXC.out); omega)
    have HAD : Hid (∀ W, Below w1.heap.size w1 W → Calls Tryz.prog 80 #[.pointer (some ⟨g, k * 6 + 1, none⟩), .agg #[.string t, .bool true], .func (.func 81) #[] #[.pointer (some ⟨w.heap.size, 0, none⟩)], .int .i64 16] W fun e w' => Lq tb B (addV x.2.fs (t, true) (fun y => decide (y.1 = t)) 16 (fun l => upd p k { x.2 with fs := l }) p) w e w') := Lib.hid (fun W hW => by
      have hW0 := HB1.out.trans (hW.mono HB1.out.size)
      have hU := HU.out W hW0
      have hR : RD W B tb _ _ p D := (HR0.out.below hW0)
      have hro := (hR.2.1.2.2.1 k x HX0.out).1
      obtain ⟨AF, cf, hfe, _⟩ := own_slice hro
      rw [hfe] at hro
      have hC := add_Fs (fun y => decide (y.1 = t)) 81 w.heap.size AF cf x.2.fs (t, true) 16 g (k * 6 + 1) W B hro HLF.out (by omega) ent_81 (fun y hy W' hW' => by
        have hW1 := hW0.trans (hW'.mono hW0.size)
        have hU1 := HU.out W' hW1
        exact clo_81 y w.heap.size W' 3 c b o t (by omega) hU1.2.1 hU1.2.2.2.2.1)
        (by have := hU.1.size; have := HBB.out; omega) (fun W1 W2 h1 h2 => cell_of_list (j := 1) (v := .slice AF x.2.fs.length cf) hR.2.1 HX0.out hro (by decide) (by omega) (by rw [← hfe]; rfl) h1 h2)
      rw [← hfe] at hC
      exact hC.mono fun e w' hp => addp_f hR hU.1 HTB.out HBB.out HX0.out hp)
    go_region_law (go_simp; go_at_call 80; refine (HAD.out _ (by first | exact Below.refl _ _ | exact (Below.refl _ _).drew)).mono ?_; rintro _ wz ⟨rfl, h62, h63⟩)
    all_goals
      go_wp2_with fail
      go_ret
      rw [HX.out]
      exact ⟨rfl, h62, h63⟩
set_option maxRecDepth 100000 in
set_option maxHeartbeats 8000000 in
theorem d41 (a t u v : ByteArray) (o1 : Option Nat) (ho1 : numO u 0 6 1 = o1) (o2 : Option Nat) (ho2 : numO v 0 4088 8 = o2) (w : World) (B tb : Nat) (SV CV : Value) (p : Pm) (D : List (Sv × Co)) (h : RD w B tb SV CV p D) (hB : B ≤ w.heap.size) (hsm : Sm p) (hG : Gl w) (hsa : a.size ≤ 281474976710656) (hst : t.size ≤ 281474976710656) (hsu : u.size ≤ 281474976710656) (hsv : v.size ≤ 281474976710656) (b o c : Nat) (q1 : w.cell? ⟨b, o + 1, none⟩ = some (.string a)) (q2 : w.cell? ⟨b, o + 2, none⟩ = some (.string t)) (q3 : w.cell? ⟨b, o + 3, none⟩ = some (.string u)) (q4 : w.cell? ⟨b, o + 4, none⟩ = some (.string v)) :
    Calls Tryz.prog 41 #[.pointer (some ⟨tb, 0, none⟩), .slice (some ⟨b, o, none⟩) 5 c] w fun e w' => Lq tb B (exportO o1 o2 p a t) w e w' := by
  have HBA : Hid (Below w.heap.size w (w.alloc (.cells #[.slice (some ⟨b, o, none⟩) 5 c] 55))) := Lib.hid ((Below.refl _ w).alloc (Nat.le_refl _) _)
  have HTB : Hid (tb < w.heap.size) := Lib.hid h.1.lt
  have HBB := Lib.hid hB
  have HLEN : Hid (D.length ≤ 12) := Lib.hid (by rw [h.len]; exact h.2.2.2.2.1)
  have HCS := Lib.hid h.2.2.1
  have hq1 := World.block_lt_of_cell? w _ q1
  have hq2 := World.block_lt_of_cell? w _ q2
  have hq3 := World.block_lt_of_cell? w _ q3
  have hq4 := World.block_lt_of_cell? w _ q4
  have HU : Hid (∀ W, Below (w.alloc (.cells #[.slice (some ⟨b, o, none⟩) 5 c] 55)).heap.size (w.alloc (.cells #[.slice (some ⟨b, o, none⟩) 5 c] 55)) W → Below w.heap.size w W ∧ W.cell? ⟨w.heap.size, 0, none⟩ = some (.slice (some ⟨b, o, none⟩) 5 c) ∧ W.cell? ⟨b, o + 1, none⟩ = some (.string a) ∧ W.cell? ⟨b, o + 2, none⟩ = some (.string t) ∧ W.cell? ⟨b, o + 3, none⟩ = some (.string u) ∧ W.cell? ⟨b, o + 4, none⟩ = some (.string v) ∧ RD W B tb SV CV p D) := Lib.hid (fun W hW => ⟨HBA.out.trans (hW.mono HBA.out.size), (bx_alloc w #[.slice (some ⟨b, o, none⟩) 5 c] 55 |>.below hW).cell 0, ((HBA.out.trans (hW.mono HBA.out.size)).cell (p := ⟨b, _, none⟩) hq1).trans q1, ((HBA.out.trans (hW.mono HBA.out.size)).cell (p := ⟨b, _, none⟩) hq2).trans q2, ((HBA.out.trans (hW.mono HBA.out.size)).cell (p := ⟨b, _, none⟩) hq3).trans q3, ((HBA.out.trans (hW.mono HBA.out.size)).cell (p := ⟨b, _, none⟩) hq4).trans q4, h.below (HBA.out.trans (hW.mono HBA.out.size))⟩)
  have H75a := Lib.hid (c28 a (by omega))
  have H78a := Lib.hid (c72 a (by omega))
  have H75t := Lib.hid (c28 t (by omega))
  have H78t := Lib.hid (c72 t (by omega))
  have H75u := Lib.hid (c28 u (by omega))
  have H78u := Lib.hid (c72 u (by omega))
  have H75v := Lib.hid (c28 v (by omega))
  have H78v := Lib.hid (c72 v (by omega))
  have H82o1 : Hid (∀ W, Below w.heap.size w W → Calls Tryz.prog 82 #[.string u, .int .i64 0, .int .i64 6, .int .i64 1] W fun e w' => e = .returned (.tuple #[.int .i64 ((o1.getD 0 : Nat) : Int), .bool o1.isSome]) ∧ Below W.heap.size W w') := Lib.hid (fun W hW => by rw [← ho1]; exact n82 u 0 6 1 hsu (by omega) (by omega) (by omega) (by omega) W (hG.below hW))
  have H82o2 : Hid (∀ W, Below w.heap.size w W → Calls Tryz.prog 82 #[.string v, .int .i64 0, .int .i64 4088, .int .i64 8] W fun e w' => e = .returned (.tuple #[.int .i64 ((o2.getD 0 : Nat) : Int), .bool o2.isSome]) ∧ Below W.heap.size W w') := Lib.hid (fun W hW => by rw [← ho2]; exact n82 v 0 4088 8 hsv (by omega) (by omega) (by omega) (by omega) W (hG.below hW))
  have H79 : Hid (∀ s W, Below w.heap.size w W → _) := Lib.hid (fun s W hW => n79 s W B tb SV CV p D (h.below hW))
  have HB0 : Hid (Below (w.alloc (.cells #[.slice (some ⟨b, o, none⟩) 5 c] 55)).heap.size (w.alloc (.cells #[.slice (some ⟨b, o, none⟩) 5 c] 55)) (w.alloc (.cells #[.slice (some ⟨b, o, none⟩) 5 c] 55))) := Lib.hid (Below.refl _ _)
  obtain ⟨-, s0, r1, r2, r3, r4, hr⟩ := HU.out _ HB0.out
  have HR0 := Lib.hid hr
  clear hr
  clear q1 hq1 q2 hq2 q3 hq3 q4 hq4 hB hG
  have HSM := Lib.hid hsm
  cases hna : nameB a
  · rw [hna] at H75a
    have HX : Hid (exportO o1 o2 p a t = (5, p)) := Lib.hid (by unfold exportO; split <;> first | rfl | rw [if_neg (by rw [hna]; simp)])
    clear hna h
    go_enter Tryz.func41, Tryz.ntmps41
    go_wp2_with fail
    with_reducible refine (H82o1.out _ (HU.out _ HB0.out).1).mono ?_
    rintro _ w1 ⟨rfl, hb⟩
    have HB1 : Hid (Below (w.alloc (.cells #[.slice (some ⟨b, o, none⟩) 5 c] 55)).heap.size (w.alloc (.cells #[.slice (some ⟨b, o, none⟩) 5 c] 55)) w1) := Lib.hid (HB0.out.trans (hb.mono HB0.out.size))
    clear hb
    obtain ⟨-, s0, r1, r2, r3, r4, hr⟩ := HU.out _ HB1.out
    have HR1 := Lib.hid hr
    clear hr
    go_wp2_with fail
    with_reducible refine (H82o2.out _ (HU.out _ HB1.out).1).mono ?_
    rintro _ w2 ⟨rfl, hb⟩
    have HB2 : Hid (Below (w.alloc (.cells #[.slice (some ⟨b, o, none⟩) 5 c] 55)).heap.size (w.alloc (.cells #[.slice (some ⟨b, o, none⟩) 5 c] 55)) w2) := Lib.hid (HB1.out.trans (hb.mono HB1.out.size))
    clear hb
    obtain ⟨-, s0, r1, r2, r3, r4, hr⟩ := HU.out _ HB2.out
    have HR2 := Lib.hid hr
    clear hr
    go_wp2_with fail
    with_reducible refine (H75a.out _).mono ?_
    rintro _ wx ⟨rfl, rfl⟩
    go_wp2_with fail
    go_ret
    rw [HX.out]
    exact lq_err (k := 4) (p := p) rfl (HU.out _ HB2.out).1 HTB.out HBB.out
  rw [hna] at H75a
  cases hst : symB t
  · rw [hst] at H78t
    have HX : Hid (exportO o1 o2 p a t = (5, p)) := Lib.hid (by unfold exportO; split <;> first | rfl | rw [if_neg (by rw [hst]; simp)])
    clear hna hst h
    go_enter Tryz.func41, Tryz.ntmps41
    go_wp2_with fail
    with_reducible refine (H82o1.out _ (HU.out _ HB0.out).1).mono ?_
    rintro _ w1 ⟨rfl, hb⟩
    have HB1 : Hid (Below (w.alloc (.cells #[.slice (some ⟨b, o, none⟩) 5 c] 55)).heap.size (w.alloc (.cells #[.slice (some ⟨b, o, none⟩) 5 c] 55)) w1) := Lib.hid (HB0.out.trans (hb.mono HB0.out.size))
    clear hb
    obtain ⟨-, s0, r1, r2, r3, r4, hr⟩ := HU.out _ HB1.out
    have HR1 := Lib.hid hr
    clear hr
    go_wp2_with fail
    with_reducible refine (H82o2.out _ (HU.out _ HB1.out).1).mono ?_
    rintro _ w2 ⟨rfl, hb⟩
    have HB2 : Hid (Below (w.alloc (.cells #[.slice (some ⟨b, o, none⟩) 5 c] 55)).heap.size (w.alloc (.cells #[.slice (some ⟨b, o, none⟩) 5 c] 55)) w2) := Lib.hid (HB1.out.trans (hb.mono HB1.out.size))
    clear hb
    obtain ⟨-, s0, r1, r2, r3, r4, hr⟩ := HU.out _ HB2.out
    have HR2 := Lib.hid hr
    clear hr
    go_wp2_with fail
    with_reducible refine (H75a.out _).mono ?_
    rintro _ wx ⟨rfl, rfl⟩
    go_wp2_with fail
    with_reducible refine (H78t.out _).mono ?_
    rintro _ wx ⟨rfl, rfl⟩
    go_wp2_with fail
    go_ret
    rw [HX.out]
    exact lq_err (k := 4) (p := p) rfl (HU.out _ HB2.out).1 HTB.out HBB.out
  rw [hst] at H78t
  cases o1 with
  | none =>
    simp only [Option.getD_none, Option.isSome_none] at H82o1
    have HX : Hid (exportO none o2 p a t = (5, p)) := Lib.hid (by rfl)
    clear hna hst h
    go_enter Tryz.func41, Tryz.ntmps41
    go_wp2_with fail
    with_reducible refine (H82o1.out _ (HU.out _ HB0.out).1).mono ?_
    rintro _ w1 ⟨rfl, hb⟩
    have HB1 : Hid (Below (w.alloc (.cells #[.slice (some ⟨b, o, none⟩) 5 c] 55)).heap.size (w.alloc (.cells #[.slice (some ⟨b, o, none⟩) 5 c] 55)) w1) := Lib.hid (HB0.out.trans (hb.mono HB0.out.size))
    clear hb
    obtain ⟨-, s0, r1, r2, r3, r4, hr⟩ := HU.out _ HB1.out
    have HR1 := Lib.hid hr
    clear hr
    go_wp2_with fail
    with_reducible refine (H82o2.out _ (HU.out _ HB1.out).1).mono ?_
    rintro _ w2 ⟨rfl, hb⟩
    have HB2 : Hid (Below (w.alloc (.cells #[.slice (some ⟨b, o, none⟩) 5 c] 55)).heap.size (w.alloc (.cells #[.slice (some ⟨b, o, none⟩) 5 c] 55)) w2) := Lib.hid (HB1.out.trans (hb.mono HB1.out.size))
    clear hb
    obtain ⟨-, s0, r1, r2, r3, r4, hr⟩ := HU.out _ HB2.out
    have HR2 := Lib.hid hr
    clear hr
    go_wp2_with fail
    with_reducible refine (H75a.out _).mono ?_
    rintro _ wx ⟨rfl, rfl⟩
    go_wp2_with fail
    with_reducible refine (H78t.out _).mono ?_
    rintro _ wx ⟨rfl, rfl⟩
    go_wp2_with fail
    go_ret
    rw [HX.out]
    exact lq_err (k := 4) (p := p) rfl (HU.out _ HB2.out).1 HTB.out HBB.out
  | some n =>
    simp only [Option.getD_some, Option.isSome_some] at H82o1
    cases o2 with
    | none =>
      simp only [Option.getD_none, Option.isSome_none] at H82o2
      have HX : Hid (exportO (some n) none p a t = (5, p)) := Lib.hid (by rfl)
      clear hna hst h
      go_enter Tryz.func41, Tryz.ntmps41
      go_wp2_with fail
      with_reducible refine (H82o1.out _ (HU.out _ HB0.out).1).mono ?_
      rintro _ w1 ⟨rfl, hb⟩
      have HB1 : Hid (Below (w.alloc (.cells #[.slice (some ⟨b, o, none⟩) 5 c] 55)).heap.size (w.alloc (.cells #[.slice (some ⟨b, o, none⟩) 5 c] 55)) w1) := Lib.hid (HB0.out.trans (hb.mono HB0.out.size))
      clear hb
      obtain ⟨-, s0, r1, r2, r3, r4, hr⟩ := HU.out _ HB1.out
      have HR1 := Lib.hid hr
      clear hr
      go_wp2_with fail
      with_reducible refine (H82o2.out _ (HU.out _ HB1.out).1).mono ?_
      rintro _ w2 ⟨rfl, hb⟩
      have HB2 : Hid (Below (w.alloc (.cells #[.slice (some ⟨b, o, none⟩) 5 c] 55)).heap.size (w.alloc (.cells #[.slice (some ⟨b, o, none⟩) 5 c] 55)) w2) := Lib.hid (HB1.out.trans (hb.mono HB1.out.size))
      clear hb
      obtain ⟨-, s0, r1, r2, r3, r4, hr⟩ := HU.out _ HB2.out
      have HR2 := Lib.hid hr
      clear hr
      go_wp2_with fail
      with_reducible refine (H75a.out _).mono ?_
      rintro _ wx ⟨rfl, rfl⟩
      go_wp2_with fail
      with_reducible refine (H78t.out _).mono ?_
      rintro _ wx ⟨rfl, rfl⟩
      go_wp2_with fail
      go_ret
      rw [HX.out]
      exact lq_err (k := 4) (p := p) rfl (HU.out _ HB2.out).1 HTB.out HBB.out
    | some m =>
      simp only [Option.getD_some, Option.isSome_some] at H82o2
      cases hfa : fnd (byName a) p.cs with
      | none =>
        have HX : Hid (exportO (some n) (some m) p a t = (6, p)) := Lib.hid (by unfold exportO; simp only [hna, hst, and_self, if_true, hfa])
        clear hna hst h
        go_enter Tryz.func41, Tryz.ntmps41
        go_wp2_with fail
        with_reducible refine (H82o1.out _ (HU.out _ HB0.out).1).mono ?_
        rintro _ w1 ⟨rfl, hb⟩
        have HB1 : Hid (Below (w.alloc (.cells #[.slice (some ⟨b, o, none⟩) 5 c] 55)).heap.size (w.alloc (.cells #[.slice (some ⟨b, o, none⟩) 5 c] 55)) w1) := Lib.hid (HB0.out.trans (hb.mono HB0.out.size))
        clear hb
        obtain ⟨-, s0, r1, r2, r3, r4, hr⟩ := HU.out _ HB1.out
        have HR1 := Lib.hid hr
        clear hr
        go_wp2_with fail
        with_reducible refine (H82o2.out _ (HU.out _ HB1.out).1).mono ?_
        rintro _ w2 ⟨rfl, hb⟩
        have HB2 : Hid (Below (w.alloc (.cells #[.slice (some ⟨b, o, none⟩) 5 c] 55)).heap.size (w.alloc (.cells #[.slice (some ⟨b, o, none⟩) 5 c] 55)) w2) := Lib.hid (HB1.out.trans (hb.mono HB1.out.size))
        clear hb
        obtain ⟨-, s0, r1, r2, r3, r4, hr⟩ := HU.out _ HB2.out
        have HR2 := Lib.hid hr
        clear hr
        go_wp2_with fail
        with_reducible refine (H75a.out _).mono ?_
        rintro _ wx ⟨rfl, rfl⟩
        go_wp2_with fail
        with_reducible refine (H78t.out _).mono ?_
        rintro _ wx ⟨rfl, rfl⟩
        go_wp2_with fail
        with_reducible refine (H79.out a _ (HU.out _ HB2.out).1).mono ?_
        rintro _ w3 hh
        rw [hfa] at hh
        obtain ⟨rfl, hb⟩ := hh
        have HB3 : Hid (Below (w.alloc (.cells #[.slice (some ⟨b, o, none⟩) 5 c] 55)).heap.size (w.alloc (.cells #[.slice (some ⟨b, o, none⟩) 5 c] 55)) w3) := Lib.hid (HB2.out.trans (hb.mono HB2.out.size))
        clear hb
        obtain ⟨-, s0, r1, r2, r3, r4, hr⟩ := HU.out _ HB3.out
        have HR3 := Lib.hid hr
        clear hr
        go_wp2_with fail
        go_ret
        rw [HX.out]
        exact lq_err (k := 5) (p := p) rfl (HU.out _ HB3.out).1 HTB.out HBB.out
      | some k =>
        obtain ⟨hk, -, -⟩ := fnd_some hfa
        have hkD : k < D.length := by rw [h.len]; exact hk
        obtain ⟨x, hx, hxc⟩ : ∃ x, D[k]? = some x ∧ p.cs[k]? = some x.2 := ⟨D[k], List.getElem?_eq_getElem hkD, by rw [← HCS.out, List.getElem?_map, List.getElem?_eq_getElem hkD]; rfl⟩
        have HX0 := Lib.hid hx
        obtain ⟨g, cc, hce, hg, hBg, -⟩ := own_at len_cCo h.2.1.2.1 (by omega)
        subst hce
        have e1 : decide ((k : Int) < 0) = false := by simp
        have HGN : Hid (g < w.heap.size) := Lib.hid hg
        have HX : Hid (exportO (some n) (some m) p a t = addV x.2.es (t, n, m) (fun y => decide (y.1 = t)) 16 (fun l => upd p k { x.2 with es := l }) p) := Lib.hid (by unfold exportO; simp only [hna, hst, and_self, if_true, hfa, hxc])
        have HXC := Lib.hid hxc
        clear hna hst h hx hxc hk hkD hg hBg
        go_enter Tryz.func41, Tryz.ntmps41
        go_wp2_with fail
        with_reducible refine (H82o1.out _ (HU.out _ HB0.out).1).mono ?_
        rintro _ w1 ⟨rfl, hb⟩
        have HB1 : Hid (Below (w.alloc (.cells #[.slice (some ⟨b, o, none⟩) 5 c] 55)).heap.size (w.alloc (.cells #[.slice (some ⟨b, o, none⟩) 5 c] 55)) w1) := Lib.hid (HB0.out.trans (hb.mono HB0.out.size))
        clear hb
        obtain ⟨-, s0, r1, r2, r3, r4, hr⟩ := HU.out _ HB1.out
        have HR1 := Lib.hid hr
        clear hr
        go_wp2_with fail
        with_reducible refine (H82o2.out _ (HU.out _ HB1.out).1).mono ?_
        rintro _ w2 ⟨rfl, hb⟩
        have HB2 : Hid (Below (w.alloc (.cells #[.slice (some ⟨b, o, none⟩) 5 c] 55)).heap.size (w.alloc (.cells #[.slice (some ⟨b, o, none⟩) 5 c] 55)) w2) := Lib.hid (HB1.out.trans (hb.mono HB1.out.size))
        clear hb
        obtain ⟨-, s0, r1, r2, r3, r4, hr⟩ := HU.out _ HB2.out
        have HR2 := Lib.hid hr
        clear hr
        go_wp2_with fail
        with_reducible refine (H75a.out _).mono ?_
        rintro _ wx ⟨rfl, rfl⟩
        go_wp2_with fail
        with_reducible refine (H78t.out _).mono ?_
        rintro _ wx ⟨rfl, rfl⟩
        go_wp2_with fail
        with_reducible refine (H79.out a _ (HU.out _ HB2.out).1).mono ?_
        rintro _ w3 hh
        rw [hfa] at hh
        obtain ⟨⟨g', c', hce, -, -, rfl⟩, hb⟩ := hh
        cases hce
        have HB3 : Hid (Below (w.alloc (.cells #[.slice (some ⟨b, o, none⟩) 5 c] 55)).heap.size (w.alloc (.cells #[.slice (some ⟨b, o, none⟩) 5 c] 55)) w3) := Lib.hid (HB2.out.trans (hb.mono HB2.out.size))
        clear hb
        obtain ⟨-, s0, r1, r2, r3, r4, hr⟩ := HU.out _ HB3.out
        have HR3 := Lib.hid hr
        clear hr
        go_wp2_with fail
        have HLF : Hid (x.2.es.length ≤ 400) := Lib.hid (by have := HSM.out.2.2 x.2 (List.mem_of_getElem? HXC.out); omega)
        have HAD : Hid (∀ W, Below w3.heap.size w3 W → Calls Tryz.prog 83 #[.pointer (some ⟨g, k * 6 + 2, none⟩), .agg #[.string t, .int .i64 (n : Int), .int .i64 (m : Int)], .func (.func 84) #[] #[.pointer (some ⟨w.heap.size, 0, none⟩)], .int .i64 16] W fun e w' => Lq tb B (addV x.2.es (t, n, m) (fun y => decide (y.1 = t)) 16 (fun l => upd p k { x.2 with es := l }) p) w e w') := Lib.hid (fun W hW => by
          have hW0 := HB3.out.trans (hW.mono HB3.out.size)
          have hU := HU.out W hW0
          have hR : RD W B tb _ _ p D := (HR0.out.below hW0)
          have hro := (hR.2.1.2.2.1 k x HX0.out).2.1
          obtain ⟨AF, cf, hfe, _⟩ := own_slice hro
          rw [hfe] at hro
          have hC := add_Es (fun y => decide (y.1 = t)) 84 w.heap.size AF cf x.2.es (t, n, m) 16 g (k * 6 + 2) W B hro HLF.out (by omega) ent_84 (fun y hy W' hW' => by
            have hW1 := hW0.trans (hW'.mono hW0.size)
            have hU1 := HU.out W' hW1
            exact clo_84 y w.heap.size W' 5 c b o t (by omega) hU1.2.1 hU1.2.2.2.1)
            (by have := hU.1.size; have := HBB.out; omega) (fun W1 W2 h1 h2 => cell_of_list (j := 2) (v := .slice AF x.2.es.length cf) hR.2.1 HX0.out hro (by decide) (by omega) (by rw [← hfe]; rfl) h1 h2)
          rw [← hfe] at hC
          exact hC.mono fun e w' hp => addp_e hR hU.1 HTB.out HBB.out HX0.out hp)
        go_region_law (go_simp; go_at_call 83; refine (HAD.out _ (by first | exact Below.refl _ _ | exact (Below.refl _ _).drew)).mono ?_; rintro _ wz ⟨rfl, h62, h63⟩)
        all_goals
          go_wp2_with fail
          go_ret
          rw [HX.out]
          exact ⟨rfl, h62, h63⟩
end Go.Proofs.YtapdiionikfgpaaGreatDoor
