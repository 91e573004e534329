import Derived.Test.YtapdiionikfgpaaGreatDoorGj
namespace Go.Proofs.YtapdiionikfgpaaGreatDoor
open Go.ChangeShapes Go.WideShapes Go.ChangeAt Go.RowKit
open Li (Gl)
set_option linter.unusedVariables false
set_option linter.unusedSimpArgs false
set_option maxRecDepth 100000 in
set_option maxHeartbeats 8000000 in
theorem d42 (a t u : ByteArray)  (w : World) (B tb : Nat) (SV CV : Value) (p : Pm) (D : List (Sv × Co)) (h : RD w B tb SV CV p D) (hB : B ≤ w.heap.size) (hsm : Sm p) (hsa : a.size ≤ 281474976710656) (hst : t.size ≤ 281474976710656) (hsu : u.size ≤ 281474976710656) (b o c : Nat) (q1 : w.cell? ⟨b, o + 1, none⟩ = some (.string a)) (q2 : w.cell? ⟨b, o + 2, none⟩ = some (.string t)) (q3 : w.cell? ⟨b, o + 3, none⟩ = some (.string u)) :
    Calls Tryz.prog 42 #[.pointer (some ⟨tb, 0, none⟩), .slice (some ⟨b, o, none⟩) 4 c] w fun e w' => Lq tb B (importV p a t u) w e w' := by
  have HBA : Hid (Below w.heap.size w w) := Lib.hid (Below.refl _ w)
  have HTB : Hid (tb < w.heap.size) := Lib.hid h.1.lt
  have HBB := Lib.hid hB
  have HLEN : Hid (D.length ≤ 12) := Lib.hid (by rw [h.len]; exact h.2.2.2.2.1)
  have HCS := Lib.hid h.2.2.1
  have hq1 := World.block_lt_of_cell? w _ q1
  have hq2 := World.block_lt_of_cell? w _ q2
  have hq3 := World.block_lt_of_cell? w _ q3
  have HU : Hid (∀ W, Below w.heap.size w W → Below w.heap.size w W ∧ W.cell? ⟨b, o + 1, none⟩ = some (.string a) ∧ W.cell? ⟨b, o + 2, none⟩ = some (.string t) ∧ W.cell? ⟨b, o + 3, none⟩ = some (.string u) ∧ RD W B tb SV CV p D) := Lib.hid (fun W hW => ⟨HBA.out.trans (hW.mono HBA.out.size), ((HBA.out.trans (hW.mono HBA.out.size)).cell (p := ⟨b, _, none⟩) hq1).trans q1, ((HBA.out.trans (hW.mono HBA.out.size)).cell (p := ⟨b, _, none⟩) hq2).trans q2, ((HBA.out.trans (hW.mono HBA.out.size)).cell (p := ⟨b, _, none⟩) hq3).trans q3, h.below (HBA.out.trans (hW.mono HBA.out.size))⟩)
  have H75a := Lib.hid (c28 a (by omega))
  have H78a := Lib.hid (c72 a (by omega))
  have H75t := Lib.hid (c28 t (by omega))
  have H78t := Lib.hid (c72 t (by omega))
  have H75u := Lib.hid (c28 u (by omega))
  have H78u := Lib.hid (c72 u (by omega))
  have H79 : Hid (∀ s W, Below w.heap.size w W → _) := Lib.hid (fun s W hW => n79 s W B tb SV CV p D (h.below hW))
  have HB0 : Hid (Below w.heap.size w w) := Lib.hid (Below.refl _ _)
  obtain ⟨-, r1, r2, r3, hr⟩ := HU.out _ HB0.out
  have HR0 := Lib.hid hr
  clear hr
  clear q1 hq1 q2 hq2 q3 hq3 hB
  have HSM := Lib.hid hsm
  cases hna : nameB a
  · rw [hna] at H75a
    have HX : Hid (importV p a t u = (5, p)) := Lib.hid (by unfold importV; rw [if_neg (by rw [hna]; simp)])
    clear hna h
    go_enter Tryz.func42, Tryz.ntmps42
    go_wp2_with fail
    with_reducible refine (H75a.out _).mono ?_
    rintro _ wx ⟨rfl, rfl⟩
    go_wp2_with fail
    go_ret
    rw [HX.out]
    exact lq_err (k := 4) (p := p) rfl (HU.out _ HB0.out).1 HTB.out HBB.out
  rw [hna] at H75a
  cases hnt : nameB t
  · rw [hnt] at H75t
    have HX : Hid (importV p a t u = (5, p)) := Lib.hid (by unfold importV; rw [if_neg (by rw [hnt]; simp)])
    clear hna hnt h
    go_enter Tryz.func42, Tryz.ntmps42
    go_wp2_with fail
    with_reducible refine (H75a.out _).mono ?_
    rintro _ wx ⟨rfl, rfl⟩
    go_wp2_with fail
    with_reducible refine (H75t.out _).mono ?_
    rintro _ wx ⟨rfl, rfl⟩
    go_wp2_with fail
    go_ret
    rw [HX.out]
    exact lq_err (k := 4) (p := p) rfl (HU.out _ HB0.out).1 HTB.out HBB.out
  rw [hnt] at H75t
  cases hsu : symB u
  · rw [hsu] at H78u
    have HX : Hid (importV p a t u = (5, p)) := Lib.hid (by unfold importV; rw [if_neg (by rw [hsu]; simp)])
    clear hna hnt hsu h
    go_enter Tryz.func42, Tryz.ntmps42
    go_wp2_with fail
    with_reducible refine (H75a.out _).mono ?_
    rintro _ wx ⟨rfl, rfl⟩
    go_wp2_with fail
    with_reducible refine (H75t.out _).mono ?_
    rintro _ wx ⟨rfl, rfl⟩
    go_wp2_with fail
    with_reducible refine (H78u.out _).mono ?_
    rintro _ wx ⟨rfl, rfl⟩
    go_wp2_with fail
    go_ret
    rw [HX.out]
    exact lq_err (k := 4) (p := p) rfl (HU.out _ HB0.out).1 HTB.out HBB.out
  rw [hsu] at H78u
  cases hfa : fnd (byName a) p.cs with
  | none =>
    have HX : Hid (importV p a t u = (6, p)) := Lib.hid (by unfold importV; rw [if_pos ⟨hna, hnt, hsu⟩, hfa])
    cases hft : fnd (byName t) p.cs with
    | none =>
      clear hna hnt hsu h
      go_enter Tryz.func42, Tryz.ntmps42
      go_wp2_with fail
      with_reducible refine (H75a.out _).mono ?_
      rintro _ wx ⟨rfl, rfl⟩
      go_wp2_with fail
      with_reducible refine (H75t.out _).mono ?_
      rintro _ wx ⟨rfl, rfl⟩
      go_wp2_with fail
      with_reducible refine (H78u.out _).mono ?_
      rintro _ wx ⟨rfl, rfl⟩
      go_wp2_with fail
      with_reducible refine (H79.out a _ (HU.out _ HB0.out).1).mono ?_
      rintro _ w1 hh
      rw [hfa] at hh
      obtain ⟨rfl, hb⟩ := hh
      have HB1 : Hid (Below w.heap.size w w1) := Lib.hid (HB0.out.trans (hb.mono HB0.out.size))
      clear hb
      obtain ⟨-, r1, r2, r3, hr⟩ := HU.out _ HB1.out
      have HR1 := Lib.hid hr
      clear hr
      go_wp2_with fail
      with_reducible refine (H79.out t _ (HU.out _ HB1.out).1).mono ?_
      rintro _ w2 hh
      rw [hft] at hh
      obtain ⟨rfl, hb⟩ := hh
      have HB2 : Hid (Below w.heap.size w w2) := Lib.hid (HB1.out.trans (hb.mono HB1.out.size))
      clear hb
      obtain ⟨-, r1, r2, r3, hr⟩ := HU.out _ HB2.out
      have HR2 := Lib.hid hr
      clear hr
      go_wp2_with fail
      go_ret
      rw [HX.out]
      exact lq_err (k := 5) (p := p) rfl (HU.out _ HB2.out).1 HTB.out HBB.out
    | some d =>
      obtain ⟨g, cc, hce, -, -, -⟩ := own_at len_cCo h.2.1.2.1 (by obtain ⟨hk, -, -⟩ := fnd_some hft; have := h.len; omega)
      subst hce
      clear hna hnt hsu h
      go_enter Tryz.func42, Tryz.ntmps42
      go_wp2_with fail
      with_reducible refine (H75a.out _).mono ?_
      rintro _ wx ⟨rfl, rfl⟩
      go_wp2_with fail
      with_reducible refine (H75t.out _).mono ?_
      rintro _ wx ⟨rfl, rfl⟩
      go_wp2_with fail
      with_reducible refine (H78u.out _).mono ?_
      rintro _ wx ⟨rfl, rfl⟩
      go_wp2_with fail
      with_reducible refine (H79.out a _ (HU.out _ HB0.out).1).mono ?_
      rintro _ w1 hh
      rw [hfa] at hh
      obtain ⟨rfl, hb⟩ := hh
      have HB1 : Hid (Below w.heap.size w w1) := Lib.hid (HB0.out.trans (hb.mono HB0.out.size))
      clear hb
      obtain ⟨-, r1, r2, r3, hr⟩ := HU.out _ HB1.out
      have HR1 := Lib.hid hr
      clear hr
      go_wp2_with fail
      with_reducible refine (H79.out t _ (HU.out _ HB1.out).1).mono ?_
      rintro _ w2 hh
      rw [hft] at hh
      obtain ⟨⟨g', c', hce, -, -, rfl⟩, hb⟩ := hh
      cases hce
      have HB2 : Hid (Below w.heap.size w w2) := Lib.hid (HB1.out.trans (hb.mono HB1.out.size))
      clear hb
      obtain ⟨-, r1, r2, r3, hr⟩ := HU.out _ HB2.out
      have HR2 := Lib.hid hr
      clear hr
      go_wp2_with fail
      go_ret
      rw [HX.out]
      exact lq_err (k := 5) (p := p) rfl (HU.out _ HB2.out).1 HTB.out HBB.out
  | some k =>
    cases hft : fnd (byName t) p.cs with
    | none =>
      have HX : Hid (importV p a t u = (6, p)) := Lib.hid (by unfold importV; rw [if_pos ⟨hna, hnt, hsu⟩, hfa, hft])
      have e1 : decide ((k : Int) < 0) = false := by simp
      obtain ⟨g, cc, hce, -, -, -⟩ := own_at len_cCo h.2.1.2.1 (by obtain ⟨hk, -, -⟩ := fnd_some hfa; have := h.len; omega)
      subst hce
      clear hna hnt hsu h
      go_enter Tryz.func42, Tryz.ntmps42
      go_wp2_with fail
      with_reducible refine (H75a.out _).mono ?_
      rintro _ wx ⟨rfl, rfl⟩
      go_wp2_with fail
      with_reducible refine (H75t.out _).mono ?_
      rintro _ wx ⟨rfl, rfl⟩
      go_wp2_with fail
      with_reducible refine (H78u.out _).mono ?_
      rintro _ wx ⟨rfl, rfl⟩
      go_wp2_with fail
      with_reducible refine (H79.out a _ (HU.out _ HB0.out).1).mono ?_
      rintro _ w1 hh
      rw [hfa] at hh
      obtain ⟨⟨g', c', hce, -, -, rfl⟩, hb⟩ := hh
      cases hce
      have HB1 : Hid (Below w.heap.size w w1) := Lib.hid (HB0.out.trans (hb.mono HB0.out.size))
      clear hb
      obtain ⟨-, r1, r2, r3, hr⟩ := HU.out _ HB1.out
      have HR1 := Lib.hid hr
      clear hr
      go_wp2_with fail
      with_reducible refine (H79.out t _ (HU.out _ HB1.out).1).mono ?_
      rintro _ w2 hh
      rw [hft] at hh
      obtain ⟨rfl, hb⟩ := hh
      have HB2 : Hid (Below w.heap.size w w2) := Lib.hid (HB1.out.trans (hb.mono HB1.out.size))
      clear hb
      obtain ⟨-, r1, r2, r3, hr⟩ := HU.out _ HB2.out
      have HR2 := Lib.hid hr
      clear hr
      go_wp2_with fail
      go_ret
      rw [HX.out]
      exact lq_err (k := 5) (p := p) rfl (HU.out _ HB2.out).1 HTB.out HBB.out
    | some d =>
      obtain ⟨hk, -, -⟩ := fnd_some hfa
      have hkD : k < D.length := by rw [h.len]; exact hk
      obtain ⟨x, hx, hxc⟩ : ∃ x, D[k]? = some x ∧ p.cs[k]? = some x.2 := ⟨D[k], List.getElem?_eq_getElem hkD, by rw [← HCS.out, List.getElem?_map, List.getElem?_eq_getElem hkD]; rfl⟩
      have HX0 := Lib.hid hx
      obtain ⟨g, cc, hce, hg, hBg, -⟩ := own_at len_cCo h.2.1.2.1 (by omega)
      subst hce
      have e1 : decide ((k : Int) < 0) = false := by simp
      have HGN : Hid (g < w.heap.size) := Lib.hid hg
      have e3 : decide ((d : Int) < 0) = false := by simp
      have HX : Hid (importV p a t u = addV x.2.is (d, u) (fun y => decide (y = (d, u))) 16 (fun l => upd p k { x.2 with is := l }) p) := Lib.hid (by unfold importV; rw [if_pos ⟨hna, hnt, hsu⟩, hfa, hft]; simp only [hxc])
      have HXC := Lib.hid hxc
      clear hna hnt hsu h hx hxc hk hkD hg hBg
      go_enter Tryz.func42, Tryz.ntmps42
      go_wp2_with fail
      with_reducible refine (H75a.out _).mono ?_
      rintro _ wx ⟨rfl, rfl⟩
      go_wp2_with fail
      with_reducible refine (H75t.out _).mono ?_
      rintro _ wx ⟨rfl, rfl⟩
      go_wp2_with fail
      with_reducible refine (H78u.out _).mono ?_
      rintro _ wx ⟨rfl, rfl⟩
      go_wp2_with fail
      with_reducible refine (H79.out a _ (HU.out _ HB0.out).1).mono ?_
      rintro _ w1 hh
      rw [hfa] at hh
      obtain ⟨⟨g', c', hce, -, -, rfl⟩, hb⟩ := hh
      cases hce
      have HB1 : Hid (Below w.heap.size w w1) := Lib.hid (HB0.out.trans (hb.mono HB0.out.size))
      clear hb
      obtain ⟨-, r1, r2, r3, hr⟩ := HU.out _ HB1.out
      have HR1 := Lib.hid hr
      clear hr
      go_wp2_with fail
      with_reducible refine (H79.out t _ (HU.out _ HB1.out).1).mono ?_
      rintro _ w2 hh
      rw [hft] at hh
      obtain ⟨⟨g', c', hce, -, -, rfl⟩, hb⟩ := hh
      cases hce
      have HB2 : Hid (Below w.heap.size w w2) := Lib.hid (HB1.out.trans (hb.mono HB1.out.size))
      clear hb
      obtain ⟨-, r1, r2, r3, hr⟩ := HU.out _ HB2.out
      have HR2 := Lib.hid hr
      clear hr
      go_wp2_with fail
      obtain ⟨w3, hw3⟩ : ∃ w3, w2.alloc (.cells #[.int .i64 (d : Int), .string u] 79) = w3 := ⟨_, rfl⟩
      have HB3 : Hid (Below w.heap.size w w3) := Lib.hid (by rw [← hw3]; exact HB2.out.alloc HB2.out.size _)
      have HBX : Hid (Bx w3 w2.heap.size #[.int .i64 (d : Int), .string u] 79) := Lib.hid (by rw [← hw3]; exact bx_alloc _ _ _)
      have s0 := HBX.out.cell 0
      have s1 := HBX.out.cell 1
      simp at s0 s1
      rw [hw3]
      have HW3 := Lib.hid hw3
      clear hw3
      obtain ⟨-, r1, r2, r3, hr⟩ := HU.out _ HB3.out
      have HR3 := Lib.hid hr
      clear hr
      have HLF : Hid (x.2.is.length ≤ 400) := Lib.hid (by have := HSM.out.2.2 x.2 (List.mem_of_getElem? HXC.out); omega)
      have HAD : Hid (∀ W, Below w3.heap.size w3 W → Calls Tryz.prog 85 #[.pointer (some ⟨g, k * 6 + 3, none⟩), .agg #[.int .i64 (d : Int), .string u], .func (.func 86) #[] #[.pointer (some ⟨w2.heap.size, 0, none⟩)], .int .i64 16] W fun e w' => Lq tb B (addV x.2.is (d, u) (fun y => decide (y = (d, u))) 16 (fun l => upd p k { x.2 with is := l }) p) w e w') := Lib.hid (fun W hW => by
        have hW0 := HB3.out.trans (hW.mono HB3.out.size)
        have hU := HU.out W hW0
        have hR : RD W B tb _ _ p D := (HR0.out.below hW0)
        have hro := (hR.2.1.2.2.1 k x HX0.out).2.2.1
        obtain ⟨AF, cf, hfe, _⟩ := own_slice hro
        rw [hfe] at hro
        have hC := add_Is (fun y => decide (y = (d, u))) 86 w2.heap.size AF cf x.2.is (d, u) 16 g (k * 6 + 3) W B hro HLF.out (by omega) ent_86 (fun y hy W' hW' => by
          have hW1 := hW0.trans (hW'.mono hW0.size)
          have hU1 := HU.out W' hW1
          exact clo_86 y w2.heap.size W' d u (((HBX.out.below hW).below hW').cell 0) (((HBX.out.below hW).below hW').cell 1))
          (by have := hU.1.size; have := HBB.out; omega) (fun W1 W2 h1 h2 => cell_of_list (j := 3) (v := .slice AF x.2.is.length cf) hR.2.1 HX0.out hro (by decide) (by omega) (by rw [← hfe]; rfl) h1 h2)
        rw [← hfe] at hC
        exact hC.mono fun e w' hp => addp_i hR hU.1 HTB.out HBB.out HX0.out hp)
      go_region_law (go_simp; go_at_call 85; refine (HAD.out _ (by first | exact Below.refl _ _ | exact (Below.refl _ _).drew)).mono ?_; rintro _ wz ⟨rfl, h62, h63⟩)
      all_goals
        go_wp2_with fail
        go_ret
        rw [HX.out]
        exact ⟨rfl, h62, h63⟩
set_option maxRecDepth 100000 in
set_option maxHeartbeats 8000000 in
theorem d43 (a t u v : ByteArray) (o1 : Option Nat) (ho1 : numO u 65280 65532 4 = o1) (o2 : Option Nat) (ho2 : numO v 4 256 4 = o2) (w : World) (B tb : Nat) (SV CV : Value) (p : Pm) (D : List (Sv × Co)) (h : RD w B tb SV CV p D) (hB : B ≤ w.heap.size) (hsm : Sm p) (hG : Gl w) (hn1 : ∀ n, o1 = some n → n ≤ 65532) (hn2 : ∀ n, o2 = some n → n ≤ 256) (hsa : a.size ≤ 281474976710656) (hst : t.size ≤ 281474976710656) (hsu : u.size ≤ 281474976710656) (hsv : v.size ≤ 281474976710656) (b o c : Nat) (q1 : w.cell? ⟨b, o + 1, none⟩ = some (.string a)) (q2 : w.cell? ⟨b, o + 2, none⟩ = some (.string t)) (q3 : w.cell? ⟨b, o + 3, none⟩ = some (.string u)) (q4 : w.cell? ⟨b, o + 4, none⟩ = some (.string v)) :
    Calls Tryz.prog 43 #[.pointer (some ⟨tb, 0, none⟩), .slice (some ⟨b, o, none⟩) 5 c] w fun e w' => Lq tb B (deviceO o1 o2 p a t) w e w' := by
  have HBA : Hid (Below w.heap.size w (w.alloc (.cells #[.slice (some ⟨b, o, none⟩) 5 c] 55))) := Lib.hid ((Below.refl _ w).alloc (Nat.le_refl _) _)
  have HTB : Hid (tb < w.heap.size) := Lib.hid h.1.lt
  have HBB := Lib.hid hB
  have HLEN : Hid (D.length ≤ 12) := Lib.hid (by rw [h.len]; exact h.2.2.2.2.1)
  have HCS := Lib.hid h.2.2.1
  have hq1 := World.block_lt_of_cell? w _ q1
  have hq2 := World.block_lt_of_cell? w _ q2
  have hq3 := World.block_lt_of_cell? w _ q3
  have hq4 := World.block_lt_of_cell? w _ q4
  have HU : Hid (∀ W, Below (w.alloc (.cells #[.slice (some ⟨b, o, none⟩) 5 c] 55)).heap.size (w.alloc (.cells #[.slice (some ⟨b, o, none⟩) 5 c] 55)) W → Below w.heap.size w W ∧ W.cell? ⟨w.heap.size, 0, none⟩ = some (.slice (some ⟨b, o, none⟩) 5 c) ∧ W.cell? ⟨b, o + 1, none⟩ = some (.string a) ∧ W.cell? ⟨b, o + 2, none⟩ = some (.string t) ∧ W.cell? ⟨b, o + 3, none⟩ = some (.string u) ∧ W.cell? ⟨b, o + 4, none⟩ = some (.string v) ∧ RD W B tb SV CV p D) := Lib.hid (fun W hW => ⟨HBA.out.trans (hW.mono HBA.out.size), (bx_alloc w #[.slice (some ⟨b, o, none⟩) 5 c] 55 |>.below hW).cell 0, ((HBA.out.trans (hW.mono HBA.out.size)).cell (p := ⟨b, _, none⟩) hq1).trans q1, ((HBA.out.trans (hW.mono HBA.out.size)).cell (p := ⟨b, _, none⟩) hq2).trans q2, ((HBA.out.trans (hW.mono HBA.out.size)).cell (p := ⟨b, _, none⟩) hq3).trans q3, ((HBA.out.trans (hW.mono HBA.out.size)).cell (p := ⟨b, _, none⟩) hq4).trans q4, h.below (HBA.out.trans (hW.mono HBA.out.size))⟩)
  have H75a := Lib.hid (c28 a (by omega))
  have H78a := Lib.hid (c72 a (by omega))
  have H75t := Lib.hid (c28 t (by omega))
  have H78t := Lib.hid (c72 t (by omega))
  have H75u := Lib.hid (c28 u (by omega))
  have H78u := Lib.hid (c72 u (by omega))
  have H75v := Lib.hid (c28 v (by omega))
  have H78v := Lib.hid (c72 v (by omega))
  have H82o1 : Hid (∀ W, Below w.heap.size w W → Calls Tryz.prog 82 #[.string u, .int .i64 65280, .int .i64 65532, .int .i64 4] W fun e w' => e = .returned (.tuple #[.int .i64 ((o1.getD 0 : Nat) : Int), .bool o1.isSome]) ∧ Below W.heap.size W w') := Lib.hid (fun W hW => by rw [← ho1]; exact n82 u 65280 65532 4 hsu (by omega) (by omega) (by omega) (by omega) W (hG.below hW))
  have H82o2 : Hid (∀ W, Below w.heap.size w W → Calls Tryz.prog 82 #[.string v, .int .i64 4, .int .i64 256, .int .i64 4] W fun e w' => e = .returned (.tuple #[.int .i64 ((o2.getD 0 : Nat) : Int), .bool o2.isSome]) ∧ Below W.heap.size W w') := Lib.hid (fun W hW => by rw [← ho2]; exact n82 v 4 256 4 hsv (by omega) (by omega) (by omega) (by omega) W (hG.below hW))
  have H79 : Hid (∀ s W, Below w.heap.size w W → _) := Lib.hid (fun s W hW => n79 s W B tb SV CV p D (h.below hW))
  have HB0 : Hid (Below (w.alloc (.cells #[.slice (some ⟨b, o, none⟩) 5 c] 55)).heap.size (w.alloc (.cells #[.slice (some ⟨b, o, none⟩) 5 c] 55)) (w.alloc (.cells #[.slice (some ⟨b, o, none⟩) 5 c] 55))) := Lib.hid (Below.refl _ _)
  obtain ⟨-, s0, r1, r2, r3, r4, hr⟩ := HU.out _ HB0.out
  have HR0 := Lib.hid hr
  clear hr
  clear q1 hq1 q2 hq2 q3 hq3 q4 hq4 hB hG
  have HSM := Lib.hid hsm
  cases hna : nameB a
  · rw [hna] at H75a
    have HX : Hid (deviceO o1 o2 p a t = (5, p)) := Lib.hid (by unfold deviceO; split <;> first | rfl | rw [if_neg (by rw [hna]; simp)])
    clear hna h
    go_enter Tryz.func43, Tryz.ntmps43
    go_wp2_with fail
    with_reducible refine (H82o1.out _ (HU.out _ HB0.out).1).mono ?_
    rintro _ w1 ⟨rfl, hb⟩
    have HB1 : Hid (Below (w.alloc (.cells #[.slice (some ⟨b, o, none⟩) 5 c] 55)).heap.size (w.alloc (.cells #[.slice (some ⟨b, o, none⟩) 5 c] 55)) w1) := Lib.hid (HB0.out.trans (hb.mono HB0.out.size))
    clear hb
    obtain ⟨-, s0, r1, r2, r3, r4, hr⟩ := HU.out _ HB1.out
    have HR1 := Lib.hid hr
    clear hr
    go_wp2_with fail
    with_reducible refine (H82o2.out _ (HU.out _ HB1.out).1).mono ?_
    rintro _ w2 ⟨rfl, hb⟩
    have HB2 : Hid (Below (w.alloc (.cells #[.slice (some ⟨b, o, none⟩) 5 c] 55)).heap.size (w.alloc (.cells #[.slice (some ⟨b, o, none⟩) 5 c] 55)) w2) := Lib.hid (HB1.out.trans (hb.mono HB1.out.size))
    clear hb
    obtain ⟨-, s0, r1, r2, r3, r4, hr⟩ := HU.out _ HB2.out
    have HR2 := Lib.hid hr
    clear hr
    go_wp2_with fail
    with_reducible refine (H75a.out _).mono ?_
    rintro _ wx ⟨rfl, rfl⟩
    go_wp2_with fail
    go_ret
    rw [HX.out]
    exact lq_err (k := 4) (p := p) rfl (HU.out _ HB2.out).1 HTB.out HBB.out
  rw [hna] at H75a
  cases hst : nameB t
  · rw [hst] at H75t
    have HX : Hid (deviceO o1 o2 p a t = (5, p)) := Lib.hid (by unfold deviceO; split <;> first | rfl | rw [if_neg (by rw [hst]; simp)])
    clear hna hst h
    go_enter Tryz.func43, Tryz.ntmps43
    go_wp2_with fail
    with_reducible refine (H82o1.out _ (HU.out _ HB0.out).1).mono ?_
    rintro _ w1 ⟨rfl, hb⟩
    have HB1 : Hid (Below (w.alloc (.cells #[.slice (some ⟨b, o, none⟩) 5 c] 55)).heap.size (w.alloc (.cells #[.slice (some ⟨b, o, none⟩) 5 c] 55)) w1) := Lib.hid (HB0.out.trans (hb.mono HB0.out.size))
    clear hb
    obtain ⟨-, s0, r1, r2, r3, r4, hr⟩ := HU.out _ HB1.out
    have HR1 := Lib.hid hr
    clear hr
    go_wp2_with fail
    with_reducible refine (H82o2.out _ (HU.out _ HB1.out).1).mono ?_
    rintro _ w2 ⟨rfl, hb⟩
    have HB2 : Hid (Below (w.alloc (.cells #[.slice (some ⟨b, o, none⟩) 5 c] 55)).heap.size (w.alloc (.cells #[.slice (some ⟨b, o, none⟩) 5 c] 55)) w2) := Lib.hid (HB1.out.trans (hb.mono HB1.out.size))
    clear hb
    obtain ⟨-, s0, r1, r2, r3, r4, hr⟩ := HU.out _ HB2.out
    have HR2 := Lib.hid hr
    clear hr
    go_wp2_with fail
    with_reducible refine (H75a.out _).mono ?_
    rintro _ wx ⟨rfl, rfl⟩
    go_wp2_with fail
    with_reducible refine (H75t.out _).mono ?_
    rintro _ wx ⟨rfl, rfl⟩
    go_wp2_with fail
    go_ret
    rw [HX.out]
    exact lq_err (k := 4) (p := p) rfl (HU.out _ HB2.out).1 HTB.out HBB.out
  rw [hst] at H75t
  cases o1 with
  | none =>
    simp only [Option.getD_none, Option.isSome_none] at H82o1
    have HX : Hid (deviceO none o2 p a t = (5, p)) := Lib.hid (by rfl)
    clear hna hst h
    go_enter Tryz.func43, Tryz.ntmps43
    go_wp2_with fail
    with_reducible refine (H82o1.out _ (HU.out _ HB0.out).1).mono ?_
    rintro _ w1 ⟨rfl, hb⟩
    have HB1 : Hid (Below (w.alloc (.cells #[.slice (some ⟨b, o, none⟩) 5 c] 55)).heap.size (w.alloc (.cells #[.slice (some ⟨b, o, none⟩) 5 c] 55)) w1) := Lib.hid (HB0.out.trans (hb.mono HB0.out.size))
    clear hb
    obtain ⟨-, s0, r1, r2, r3, r4, hr⟩ := HU.out _ HB1.out
    have HR1 := Lib.hid hr
    clear hr
    go_wp2_with fail
    with_reducible refine (H82o2.out _ (HU.out _ HB1.out).1).mono ?_
    rintro _ w2 ⟨rfl, hb⟩
    have HB2 : Hid (Below (w.alloc (.cells #[.slice (some ⟨b, o, none⟩) 5 c] 55)).heap.size (w.alloc (.cells #[.slice (some ⟨b, o, none⟩) 5 c] 55)) w2) := Lib.hid (HB1.out.trans (hb.mono HB1.out.size))
    clear hb
    obtain ⟨-, s0, r1, r2, r3, r4, hr⟩ := HU.out _ HB2.out
    have HR2 := Lib.hid hr
    clear hr
    go_wp2_with fail
    with_reducible refine (H75a.out _).mono ?_
    rintro _ wx ⟨rfl, rfl⟩
    go_wp2_with fail
    with_reducible refine (H75t.out _).mono ?_
    rintro _ wx ⟨rfl, rfl⟩
    go_wp2_with fail
    go_ret
    rw [HX.out]
    exact lq_err (k := 4) (p := p) rfl (HU.out _ HB2.out).1 HTB.out HBB.out
  | some n =>
    simp only [Option.getD_some, Option.isSome_some] at H82o1
    cases o2 with
    | none =>
      simp only [Option.getD_none, Option.isSome_none] at H82o2
      have HX : Hid (deviceO (some n) none p a t = (5, p)) := Lib.hid (by rfl)
      clear hna hst h
      go_enter Tryz.func43, Tryz.ntmps43
      go_wp2_with fail
      with_reducible refine (H82o1.out _ (HU.out _ HB0.out).1).mono ?_
      rintro _ w1 ⟨rfl, hb⟩
      have HB1 : Hid (Below (w.alloc (.cells #[.slice (some ⟨b, o, none⟩) 5 c] 55)).heap.size (w.alloc (.cells #[.slice (some ⟨b, o, none⟩) 5 c] 55)) w1) := Lib.hid (HB0.out.trans (hb.mono HB0.out.size))
      clear hb
      obtain ⟨-, s0, r1, r2, r3, r4, hr⟩ := HU.out _ HB1.out
      have HR1 := Lib.hid hr
      clear hr
      go_wp2_with fail
      with_reducible refine (H82o2.out _ (HU.out _ HB1.out).1).mono ?_
      rintro _ w2 ⟨rfl, hb⟩
      have HB2 : Hid (Below (w.alloc (.cells #[.slice (some ⟨b, o, none⟩) 5 c] 55)).heap.size (w.alloc (.cells #[.slice (some ⟨b, o, none⟩) 5 c] 55)) w2) := Lib.hid (HB1.out.trans (hb.mono HB1.out.size))
      clear hb
      obtain ⟨-, s0, r1, r2, r3, r4, hr⟩ := HU.out _ HB2.out
      have HR2 := Lib.hid hr
      clear hr
      go_wp2_with fail
      with_reducible refine (H75a.out _).mono ?_
      rintro _ wx ⟨rfl, rfl⟩
      go_wp2_with fail
      with_reducible refine (H75t.out _).mono ?_
      rintro _ wx ⟨rfl, rfl⟩
      go_wp2_with fail
      go_ret
      rw [HX.out]
      exact lq_err (k := 4) (p := p) rfl (HU.out _ HB2.out).1 HTB.out HBB.out
    | some m =>
      simp only [Option.getD_some, Option.isSome_some] at H82o2
      have hn := hn1 n rfl
      have hm := hn2 m rfl
      have hw1 : IntKind.i64.wrap ((n : Int) + (m : Int)) = (n : Int) + (m : Int) := by rw [IntKind.wrap_i64]; omega
      have hw2 : IntKind.u32.wrap (n : Int) = (n : Int) := by rw [IntKind.wrap_u32]; omega
      have hw3 : IntKind.u32.wrap (m : Int) = (m : Int) := by rw [IntKind.wrap_u32]; omega
      by_cases hnm : 65536 < n + m
      · have e2 : decide ((65536 : Int) < (n : Int) + (m : Int)) = true := by simp; omega
        have HX : Hid (deviceO (some n) (some m) p a t = (5, p)) := Lib.hid (by unfold deviceO; simp only; rw [if_neg (by omega)])
        clear hna hst h hnm hn hm hn1 hn2
        go_enter Tryz.func43, Tryz.ntmps43
        go_wp2_with fail
        with_reducible refine (H82o1.out _ (HU.out _ HB0.out).1).mono ?_
        rintro _ w1 ⟨rfl, hb⟩
        have HB1 : Hid (Below (w.alloc (.cells #[.slice (some ⟨b, o, none⟩) 5 c] 55)).heap.size (w.alloc (.cells #[.slice (some ⟨b, o, none⟩) 5 c] 55)) w1) := Lib.hid (HB0.out.trans (hb.mono HB0.out.size))
        clear hb
        obtain ⟨-, s0, r1, r2, r3, r4, hr⟩ := HU.out _ HB1.out
        have HR1 := Lib.hid hr
        clear hr
        go_wp2_with fail
        with_reducible refine (H82o2.out _ (HU.out _ HB1.out).1).mono ?_
        rintro _ w2 ⟨rfl, hb⟩
        have HB2 : Hid (Below (w.alloc (.cells #[.slice (some ⟨b, o, none⟩) 5 c] 55)).heap.size (w.alloc (.cells #[.slice (some ⟨b, o, none⟩) 5 c] 55)) w2) := Lib.hid (HB1.out.trans (hb.mono HB1.out.size))
        clear hb
        obtain ⟨-, s0, r1, r2, r3, r4, hr⟩ := HU.out _ HB2.out
        have HR2 := Lib.hid hr
        clear hr
        go_wp2_with fail
        with_reducible refine (H75a.out _).mono ?_
        rintro _ wx ⟨rfl, rfl⟩
        go_wp2_with fail
        with_reducible refine (H75t.out _).mono ?_
        rintro _ wx ⟨rfl, rfl⟩
        go_wp2_with fail
        go_ret
        rw [HX.out]
        exact lq_err (k := 4) (p := p) rfl (HU.out _ HB2.out).1 HTB.out HBB.out
      have e2 : decide ((65536 : Int) < (n : Int) + (m : Int)) = false := by simp; omega
      have HNM : Hid (n + m ≤ 65536) := Lib.hid (by omega)
      cases hfa : fnd (byName a) p.cs with
      | none =>
        have HX : Hid (deviceO (some n) (some m) p a t = (6, p)) := Lib.hid (by unfold deviceO; simp only [hna, hst, HNM.out, and_self, if_true, hfa])
        clear hna hst h hnm hn hm hn1 hn2
        go_enter Tryz.func43, Tryz.ntmps43
        go_wp2_with fail
        with_reducible refine (H82o1.out _ (HU.out _ HB0.out).1).mono ?_
        rintro _ w1 ⟨rfl, hb⟩
        have HB1 : Hid (Below (w.alloc (.cells #[.slice (some ⟨b, o, none⟩) 5 c] 55)).heap.size (w.alloc (.cells #[.slice (some ⟨b, o, none⟩) 5 c] 55)) w1) := Lib.hid (HB0.out.trans (hb.mono HB0.out.size))
        clear hb
        obtain ⟨-, s0, r1, r2, r3, r4, hr⟩ := HU.out _ HB1.out
        have HR1 := Lib.hid hr
        clear hr
        go_wp2_with fail
        with_reducible refine (H82o2.out _ (HU.out _ HB1.out).1).mono ?_
        rintro _ w2 ⟨rfl, hb⟩
        have HB2 : Hid (Below (w.alloc (.cells #[.slice (some ⟨b, o, none⟩) 5 c] 55)).heap.size (w.alloc (.cells #[.slice (some ⟨b, o, none⟩) 5 c] 55)) w2) := Lib.hid (HB1.out.trans (hb.mono HB1.out.size))
        clear hb
        obtain ⟨-, s0, r1, r2, r3, r4, hr⟩ := HU.out _ HB2.out
        have HR2 := Lib.hid hr
        clear hr
        go_wp2_with fail
        with_reducible refine (H75a.out _).mono ?_
        rintro _ wx ⟨rfl, rfl⟩
        go_wp2_with fail
        with_reducible refine (H75t.out _).mono ?_
        rintro _ wx ⟨rfl, rfl⟩
        go_wp2_with fail
        with_reducible refine (H79.out a _ (HU.out _ HB2.out).1).mono ?_
        rintro _ w3 hh
        rw [hfa] at hh
        obtain ⟨rfl, hb⟩ := hh
        have HB3 : Hid (Below (w.alloc (.cells #[.slice (some ⟨b, o, none⟩) 5 c] 55)).heap.size (w.alloc (.cells #[.slice (some ⟨b, o, none⟩) 5 c] 55)) w3) := Lib.hid (HB2.out.trans (hb.mono HB2.out.size))
        clear hb
        obtain ⟨-, s0, r1, r2, r3, r4, hr⟩ := HU.out _ HB3.out
        have HR3 := Lib.hid hr
        clear hr
        go_wp2_with fail
        go_ret
        rw [HX.out]
        exact lq_err (k := 5) (p := p) rfl (HU.out _ HB3.out).1 HTB.out HBB.out
      | some k =>
        obtain ⟨hk, -, -⟩ := fnd_some hfa
        have hkD : k < D.length := by rw [h.len]; exact hk
        obtain ⟨x, hx, hxc⟩ : ∃ x, D[k]? = some x ∧ p.cs[k]? = some x.2 := ⟨D[k], List.getElem?_eq_getElem hkD, by rw [← HCS.out, List.getElem?_map, List.getElem?_eq_getElem hkD]; rfl⟩
        have HX0 := Lib.hid hx
        obtain ⟨g, cc, hce, hg, hBg, -⟩ := own_at len_cCo h.2.1.2.1 (by omega)
        subst hce
        have e1 : decide ((k : Int) < 0) = false := by simp
        have HGN : Hid (g < w.heap.size) := Lib.hid hg
        have HX : Hid (deviceO (some n) (some m) p a t = addV x.2.ds (t, n, m) (fun y => decide (y.1 = t)) 16 (fun l => upd p k { x.2 with ds := l }) p) := Lib.hid (by unfold deviceO; simp only [hna, hst, HNM.out, and_self, if_true, hfa, hxc])
        have HXC := Lib.hid hxc
        clear hna hst h hx hxc hk hkD hg hBg hnm hn hm hn1 hn2
        go_enter Tryz.func43, Tryz.ntmps43
        go_wp2_with fail
        with_reducible refine (H82o1.out _ (HU.out _ HB0.out).1).mono ?_
        rintro _ w1 ⟨rfl, hb⟩
        have HB1 : Hid (Below (w.alloc (.cells #[.slice (some ⟨b, o, none⟩) 5 c] 55)).heap.size (w.alloc (.cells #[.slice (some ⟨b, o, none⟩) 5 c] 55)) w1) := Lib.hid (HB0.out.trans (hb.mono HB0.out.size))
        clear hb
        obtain ⟨-, s0, r1, r2, r3, r4, hr⟩ := HU.out _ HB1.out
        have HR1 := Lib.hid hr
        clear hr
        go_wp2_with fail
        with_reducible refine (H82o2.out _ (HU.out _ HB1.out).1).mono ?_
        rintro _ w2 ⟨rfl, hb⟩
        have HB2 : Hid (Below (w.alloc (.cells #[.slice (some ⟨b, o, none⟩) 5 c] 55)).heap.size (w.alloc (.cells #[.slice (some ⟨b, o, none⟩) 5 c] 55)) w2) := Lib.hid (HB1.out.trans (hb.mono HB1.out.size))
        clear hb
        obtain ⟨-, s0, r1, r2, r3, r4, hr⟩ := HU.out _ HB2.out
        have HR2 := Lib.hid hr
        clear hr
        go_wp2_with fail
        with_reducible refine (H75a.out _).mono ?_
        rintro _ wx ⟨rfl, rfl⟩
        go_wp2_with fail
        with_reducible refine (H75t.out _).mono ?_
        rintro _ wx ⟨rfl, rfl⟩
        go_wp2_with fail
        with_reducible refine (H79.out a _ (HU.out _ HB2.out).1).mono ?_
        rintro _ w3 hh
        rw [hfa] at hh
        obtain ⟨⟨g', c', hce, -, -, rfl⟩, hb⟩ := hh
        cases hce
        have HB3 : Hid (Below (w.alloc (.cells #[.slice (some ⟨b, o, none⟩) 5 c] 55)).heap.size (w.alloc (.cells #[.slice (some ⟨b, o, none⟩) 5 c] 55)) w3) := Lib.hid (HB2.out.trans (hb.mono HB2.out.size))
        clear hb
        obtain ⟨-, s0, r1, r2, r3, r4, hr⟩ := HU.out _ HB3.out
        have HR3 := Lib.hid hr
        clear hr
        go_wp2_with fail
        have HLF : Hid (x.2.ds.length ≤ 400) := Lib.hid (by have := HSM.out.2.2 x.2 (List.mem_of_getElem? HXC.out); omega)
        have HAD : Hid (∀ W, Below w3.heap.size w3 W → Calls Tryz.prog 87 #[.pointer (some ⟨g, k * 6 + 4, none⟩), .agg #[.string t, .int .u32 (n : Int), .int .u32 (m : Int)], .func (.func 88) #[] #[.pointer (some ⟨w.heap.size, 0, none⟩)], .int .i64 16] W fun e w' => Lq tb B (addV x.2.ds (t, n, m) (fun y => decide (y.1 = t)) 16 (fun l => upd p k { x.2 with ds := l }) p) w e w') := Lib.hid (fun W hW => by
          have hW0 := HB3.out.trans (hW.mono HB3.out.size)
          have hU := HU.out W hW0
          have hR : RD W B tb _ _ p D := (HR0.out.below hW0)
          have hro := (hR.2.1.2.2.1 k x HX0.out).2.2.2.1
          obtain ⟨AF, cf, hfe, _⟩ := own_slice hro
          rw [hfe] at hro
          have hC := add_Ds (fun y => decide (y.1 = t)) 88 w.heap.size AF cf x.2.ds (t, n, m) 16 g (k * 6 + 4) W B hro HLF.out (by omega) ent_88 (fun y hy W' hW' => by
            have hW1 := hW0.trans (hW'.mono hW0.size)
            have hU1 := HU.out W' hW1
            exact clo_88 y w.heap.size W' 5 c b o t (by omega) hU1.2.1 hU1.2.2.2.1)
            (by have := hU.1.size; have := HBB.out; omega) (fun W1 W2 h1 h2 => cell_of_list (j := 4) (v := .slice AF x.2.ds.length cf) hR.2.1 HX0.out hro (by decide) (by omega) (by rw [← hfe]; rfl) h1 h2)
          rw [← hfe] at hC
          exact hC.mono fun e w' hp => addp_d hR hU.1 HTB.out HBB.out HX0.out hp)
        go_region_law (go_simp; go_at_call 87; refine (HAD.out _ (by first | exact Below.refl _ _ | exact (Below.refl _ _).drew)).mono ?_; rintro _ wz ⟨rfl, h62, h63⟩)
        all_goals
          go_wp2_with fail
          go_ret
          rw [HX.out]
          exact ⟨rfl, h62, h63⟩
end Go.Proofs.YtapdiionikfgpaaGreatDoor
