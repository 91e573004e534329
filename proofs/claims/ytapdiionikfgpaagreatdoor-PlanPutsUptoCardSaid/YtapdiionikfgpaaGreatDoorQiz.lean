import Derived.Test.YtapdiionikfgpaaGreatDoorGj
namespace Go.Proofs.YtapdiionikfgpaaGreatDoor
open Go.ChangeShapes Go.WideShapes Go.ChangeAt Go.RowKit
open Li (Gl)
set_option linter.unusedVariables false
set_option linter.unusedSimpArgs false
set_option maxRecDepth 100000 in
set_option maxHeartbeats 8000000 in
theorem d45_n (a t u : ByteArray)  (w : World) (B tb : Nat) (SV CV : Value) (p : Pm) (D : List (Sv × Co)) (h : RD w B tb SV CV p D) (hB : B ≤ w.heap.size) (hno : nameB a = false ∨ nameB t = false ∨ ¬ (u = kR ∨ u = kRw)) (hsa : a.size ≤ 281474976710656) (hst : t.size ≤ 281474976710656) (hsu : u.size ≤ 281474976710656) (b o c : Nat) (q1 : w.cell? ⟨b, o + 1, none⟩ = some (.string a)) (q2 : w.cell? ⟨b, o + 2, none⟩ = some (.string t)) (q3 : w.cell? ⟨b, o + 3, none⟩ = some (.string u)) :
    Calls Tryz.prog 45 #[.pointer (some ⟨tb, 0, none⟩), .slice (some ⟨b, o, none⟩) 4 c] w fun e w' => Lq tb B (giveV p a t u) w e w' := by
  have HBA : Hid (Below w.heap.size w (w.alloc (.cells #[.slice (some ⟨b, o, none⟩) 4 c] 55))) := Lib.hid ((Below.refl _ w).alloc (Nat.le_refl _) _)
  have HTB : Hid (tb < w.heap.size) := Lib.hid h.1.lt
  have HBB := Lib.hid hB
  have HLEN : Hid (D.length ≤ 12) := Lib.hid (by rw [h.len]; exact h.2.2.2.2.1)
  have HCS := Lib.hid h.2.2.1
  have hq1 := World.block_lt_of_cell? w _ q1
  have hq2 := World.block_lt_of_cell? w _ q2
  have hq3 := World.block_lt_of_cell? w _ q3
  have HU : Hid (∀ W, Below (w.alloc (.cells #[.slice (some ⟨b, o, none⟩) 4 c] 55)).heap.size (w.alloc (.cells #[.slice (some ⟨b, o, none⟩) 4 c] 55)) W → Below w.heap.size w W ∧ W.cell? ⟨w.heap.size, 0, none⟩ = some (.slice (some ⟨b, o, none⟩) 4 c) ∧ W.cell? ⟨b, o + 1, none⟩ = some (.string a) ∧ W.cell? ⟨b, o + 2, none⟩ = some (.string t) ∧ W.cell? ⟨b, o + 3, none⟩ = some (.string u) ∧ RD W B tb SV CV p D) := Lib.hid (fun W hW => ⟨HBA.out.trans (hW.mono HBA.out.size), (bx_alloc w #[.slice (some ⟨b, o, none⟩) 4 c] 55 |>.below hW).cell 0, ((HBA.out.trans (hW.mono HBA.out.size)).cell (p := ⟨b, _, none⟩) hq1).trans q1, ((HBA.out.trans (hW.mono HBA.out.size)).cell (p := ⟨b, _, none⟩) hq2).trans q2, ((HBA.out.trans (hW.mono HBA.out.size)).cell (p := ⟨b, _, none⟩) hq3).trans q3, h.below (HBA.out.trans (hW.mono HBA.out.size))⟩)
  have H75a := Lib.hid (c28 a (by omega))
  have H78a := Lib.hid (c72 a (by omega))
  have H75t := Lib.hid (c28 t (by omega))
  have H78t := Lib.hid (c72 t (by omega))
  have H75u := Lib.hid (c28 u (by omega))
  have H78u := Lib.hid (c72 u (by omega))
  have H79 : Hid (∀ s W, Below w.heap.size w W → _) := Lib.hid (fun s W hW => n79 s W B tb SV CV p D (h.below hW))
  have HB0 : Hid (Below (w.alloc (.cells #[.slice (some ⟨b, o, none⟩) 4 c] 55)).heap.size (w.alloc (.cells #[.slice (some ⟨b, o, none⟩) 4 c] 55)) (w.alloc (.cells #[.slice (some ⟨b, o, none⟩) 4 c] 55))) := Lib.hid (Below.refl _ _)
  obtain ⟨-, s0, r1, r2, r3, hr⟩ := HU.out _ HB0.out
  have HR0 := Lib.hid hr
  clear hr
  clear q1 hq1 q2 hq2 q3 hq3 hB
  have HX : Hid (giveV p a t u = (5, p)) := Lib.hid (by unfold giveV; rw [if_neg (by rcases hno with h1 | h1 | h1 <;> first | (simp [h1]; done) | exact fun hh => h1 hh.2.2)])
  cases hna : nameB a
  · rw [hna] at H75a
    clear hna h hno
    go_enter Tryz.func45, Tryz.ntmps45
    go_wp2_with fail
    with_reducible refine (H75a.out _).mono ?_
    rintro _ wx ⟨rfl, rfl⟩
    go_wp2_with fail
    go_ret
    rw [HX.out]
    exact lq_err (k := 4) (p := p) rfl (HU.out _ HB0.out).1 HTB.out HBB.out
  rw [hna] at H75a
  cases hnt : nameB t
  · rw [hnt] at H75t
    clear hna hnt h hno
    go_enter Tryz.func45, Tryz.ntmps45
    go_wp2_with fail
    with_reducible refine (H75a.out _).mono ?_
    rintro _ wx ⟨rfl, rfl⟩
    go_wp2_with fail
    with_reducible refine (H75t.out _).mono ?_
    rintro _ wx ⟨rfl, rfl⟩
    go_wp2_with fail
    go_ret
    rw [HX.out]
    exact lq_err (k := 4) (p := p) rfl (HU.out _ HB0.out).1 HTB.out HBB.out
  rw [hnt] at H75t
  have hu : ¬ (u = kR ∨ u = kRw) := by rcases hno with h1 | h1 | h1 <;> first | exact h1 | (rw [hna] at h1; cases h1) | (rw [hnt] at h1; cases h1)
  obtain ⟨a0, b0⟩ := lit_no2 (u := u) (v := kR) (l := [114]) (by simp [kR]) (fun e => hu (Or.inl e))
  obtain ⟨a1, b1⟩ := lit_no2 (u := u) (v := kRw) (l := [114, 119]) (by simp [kRw]) (fun e => hu (Or.inr e))
  clear hna hnt h hno hu
  go_enter Tryz.func45, Tryz.ntmps45
  go_wp2_with fail
  with_reducible refine (H75a.out _).mono ?_
  rintro _ wx ⟨rfl, rfl⟩
  go_wp2_with fail
  with_reducible refine (H75t.out _).mono ?_
  rintro _ wx ⟨rfl, rfl⟩
  go_wp2_with fail
  go_ret
  rw [HX.out]
  exact lq_err (k := 4) (p := p) rfl (HU.out _ HB0.out).1 HTB.out HBB.out
set_option maxRecDepth 100000 in
set_option maxHeartbeats 8000000 in
theorem d45_r (a t : ByteArray)  (w : World) (B tb : Nat) (SV CV : Value) (p : Pm) (D : List (Sv × Co)) (h : RD w B tb SV CV p D) (hB : B ≤ w.heap.size) (hsm : Sm p) (hna : nameB a = true) (hnt : nameB t = true) (hsa : a.size ≤ 281474976710656) (hst : t.size ≤ 281474976710656) (b o c : Nat) (q1 : w.cell? ⟨b, o + 1, none⟩ = some (.string a)) (q2 : w.cell? ⟨b, o + 2, none⟩ = some (.string t)) (q3 : w.cell? ⟨b, o + 3, none⟩ = some (.string ⟨#[114]⟩)) :
    Calls Tryz.prog 45 #[.pointer (some ⟨tb, 0, none⟩), .slice (some ⟨b, o, none⟩) 4 c] w fun e w' => Lq tb B (giveV p a t kR) w e w' := by
  have HBA : Hid (Below w.heap.size w (w.alloc (.cells #[.slice (some ⟨b, o, none⟩) 4 c] 55))) := Lib.hid ((Below.refl _ w).alloc (Nat.le_refl _) _)
  have HTB : Hid (tb < w.heap.size) := Lib.hid h.1.lt
  have HBB := Lib.hid hB
  have HLEN : Hid (D.length ≤ 12) := Lib.hid (by rw [h.len]; exact h.2.2.2.2.1)
  have HCS := Lib.hid h.2.2.1
  have hq1 := World.block_lt_of_cell? w _ q1
  have hq2 := World.block_lt_of_cell? w _ q2
  have hq3 := World.block_lt_of_cell? w _ q3
  have HU : Hid (∀ W, Below (w.alloc (.cells #[.slice (some ⟨b, o, none⟩) 4 c] 55)).heap.size (w.alloc (.cells #[.slice (some ⟨b, o, none⟩) 4 c] 55)) W → Below w.heap.size w W ∧ W.cell? ⟨w.heap.size, 0, none⟩ = some (.slice (some ⟨b, o, none⟩) 4 c) ∧ W.cell? ⟨b, o + 1, none⟩ = some (.string a) ∧ W.cell? ⟨b, o + 2, none⟩ = some (.string t) ∧ W.cell? ⟨b, o + 3, none⟩ = some (.string ⟨#[114]⟩) ∧ RD W B tb SV CV p D) := Lib.hid (fun W hW => ⟨HBA.out.trans (hW.mono HBA.out.size), (bx_alloc w #[.slice (some ⟨b, o, none⟩) 4 c] 55 |>.below hW).cell 0, ((HBA.out.trans (hW.mono HBA.out.size)).cell (p := ⟨b, _, none⟩) hq1).trans q1, ((HBA.out.trans (hW.mono HBA.out.size)).cell (p := ⟨b, _, none⟩) hq2).trans q2, ((HBA.out.trans (hW.mono HBA.out.size)).cell (p := ⟨b, _, none⟩) hq3).trans q3, h.below (HBA.out.trans (hW.mono HBA.out.size))⟩)
  have H75a := Lib.hid (c28 a (by omega))
  have H78a := Lib.hid (c72 a (by omega))
  have H75t := Lib.hid (c28 t (by omega))
  have H78t := Lib.hid (c72 t (by omega))
  have H79 : Hid (∀ s W, Below w.heap.size w W → _) := Lib.hid (fun s W hW => n79 s W B tb SV CV p D (h.below hW))
  have HB0 : Hid (Below (w.alloc (.cells #[.slice (some ⟨b, o, none⟩) 4 c] 55)).heap.size (w.alloc (.cells #[.slice (some ⟨b, o, none⟩) 4 c] 55)) (w.alloc (.cells #[.slice (some ⟨b, o, none⟩) 4 c] 55))) := Lib.hid (Below.refl _ _)
  obtain ⟨-, s0, r1, r2, r3, hr⟩ := HU.out _ HB0.out
  have HR0 := Lib.hid hr
  clear hr
  clear q1 hq1 q2 hq2 q3 hq3 hB
  have HSM := Lib.hid hsm
  rw [hna] at H75a
  rw [hnt] at H75t
  have HSL : Hid (p.ss.length ≤ 400) := Lib.hid (by have := h.2.2.2.2.2; omega)
  obtain ⟨AS, cs, hsv, _⟩ := own_slice h.2.1.1
  subst hsv
  have HFS : Hid (∀ W, Below (w.alloc (.cells #[.slice (some ⟨b, o, none⟩) 4 c] 55)).heap.size (w.alloc (.cells #[.slice (some ⟨b, o, none⟩) 4 c] 55)) W → Calls Tryz.prog 91 #[.slice AS p.ss.length cs, .func (.func 92) #[] #[.pointer (some ⟨w.heap.size, 0, none⟩)]] W fun e w' => e = .returned (.int .i64 (atI (fnd (fun x => decide (x.1 = t)) p.ss))) ∧ Below W.heap.size W w') := Lib.hid (fun W hW => find_Ss (fun x => decide (x.1 = t)) 92 w.heap.size AS cs p.ss W B (HR0.out.below hW).2.1.1 HSL.out ent_92 (fun y hy W' hW' => by
    have hU1 := HU.out W' (hW.trans (hW'.mono hW.size))
    exact clo_92 y w.heap.size W' 4 c b o t (by omega) hU1.2.1 hU1.2.2.2.1))
  generalize hzs : fnd (fun x : ByteArray × Nat => decide (x.1 = t)) p.ss = os at HFS
  cases hfa : fnd (byName a) p.cs with
  | none =>
    have HX : Hid (giveV p a t kR = (6, p)) := Lib.hid (by unfold giveV; rw [if_pos (show nameB a = true ∧ nameB t = true ∧ (kR = kR ∨ kR = kRw) from ⟨hna, hnt, by first | exact Or.inl rfl | exact Or.inr rfl⟩), hfa])
    clear hna hnt h hzs
    go_enter Tryz.func45, Tryz.ntmps45
    go_wp2_with fail
    with_reducible refine (H75a.out _).mono ?_
    rintro _ wx ⟨rfl, rfl⟩
    go_wp2_with fail
    with_reducible refine (H75t.out _).mono ?_
    rintro _ wx ⟨rfl, rfl⟩
    go_wp2_with fail
    with_reducible refine (H79.out a _ (HU.out _ HB0.out).1).mono ?_
    rintro _ w1 hh
    rw [hfa] at hh
    obtain ⟨rfl, hb⟩ := hh
    have HB1 : Hid (Below (w.alloc (.cells #[.slice (some ⟨b, o, none⟩) 4 c] 55)).heap.size (w.alloc (.cells #[.slice (some ⟨b, o, none⟩) 4 c] 55)) w1) := Lib.hid (HB0.out.trans (hb.mono HB0.out.size))
    clear hb
    obtain ⟨-, s0, r1, r2, r3, hr⟩ := HU.out _ HB1.out
    have HR1 := Lib.hid hr
    clear hr
    have p2 := HR1.out.1.cell 2
    simp at p2
    go_wp2_with fail
    with_reducible refine (HFS.out _ HB1.out).mono ?_
    rintro _ w2 ⟨rfl, hb⟩
    have HB2 : Hid (Below (w.alloc (.cells #[.slice (some ⟨b, o, none⟩) 4 c] 55)).heap.size (w.alloc (.cells #[.slice (some ⟨b, o, none⟩) 4 c] 55)) w2) := Lib.hid (HB1.out.trans (hb.mono HB1.out.size))
    clear hb
    obtain ⟨-, s0, r1, r2, r3, hr⟩ := HU.out _ HB2.out
    have HR2 := Lib.hid hr
    clear hr
    go_wp2_with fail
    go_ret
    rw [HX.out]
    exact lq_err (k := 5) (p := p) rfl ((HU.out _ HB2.out).1.alloc (HU.out _ HB2.out).1.size _) HTB.out HBB.out
  | some k =>
    obtain ⟨hk, -, -⟩ := fnd_some hfa
    have hkD : k < D.length := by rw [h.len]; exact hk
    obtain ⟨x, hx, hxc⟩ : ∃ x, D[k]? = some x ∧ p.cs[k]? = some x.2 := ⟨D[k], List.getElem?_eq_getElem hkD, by rw [← HCS.out, List.getElem?_map, List.getElem?_eq_getElem hkD]; rfl⟩
    have HX0 := Lib.hid hx
    obtain ⟨g, cc, hce, hg, hBg, -⟩ := own_at len_cCo h.2.1.2.1 (by omega)
    subst hce
    have e1 : decide ((k : Int) < 0) = false := by simp
    have HGN : Hid (g < w.heap.size) := Lib.hid hg
    cases os with
    | none =>
      have HX : Hid (giveV p a t kR = (6, p)) := Lib.hid (by unfold giveV; rw [if_pos (show nameB a = true ∧ nameB t = true ∧ (kR = kR ∨ kR = kRw) from ⟨hna, hnt, by first | exact Or.inl rfl | exact Or.inr rfl⟩), hfa, hzs])
      change Hid (∀ W, _ → Calls Tryz.prog 91 _ _ fun e w' => e = .returned (.int .i64 (-1)) ∧ _) at HFS
      clear hna hnt h hzs hx hxc hk hkD hg hBg
      go_enter Tryz.func45, Tryz.ntmps45
      go_wp2_with fail
      with_reducible refine (H75a.out _).mono ?_
      rintro _ wx ⟨rfl, rfl⟩
      go_wp2_with fail
      with_reducible refine (H75t.out _).mono ?_
      rintro _ wx ⟨rfl, rfl⟩
      go_wp2_with fail
      with_reducible refine (H79.out a _ (HU.out _ HB0.out).1).mono ?_
      rintro _ w1 hh
      rw [hfa] at hh
      obtain ⟨⟨g', c', hce, -, -, rfl⟩, hb⟩ := hh
      cases hce
      have HB1 : Hid (Below (w.alloc (.cells #[.slice (some ⟨b, o, none⟩) 4 c] 55)).heap.size (w.alloc (.cells #[.slice (some ⟨b, o, none⟩) 4 c] 55)) w1) := Lib.hid (HB0.out.trans (hb.mono HB0.out.size))
      clear hb
      obtain ⟨-, s0, r1, r2, r3, hr⟩ := HU.out _ HB1.out
      have HR1 := Lib.hid hr
      clear hr
      have p2 := HR1.out.1.cell 2
      simp at p2
      go_wp2_with fail
      with_reducible refine (HFS.out _ HB1.out).mono ?_
      rintro _ w2 ⟨rfl, hb⟩
      have HB2 : Hid (Below (w.alloc (.cells #[.slice (some ⟨b, o, none⟩) 4 c] 55)).heap.size (w.alloc (.cells #[.slice (some ⟨b, o, none⟩) 4 c] 55)) w2) := Lib.hid (HB1.out.trans (hb.mono HB1.out.size))
      clear hb
      obtain ⟨-, s0, r1, r2, r3, hr⟩ := HU.out _ HB2.out
      have HR2 := Lib.hid hr
      clear hr
      go_wp2_with fail
      go_ret
      rw [HX.out]
      exact lq_err (k := 5) (p := p) rfl ((HU.out _ HB2.out).1.alloc (HU.out _ HB2.out).1.size _) HTB.out HBB.out
    | some d =>
      change Hid (∀ W, _ → Calls Tryz.prog 91 _ _ fun e w' => e = .returned (.int .i64 (d : Int)) ∧ _) at HFS
      have e3 : decide ((d : Int) < 0) = false := by simp
      have HX : Hid (giveV p a t kR = addV x.2.gs (d, false) (fun y => decide (y.1 = d)) 16 (fun l => upd p k { x.2 with gs := l }) p) := Lib.hid (by unfold giveV; rw [if_pos (show nameB a = true ∧ nameB t = true ∧ (kR = kR ∨ kR = kRw) from ⟨hna, hnt, by first | exact Or.inl rfl | exact Or.inr rfl⟩), hfa, hzs]; simp only [hxc, show decide (kR = kRw) = false from by decide])
      have HXC := Lib.hid hxc
      clear hna hnt h hzs hx hxc hk hkD hg hBg
      go_enter Tryz.func45, Tryz.ntmps45
      go_wp2_with fail
      with_reducible refine (H75a.out _).mono ?_
      rintro _ wx ⟨rfl, rfl⟩
      go_wp2_with fail
      with_reducible refine (H75t.out _).mono ?_
      rintro _ wx ⟨rfl, rfl⟩
      go_wp2_with fail
      with_reducible refine (H79.out a _ (HU.out _ HB0.out).1).mono ?_
      rintro _ w1 hh
      rw [hfa] at hh
      obtain ⟨⟨g', c', hce, -, -, rfl⟩, hb⟩ := hh
      cases hce
      have HB1 : Hid (Below (w.alloc (.cells #[.slice (some ⟨b, o, none⟩) 4 c] 55)).heap.size (w.alloc (.cells #[.slice (some ⟨b, o, none⟩) 4 c] 55)) w1) := Lib.hid (HB0.out.trans (hb.mono HB0.out.size))
      clear hb
      obtain ⟨-, s0, r1, r2, r3, hr⟩ := HU.out _ HB1.out
      have HR1 := Lib.hid hr
      clear hr
      have p2 := HR1.out.1.cell 2
      simp at p2
      go_wp2_with fail
      with_reducible refine (HFS.out _ HB1.out).mono ?_
      rintro _ w2 ⟨rfl, hb⟩
      have HB2 : Hid (Below (w.alloc (.cells #[.slice (some ⟨b, o, none⟩) 4 c] 55)).heap.size (w.alloc (.cells #[.slice (some ⟨b, o, none⟩) 4 c] 55)) w2) := Lib.hid (HB1.out.trans (hb.mono HB1.out.size))
      clear hb
      obtain ⟨-, s0, r1, r2, r3, hr⟩ := HU.out _ HB2.out
      have HR2 := Lib.hid hr
      clear hr
      obtain ⟨w3, hw3⟩ : ∃ w3, w2.alloc (.cells #[.int .i64 (d : Int)] 3) = w3 := ⟨_, rfl⟩
      have HB3 : Hid (Below (w.alloc (.cells #[.slice (some ⟨b, o, none⟩) 4 c] 55)).heap.size (w.alloc (.cells #[.slice (some ⟨b, o, none⟩) 4 c] 55)) w3) := Lib.hid (by rw [← hw3]; exact HB2.out.alloc HB2.out.size _)
      have HBX : Hid (Bx w3 w2.heap.size #[.int .i64 (d : Int)] 3) := Lib.hid (by rw [← hw3]; exact bx_alloc _ _ _)
      have s9 := HBX.out.cell 0
      simp at s9
      go_wp2_with fail
      have HW3 := Lib.hid hw3
      clear hw3
      obtain ⟨-, s0, r1, r2, r3, hr⟩ := HU.out _ HB3.out
      have HR3 := Lib.hid hr
      clear hr
      have HLF : Hid (x.2.gs.length ≤ 400) := Lib.hid (by have := HSM.out.2.2 x.2 (List.mem_of_getElem? HXC.out); omega)
      have HAD : Hid (∀ W, Below w3.heap.size w3 W → Calls Tryz.prog 93 #[.pointer (some ⟨g, k * 6 + 5, none⟩), .agg #[.int .i64 (d : Int), .bool false], .func (.func 94) #[] #[.pointer (some ⟨w2.heap.size, 0, none⟩)], .int .i64 16] W fun e w' => Lq tb B (addV x.2.gs (d, false) (fun y => decide (y.1 = d)) 16 (fun l => upd p k { x.2 with gs := l }) p) w e w') := Lib.hid (fun W hW => by
        have hW0 := HB3.out.trans (hW.mono HB3.out.size)
        have hU := HU.out W hW0
        have hR : RD W B tb _ _ p D := (HR0.out.below hW0)
        have hro := (hR.2.1.2.2.1 k x HX0.out).2.2.2.2
        obtain ⟨AF, cf, hfe, _⟩ := own_slice hro
        rw [hfe] at hro
        have hC := add_Gs (fun y => decide (y.1 = d)) 94 w2.heap.size AF cf x.2.gs (d, false) 16 g (k * 6 + 5) W B hro HLF.out (by omega) ent_94 (fun y hy W' hW' => by
          have hW1 := hW0.trans (hW'.mono hW0.size)
          have hU1 := HU.out W' hW1
          exact clo_94 y w2.heap.size W' d (((HBX.out.below hW).below hW').cell 0))
          (by have := hU.1.size; have := HBB.out; omega) (fun W1 W2 h1 h2 => cell_of_list (j := 5) (v := .slice AF x.2.gs.length cf) hR.2.1 HX0.out hro (by decide) (by omega) (by rw [← hfe]; rfl) h1 h2)
        rw [← hfe] at hC
        exact hC.mono fun e w' hp => addp_g hR hU.1 HTB.out HBB.out HX0.out hp)
      go_region_law (go_simp; go_at_call 93; refine (HAD.out _ (by first | exact Below.refl _ _ | exact (Below.refl _ _).drew)).mono ?_; rintro _ wz ⟨rfl, h62, h63⟩)
      all_goals
        go_wp2_with fail
        go_ret
        rw [HX.out]
        exact ⟨rfl, h62, h63⟩
set_option maxRecDepth 100000 in
set_option maxHeartbeats 8000000 in
theorem d45_w (a t : ByteArray)  (w : World) (B tb : Nat) (SV CV : Value) (p : Pm) (D : List (Sv × Co)) (h : RD w B tb SV CV p D) (hB : B ≤ w.heap.size) (hsm : Sm p) (hna : nameB a = true) (hnt : nameB t = true) (hsa : a.size ≤ 281474976710656) (hst : t.size ≤ 281474976710656) (b o c : Nat) (q1 : w.cell? ⟨b, o + 1, none⟩ = some (.string a)) (q2 : w.cell? ⟨b, o + 2, none⟩ = some (.string t)) (q3 : w.cell? ⟨b, o + 3, none⟩ = some (.string ⟨#[114, 119]⟩)) :
    Calls Tryz.prog 45 #[.pointer (some ⟨tb, 0, none⟩), .slice (some ⟨b, o, none⟩) 4 c] w fun e w' => Lq tb B (giveV p a t kRw) w e w' := by
  have HBA : Hid (Below w.heap.size w (w.alloc (.cells #[.slice (some ⟨b, o, none⟩) 4 c] 55))) := Lib.hid ((Below.refl _ w).alloc (Nat.le_refl _) _)
  have HTB : Hid (tb < w.heap.size) := Lib.hid h.1.lt
  have HBB := Lib.hid hB
  have HLEN : Hid (D.length ≤ 12) := Lib.hid (by rw [h.len]; exact h.2.2.2.2.1)
  have HCS := Lib.hid h.2.2.1
  have hq1 := World.block_lt_of_cell? w _ q1
  have hq2 := World.block_lt_of_cell? w _ q2
  have hq3 := World.block_lt_of_cell? w _ q3
  have HU : Hid (∀ W, Below (w.alloc (.cells #[.slice (some ⟨b, o, none⟩) 4 c] 55)).heap.size (w.alloc (.cells #[.slice (some ⟨b, o, none⟩) 4 c] 55)) W → Below w.heap.size w W ∧ W.cell? ⟨w.heap.size, 0, none⟩ = some (.slice (some ⟨b, o, none⟩) 4 c) ∧ W.cell? ⟨b, o + 1, none⟩ = some (.string a) ∧ W.cell? ⟨b, o + 2, none⟩ = some (.string t) ∧ W.cell? ⟨b, o + 3, none⟩ = some (.string ⟨#[114, 119]⟩) ∧ RD W B tb SV CV p D) := Lib.hid (fun W hW => ⟨HBA.out.trans (hW.mono HBA.out.size), (bx_alloc w #[.slice (some ⟨b, o, none⟩) 4 c] 55 |>.below hW).cell 0, ((HBA.out.trans (hW.mono HBA.out.size)).cell (p := ⟨b, _, none⟩) hq1).trans q1, ((HBA.out.trans (hW.mono HBA.out.size)).cell (p := ⟨b, _, none⟩) hq2).trans q2, ((HBA.out.trans (hW.mono HBA.out.size)).cell (p := ⟨b, _, none⟩) hq3).trans q3, h.below (HBA.out.trans (hW.mono HBA.out.size))⟩)
  have H75a := Lib.hid (c28 a (by omega))
  have H78a := Lib.hid (c72 a (by omega))
  have H75t := Lib.hid (c28 t (by omega))
  have H78t := Lib.hid (c72 t (by omega))
  have H79 : Hid (∀ s W, Below w.heap.size w W → _) := Lib.hid (fun s W hW => n79 s W B tb SV CV p D (h.below hW))
  have HB0 : Hid (Below (w.alloc (.cells #[.slice (some ⟨b, o, none⟩) 4 c] 55)).heap.size (w.alloc (.cells #[.slice (some ⟨b, o, none⟩) 4 c] 55)) (w.alloc (.cells #[.slice (some ⟨b, o, none⟩) 4 c] 55))) := Lib.hid (Below.refl _ _)
  obtain ⟨-, s0, r1, r2, r3, hr⟩ := HU.out _ HB0.out
  have HR0 := Lib.hid hr
  clear hr
  clear q1 hq1 q2 hq2 q3 hq3 hB
  have HSM := Lib.hid hsm
  rw [hna] at H75a
  rw [hnt] at H75t
  have HSL : Hid (p.ss.length ≤ 400) := Lib.hid (by have := h.2.2.2.2.2; omega)
  obtain ⟨AS, cs, hsv, _⟩ := own_slice h.2.1.1
  subst hsv
  have HFS : Hid (∀ W, Below (w.alloc (.cells #[.slice (some ⟨b, o, none⟩) 4 c] 55)).heap.size (w.alloc (.cells #[.slice (some ⟨b, o, none⟩) 4 c] 55)) W → Calls Tryz.prog 91 #[.slice AS p.ss.length cs, .func (.func 92) #[] #[.pointer (some ⟨w.heap.size, 0, none⟩)]] W fun e w' => e = .returned (.int .i64 (atI (fnd (fun x => decide (x.1 = t)) p.ss))) ∧ Below W.heap.size W w') := Lib.hid (fun W hW => find_Ss (fun x => decide (x.1 = t)) 92 w.heap.size AS cs p.ss W B (HR0.out.below hW).2.1.1 HSL.out ent_92 (fun y hy W' hW' => by
    have hU1 := HU.out W' (hW.trans (hW'.mono hW.size))
    exact clo_92 y w.heap.size W' 4 c b o t (by omega) hU1.2.1 hU1.2.2.2.1))
  generalize hzs : fnd (fun x : ByteArray × Nat => decide (x.1 = t)) p.ss = os at HFS
  cases hfa : fnd (byName a) p.cs with
  | none =>
    have HX : Hid (giveV p a t kRw = (6, p)) := Lib.hid (by unfold giveV; rw [if_pos (show nameB a = true ∧ nameB t = true ∧ (kRw = kR ∨ kRw = kRw) from ⟨hna, hnt, by first | exact Or.inl rfl | exact Or.inr rfl⟩), hfa])
    clear hna hnt h hzs
    go_enter Tryz.func45, Tryz.ntmps45
    go_wp2_with fail
    with_reducible refine (H75a.out _).mono ?_
    rintro _ wx ⟨rfl, rfl⟩
    go_wp2_with fail
    with_reducible refine (H75t.out _).mono ?_
    rintro _ wx ⟨rfl, rfl⟩
    go_wp2_with fail
    with_reducible refine (H79.out a _ (HU.out _ HB0.out).1).mono ?_
    rintro _ w1 hh
    rw [hfa] at hh
    obtain ⟨rfl, hb⟩ := hh
    have HB1 : Hid (Below (w.alloc (.cells #[.slice (some ⟨b, o, none⟩) 4 c] 55)).heap.size (w.alloc (.cells #[.slice (some ⟨b, o, none⟩) 4 c] 55)) w1) := Lib.hid (HB0.out.trans (hb.mono HB0.out.size))
    clear hb
    obtain ⟨-, s0, r1, r2, r3, hr⟩ := HU.out _ HB1.out
    have HR1 := Lib.hid hr
    clear hr
    have p2 := HR1.out.1.cell 2
    simp at p2
    go_wp2_with fail
    with_reducible refine (HFS.out _ HB1.out).mono ?_
    rintro _ w2 ⟨rfl, hb⟩
    have HB2 : Hid (Below (w.alloc (.cells #[.slice (some ⟨b, o, none⟩) 4 c] 55)).heap.size (w.alloc (.cells #[.slice (some ⟨b, o, none⟩) 4 c] 55)) w2) := Lib.hid (HB1.out.trans (hb.mono HB1.out.size))
    clear hb
    obtain ⟨-, s0, r1, r2, r3, hr⟩ := HU.out _ HB2.out
    have HR2 := Lib.hid hr
    clear hr
    go_wp2_with fail
    go_ret
    rw [HX.out]
    exact lq_err (k := 5) (p := p) rfl ((HU.out _ HB2.out).1.alloc (HU.out _ HB2.out).1.size _) HTB.out HBB.out
  | some k =>
    obtain ⟨hk, -, -⟩ := fnd_some hfa
    have hkD : k < D.length := by rw [h.len]; exact hk
    obtain ⟨x, hx, hxc⟩ : ∃ x, D[k]? = some x ∧ p.cs[k]? = some x.2 := ⟨D[k], List.getElem?_eq_getElem hkD, by rw [← HCS.out, List.getElem?_map, List.getElem?_eq_getElem hkD]; rfl⟩
    have HX0 := Lib.hid hx
    obtain ⟨g, cc, hce, hg, hBg, -⟩ := own_at len_cCo h.2.1.2.1 (by omega)
    subst hce
    have e1 : decide ((k : Int) < 0) = false := by simp
    have HGN : Hid (g < w.heap.size) := Lib.hid hg
    cases os with
    | none =>
      have HX : Hid (giveV p a t kRw = (6, p)) := Lib.hid (by unfold giveV; rw [if_pos (show nameB a = true ∧ nameB t = true ∧ (kRw = kR ∨ kRw = kRw) from ⟨hna, hnt, by first | exact Or.inl rfl | exact Or.inr rfl⟩), hfa, hzs])
      change Hid (∀ W, _ → Calls Tryz.prog 91 _ _ fun e w' => e = .returned (.int .i64 (-1)) ∧ _) at HFS
      clear hna hnt h hzs hx hxc hk hkD hg hBg
      go_enter Tryz.func45, Tryz.ntmps45
      go_wp2_with fail
      with_reducible refine (H75a.out _).mono ?_
      rintro _ wx ⟨rfl, rfl⟩
      go_wp2_with fail
      with_reducible refine (H75t.out _).mono ?_
      rintro _ wx ⟨rfl, rfl⟩
      go_wp2_with fail
      with_reducible refine (H79.out a _ (HU.out _ HB0.out).1).mono ?_
      rintro _ w1 hh
      rw [hfa] at hh
      obtain ⟨⟨g', c', hce, -, -, rfl⟩, hb⟩ := hh
      cases hce
      have HB1 : Hid (Below (w.alloc (.cells #[.slice (some ⟨b, o, none⟩) 4 c] 55)).heap.size (w.alloc (.cells #[.slice (some ⟨b, o, none⟩) 4 c] 55)) w1) := Lib.hid (HB0.out.trans (hb.mono HB0.out.size))
      clear hb
      obtain ⟨-, s0, r1, r2, r3, hr⟩ := HU.out _ HB1.out
      have HR1 := Lib.hid hr
      clear hr
      have p2 := HR1.out.1.cell 2
      simp at p2
      go_wp2_with fail
      with_reducible refine (HFS.out _ HB1.out).mono ?_
      rintro _ w2 ⟨rfl, hb⟩
      have HB2 : Hid (Below (w.alloc (.cells #[.slice (some ⟨b, o, none⟩) 4 c] 55)).heap.size (w.alloc (.cells #[.slice (some ⟨b, o, none⟩) 4 c] 55)) w2) := Lib.hid (HB1.out.trans (hb.mono HB1.out.size))
      clear hb
      obtain ⟨-, s0, r1, r2, r3, hr⟩ := HU.out _ HB2.out
      have HR2 := Lib.hid hr
      clear hr
      go_wp2_with fail
      go_ret
      rw [HX.out]
      exact lq_err (k := 5) (p := p) rfl ((HU.out _ HB2.out).1.alloc (HU.out _ HB2.out).1.size _) HTB.out HBB.out
    | some d =>
      change Hid (∀ W, _ → Calls Tryz.prog 91 _ _ fun e w' => e = .returned (.int .i64 (d : Int)) ∧ _) at HFS
      have e3 : decide ((d : Int) < 0) = false := by simp
      have HX : Hid (giveV p a t kRw = addV x.2.gs (d, true) (fun y => decide (y.1 = d)) 16 (fun l => upd p k { x.2 with gs := l }) p) := Lib.hid (by unfold giveV; rw [if_pos (show nameB a = true ∧ nameB t = true ∧ (kRw = kR ∨ kRw = kRw) from ⟨hna, hnt, by first | exact Or.inl rfl | exact Or.inr rfl⟩), hfa, hzs]; simp only [hxc, decide_true])
      have HXC := Lib.hid hxc
      clear hna hnt h hzs hx hxc hk hkD hg hBg
      go_enter Tryz.func45, Tryz.ntmps45
      go_wp2_with fail
      with_reducible refine (H75a.out _).mono ?_
      rintro _ wx ⟨rfl, rfl⟩
      go_wp2_with fail
      with_reducible refine (H75t.out _).mono ?_
      rintro _ wx ⟨rfl, rfl⟩
      go_wp2_with fail
      with_reducible refine (H79.out a _ (HU.out _ HB0.out).1).mono ?_
      rintro _ w1 hh
      rw [hfa] at hh
      obtain ⟨⟨g', c', hce, -, -, rfl⟩, hb⟩ := hh
      cases hce
      have HB1 : Hid (Below (w.alloc (.cells #[.slice (some ⟨b, o, none⟩) 4 c] 55)).heap.size (w.alloc (.cells #[.slice (some ⟨b, o, none⟩) 4 c] 55)) w1) := Lib.hid (HB0.out.trans (hb.mono HB0.out.size))
      clear hb
      obtain ⟨-, s0, r1, r2, r3, hr⟩ := HU.out _ HB1.out
      have HR1 := Lib.hid hr
      clear hr
      have p2 := HR1.out.1.cell 2
      simp at p2
      go_wp2_with fail
      with_reducible refine (HFS.out _ HB1.out).mono ?_
      rintro _ w2 ⟨rfl, hb⟩
      have HB2 : Hid (Below (w.alloc (.cells #[.slice (some ⟨b, o, none⟩) 4 c] 55)).heap.size (w.alloc (.cells #[.slice (some ⟨b, o, none⟩) 4 c] 55)) w2) := Lib.hid (HB1.out.trans (hb.mono HB1.out.size))
      clear hb
      obtain ⟨-, s0, r1, r2, r3, hr⟩ := HU.out _ HB2.out
      have HR2 := Lib.hid hr
      clear hr
      obtain ⟨w3, hw3⟩ : ∃ w3, w2.alloc (.cells #[.int .i64 (d : Int)] 3) = w3 := ⟨_, rfl⟩
      have HB3 : Hid (Below (w.alloc (.cells #[.slice (some ⟨b, o, none⟩) 4 c] 55)).heap.size (w.alloc (.cells #[.slice (some ⟨b, o, none⟩) 4 c] 55)) w3) := Lib.hid (by rw [← hw3]; exact HB2.out.alloc HB2.out.size _)
      have HBX : Hid (Bx w3 w2.heap.size #[.int .i64 (d : Int)] 3) := Lib.hid (by rw [← hw3]; exact bx_alloc _ _ _)
      have s9 := HBX.out.cell 0
      simp at s9
      go_wp2_with fail
      have HW3 := Lib.hid hw3
      clear hw3
      obtain ⟨-, s0, r1, r2, r3, hr⟩ := HU.out _ HB3.out
      have HR3 := Lib.hid hr
      clear hr
      have HLF : Hid (x.2.gs.length ≤ 400) := Lib.hid (by have := HSM.out.2.2 x.2 (List.mem_of_getElem? HXC.out); omega)
      have HAD : Hid (∀ W, Below w3.heap.size w3 W → Calls Tryz.prog 93 #[.pointer (some ⟨g, k * 6 + 5, none⟩), .agg #[.int .i64 (d : Int), .bool true], .func (.func 94) #[] #[.pointer (some ⟨w2.heap.size, 0, none⟩)], .int .i64 16] W fun e w' => Lq tb B (addV x.2.gs (d, true) (fun y => decide (y.1 = d)) 16 (fun l => upd p k { x.2 with gs := l }) p) w e w') := Lib.hid (fun W hW => by
        have hW0 := HB3.out.trans (hW.mono HB3.out.size)
        have hU := HU.out W hW0
        have hR : RD W B tb _ _ p D := (HR0.out.below hW0)
        have hro := (hR.2.1.2.2.1 k x HX0.out).2.2.2.2
        obtain ⟨AF, cf, hfe, _⟩ := own_slice hro
        rw [hfe] at hro
        have hC := add_Gs (fun y => decide (y.1 = d)) 94 w2.heap.size AF cf x.2.gs (d, true) 16 g (k * 6 + 5) W B hro HLF.out (by omega) ent_94 (fun y hy W' hW' => by
          have hW1 := hW0.trans (hW'.mono hW0.size)
          have hU1 := HU.out W' hW1
          exact clo_94 y w2.heap.size W' d (((HBX.out.below hW).below hW').cell 0))
          (by have := hU.1.size; have := HBB.out; omega) (fun W1 W2 h1 h2 => cell_of_list (j := 5) (v := .slice AF x.2.gs.length cf) hR.2.1 HX0.out hro (by decide) (by omega) (by rw [← hfe]; rfl) h1 h2)
        rw [← hfe] at hC
        exact hC.mono fun e w' hp => addp_g hR hU.1 HTB.out HBB.out HX0.out hp)
      go_region_law (go_simp; go_at_call 93; refine (HAD.out _ (by first | exact Below.refl _ _ | exact (Below.refl _ _).drew)).mono ?_; rintro _ wz ⟨rfl, h62, h63⟩)
      all_goals
        go_wp2_with fail
        go_ret
        rw [HX.out]
        exact ⟨rfl, h62, h63⟩
end Go.Proofs.YtapdiionikfgpaaGreatDoor
