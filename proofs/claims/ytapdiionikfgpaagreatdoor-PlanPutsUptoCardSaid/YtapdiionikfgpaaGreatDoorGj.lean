import Derived.Test.YtapdiionikfgpaaGreatDoorQdz
import Derived.Test.YtapdiionikfgpaaGreatDoorGg
import Derived.Test.YtapdiionikfgpaaGreatDoorGf
namespace Go.Proofs.YtapdiionikfgpaaGreatDoor
open Go.ChangeShapes Go.WideShapes Go.ChangeAt Go.RowKit
open Li (bb refV finV noN badN numN hexP Gl)
set_option linter.unusedVariables false
set_option linter.unusedSimpArgs false
set_option maxRecDepth 100000 in
set_option maxHeartbeats 4000000 in
/-- number -/
theorem n82 (s : ByteArray) (lo hi of : Nat) (hs : s.size ≤ 281474976710656) (hlo : lo ≤ 4294967295) (hhi : hi ≤ 4294967295) (hof : 0 < of) (hof2 : of ≤ 4294967295) (w : World) (hG : Gl w) : Calls Tryz.prog 82 #[.string s, .int .i64 (lo : Int), .int .i64 (hi : Int), .int .i64 (of : Int)] w
    fun e w' => e = .returned (.tuple #[.int .i64 (((numO s lo hi of).getD 0 : Nat) : Int), .bool (numO s lo hi of).isSome]) ∧ Below w.heap.size w w' := by
  obtain ⟨h1, h2⟩ := refV_eq s
  have H := Lib.hid (Li.c10 s hs w hG)
  rw [h1] at H
  cases hv : valO s with
  | none =>
    rw [hv] at H
    simp only [Option.getD_none, Option.isSome_none] at H
    have HN : Hid (numO s lo hi of = none) := Lib.hid (numO_none hv)
    clear h1 h2 hv hG
    go_enter Tryz.func82, Tryz.ntmps82
    go_wp2_with fail
    with_reducible refine H.out.mono ?_
    rintro _ w5 ⟨rfl, hb5⟩
    have HB5 := Lib.hid hb5
    clear hb5 H
    go_wp2_with fail
    go_ret2
    exact ⟨by rw [HN.out]; rfl, HB5.out⟩
  | some n =>
    rw [hv] at H
    simp only [Option.getD_some, Option.isSome_some] at H
    have hn : n ≤ 4294967295 := by have := h2 n hv; omega
    have HN : Hid (numO s lo hi of = if lo ≤ n ∧ n ≤ hi ∧ n % of = 0 then some n else none) := Lib.hid (numO_some hv)
    clear h1 h2 hv hG
    have hof0 : ((of : Int) == 0) = false := by simp; omega
    have hof1 : ¬ ((of : Int) = 0) := by omega
    have hw1 : IntKind.i64.wrap (n : Int) = (n : Int) := by rw [IntKind.wrap_i64]; omega
    have hw2 : IntKind.u32.wrap (of : Int) = (of : Int) := by rw [IntKind.wrap_u32]; omega
    by_cases hb1 : n < lo
    · have HB := Lib.hid (show numO s lo hi of = none by rw [HN.out, if_neg (fun h => by omega)])
      have e1 : decide ((n : Int) < (lo : Int)) = true := by simp; omega
      have e3 : decide (n < lo) = true := by simp; omega
      go_enter Tryz.func82, Tryz.ntmps82
      go_wp2_with fail
      with_reducible refine H.out.mono ?_
      rintro _ w5 ⟨rfl, hb5⟩
      have HB5 := Lib.hid hb5
      clear hb5 H
      go_wp2_with fail
      go_ret2
      exact ⟨by rw [HB.out]; rfl, HB5.out⟩
    have e1 : decide ((n : Int) < (lo : Int)) = false := by simp; omega
    have e3 : decide (n < lo) = false := by simp; omega
    by_cases hb2 : hi < n
    · have HB := Lib.hid (show numO s lo hi of = none by rw [HN.out, if_neg (fun h => by omega)])
      have e2 : decide ((hi : Int) < (n : Int)) = true := by simp; omega
      have e4 : decide (hi < n) = true := by simp; omega
      go_enter Tryz.func82, Tryz.ntmps82
      go_wp2_with fail
      with_reducible refine H.out.mono ?_
      rintro _ w5 ⟨rfl, hb5⟩
      have HB5 := Lib.hid hb5
      clear hb5 H
      go_wp2_with fail
      go_ret2
      exact ⟨by rw [HB.out]; rfl, HB5.out⟩
    have e2 : decide ((hi : Int) < (n : Int)) = false := by simp; omega
    have e4 : decide (hi < n) = false := by simp; omega
    by_cases hm : n % of = 0
    · have HB := Lib.hid (show numO s lo hi of = some n by rw [HN.out, if_pos ⟨by omega, by omega, hm⟩])
      have hm' : (n : Int) % (of : Int) = 0 := by omega
      go_enter Tryz.func82, Tryz.ntmps82
      go_wp2_with fail
      with_reducible refine H.out.mono ?_
      rintro _ w5 ⟨rfl, hb5⟩
      have HB5 := Lib.hid hb5
      clear hb5 H
      go_wp2_with fail
      go_ret2
      exact ⟨by rw [HB.out]; rfl, HB5.out⟩
    · have HB := Lib.hid (show numO s lo hi of = none by rw [HN.out, if_neg (fun h => hm h.2.2)])
      obtain ⟨r, hr⟩ : ∃ r, (n : Int) % (of : Int) = r := ⟨_, rfl⟩
      have hr0 : (r != 0) = true := by simp; omega
      clear hb1 hb2 hm
      go_enter Tryz.func82, Tryz.ntmps82
      go_wp2_with fail
      with_reducible refine H.out.mono ?_
      rintro _ w5 ⟨rfl, hb5⟩
      have HB5 := Lib.hid hb5
      clear hb5 H
      go_wp2_with fail
      go_ret2
      exact ⟨by rw [HB.out]; rfl, HB5.out⟩
set_option maxRecDepth 100000 in
set_option maxHeartbeats 4000000 in
/-- the compartment of a name -/
theorem n79 (s : ByteArray) (w : World) (B tb : Nat) (SV CV : Value) (p : Pm) (D : List (Sv × Co)) (h : RD w B tb SV CV p D) : Calls Tryz.prog 79 #[.pointer (some ⟨tb, 0, none⟩), .string s] w
    fun e w' => (match fnd (byName s) p.cs with
      | none => e = .returned (.tuple #[.pointer none, .int .i64 (-1)])
      | some k => ∃ g c, CV = .slice (some ⟨g, 0, none⟩) D.length c ∧ g < w.heap.size ∧ k < D.length ∧ e = .returned (.tuple #[.pointer (some ⟨g, k * 6, none⟩), .int .i64 (k : Int)])) ∧ Below w.heap.size w w' := by
  have HBA : Hid (Below w.heap.size w (w.alloc (.cells #[.string s] 9))) := Lib.hid ((Below.refl _ w).alloc (Nat.le_refl _) _)
  have HRD : Hid (∀ W, Below w.heap.size w W → RD W B tb SV CV p D) := Lib.hid (fun W hW => h.below hW)
  have hS0 : (w.alloc (.cells #[.string s] 9)).cell? ⟨w.heap.size, 0, none⟩ = some (.string s) := (show Bx (w.alloc (.cells #[.string s] 9)) w.heap.size #[.string s] 9 from heap_alloc_new w _).cell 0
  have HLEN : Hid (D.length ≤ 12) := Lib.hid (by rw [h.len]; exact h.2.2.2.2.1)
  have HIS := Lib.hid (plin_isS h.2.1)
  obtain ⟨A, c, hcv, _⟩ := own_slice h.2.1.2.1
  have HCV := Lib.hid hcv
  have HRO : Hid (∀ W, Below w.heap.size w W → W.ownsRow B 48 6 (.slice A D.length c) D.length (D.flatMap cCo)) := Lib.hid (fun W hW => by rw [← hcv]; exact (h.below hW).2.1.2.1)
  have HFI := Lib.hid (find_Co (fun x => byName s x.2) 118 w.heap.size A c D (w.alloc (.cells #[.string s] 9)) B (HRO.out _ HBA.out) (by have := HLEN.out; omega) HIS.out ent_118 (fun x hx W hW => clo_118 x w.heap.size W s ((hW.cell (p := ⟨w.heap.size, 0, none⟩) (World.block_lt_of_cell? _ _ hS0)).trans hS0)))
  have HF : Hid (fnd (fun x : Sv × Co => byName s x.2) D = fnd (byName s) p.cs) := Lib.hid (by rw [← h.2.2.1, fnd_map])
  rw [HF.out] at HFI
  have p3 := (HRD.out _ HBA.out).1.cell 3
  simp [hcv] at p3
  cases hf : fnd (byName s) p.cs with
  | none =>
    rw [hf] at HFI
    change Hid (Calls Tryz.prog 117 _ _ fun e w' => e = .returned (.int .i64 (-1)) ∧ _) at HFI
    clear hf h hcv hS0
    go_enter Tryz.func79, Tryz.ntmps79
    go_wp2_with fail
    with_reducible refine HFI.out.mono ?_
    rintro _ w5 ⟨rfl, hb5⟩
    have HB5 : Hid (Below w.heap.size w w5) := Lib.hid (HBA.out.trans (hb5.mono HBA.out.size))
    clear hb5 HFI
    go_wp2_with fail
    go_ret2
    exact ⟨rfl, HB5.out⟩
  | some k =>
    rw [hf] at HFI
    change Hid (Calls Tryz.prog 117 _ _ fun e w' => e = .returned (.int .i64 (k : Int)) ∧ _) at HFI
    have hk : k < D.length := by
      obtain ⟨hk, -, -⟩ := fnd_some hf
      rw [h.len]; exact hk
    obtain ⟨g, c', hce, hg, hBg, -⟩ := own_at len_cCo (HRO.out w (Below.refl _ _)) (by omega)
    cases hce
    have hkn : (k : Int) < (D.length : Int) := by omega
    have hkw : IntKind.i64.wrap (k : Int) = (k : Int) := by rw [IntKind.wrap_i64]; have := HLEN.out; omega
    have HG := Lib.hid hg
    have HK := Lib.hid hk
    clear hf h hcv hS0 hBg hg hk
    go_enter Tryz.func79, Tryz.ntmps79
    go_wp2_with fail
    with_reducible refine HFI.out.mono ?_
    rintro _ w5 ⟨rfl, hb5⟩
    have HB5 : Hid (Below w.heap.size w w5) := Lib.hid (HBA.out.trans (hb5.mono HBA.out.size))
    have p5 := (HRD.out _ HB5.out).1.cell 3
    simp [HCV.out] at p5
    clear hb5 HFI
    go_wp2_with fail
    go_ret2
    exact ⟨⟨g, c, HCV.out, HG.out, HK.out, rfl⟩, HB5.out⟩
end Go.Proofs.YtapdiionikfgpaaGreatDoor
namespace Go.Proofs.YtapdiionikfgpaaGreatDoor
open Go.ChangeShapes Go.WideShapes Go.ChangeAt Go.RowKit
open Li (Gl)
set_option linter.unusedVariables false
set_option linter.unusedSimpArgs false
theorem bx_alloc (w : World) (cs : Array Value) (t : Nat) : Bx (w.alloc (.cells cs t)) w.heap.size cs t := heap_alloc_new w _
theorem lit_no2 {u v : ByteArray} {l : List UInt8} (hv : v.toList = l) (h : u ≠ v) : (u.toList == l) = false ∧ ¬ u.toList = l := by
  have h1 : (u.toList == v.toList) = false := by rw [bs_eq]; exact decide_eq_false h
  rw [hv] at h1
  exact ⟨h1, by simpa using h1⟩
noncomputable def compV (p : Pm) (a : ByteArray) : Nat × Pm := if nameB a = true then addV p.cs (Co.new a) (byName a) 12 (fun l => { p with cs := l }) p else (5, p)
set_option maxRecDepth 100000 in
set_option maxHeartbeats 4000000 in
theorem d39 (a : ByteArray) (w : World) (B tb : Nat) (SV CV : Value) (p : Pm) (D : List (Sv × Co)) (h : RD w B tb SV CV p D) (hB : B ≤ w.heap.size) (hs : a.size ≤ 281474976710656) (b o c : Nat) (q1 : w.cell? ⟨b, o + 1, none⟩ = some (.string a)) :
    Calls Tryz.prog 39 #[.pointer (some ⟨tb, 0, none⟩), .slice (some ⟨b, o, none⟩) 2 c] w fun e w' => Lq tb B (compV p a) w e w' := by
  have HBA : Hid (Below w.heap.size w (w.alloc (.cells #[.slice (some ⟨b, o, none⟩) 2 c] 55))) := Lib.hid ((Below.refl _ w).alloc (Nat.le_refl _) _)
  have HTB : Hid (tb < w.heap.size) := Lib.hid h.1.lt
  have HBB0 := Lib.hid hB
  have HBX := Lib.hid (bx_alloc w #[.slice (some ⟨b, o, none⟩) 2 c] 55)
  have HRD : Hid (∀ W, Below w.heap.size w W → RD W B tb SV CV p D) := Lib.hid (fun W hW => h.below hW)
  have hq1 := World.block_lt_of_cell? w _ q1
  have HQ1 : Hid (∀ W, Below w.heap.size w W → W.cell? ⟨b, o + 1, none⟩ = some (.string a)) := Lib.hid (fun W hW => (hW.cell (p := ⟨b, _, none⟩) hq1).trans q1)
  have H75 := Lib.hid (c28 a (by omega))
  have r1 := HQ1.out _ HBA.out
  have s0 := HBX.out.cell 0
  simp at s0
  obtain ⟨z, hnm⟩ : ∃ z, nameB a = z := ⟨_, rfl⟩
  cases z
  · rw [hnm] at H75
    have HX : Hid (compV p a = (5, p)) := Lib.hid (by unfold compV; rw [if_neg (by rw [hnm]; simp)])
    clear hnm h hB hs hq1 q1
    go_enter Tryz.func39, Tryz.ntmps39
    go_wp2_with fail
    with_reducible refine (H75.out _).mono ?_
    rintro _ w5 ⟨rfl, rfl⟩
    go_wp2_with fail
    go_ret
    rw [HX.out]
    exact lq_err (k := 4) (p := p) rfl HBA.out HTB.out HBB0.out
  · rw [hnm] at H75
    have HX : Hid (compV p a = addV p.cs (Co.new a) (byName a) 12 (fun l => { p with cs := l }) p) := Lib.hid (by unfold compV; rw [if_pos hnm])
    obtain ⟨A, cc, hcv, _⟩ := own_slice h.2.1.2.1
    subst hcv
    have HBB := Lib.hid hB
    have HAD : Hid (∀ W, Below (w.alloc (.cells #[.slice (some ⟨b, o, none⟩) 2 c] 55)).heap.size (w.alloc (.cells #[.slice (some ⟨b, o, none⟩) 2 c] 55)) W → Calls Tryz.prog 76 #[.pointer (some ⟨tb, 3, none⟩), .agg #[.string a, .slice none 0 0, .slice none 0 0, .slice none 0 0, .slice none 0 0, .slice none 0 0], .func (.func 77) #[] #[.pointer (some ⟨w.heap.size, 0, none⟩)], .int .i64 12] W fun e w' => Lq tb B (addV p.cs (Co.new a) (byName a) 12 (fun l => { p with cs := l }) p) w e w') := Lib.hid (fun W hW => by
      have hWw := HBA.out.trans (hW.mono HBA.out.size)
      have hR := HRD.out W hWw
      have hC := add_Co (fun x => byName a x.2) 77 w.heap.size A cc D a 12 tb 3 W B hR.2.1.2.1 (by rw [hR.len]; have := hR.2.2.2.2.1; omega) (by omega) (plin_isS hR.2.1) ent_77
        (fun x hx W' hW' => clo_77 x w.heap.size W' 2 c b o a (by omega) (((HBX.out.below hW).below hW').cell 0) (HQ1.out _ (hWw.trans (hW'.mono hWw.size))))
        (by have := hWw.size; have := HBB.out; omega) (fun W1 W2 h1 h2 => cell_of_top hR.1 hR.2.1.2.1 (by decide) rfl h1 h2)
      have hf : (fnd (fun x : Sv × Co => byName a x.2) D).isSome = (fnd (byName a) p.cs).isSome := by rw [← hR.2.2.1, fnd_map]
      rw [hf] at hC
      exact hC.mono fun e w' hp => addp_comp hR hWw HTB.out HBB.out hp)
    clear hnm h hB hs hq1 q1
    go_enter Tryz.func39, Tryz.ntmps39
    go_wp2_with fail
    with_reducible refine (H75.out _).mono ?_
    rintro _ w5 ⟨rfl, rfl⟩
    go_wp2_with fail
    go_region_law (go_simp; go_at_call 76; refine (HAD.out _ (by first | exact Below.refl _ _ | exact (Below.refl _ _).drew)).mono ?_; rintro _ w6 ⟨rfl, h62, h63⟩)
    all_goals
      go_wp2_with fail
      go_ret
      rw [HX.out]
      exact ⟨rfl, h62, h63⟩
set_option maxRecDepth 100000 in
set_option maxHeartbeats 8000000 in
theorem d44 (a t : ByteArray) (o1 : Option Nat) (ho1 : numO t 1 4096 1 = o1) (w : World) (B tb : Nat) (SV CV : Value) (p : Pm) (D : List (Sv × Co)) (h : RD w B tb SV CV p D) (hB : B ≤ w.heap.size) (hG : Gl w) (hsa : a.size ≤ 281474976710656) (hst : t.size ≤ 281474976710656) (b o c : Nat) (q1 : w.cell? ⟨b, o + 1, none⟩ = some (.string a)) (q2 : w.cell? ⟨b, o + 2, none⟩ = some (.string t)) :
    Calls Tryz.prog 44 #[.pointer (some ⟨tb, 0, none⟩), .slice (some ⟨b, o, none⟩) 3 c] w fun e w' => Lq tb B (shareO o1 p a) w e w' := by
  have HBA : Hid (Below w.heap.size w (w.alloc (.cells #[.slice (some ⟨b, o, none⟩) 3 c] 55))) := Lib.hid ((Below.refl _ w).alloc (Nat.le_refl _) _)
  have HTB : Hid (tb < w.heap.size) := Lib.hid h.1.lt
  have HBB := Lib.hid hB
  have HLEN : Hid (D.length ≤ 12) := Lib.hid (by rw [h.len]; exact h.2.2.2.2.1)
  have HCS := Lib.hid h.2.2.1
  have hq1 := World.block_lt_of_cell? w _ q1
  have hq2 := World.block_lt_of_cell? w _ q2
  have HU : Hid (∀ W, Below (w.alloc (.cells #[.slice (some ⟨b, o, none⟩) 3 c] 55)).heap.size (w.alloc (.cells #[.slice (some ⟨b, o, none⟩) 3 c] 55)) W → Below w.heap.size w W ∧ W.cell? ⟨w.heap.size, 0, none⟩ = some (.slice (some ⟨b, o, none⟩) 3 c) ∧ W.cell? ⟨b, o + 1, none⟩ = some (.string a) ∧ W.cell? ⟨b, o + 2, none⟩ = some (.string t) ∧ RD W B tb SV CV p D) := Lib.hid (fun W hW => ⟨HBA.out.trans (hW.mono HBA.out.size), (bx_alloc w #[.slice (some ⟨b, o, none⟩) 3 c] 55 |>.below hW).cell 0, ((HBA.out.trans (hW.mono HBA.out.size)).cell (p := ⟨b, _, none⟩) hq1).trans q1, ((HBA.out.trans (hW.mono HBA.out.size)).cell (p := ⟨b, _, none⟩) hq2).trans q2, h.below (HBA.out.trans (hW.mono HBA.out.size))⟩)
  have H75a := Lib.hid (c28 a (by omega))
  have H78a := Lib.hid (c72 a (by omega))
  have H75t := Lib.hid (c28 t (by omega))
  have H78t := Lib.hid (c72 t (by omega))
  have H82o1 : Hid (∀ W, Below w.heap.size w W → Calls Tryz.prog 82 #[.string t, .int .i64 1, .int .i64 4096, .int .i64 1] W fun e w' => e = .returned (.tuple #[.int .i64 ((o1.getD 0 : Nat) : Int), .bool o1.isSome]) ∧ Below W.heap.size W w') := Lib.hid (fun W hW => by rw [← ho1]; exact n82 t 1 4096 1 hst (by omega) (by omega) (by omega) (by omega) W (hG.below hW))
  have H79 : Hid (∀ s W, Below w.heap.size w W → _) := Lib.hid (fun s W hW => n79 s W B tb SV CV p D (h.below hW))
  have HB0 : Hid (Below (w.alloc (.cells #[.slice (some ⟨b, o, none⟩) 3 c] 55)).heap.size (w.alloc (.cells #[.slice (some ⟨b, o, none⟩) 3 c] 55)) (w.alloc (.cells #[.slice (some ⟨b, o, none⟩) 3 c] 55))) := Lib.hid (Below.refl _ _)
  obtain ⟨-, s0, r1, r2, hr⟩ := HU.out _ HB0.out
  have HR0 := Lib.hid hr
  clear hr
  clear q1 hq1 q2 hq2 hB hG
  cases hna : nameB a
  · rw [hna] at H75a
    have HX : Hid (shareO o1 p a = (5, p)) := Lib.hid (by unfold shareO; split <;> first | rfl | rw [if_neg (by rw [hna]; simp)])
    clear hna h
    go_enter Tryz.func44, Tryz.ntmps44
    go_wp2_with fail
    with_reducible refine (H82o1.out _ (HU.out _ HB0.out).1).mono ?_
    rintro _ w1 ⟨rfl, hb⟩
    have HB1 : Hid (Below (w.alloc (.cells #[.slice (some ⟨b, o, none⟩) 3 c] 55)).heap.size (w.alloc (.cells #[.slice (some ⟨b, o, none⟩) 3 c] 55)) w1) := Lib.hid (HB0.out.trans (hb.mono HB0.out.size))
    clear hb
    obtain ⟨-, s0, r1, r2, hr⟩ := HU.out _ HB1.out
    have HR1 := Lib.hid hr
    clear hr
    go_wp2_with fail
    with_reducible refine (H75a.out _).mono ?_
    rintro _ wx ⟨rfl, rfl⟩
    go_wp2_with fail
    go_ret
    rw [HX.out]
    exact lq_err (k := 4) (p := p) rfl (HU.out _ HB1.out).1 HTB.out HBB.out
  rw [hna] at H75a
  cases o1 with
  | none =>
    simp only [Option.getD_none, Option.isSome_none] at H82o1
    have HX : Hid (shareO none p a = (5, p)) := Lib.hid (by rfl)
    clear hna h
    go_enter Tryz.func44, Tryz.ntmps44
    go_wp2_with fail
    with_reducible refine (H82o1.out _ (HU.out _ HB0.out).1).mono ?_
    rintro _ w1 ⟨rfl, hb⟩
    have HB1 : Hid (Below (w.alloc (.cells #[.slice (some ⟨b, o, none⟩) 3 c] 55)).heap.size (w.alloc (.cells #[.slice (some ⟨b, o, none⟩) 3 c] 55)) w1) := Lib.hid (HB0.out.trans (hb.mono HB0.out.size))
    clear hb
    obtain ⟨-, s0, r1, r2, hr⟩ := HU.out _ HB1.out
    have HR1 := Lib.hid hr
    clear hr
    go_wp2_with fail
    with_reducible refine (H75a.out _).mono ?_
    rintro _ wx ⟨rfl, rfl⟩
    go_wp2_with fail
    go_ret
    rw [HX.out]
    exact lq_err (k := 4) (p := p) rfl (HU.out _ HB1.out).1 HTB.out HBB.out
  | some n =>
    simp only [Option.getD_some, Option.isSome_some] at H82o1
    have HX : Hid (shareO (some n) p a = addV p.ss (a, n) (fun y => decide (y.1 = a)) 8 (fun l => { p with ss := l }) p) := Lib.hid (by unfold shareO; simp only [hna, if_true])
    have HSL : Hid (p.ss.length ≤ 400) := Lib.hid (by have := h.2.2.2.2.2; omega)
    clear hna h
    go_enter Tryz.func44, Tryz.ntmps44
    go_wp2_with fail
    with_reducible refine (H82o1.out _ (HU.out _ HB0.out).1).mono ?_
    rintro _ w1 ⟨rfl, hb⟩
    have HB1 : Hid (Below (w.alloc (.cells #[.slice (some ⟨b, o, none⟩) 3 c] 55)).heap.size (w.alloc (.cells #[.slice (some ⟨b, o, none⟩) 3 c] 55)) w1) := Lib.hid (HB0.out.trans (hb.mono HB0.out.size))
    clear hb
    obtain ⟨-, s0, r1, r2, hr⟩ := HU.out _ HB1.out
    have HR1 := Lib.hid hr
    clear hr
    go_wp2_with fail
    with_reducible refine (H75a.out _).mono ?_
    rintro _ wx ⟨rfl, rfl⟩
    go_wp2_with fail
    have HAD : Hid (∀ W, Below w1.heap.size w1 W → Calls Tryz.prog 89 #[.pointer (some ⟨tb, 2, none⟩), .agg #[.string a, .int .i64 (n : Int)], .func (.func 90) #[] #[.pointer (some ⟨w.heap.size, 0, none⟩)], .int .i64 8] W fun e w' => Lq tb B (addV p.ss (a, n) (fun y => decide (y.1 = a)) 8 (fun l => { p with ss := l }) p) w e w') := Lib.hid (fun W hW => by
      have hW0 := HB1.out.trans (hW.mono HB1.out.size)
      have hU := HU.out W hW0
      have hR : RD W B tb SV CV p D := HR0.out.below hW0
      have hro := hR.2.1.1
      obtain ⟨AF, cf, hfe, _⟩ := own_slice hro
      rw [hfe] at hro
      have hC := add_Ss (fun y => decide (y.1 = a)) 90 w.heap.size AF cf p.ss (a, n) 8 tb 2 W B hro HSL.out (by omega) ent_90 (fun y hy W' hW' => by
        have hU1 := HU.out W' (hW0.trans (hW'.mono hW0.size))
        exact clo_90 y w.heap.size W' 3 c b o a (by omega) hU1.2.1 hU1.2.2.1)
        (by have := hU.1.size; have := HBB.out; omega) (fun W1 W2 h1 h2 => cell_of_top hR.1 hro (by decide) (by rw [← hfe]; rfl) h1 h2)
      rw [← hfe] at hC
      exact hC.mono fun e w' hp => addp_share hR hU.1 HTB.out HBB.out hp)
    go_region_law (go_simp; go_at_call 89; refine (HAD.out _ (by first | exact Below.refl _ _ | exact (Below.refl _ _).drew)).mono ?_; rintro _ wz ⟨rfl, h62, h63⟩)
    all_goals
      go_wp2_with fail
      go_ret
      rw [HX.out]
      exact ⟨rfl, h62, h63⟩
end Go.Proofs.YtapdiionikfgpaaGreatDoor
namespace Go.Proofs.YtapdiionikfgpaaGreatDoor
open Go.ChangeShapes Go.WideShapes Go.ChangeAt Go.RowKit
open Li (Gl)
set_option linter.unusedVariables false
set_option linter.unusedSimpArgs false
set_option maxRecDepth 100000 in
set_option maxHeartbeats 4000000 in
theorem d74 (s : ByteArray) (lo hi of old tb j : Nat) (on : Option Nat) (w : World)
    (H : ∀ W, Below w.heap.size w W → Calls Tryz.prog 82 #[.string s, .int .i64 (lo : Int), .int .i64 (hi : Int), .int .i64 (of : Int)] W fun e w' => e = .returned (.tuple #[.int .i64 ((on.getD 0 : Nat) : Int), .bool on.isSome]) ∧ Below W.heap.size W w')
    (hp : ∀ W, Below w.heap.size w W → W.cell? ⟨tb, j, none⟩ = some (.int .i64 (old : Int)) ∧ W.frozen? ⟨tb, j, none⟩ = false) :
    Calls Tryz.prog 74 #[.pointer (some ⟨tb, j, none⟩), .string s, .int .i64 (lo : Int), .int .i64 (hi : Int), .int .i64 (of : Int)] w fun e w' => ∃ W, Below w.heap.size w W ∧
      ((on = none ∧ e = .returned (.int .i64 5) ∧ w' = W) ∨ (∃ n, on = some n ∧ ((old ≠ 0 ∧ e = .returned (.int .i64 7) ∧ w' = W) ∨ (old = 0 ∧ e = .returned (.int .i64 0) ∧ w' = W.setCell ⟨tb, j, none⟩ (.int .i64 (n : Int)))))) := by
  have HH := Lib.hid (H w (Below.refl _ _))
  have HP := Lib.hid hp
  clear H hp
  cases on with
  | none =>
    simp only [Option.getD_none, Option.isSome_none] at HH
    go_enter Tryz.func74, Tryz.ntmps74
    go_wp2_with fail
    with_reducible refine HH.out.mono ?_
    rintro _ w1 ⟨rfl, hb⟩
    have HB := Lib.hid hb
    clear hb
    go_wp2_with fail
    go_ret
    exact ⟨_, HB.out, Or.inl ⟨by first | rfl | trivial, rfl, rfl⟩⟩
  | some n =>
    simp only [Option.getD_some, Option.isSome_some] at HH
    by_cases ho : old = 0
    · have e1 : ((old : Int) != 0) = false := by simp; omega
      go_enter Tryz.func74, Tryz.ntmps74
      go_wp2_with fail
      with_reducible refine HH.out.mono ?_
      rintro _ w1 ⟨rfl, hb⟩
      obtain ⟨p0, p1⟩ := HP.out _ hb
      have HB := Lib.hid hb
      have HO := Lib.hid ho
      clear hb ho
      go_wp2_with fail
      go_ret
      exact ⟨_, HB.out, Or.inr ⟨n, by first | rfl | trivial, Or.inr ⟨HO.out, rfl, rfl⟩⟩⟩
    · have e1 : ((old : Int) != 0) = true := by simp; omega
      go_enter Tryz.func74, Tryz.ntmps74
      go_wp2_with fail
      with_reducible refine HH.out.mono ?_
      rintro _ w1 ⟨rfl, hb⟩
      obtain ⟨p0, p1⟩ := HP.out _ hb
      have HB := Lib.hid hb
      have HO := Lib.hid ho
      clear hb ho
      go_wp2_with fail
      go_ret
      exact ⟨_, HB.out, Or.inr ⟨n, by first | rfl | trivial, Or.inl ⟨HO.out, rfl, rfl⟩⟩⟩
theorem rd_st {W : World} {B tb n : Nat} {SV CV : Value} {p : Pm} {D : List (Sv × Co)} (h : RD W B tb SV CV p D) : RD (W.setCell ⟨tb, 0, none⟩ (.int .i64 (n : Int))) B tb SV CV { p with st := n } D :=
  ⟨by simpa using h.1.set 0 (.int .i64 (n : Int)), h.2.1.off (grown_set tb 0 _) h.2.2.2.1, h.2.2⟩
set_option maxRecDepth 100000 in
set_option maxHeartbeats 4000000 in
theorem d37 (a : ByteArray) (on : Option Nat) (hon : numO a 64 4088 8 = on) (w : World) (B tb : Nat) (SV CV : Value) (p : Pm) (D : List (Sv × Co)) (h : RD w B tb SV CV p D) (hB : B ≤ w.heap.size) (hG : Gl w) (hs : a.size ≤ 281474976710656) (b o c : Nat) (q1 : w.cell? ⟨b, o + 1, none⟩ = some (.string a)) :
    Calls Tryz.prog 37 #[.pointer (some ⟨tb, 0, none⟩), .slice (some ⟨b, o, none⟩) 2 c] w fun e w' => Lq tb B (onceV p.st on (fun n => { p with st := n }) p) w e w' := by
  have HC : Hid (∀ W, Below w.heap.size w W → Calls Tryz.prog 74 #[.pointer (some ⟨tb, 0, none⟩), .string a, .int .i64 64, .int .i64 4088, .int .i64 8] W fun e w' => Lq tb B (onceV p.st on (fun n => { p with st := n }) p) w e w') := Lib.hid (fun W hW => by
    have hR := h.below hW
    have hC := d74 a 64 4088 8 p.st tb 0 on W (fun W' hW' => by rw [← hon]; exact n82 a 64 4088 8 hs (by omega) (by omega) (by omega) (by omega) W' ((hG.below hW).below hW')) (fun W' hW' => ⟨((hR.below hW').1).cell 0, ((hR.below hW').1).frz 0⟩)
    refine hC.mono ?_
    rintro e w' ⟨W1, hb1, hh⟩
    have hb0 : Below w.heap.size w W1 := hW.trans (hb1.mono hW.size)
    have htb : tb < w.heap.size := h.1.lt
    rcases hh with ⟨rfl, rfl, rfl⟩ | ⟨n, rfl, ⟨h0, rfl, rfl⟩ | ⟨h0, rfl, rfl⟩⟩
    · exact lq_err (k := 4) (p := p) rfl hb0 htb hB
    · exact lq_err (k := 6) (p := p) (by unfold onceV; simp only; rw [if_pos h0]) hb0 htb hB
    · have hv : onceV p.st (some n) (fun n => ({ p with st := n } : Pm)) p = (0, { p with st := n }) := by unfold onceV; simp only; rw [if_neg (by omega)]
      rw [hv]
      exact ⟨rfl, tb_set (hb0.mono (Nat.le_of_lt htb)), fun h => absurd rfl h, fun j h1 h2 => by rw [Below.heap_setCell _ _ _ _ (by show j ≠ tb; omega), hb0.block j (by omega)], fun _ => ⟨SV, CV, D, rd_st (hR.below hb1)⟩⟩)
  have r1 := q1
  have hb1 := World.block_lt_of_cell? w _ q1
  clear h hG hs hB
  go_enter Tryz.func37, Tryz.ntmps37
  go_wp2_with fail
  go_region_law (go_simp; go_at_call 74; refine (HC.out _ (by first | exact Below.refl _ _ | exact (Below.refl _ _).drew)).mono ?_; rintro _ wz ⟨rfl, h62, h63⟩)
  all_goals
    go_wp2_with fail
    go_ret
    exact ⟨rfl, h62, h63⟩
theorem rd_tr {W : World} {B tb n : Nat} {SV CV : Value} {p : Pm} {D : List (Sv × Co)} (h : RD W B tb SV CV p D) : RD (W.setCell ⟨tb, 1, none⟩ (.int .i64 (n : Int))) B tb SV CV { p with tr := n } D :=
  ⟨by simpa using h.1.set 1 (.int .i64 (n : Int)), h.2.1.off (grown_set tb 1 _) h.2.2.2.1, h.2.2⟩
set_option maxRecDepth 100000 in
set_option maxHeartbeats 4000000 in
theorem d38 (a : ByteArray) (on : Option Nat) (hon : numO a 1 60 1 = on) (w : World) (B tb : Nat) (SV CV : Value) (p : Pm) (D : List (Sv × Co)) (h : RD w B tb SV CV p D) (hB : B ≤ w.heap.size) (hG : Gl w) (hs : a.size ≤ 281474976710656) (b o c : Nat) (q1 : w.cell? ⟨b, o + 1, none⟩ = some (.string a)) :
    Calls Tryz.prog 38 #[.pointer (some ⟨tb, 0, none⟩), .slice (some ⟨b, o, none⟩) 2 c] w fun e w' => Lq tb B (onceV p.tr on (fun n => { p with tr := n }) p) w e w' := by
  have HC : Hid (∀ W, Below w.heap.size w W → Calls Tryz.prog 74 #[.pointer (some ⟨tb, 1, none⟩), .string a, .int .i64 1, .int .i64 60, .int .i64 1] W fun e w' => Lq tb B (onceV p.tr on (fun n => { p with tr := n }) p) w e w') := Lib.hid (fun W hW => by
    have hR := h.below hW
    have hC := d74 a 1 60 1 p.tr tb 1 on W (fun W' hW' => by rw [← hon]; exact n82 a 1 60 1 hs (by omega) (by omega) (by omega) (by omega) W' ((hG.below hW).below hW')) (fun W' hW' => ⟨((hR.below hW').1).cell 1, ((hR.below hW').1).frz 1⟩)
    refine hC.mono ?_
    rintro e w' ⟨W1, hb1, hh⟩
    have hb0 : Below w.heap.size w W1 := hW.trans (hb1.mono hW.size)
    have htb : tb < w.heap.size := h.1.lt
    rcases hh with ⟨rfl, rfl, rfl⟩ | ⟨n, rfl, ⟨h0, rfl, rfl⟩ | ⟨h0, rfl, rfl⟩⟩
    · exact lq_err (k := 4) (p := p) rfl hb0 htb hB
    · exact lq_err (k := 6) (p := p) (by unfold onceV; simp only; rw [if_pos h0]) hb0 htb hB
    · have hv : onceV p.tr (some n) (fun n => ({ p with tr := n } : Pm)) p = (0, { p with tr := n }) := by unfold onceV; simp only; rw [if_neg (by omega)]
      rw [hv]
      exact ⟨rfl, tb_set (hb0.mono (Nat.le_of_lt htb)), fun h => absurd rfl h, fun j h1 h2 => by rw [Below.heap_setCell _ _ _ _ (by show j ≠ tb; omega), hb0.block j (by omega)], fun _ => ⟨SV, CV, D, rd_tr (hR.below hb1)⟩⟩)
  have r1 := q1
  have hb1 := World.block_lt_of_cell? w _ q1
  clear h hG hs hB
  go_enter Tryz.func38, Tryz.ntmps38
  go_wp2_with fail
  go_region_law (go_simp; go_at_call 74; refine (HC.out _ (by first | exact Below.refl _ _ | exact (Below.refl _ _).drew)).mono ?_; rintro _ wz ⟨rfl, h62, h63⟩)
  all_goals
    go_wp2_with fail
    go_ret
    exact ⟨rfl, h62, h63⟩
theorem rd_start {W : World} {B tb k : Nat} {SV CV : Value} {t : ByteArray} {p : Pm} {D : List (Sv × Co)} (h : RD W B tb SV CV p D) : ∃ SV CV D, RD ((W.setCell ⟨tb, 4, none⟩ (.int .i64 (k : Int))).setCell ⟨tb, 5, none⟩ (.string t)) B tb SV CV { p with s0 := k, mn := t } D :=
  ⟨SV, CV, D, by simpa using (h.1.set 4 (.int .i64 (k : Int))).set 5 (.string t), (h.2.1.off (grown_set tb 4 _) h.2.2.2.1).off (grown_set tb 5 _) h.2.2.2.1, h.2.2⟩
set_option maxRecDepth 100000 in
set_option maxHeartbeats 8000000 in
theorem d46 (a t : ByteArray)  (w : World) (B tb : Nat) (SV CV : Value) (p : Pm) (D : List (Sv × Co)) (h : RD w B tb SV CV p D) (hB : B ≤ w.heap.size) (hsa : a.size ≤ 281474976710656) (hst2 : t.size ≤ 281474976710656) (b o c : Nat) (q1 : w.cell? ⟨b, o + 1, none⟩ = some (.string a)) (q2 : w.cell? ⟨b, o + 2, none⟩ = some (.string t)) :
    Calls Tryz.prog 46 #[.pointer (some ⟨tb, 0, none⟩), .slice (some ⟨b, o, none⟩) 3 c] w fun e w' => Lq tb B (startV p a t) w e w' := by
  have HBA : Hid (Below w.heap.size w w) := Lib.hid (Below.refl _ w)
  have HTB : Hid (tb < w.heap.size) := Lib.hid h.1.lt
  have HBB := Lib.hid hB
  have HLEN : Hid (D.length ≤ 12) := Lib.hid (by rw [h.len]; exact h.2.2.2.2.1)
  have HCS := Lib.hid h.2.2.1
  have hq1 := World.block_lt_of_cell? w _ q1
  have hq2 := World.block_lt_of_cell? w _ q2
  have HU : Hid (∀ W, Below w.heap.size w W → Below w.heap.size w W ∧ W.cell? ⟨b, o + 1, none⟩ = some (.string a) ∧ W.cell? ⟨b, o + 2, none⟩ = some (.string t) ∧ RD W B tb SV CV p D) := Lib.hid (fun W hW => ⟨HBA.out.trans (hW.mono HBA.out.size), ((HBA.out.trans (hW.mono HBA.out.size)).cell (p := ⟨b, _, none⟩) hq1).trans q1, ((HBA.out.trans (hW.mono HBA.out.size)).cell (p := ⟨b, _, none⟩) hq2).trans q2, h.below (HBA.out.trans (hW.mono HBA.out.size))⟩)
  have H75a := Lib.hid (c28 a (by omega))
  have H78a := Lib.hid (c72 a (by omega))
  have H75t := Lib.hid (c28 t (by omega))
  have H78t := Lib.hid (c72 t (by omega))
  have H79 : Hid (∀ s W, Below w.heap.size w W → _) := Lib.hid (fun s W hW => n79 s W B tb SV CV p D (h.below hW))
  have HB0 : Hid (Below w.heap.size w w) := Lib.hid (Below.refl _ _)
  obtain ⟨-, r1, r2, hr⟩ := HU.out _ HB0.out
  have HR0 := Lib.hid hr
  clear hr
  clear q1 hq1 q2 hq2 hB
  cases hna : nameB a
  · rw [hna] at H75a
    have HX : Hid (startV p a t = (5, p)) := Lib.hid (by unfold startV; rw [if_neg (by rw [hna]; simp)])
    clear hna h
    go_enter Tryz.func46, Tryz.ntmps46
    go_wp2_with fail
    with_reducible refine (H75a.out _).mono ?_
    rintro _ wx ⟨rfl, rfl⟩
    go_wp2_with fail
    go_ret
    rw [HX.out]
    exact lq_err (k := 4) (p := p) rfl (HU.out _ HB0.out).1 HTB.out HBB.out
  rw [hna] at H75a
  cases hst : symB t
  · rw [hst] at H78t
    have HX : Hid (startV p a t = (5, p)) := Lib.hid (by unfold startV; rw [if_neg (by rw [hst]; simp)])
    clear hna hst h
    go_enter Tryz.func46, Tryz.ntmps46
    go_wp2_with fail
    with_reducible refine (H75a.out _).mono ?_
    rintro _ wx ⟨rfl, rfl⟩
    go_wp2_with fail
    with_reducible refine (H78t.out _).mono ?_
    rintro _ wx ⟨rfl, rfl⟩
    go_wp2_with fail
    go_ret
    rw [HX.out]
    exact lq_err (k := 4) (p := p) rfl (HU.out _ HB0.out).1 HTB.out HBB.out
  rw [hst] at H78t
  have H73 := Lib.hid (Li.c35 t hst2)
  cases hfa : fnd (byName a) p.cs with
  | none =>
    have HX : Hid (startV p a t = (6, p)) := Lib.hid (by unfold startV; rw [if_pos ⟨hna, hst⟩, hfa])
    clear hna hst h
    go_enter Tryz.func46, Tryz.ntmps46
    go_wp2_with fail
    with_reducible refine (H75a.out _).mono ?_
    rintro _ wx ⟨rfl, rfl⟩
    go_wp2_with fail
    with_reducible refine (H78t.out _).mono ?_
    rintro _ wx ⟨rfl, rfl⟩
    go_wp2_with fail
    with_reducible refine (H79.out a _ (HU.out _ HB0.out).1).mono ?_
    rintro _ w1 hh
    rw [hfa] at hh
    obtain ⟨rfl, hb⟩ := hh
    have HB1 : Hid (Below w.heap.size w w1) := Lib.hid (HB0.out.trans (hb.mono HB0.out.size))
    clear hb
    obtain ⟨-, r1, r2, hr⟩ := HU.out _ HB1.out
    have HR1 := Lib.hid hr
    clear hr
    go_wp2_with fail
    go_ret
    rw [HX.out]
    exact lq_err (k := 5) (p := p) rfl (HU.out _ HB1.out).1 HTB.out HBB.out
  | some k =>
    have e1 : decide ((k : Int) < 0) = false := by simp
    obtain ⟨g, cc, hce, -, -, -⟩ := own_at len_cCo h.2.1.2.1 (by obtain ⟨hk, -, -⟩ := fnd_some hfa; have := h.len; omega)
    subst hce
    by_cases hm : p.mn = ⟨#[]⟩
    · have em : (p.mn.toList != []) = false := by rw [hm]; simp
      have em2 : p.mn.toList = [] := by rw [hm]; simp
      have HX : Hid (startV p a t = (0, { p with s0 := k, mn := t })) := Lib.hid (by unfold startV; rw [if_pos ⟨hna, hst⟩, hfa]; simp only; rw [if_neg (fun h => h hm)])
      clear hna hst h hm
      go_enter Tryz.func46, Tryz.ntmps46
      go_wp2_with fail
      with_reducible refine (H75a.out _).mono ?_
      rintro _ wx ⟨rfl, rfl⟩
      go_wp2_with fail
      with_reducible refine (H78t.out _).mono ?_
      rintro _ wx ⟨rfl, rfl⟩
      go_wp2_with fail
      with_reducible refine (H79.out a _ (HU.out _ HB0.out).1).mono ?_
      rintro _ w1 hh
      rw [hfa] at hh
      obtain ⟨⟨g', c', hce, -, -, rfl⟩, hb⟩ := hh
      cases hce
      have HB1 : Hid (Below w.heap.size w w1) := Lib.hid (HB0.out.trans (hb.mono HB0.out.size))
      clear hb
      obtain ⟨-, r1, r2, hr⟩ := HU.out _ HB1.out
      have HR1 := Lib.hid hr
      clear hr
      have p5 := HR1.out.1.cell 5
      simp at p5
      go_wp2_with fail
      with_reducible refine (H73.out _).mono ?_
      rintro _ w2 ⟨rfl, hb⟩
      have HB2 : Hid (Below w.heap.size w w2) := Lib.hid (HB1.out.trans (hb.mono HB1.out.size))
      clear hb
      obtain ⟨-, r1, r2, hr⟩ := HU.out _ HB2.out
      have HR2 := Lib.hid hr
      clear hr
      have p4 := HR2.out.1.cell 4
      have p5 := HR2.out.1.cell 5
      have z4 := HR2.out.1.frz 4
      have z5 := HR2.out.1.frz 5
      simp at p4 p5
      go_wp2_with fail
      go_ret
      rw [HX.out]
      exact ⟨rfl, tb_set (tb_set (HB2.out.mono (Nat.le_of_lt HTB.out))), fun h => absurd rfl h, fun j h1 h2 => by rw [Below.heap_setCell _ _ _ _ (by show j ≠ tb; omega), Below.heap_setCell _ _ _ _ (by show j ≠ tb; omega), HB2.out.block j (by have := HBB.out; omega)], fun _ => rd_start HR2.out⟩
    have em : (p.mn.toList != []) = true := by have := (lit_no2 (u := p.mn) (v := ⟨#[]⟩) (l := []) (by simp) hm).2; simpa using this
    have em2 : ¬ p.mn.toList = [] := (lit_no2 (u := p.mn) (v := ⟨#[]⟩) (l := []) (by simp) hm).2
    have em3 : p.mn.toList.isEmpty = false := by cases hl : p.mn.toList with | nil => exact absurd hl em2 | cons x l => rfl
    have HX : Hid (startV p a t = (7, p)) := Lib.hid (by unfold startV; rw [if_pos ⟨hna, hst⟩, hfa]; simp only; rw [if_pos hm])
    clear hna hst h hm
    go_enter Tryz.func46, Tryz.ntmps46
    go_wp2_with fail
    with_reducible refine (H75a.out _).mono ?_
    rintro _ wx ⟨rfl, rfl⟩
    go_wp2_with fail
    with_reducible refine (H78t.out _).mono ?_
    rintro _ wx ⟨rfl, rfl⟩
    go_wp2_with fail
    with_reducible refine (H79.out a _ (HU.out _ HB0.out).1).mono ?_
    rintro _ w1 hh
    rw [hfa] at hh
    obtain ⟨⟨g', c', hce, -, -, rfl⟩, hb⟩ := hh
    cases hce
    have HB1 : Hid (Below w.heap.size w w1) := Lib.hid (HB0.out.trans (hb.mono HB0.out.size))
    clear hb
    obtain ⟨-, r1, r2, hr⟩ := HU.out _ HB1.out
    have HR1 := Lib.hid hr
    clear hr
    have p5 := HR1.out.1.cell 5
    simp at p5
    go_wp2_with fail
    go_ret
    rw [HX.out]
    exact lq_err (k := 6) (p := p) rfl (HU.out _ HB1.out).1 HTB.out HBB.out
end Go.Proofs.YtapdiionikfgpaaGreatDoor
