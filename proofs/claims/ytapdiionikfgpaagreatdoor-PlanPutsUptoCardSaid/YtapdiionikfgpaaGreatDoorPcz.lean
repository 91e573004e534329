import Derived.Test.YtapdiionikfgpaaGreatDoorPbz
import Derived.Test.YtapdiionikfgpaaGreatDoorPez
namespace Go.Proofs.YtapdiionikfgpaaGreatDoor
open Go.ChangeShapes Go.WideShapes Go.ChangeAt Go.RowKit
set_option linter.unusedVariables false
set_option linter.unusedSimpArgs false
/-- how far the lines are read -/
def R9 (w6 : World) (B tb : Nat) (R : List (Nat × List ByteArray)) (i e : Value) (wr : World) : Prop :=
  ∃ k : Nat, k ≤ R.length ∧ i = .int .i64 (k : Int) ∧ Below tb w6 wr ∧ ∃ SV CV p D, RS wr B tb SV CV p D ∧ Sm p ∧ linesV Pm.zero R = linesV p (R.drop k)
set_option maxRecDepth 100000 in
set_option maxHeartbeats 8000000 in
theorem r9 (s : ByteArray) (hs : s.size ≤ 16777215) (w : World) : Calls Tryz.prog 9 #[.string s] w fun e w' => RdP s w e w' := by
  have HC : Hid (∀ W, Calls Tryz.prog 16 #[.string s] W fun e w' => Li.RdPost s W e w') := Lib.hid (Li.c9 s hs)
  go_enter Tryz.func9, Tryz.ntmps9
  go_wp2_with fail
  with_reducible refine (HC.out _).mono ?_
  rintro _ w5 ⟨A, n, c, rfl, hn, hro, hb5⟩
  have HBX : Hid (Bx w5 w.heap.size zs6 25) := Lib.hid ((bx_new w zs6 25).below hb5)
  have HB5 : Hid (Below w.heap.size w w5) := Lib.hid (((Below.refl _ w).alloc (Nat.le_refl _) _).trans (hb5.mono (by simp)))
  have HH5 : Hid (w.heap.size < w5.heap.size) := Lib.hid HBX.out.lt
  have HRO := Lib.hid hro
  have HN := Lib.hid hn
  clear hro hb5 hn HC
  by_cases hE : Li.rdE s = 0
  · have HR : Hid (readP s = (if (linesV Pm.zero (Li.rdV s)).2.1 = 0 then (if wholeB (linesV Pm.zero (Li.rdV s)).2.2 = true then ((0, 0), some (linesV Pm.zero (Li.rdV s)).2.2) else ((0, 6), none)) else (((linesV Pm.zero (Li.rdV s)).1, (linesV Pm.zero (Li.rdV s)).2.1), none))) := Lib.hid (by unfold readP; rw [if_pos hE])
    have HSH := Lib.hid (rdV_short hE)
    rw [hE]
    clear hE
    generalize hR : Li.rdV s = R at HR HN HRO HSH
    clear hR
    obtain rfl : n = R.length := HN.out
    have HTB : Hid (w.heap.size < w5.heap.size) := HH5
    have HZ := Lib.hid (rs_zero w5)
    have HW6 : Hid (Below w.heap.size w (w5.alloc (.cells zs9 65))) := Lib.hid (HB5.out.alloc HB5.out.size _)
    go_wp2_with fail
    go_loopw [8, 9] (fun i e wr => R9 (w5.alloc (.cells zs9 65)) (w5.heap.size + 1) w5.heap.size R i e wr) (fun i _ _ => R.length - (intOf i).toNat)
    case atStart => exact ⟨0, Nat.zero_le _, rfl, Below.refl _ _, _, _, _, _, HZ.out, sm_zero, rfl⟩
    case round =>
      obtain ⟨k, hk, rfl, hb, SV, CV, p, D, hrs, hsm, hl⟩ := hrel
      have HB := Lib.hid hb
      have HRS := Lib.hid hrs
      have HSM := Lib.hid hsm
      have HL := Lib.hid hl
      have HBW : Hid (Below w.heap.size w wr) := Lib.hid (HW6.out.trans (hb.mono (Nat.le_of_lt HTB.out)))
      have HBXR : Hid (Bx wr w.heap.size zs6 25) := Lib.hid (by
        have h1 : Bx (w5.alloc (.cells zs9 65)) w.heap.size zs6 25 := HBX.out.below ((Below.refl _ w5).alloc (Nat.le_refl _) _)
        exact (hb.block _ HTB.out).trans h1)
      clear hb hrs hsm hl
      by_cases hlt : k < R.length
      · obtain ⟨x, hx⟩ : ∃ x, R[k]? = some x := ⟨_, List.getElem?_eq_getElem hlt⟩
        obtain ⟨hx0, -, hxs⟩ := HSH.out.2 x (List.mem_of_getElem? hx)
        obtain ⟨g, b, cc, hA, hBg, hg, hbb, i0, i1, hq⟩ := line_at HRO.out hx (List.length_pos_iff.1 hx0)
        have HI : Hid (∀ W, Below w5.heap.size wr W → W.cell? ⟨g, k * 2, none⟩ = some (.int .i64 (x.1 : Int)) ∧ W.cell? ⟨g, k * 2 + 1, none⟩ = some (.slice (some ⟨b, 0, none⟩) x.2.length cc) ∧ ∀ i u, x.2[i]? = some u → W.cell? ⟨b, 0 + i, none⟩ = some (.string u)) := Lib.hid (fun W hW => by
          have hB5 : Below w5.heap.size w5 W := (((Below.refl _ w5).alloc (Nat.le_refl _) _).trans (HB.out.mono (Nat.le_refl _))).trans hW
          refine ⟨?_, ?_, fun i u hu => ?_⟩
          · rw [hB5.cell (p := ⟨g, _, none⟩) hg]; exact i0
          · rw [hB5.cell (p := ⟨g, _, none⟩) hg]; exact i1
          · rw [hB5.cell (p := ⟨b, _, none⟩) hbb]; exact hq i u hu)
        obtain ⟨e9, q9, hL⟩ : ∃ e q, lineV p x.2 = (e, q) := ⟨_, _, rfl⟩
        have HC21 := Lib.hid (r21_all x.2 (List.length_pos_iff.1 hx0) wr (w5.heap.size + 1) w5.heap.size SV CV p D HRS.out (by have := HRS.out.1.lt; omega) HSM.out (fun u hu => by have := hxs u hu; omega) b 0 cc hbb (HI.out wr (Below.refl _ _)).2.2)
        have HSL := Lib.hid (sm_line p x.2 HSM.out)
        have HDR : Hid (R.drop k = (x.1, x.2) :: R.drop (k + 1)) := Lib.hid (by rw [List.drop_eq_getElem_cons hlt, (List.getElem?_eq_some_iff.1 hx).2])
        have HLV := Lib.hid hL
        rw [hL] at HC21 HSL
        have HX := Lib.hid hx
        have HLT := Lib.hid hlt
        have j1 := (HI.out wr (Below.refl _ _)).2.1
        have hkn : (k : Int) < (R.length : Int) := by omega
        have hkw : IntKind.i64.wrap (k : Int) = (k : Int) := by rw [IntKind.wrap_i64]; have := HSH.out.1; omega
        have hR4 : R.length ≤ 400 := HSH.out.1
        have hgh : g ≠ w.heap.size := by simp at hBg; omega
        subst hA
        clear hlt hx0 hxs hx i0 i1 hq hL hBg
        go_wp2_with fail
        with_reducible refine HC21.out.mono ?_
        rintro E w7 ⟨h7, hb7, hok7⟩
        change E = .returned (.int .i64 (e9 : Int)) at h7
        subst h7
        change e9 = 0 → ∃ SV CV D, RS w7 (w5.heap.size + 1) w5.heap.size SV CV q9 D at hok7
        cases e9 with
        | zero =>
          have HOK := Lib.hid (hok7 rfl)
          have HB7 : Hid (Below w5.heap.size (w5.alloc (.cells zs9 65)) w7) := Lib.hid (HB.out.trans hb7)
          clear hok7 hb7 j1 HC21
          go_wp2_with fail
          go_roundw
          case rel =>
            obtain ⟨SV', CV', D', hrs'⟩ := HOK.out
            exact ⟨k + 1, HLT.out, by go_num, HB7.out, SV', CV', q9, D', hrs', HSL.out, by rw [HL.out, HDR.out, linesV_ok HLV.out]⟩
          case measure => simp [intOf]; have := HLT.out; omega
        | succ e' =>
          have HXR : Hid (readP s = ((x.1, e' + 1), none)) := Lib.hid (by
            rw [HR.out, HL.out, HDR.out, linesV_err HLV.out]
            rfl)
          have HBX7 : Hid (Bx w7 w.heap.size zs6 25) := Lib.hid ((hb7.block _ HTB.out).trans HBXR.out)
          have HBW7 : Hid (Below w.heap.size w w7) := Lib.hid (HBW.out.trans (hb7.mono (Nat.le_of_lt HTB.out)))
          have j0 := (HI.out w7 hb7).1
          have c0 := HBX7.out.cell 0
          have c1 := HBX7.out.cell 1
          have c2 := HBX7.out.cell 2
          have c3 := HBX7.out.cell 3
          have c4 := HBX7.out.cell 4
          have c5 := HBX7.out.cell 5
          have z0 := HBX7.out.frz 0
          have z1 := HBX7.out.frz 1
          have z2 := HBX7.out.frz 2
          have z3 := HBX7.out.frz 3
          have z4 := HBX7.out.frz 4
          have z5 := HBX7.out.frz 5
          simp [zs6] at c0 c1 c2 c3 c4 c5
          clear hok7 hb7 j1 HC21
          go_upto_region 10 with fail
          go_region
          all_goals
            go_wp2_with fail
            try simp only [Exit.inBlock, Exit.then]
            refine bodyPost_ret (results_cell3 (P := Tryz.prog) rfl _ _ w.heap.size 25 _ (0, 0) _ rfl (bx_set6 HBX7.out _ _ _ _ _ _).drew.blk Tryz.underlying25 rfl (by kernel_rfl)) rfl ?_
            exact rdp_err2 HXR.out (below_set6 HBW7.out _ _ _ _ _ _).drew rfl (by simp)
      · obtain rfl : k = R.length := by omega
        obtain ⟨AS, xs, hSV, -⟩ := own_slice HRS.out.2.1.1
        obtain ⟨AC, xc, hCV, -⟩ := own_slice HRS.out.2.1.2.1
        subst hSV
        subst hCV
        have HLW : Hid (linesV Pm.zero R = (0, 0, p)) := Lib.hid (by rw [HL.out, List.drop_length]; rfl)
        have HC22 := Lib.hid (r22 wr (w5.heap.size + 1) w5.heap.size _ _ p D HRS.out HSM.out)
        have HRW : Hid (readP s = if wholeB p = true then ((0, 0), some p) else ((0, 6), none)) := Lib.hid (by rw [HR.out, HLW.out]; rfl)
        clear hlt hk
        generalize hwb : wholeB p = wb at HC22
        have HWB := Lib.hid hwb
        clear hwb
        go_wp2_with fail
        with_reducible refine HC22.out.mono ?_
        rintro _ w7 ⟨rfl, hb7⟩
        have HBX7 : Hid (Bx w7 w.heap.size zs6 25) := Lib.hid (HBXR.out.below hb7)
        have HBW7 : Hid (Below w.heap.size w w7) := Lib.hid (HBW.out.trans (hb7.mono HBW.out.size))
        have HRS7 := Lib.hid (HRS.out.below hb7)
        have c0 := HBX7.out.cell 0
        have c1 := HBX7.out.cell 1
        have c2 := HBX7.out.cell 2
        have c3 := HBX7.out.cell 3
        have c4 := HBX7.out.cell 4
        have c5 := HBX7.out.cell 5
        have z0 := HBX7.out.frz 0
        have z1 := HBX7.out.frz 1
        have z2 := HBX7.out.frz 2
        have z3 := HBX7.out.frz 3
        have z4 := HBX7.out.frz 4
        have z5 := HBX7.out.frz 5
        have d0 := HRS7.out.1.cell 0
        have d1 := HRS7.out.1.cell 1
        have d2 := HRS7.out.1.cell 2
        have d3 := HRS7.out.1.cell 3
        have d4 := HRS7.out.1.cell 4
        have d5 := HRS7.out.1.cell 5
        simp [zs6] at c0 c1 c2 c3 c4 c5
        simp at d0 d1 d2 d3 d4 d5
        clear hb7 HC22
        cases wb with
        | false =>
          have HXR : Hid (readP s = ((0, 6), none)) := Lib.hid (by rw [HRW.out, HWB.out]; rfl)
          go_wp2_with fail
          try simp only [Exit.inBlock, Exit.then]
          refine bodyPost_ret (results_cell3 (P := Tryz.prog) rfl _ _ w.heap.size 25 _ (0, 0) _ rfl (bx_set6 HBX7.out _ _ _ _ _ _).blk Tryz.underlying25 rfl (by kernel_rfl)) rfl ?_
          exact rdp_err2 HXR.out (below_set6 HBW7.out _ _ _ _ _ _) rfl rfl
        | true =>
          have HXR : Hid (readP s = ((0, 0), some p)) := Lib.hid (by rw [HRW.out, HWB.out]; rfl)
          go_wp2_with fail
          try simp only [Exit.inBlock, Exit.then]
          refine bodyPost_ret (results_cell3 (P := Tryz.prog) rfl _ _ w.heap.size 25 _ (0, 0) _ rfl (bx_set6 HBX7.out _ _ _ _ _ _).blk Tryz.underlying25 rfl (by kernel_rfl)) rfl ?_
          exact ⟨below_set6 HBW7.out _ _ _ _ _ _, Or.inr ⟨p, _, _, D, w5.heap.size + 1, HXR.out, by have := HTB.out; omega, plin_set6 HRS7.out.2.1 (by have := HTB.out; omega) _ _ _ _ _ _, HRS7.out.2.2.1, HSM.out, rfl⟩⟩
  · have HR : Hid (readP s = ((0, Li.rdE s), none)) := Lib.hid (by unfold readP; rw [if_neg hE])
    have e1 : ((Li.rdE s : Int) == 0) = false := by simp; omega
    generalize Li.rdE s = z at HR e1
    have c0 := HBX.out.cell 0
    have c1 := HBX.out.cell 1
    have c2 := HBX.out.cell 2
    have c3 := HBX.out.cell 3
    have c4 := HBX.out.cell 4
    have c5 := HBX.out.cell 5
    have z0 := HBX.out.frz 0
    have z1 := HBX.out.frz 1
    have z2 := HBX.out.frz 2
    have z3 := HBX.out.frz 3
    have z4 := HBX.out.frz 4
    have z5 := HBX.out.frz 5
    simp [zs6] at c0 c1 c2 c3 c4 c5
    clear hE HN HRO HH5
    go_wp2_with fail
    try simp only [Exit.inBlock, Exit.then]
    refine bodyPost_ret (results_cell3 (P := Tryz.prog) rfl _ _ w.heap.size 25 _ (0, 0) _ rfl (bx_set6 HBX.out _ _ _ _ _ _) Tryz.underlying25 rfl (by kernel_rfl)) rfl ?_
    exact rdp_err HR.out (below_set6 HB5.out _ _ _ _ _ _)
end Go.Proofs.YtapdiionikfgpaaGreatDoor
