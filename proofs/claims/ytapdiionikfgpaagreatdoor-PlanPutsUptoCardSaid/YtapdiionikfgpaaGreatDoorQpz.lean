import Derived.Test.YtapdiionikfgpaaGreatDoorQnz
import Derived.Test.YtapdiionikfgpaaGreatDoorGk
import Derived.Test.YtapdiionikfgpaaGreatDoorPez
import Derived.Test.YtapdiionikfgpaaGreatDoorGg
namespace Go.Proofs.YtapdiionikfgpaaGreatDoor
open Go.ChangeShapes Go.WideShapes Go.ChangeAt Go.RowKit Go.MapKept
open Li (Gl)
set_option linter.unusedVariables false
set_option linter.unusedSimpArgs false
theorem zero60 : ∀ w, (zeroValue 60).run Tryz.prog w = .ok (.agg #[.int .i64 0, .nilFunc]) w := fun w => by simp [go_sem]
theorem rd_zero (w : World) (B : Nat) (hB : w.heap.size < B) : RD (w.alloc (.cells zs6 52)) B w.heap.size (.slice none 0 0) (.slice none 0 0) Pm.zero [] :=
  ⟨bx_new w zs6 52, plin_nil _ _, rfl, hB, by decide, by decide⟩
/-- how far the lines are read -/
def R8 (w6 : World) (tb : Nat) (R : List (Nat × List ByteArray)) (i : Value) (wr : World) : Prop :=
  ∃ k : Nat, k ≤ R.length ∧ i = .int .i64 (k : Int) ∧ Below tb w6 wr ∧ wr.heap[tb + 1]? = some (rowO 11) ∧ ∃ SV CV p D, RD wr (tb + 2) tb SV CV p D ∧ Sm p ∧ Wf p ∧ linesV Pm.zero R = linesV p (R.drop k)
set_option maxRecDepth 100000 in
set_option maxHeartbeats 8000000 in
theorem n8 (s : ByteArray) (hs : s.size ≤ 16777215) (w : World) (hG : Gl w) : Calls Tryz.prog 8 #[.string s] w fun e w' => RdP s w e w' := by
  have HC : Hid (∀ W, Below w.heap.size w W → Calls Tryz.prog 18 #[.string s] W fun e w' => Li.RdPost s W e w') := Lib.hid (fun W hW => Li.c8 s hs W (hG.below hW))
  have HGL : Hid (∀ W, Below w.heap.size w W → Gl W) := Lib.hid (fun W hW => hG.below hW)
  clear hG
  have HA0 : Hid (Below w.heap.size w (w.alloc (.cells #[.int .i64 0, .int .i64 0, .slice none 0 0, .slice none 0 0, .int .i64 0, .string ⟨#[]⟩] 25))) := Lib.hid ((Below.refl _ w).alloc (Nat.le_refl _) _)
  go_enter Tryz.func8, Tryz.ntmps8
  go_wp2_with fail
  with_reducible refine (HC.out _ HA0.out).mono ?_
  rintro _ w5 ⟨A, n, c, rfl, hn, hro, hb5⟩
  have HBX : Hid (Bx w5 w.heap.size zs6 25) := Lib.hid ((bx_new w zs6 25).below hb5)
  have HB5 : Hid (Below w.heap.size w w5) := Lib.hid (HA0.out.trans (hb5.mono (by simp)))
  have HH5 : Hid (w.heap.size < w5.heap.size) := Lib.hid HBX.out.lt
  have HRO := Lib.hid hro
  have HN := Lib.hid hn
  clear hro hb5 hn HC HA0
  by_cases hE : Li.rdE s = 0
  · have HR : Hid (readP s = (if (linesV Pm.zero (Li.rdV s)).2.1 = 0 then (if wholeB (linesV Pm.zero (Li.rdV s)).2.2 = true then ((0, 0), some (linesV Pm.zero (Li.rdV s)).2.2) else ((0, 6), none)) else (((linesV Pm.zero (Li.rdV s)).1, (linesV Pm.zero (Li.rdV s)).2.1), none))) := Lib.hid (by unfold readP; rw [if_pos hE])
    have HSH := Lib.hid (rdV_short hE)
    rw [hE]
    clear hE
    generalize hR : Li.rdV s = R at HR HN HRO HSH
    clear hR
    obtain rfl : n = R.length := HN.out
    have HTB : Hid (w.heap.size < w5.heap.size) := HH5
    have HZ := Lib.hid (rd_zero w5 (w5.heap.size + 2) (by omega))
    have HMK := Lib.hid (n19 (w5.alloc (.cells #[.int .i64 0, .int .i64 0, .slice none 0 0, .slice none 0 0, .int .i64 0, .string ⟨#[]⟩] 52)))
    go_wp2_with fail
    with_reducible refine HMK.out.mono ?_
    rintro _ w6 ⟨rfl, hb6, hm6, hsz6⟩
    rw [show (w5.alloc (.cells #[.int .i64 0, .int .i64 0, .slice none 0 0, .slice none 0 0, .int .i64 0, .string ⟨#[]⟩] 52)).heap.size = w5.heap.size + 1 from by simp] at hm6 hb6 hsz6 ⊢
    have HM6 := Lib.hid hm6
    have HS6 : Hid (w6.heap.size = w5.heap.size + 2) := Lib.hid hsz6
    have HB56 : Hid (Below w5.heap.size w5 w6) := Lib.hid (((Below.refl _ w5).alloc (Nat.le_refl _) _).trans (hb6.mono (by omega)))
    have HZ6 : Hid (RD w6 (w5.heap.size + 2) w5.heap.size (.slice none 0 0) (.slice none 0 0) Pm.zero []) := Lib.hid (HZ.out.below (by rw [show (w5.alloc (.cells zs6 52)).heap.size = w5.heap.size + 1 from by simp]; exact hb6))
    have HW6 : Hid (Below w.heap.size w w6) := Lib.hid (HB5.out.trans (HB56.out.mono HB5.out.size))
    obtain ⟨tb, htb⟩ : ∃ tb, w5.heap.size = tb := ⟨_, rfl⟩
    have HTE := Lib.hid htb
    rw [htb] at HM6 HS6 HB56 HZ6 HTB ⊢
    clear hm6 hsz6 hb6 HMK HZ htb
    go_wp2_with fail
    go_loopw [9, 10, 11, 12, 25] (fun _ _ _ _ i wr => R8 w6 tb R i wr) (fun _ _ _ _ i _ => R.length - (intOf i).toNat)
    case atStart => exact ⟨0, Nat.zero_le _, rfl, Below.refl _ _, HM6.out, _, _, _, _, HZ6.out, sm_zero, wf_zero, rfl⟩
    case round =>
      obtain ⟨k, hk, rfl, hb, hmp, SV, CV, p, D, hrd, hsm, hwf, hl⟩ := hrel
      have HB := Lib.hid hb
      have HMP := Lib.hid hmp
      have HRD := Lib.hid hrd
      have HSM := Lib.hid hsm
      have HWF := Lib.hid hwf
      have HL := Lib.hid hl
      have HBT : Hid (Below tb w5 wr) := Lib.hid (by have := HB56.out; exact this.trans hb)
      have HBW : Hid (Below w.heap.size w wr) := Lib.hid (HW6.out.trans (hb.mono (Nat.le_of_lt HTB.out)))
      have HBXR : Hid (Bx wr w.heap.size zs6 25) := Lib.hid ((HBT.out.block _ HTB.out).trans HBX.out)
      have HWS : Hid (tb + 2 ≤ wr.heap.size) := Lib.hid (by have := hb.size; have := HS6.out; omega)
      clear hb hmp hrd hsm hwf hl
      by_cases hlt : k < R.length
      · obtain ⟨x, hx⟩ : ∃ x, R[k]? = some x := ⟨_, List.getElem?_eq_getElem hlt⟩
        obtain ⟨hx0, -, hxs⟩ := HSH.out.2 x (List.mem_of_getElem? hx)
        obtain ⟨g, b, cc, hA, hBg, hg, hbb, i0, i1, hq⟩ := line_at HRO.out hx (List.length_pos_iff.1 hx0)
        obtain ⟨ln, ws⟩ := x
        obtain ⟨t0, r, rfl⟩ : ∃ t0 r, ws = t0 :: r := by cases ws with | nil => simp at hx0 | cons a l => exact ⟨a, l, rfl⟩
        simp only [List.length_cons] at i0 i1 hxs hq
        rw [HTE.out] at hg hbb
        have HAL : Hid (Below wr.heap.size wr (wr.alloc (.cells #[.int .i64 (ln : Int), .slice (some ⟨b, 0, none⟩) (r.length + 1) cc] 57))) := Lib.hid ((Below.refl _ wr).alloc (Nat.le_refl _) _)
        have HI : Hid (∀ W, Below wr.heap.size wr W → W.cell? ⟨g, k * 2, none⟩ = some (.int .i64 (ln : Int)) ∧ W.cell? ⟨g, k * 2 + 1, none⟩ = some (.slice (some ⟨b, 0, none⟩) (r.length + 1) cc) ∧ ∀ i u, (t0 :: r)[i]? = some u → W.cell? ⟨b, 0 + i, none⟩ = some (.string u)) := Lib.hid (fun W hW => by
          have hB5 : Below tb w5 W := HBT.out.trans (hW.mono (by have := HWS.out; omega))
          refine ⟨?_, ?_, fun i u hu => ?_⟩
          · rw [hB5.cell (p := ⟨g, _, none⟩) hg]; exact i0
          · rw [hB5.cell (p := ⟨g, _, none⟩) hg]; exact i1
          · rw [hB5.cell (p := ⟨b, _, none⟩) hbb]; exact hq i u hu)
        obtain ⟨e9, q9, hL⟩ : ∃ e q, lineV p (t0 :: r) = (e, q) := ⟨_, _, rfl⟩
        have HDR : Hid (R.drop k = (ln, t0 :: r) :: R.drop (k + 1)) := Lib.hid (by rw [List.drop_eq_getElem_cons hlt, (List.getElem?_eq_some_iff.1 hx).2])
        have HLV := Lib.hid hL
        have HSL := Lib.hid (sm_line p (t0 :: r) HSM.out)
        have HWL := Lib.hid (wf_line p (t0 :: r) HWF.out)
        rw [hL] at HSL HWL
        have HLT := Lib.hid hlt
        have HXS : Hid (∀ u ∈ t0 :: r, u.size ≤ 281474976710656) := Lib.hid (fun u hu => by have := hxs u hu; omega)
        obtain ⟨j0, j1, j2⟩ := HI.out wr (Below.refl _ _)
        have j3 := (HI.out _ HAL.out).2.2 0 t0 rfl
        simp only [Nat.add_zero] at j3
        have HFER : Hid (∀ e q, lineV p (t0 :: r) = (e + 1, q) → readP s = ((ln, e + 1), none)) := Lib.hid (fun e q he => by
          rw [HR.out, HL.out, HDR.out, linesV_err he]
          rfl)
        have hkn : (k : Int) < (R.length : Int) := by omega
        have hkw : IntKind.i64.wrap (k : Int) = (k : Int) := by rw [IntKind.wrap_i64]; have := HSH.out.1; omega
        have hR4 : R.length ≤ 400 := HSH.out.1
        have hgh : g ≠ w.heap.size := by simp at hBg; omega
        have h0r : (0 : Int) < ((r.length + 1 : Nat) : Int) := by omega
        have HRN := Lib.hid (row_none p t0 r)
        have HRL := Lib.hid (row_len p t0 r)
        have hlk := lookup_rw (P := Tryz.prog) (T := 53) Tryz.underlying53 Tryz.underlying9 zero60 ((HAL.out.block (tb + 1) (by have := HWS.out; omega)).trans HMP.out) t0
        rw [rows_find, show (rwFind (rwL 11) t0 0).isSome = (rowOf t0).isSome from by have := congrArg Option.isSome (rows_find t0); simpa using this] at hlk
        subst hA
        clear hlt hx0 hxs hx i0 i1 hq hL hBg j2
        obtain ⟨row, hrow⟩ : ∃ row, rowOf t0 = row := ⟨_, rfl⟩
        rw [hrow] at hlk
        have c0 := HBXR.out.cell 0
        have c1 := HBXR.out.cell 1
        have c2 := HBXR.out.cell 2
        have c3 := HBXR.out.cell 3
        have c4 := HBXR.out.cell 4
        have c5 := HBXR.out.cell 5
        simp [zs6] at c0 c1 c2 c3 c4 c5
        cases row with
        | none =>
          have HXR := Lib.hid (HFER.out 4 p (HRN.out hrow))
          simp only [Option.map_none, Option.getD_none, Option.isSome_none] at hlk
          clear HRN HRL HFER hrow
          go_upto_region 6 with fail
          obtain ⟨W7, hW7⟩ : ∃ W7, (wr.alloc (.cells #[.int .i64 (ln : Int), .slice (some ⟨b, 0, none⟩) (r.length + 1) cc] 57)).alloc (.cells #[.int .i64 0, .nilFunc] 60) = W7 := ⟨_, rfl⟩
          have HB7 : Hid (Below wr.heap.size wr W7) := Lib.hid (by rw [← hW7]; exact HAL.out.alloc HAL.out.size _)
          have HX7 : Hid (Bx W7 wr.heap.size #[.int .i64 (ln : Int), .slice (some ⟨b, 0, none⟩) (r.length + 1) cc] 57) := Lib.hid (by rw [← hW7]; exact (bx_new wr _ _).below ((Below.refl _ _).alloc (Nat.le_refl _) _))
          have x0 := HX7.out.cell 0
          simp at x0
          have HBX7 : Hid (Bx W7 w.heap.size zs6 25) := Lib.hid (HBXR.out.below HB7.out)
          have HBW7 : Hid (Below w.heap.size w W7) := Lib.hid (HBW.out.trans (HB7.out.mono HBW.out.size))
          have c0 := HBX7.out.cell 0
          have c1 := HBX7.out.cell 1
          have c2 := HBX7.out.cell 2
          have c3 := HBX7.out.cell 3
          have c4 := HBX7.out.cell 4
          have c5 := HBX7.out.cell 5
          have z0 := HBX7.out.frz 0
          have z1 := HBX7.out.frz 1
          have z2 := HBX7.out.frz 2
          have z3 := HBX7.out.frz 3
          have z4 := HBX7.out.frz 4
          have z5 := HBX7.out.frz 5
          simp [zs6] at c0 c1 c2 c3 c4 c5
          have hwr : wr.heap.size ≠ w.heap.size := by have := HWS.out; have := HTB.out; omega
          rw [hW7]
          clear hW7 j0 j1 j3 hlk
          go_region
          all_goals
            go_wp2_with fail
            try simp only [Exit.inBlock, Exit.then]
            refine bodyPost_ret (results_cell3 (P := Tryz.prog) rfl _ _ w.heap.size 25 _ (0, 0) _ rfl (bx_set6 HBX7.out _ _ _ _ _ _).drew.blk Tryz.underlying25 rfl (by kernel_rfl)) rfl ?_
            exact rdp_err2 HXR.out (below_set6 HBW7.out _ _ _ _ _ _).drew rfl (by simp)
        | some nf =>
          obtain ⟨nw, f⟩ := nf
          simp only [Option.map_some, Option.getD_some, Option.isSome_some, rowV] at hlk
          obtain ⟨W7, hW7⟩ : ∃ W7, (wr.alloc (.cells #[.int .i64 (ln : Int), .slice (some ⟨b, 0, none⟩) (r.length + 1) cc] 57)).alloc (.cells #[.int .i64 (nw : Int), .func (.func f) #[] #[]] 60) = W7 := ⟨_, rfl⟩
          have HB7 : Hid (Below wr.heap.size wr W7) := Lib.hid (by rw [← hW7]; exact HAL.out.alloc HAL.out.size _)
          have HX7 : Hid (Bx W7 wr.heap.size #[.int .i64 (ln : Int), .slice (some ⟨b, 0, none⟩) (r.length + 1) cc] 57) := Lib.hid (by rw [← hW7]; exact (bx_new wr _ _).below ((Below.refl _ _).alloc (Nat.le_refl _) _))
          have HR7 : Hid (Bx W7 (wr.heap.size + 1) #[.int .i64 (nw : Int), .func (.func f) #[] #[]] 60) := Lib.hid (by
            rw [← hW7]
            have := bx_new (wr.alloc (.cells #[.int .i64 (ln : Int), .slice (some ⟨b, 0, none⟩) (r.length + 1) cc] 57)) #[.int .i64 (nw : Int), .func (.func f) #[] #[]] 60
            rw [show (wr.alloc (.cells #[.int .i64 (ln : Int), .slice (some ⟨b, 0, none⟩) (r.length + 1) cc] 57)).heap.size = wr.heap.size + 1 from by simp] at this
            exact this)
          have x0 := HX7.out.cell 0
          have x1 := HX7.out.cell 1
          have y0 := HR7.out.cell 0
          have y1 := HR7.out.cell 1
          simp at x0 x1 y0 y1
          by_cases hne : r.length + 1 = nw
          · have KM := Lib.hid (row_call t0 r f (by rw [hrow, hne]) W7 (tb + 2) tb SV CV p D (HRD.out.below HB7.out) (by have := HWS.out; have := HB7.out.size; omega) HSM.out (HGL.out _ (HBW.out.trans (HB7.out.mono HBW.out.size))) HXS.out b 0 cc (HI.out _ HB7.out).2.2)
            have hcf := row_enter hrow
            rw [HLV.out] at KM
            have hnn : ((r.length : Int) + 1 == (nw : Int)) = true := by simp; omega
            have hnn2 : ((r.length : Int) + 1 != (nw : Int)) = false := by simp; omega
            have hnn3 : (((r.length + 1 : Nat) : Int) != (nw : Int)) = false := by simp; omega
            clear HRN HRL hrow hne
            go_wp2_with fail
            with_reducible refine KM.out.mono ?_
            rintro E w7 ⟨h7, hb7, her7, hkp7, hok7⟩
            change E = .returned (.int .i64 (e9 : Int)) at h7
            subst h7
            have HBX8 : Hid (Bx w7 w.heap.size zs6 25) := Lib.hid ((hb7.block _ HTB.out).trans (HBXR.out.below HB7.out))
            cases e9 with
            | zero =>
              have HOK := Lib.hid (hok7 rfl)
              have HMP7 : Hid (w7.heap[tb + 1]? = some (rowO 11)) := Lib.hid ((hkp7 (tb + 1) (by omega) (by omega)).trans ((HB7.out.block (tb + 1) (by have := HWS.out; omega)).trans HMP.out))
              have HBT7 : Hid (Below tb w6 w7) := Lib.hid ((HB.out.trans (HB7.out.mono (by have := HWS.out; omega))).trans hb7)
              clear hok7 hb7 hkp7 her7 KM hW7 hlk x0 x1 y0 y1 j0 j1 j3 c0 c1 c2 c3 c4 c5
              go_wp2_with fail
              go_roundw
              case rel =>
                obtain ⟨SV', CV', D', hrd'⟩ := HOK.out
                exact ⟨k + 1, HLT.out, by go_num, HBT7.out, HMP7.out, SV', CV', q9, D', hrd', HSL.out, HWL.out, by rw [HL.out, HDR.out, linesV_ok HLV.out]⟩
              case measure => simp [intOf]; have := HLT.out; omega
            | succ e' =>
              have hbb := her7 (by simp)
              have HB8 : Hid (Below wr.heap.size wr w7) := Lib.hid (HB7.out.trans (hbb.mono HB7.out.size))
              have HX8 : Hid (Bx w7 wr.heap.size #[.int .i64 (ln : Int), .slice (some ⟨b, 0, none⟩) (r.length + 1) cc] 57) := Lib.hid (HX7.out.below hbb)
              have HBW8 : Hid (Below w.heap.size w w7) := Lib.hid (HBW.out.trans (HB8.out.mono HBW.out.size))
              have HBX7 : Hid (Bx w7 w.heap.size zs6 25) := HBX8
              have HBW7 := HBW8
              have HXR := Lib.hid (HFER.out e' q9 HLV.out)
              have v0 := HX8.out.cell 0
              have c0 := HBX7.out.cell 0
              have c1 := HBX7.out.cell 1
              have c2 := HBX7.out.cell 2
              have c3 := HBX7.out.cell 3
              have c4 := HBX7.out.cell 4
              have c5 := HBX7.out.cell 5
              have z0 := HBX7.out.frz 0
              have z1 := HBX7.out.frz 1
              have z2 := HBX7.out.frz 2
              have z3 := HBX7.out.frz 3
              have z4 := HBX7.out.frz 4
              have z5 := HBX7.out.frz 5
              simp [zs6] at c0 c1 c2 c3 c4 c5 v0
              have hwr : wr.heap.size ≠ w.heap.size := by have := HWS.out; have := HTB.out; omega
              clear hok7 hb7 hkp7 her7 KM hW7 hlk x0 x1 y0 y1 j0 j1 j3 hbb
              go_upto_region 7 with fail
              go_region
              all_goals
                go_wp2_with fail
                try simp only [Exit.inBlock, Exit.then]
                refine bodyPost_ret (results_cell3 (P := Tryz.prog) rfl _ _ w.heap.size 25 _ (0, 0) _ rfl (bx_set6 HBX7.out _ _ _ _ _ _).drew.blk Tryz.underlying25 rfl (by kernel_rfl)) rfl ?_
                exact rdp_err2 HXR.out (below_set6 HBW7.out _ _ _ _ _ _).drew rfl (by simp)
          · have HXR := Lib.hid (HFER.out 4 p (HRL.out nw f hrow hne))
            have hnn : ((r.length : Int) + 1 == (nw : Int)) = false := by simp; omega
            have hnn2 : ((r.length : Int) + 1 != (nw : Int)) = true := by simp; omega
            have hnn3 : (((r.length + 1 : Nat) : Int) != (nw : Int)) = true := by simp; omega
            clear HRN HRL HFER hrow hne
            have HBX7 : Hid (Bx W7 w.heap.size zs6 25) := Lib.hid (HBXR.out.below HB7.out)
            have HBW7 : Hid (Below w.heap.size w W7) := Lib.hid (HBW.out.trans (HB7.out.mono HBW.out.size))
            have c0 := HBX7.out.cell 0
            have c1 := HBX7.out.cell 1
            have c2 := HBX7.out.cell 2
            have c3 := HBX7.out.cell 3
            have c4 := HBX7.out.cell 4
            have c5 := HBX7.out.cell 5
            have z0 := HBX7.out.frz 0
            have z1 := HBX7.out.frz 1
            have z2 := HBX7.out.frz 2
            have z3 := HBX7.out.frz 3
            have z4 := HBX7.out.frz 4
            have z5 := HBX7.out.frz 5
            simp [zs6] at c0 c1 c2 c3 c4 c5
            have hwr : wr.heap.size ≠ w.heap.size := by have := HWS.out; have := HTB.out; omega
            go_upto_region 6 with fail
            clear hW7 j0 j1 j3 hlk
            go_region
            all_goals
              go_wp2_with fail
              try simp only [Exit.inBlock, Exit.then]
              refine bodyPost_ret (results_cell3 (P := Tryz.prog) rfl _ _ w.heap.size 25 _ (0, 0) _ rfl (bx_set6 HBX7.out _ _ _ _ _ _).drew.blk Tryz.underlying25 rfl (by kernel_rfl)) rfl ?_
              exact rdp_err2 HXR.out (below_set6 HBW7.out _ _ _ _ _ _).drew rfl (by simp)
      · obtain rfl : k = R.length := by omega
        obtain ⟨AS, xs, hSV, -⟩ := own_slice HRD.out.2.1.1
        obtain ⟨AC, xc, hCV, -⟩ := own_slice HRD.out.2.1.2.1
        subst hSV
        subst hCV
        have HLW : Hid (linesV Pm.zero R = (0, 0, p)) := Lib.hid (by rw [HL.out, List.drop_length]; rfl)
        have HC20 := Lib.hid (n20 wr (tb + 2) tb _ _ p D HRD.out HSM.out HWF.out)
        have HRW : Hid (readP s = if wholeB p = true then ((0, 0), some p) else ((0, 6), none)) := Lib.hid (by rw [HR.out, HLW.out]; rfl)
        clear hlt hk
        generalize hwb : wholeB p = wb at HC20
        have HWB := Lib.hid hwb
        clear hwb
        go_wp2_with fail
        with_reducible refine HC20.out.mono ?_
        rintro _ w7 ⟨rfl, hb7⟩
        have HBX7 : Hid (Bx w7 w.heap.size zs6 25) := Lib.hid (HBXR.out.below hb7)
        have HBW7 : Hid (Below w.heap.size w w7) := Lib.hid (HBW.out.trans (hb7.mono HBW.out.size))
        have HRS7 := Lib.hid (HRD.out.below hb7)
        have c0 := HBX7.out.cell 0
        have c1 := HBX7.out.cell 1
        have c2 := HBX7.out.cell 2
        have c3 := HBX7.out.cell 3
        have c4 := HBX7.out.cell 4
        have c5 := HBX7.out.cell 5
        have z0 := HBX7.out.frz 0
        have z1 := HBX7.out.frz 1
        have z2 := HBX7.out.frz 2
        have z3 := HBX7.out.frz 3
        have z4 := HBX7.out.frz 4
        have z5 := HBX7.out.frz 5
        have d0 := HRS7.out.1.cell 0
        have d1 := HRS7.out.1.cell 1
        have d2 := HRS7.out.1.cell 2
        have d3 := HRS7.out.1.cell 3
        have d4 := HRS7.out.1.cell 4
        have d5 := HRS7.out.1.cell 5
        simp [zs6] at c0 c1 c2 c3 c4 c5
        simp at d0 d1 d2 d3 d4 d5
        clear hb7 HC20
        cases wb with
        | false =>
          have HXR : Hid (readP s = ((0, 6), none)) := Lib.hid (by rw [HRW.out, HWB.out]; rfl)
          go_wp2_with fail
          try simp only [Exit.inBlock, Exit.then]
          refine bodyPost_ret (results_cell3 (P := Tryz.prog) rfl _ _ w.heap.size 25 _ (0, 0) _ rfl (bx_set6 HBX7.out _ _ _ _ _ _).blk Tryz.underlying25 rfl (by kernel_rfl)) rfl ?_
          exact rdp_err2 HXR.out (below_set6 HBW7.out _ _ _ _ _ _) rfl rfl
        | true =>
          have HXR : Hid (readP s = ((0, 0), some p)) := Lib.hid (by rw [HRW.out, HWB.out]; rfl)
          go_wp2_with fail
          try simp only [Exit.inBlock, Exit.then]
          refine bodyPost_ret (results_cell3 (P := Tryz.prog) rfl _ _ w.heap.size 25 _ (0, 0) _ rfl (bx_set6 HBX7.out _ _ _ _ _ _).blk Tryz.underlying25 rfl (by kernel_rfl)) rfl ?_
          exact ⟨below_set6 HBW7.out _ _ _ _ _ _, Or.inr ⟨p, _, _, D, tb + 2, HXR.out, by have := HTB.out; omega, plin_set6 HRS7.out.2.1 (by have := HTB.out; omega) _ _ _ _ _ _, HRS7.out.2.2.1, HSM.out, rfl⟩⟩
  · have HR : Hid (readP s = ((0, Li.rdE s), none)) := Lib.hid (by unfold readP; rw [if_neg hE])
    have e1 : ((Li.rdE s : Int) != 0) = true := by simp; omega
    generalize Li.rdE s = z at HR e1
    have c0 := HBX.out.cell 0
    have c1 := HBX.out.cell 1
    have c2 := HBX.out.cell 2
    have c3 := HBX.out.cell 3
    have c4 := HBX.out.cell 4
    have c5 := HBX.out.cell 5
    have z0 := HBX.out.frz 0
    have z1 := HBX.out.frz 1
    have z2 := HBX.out.frz 2
    have z3 := HBX.out.frz 3
    have z4 := HBX.out.frz 4
    have z5 := HBX.out.frz 5
    simp [zs6] at c0 c1 c2 c3 c4 c5
    clear hE HN HRO HH5
    go_wp2_with fail
    try simp only [Exit.inBlock, Exit.then]
    refine bodyPost_ret (results_cell3 (P := Tryz.prog) rfl _ _ w.heap.size 25 _ (0, 0) _ rfl (bx_set6 HBX.out _ _ _ _ _ _) Tryz.underlying25 rfl (by kernel_rfl)) rfl ?_
    exact rdp_err HR.out (below_set6 HB5.out _ _ _ _ _ _)
end Go.Proofs.YtapdiionikfgpaaGreatDoor
