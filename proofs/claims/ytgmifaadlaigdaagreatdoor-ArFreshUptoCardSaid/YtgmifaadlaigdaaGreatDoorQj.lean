import Derived.Test.YtgmifaadlaigdaaGreatDoorQi
namespace Go.Proofs.YtgmifaadlaigdaaGreatDoor
open Go.ChangeShapes Go.WideShapes Go.ChangeAt Go.RowKit
set_option linter.unusedVariables false
def R35 (w : World) (s : ByteArray) (P : Nat → Nat) (n C : Nat) (rest v names i : Value) (wr : World) : Prop := ∃ (k : Nat) (mf : Nat → Nat), k ≤ C ∧ i = .int .u32 (k : Int) ∧ rest = .string (s.extract (4 + 4 * k) s.size) ∧ names = .string (s.extract (np (bb s) s.size k) s.size) ∧
  IdxOk (bb s) s.size P n k ∧ wr.ownsRow w.heap.size 58 2 v k (icC s mf k) ∧ (∀ i, i < k → mf i < n ∧ P (mf i) = bigN (bb s) (4 + 4 * i)) ∧ Below w.heap.size w wr
set_option maxRecDepth 100000 in
set_option maxHeartbeats 8000000 in
theorem c35 (s : ByteArray) (hs : s.size ≤ 65536) (B n : Nat) (P : Nat → Nat) (w : World) (hm : Mi w B P n) (hn : n ≤ 65536) : Calls Tryz.prog 35 #[.string s, .map (some B)] w (RowsOut s P n w) := by
  have HM : Hid (∀ w', Below w.heap.size w w' → Mi w' B P n) := Lib.hid (fun w' hb => hm.keep (grown_below hb) (by simp))
  clear hm
  by_cases h4 : 4 ≤ s.size
  · have K56 := Lib.hid (c56_yes s h4 (by omega))
    have HBG : Hid (bigN (bb s) 0 < 4294967296) := Lib.hid (by
      unfold bigN
      have := bb_lt s 0; have := bb_lt s (0 + 1); have := bb_lt s (0 + 2); have := bb_lt s (0 + 3)
      omega)
    have HZ4 : Hid ((s.extract 4 s.size).size = s.size - 4) := Lib.hid (ext_size s 4 s.size (Nat.le_refl _))
    have hbg := HBG.out
    obtain ⟨C, hC⟩ : ∃ C, bigN (bb s) 0 = C := ⟨_, rfl⟩
    have HC := Lib.hid hC
    rw [hC] at K56 hbg
    clear hC
    by_cases hcnt : C * 4 ≤ s.size - 4
    · have HCN : Hid (Cnt (bb s) s.size) := Lib.hid ⟨h4, by rw [HC.out]; exact hcnt⟩
      obtain ⟨i0, hi, hz⟩ : ∃ i, Tryz.prog.info? 58 = some i ∧ (i.zero, i.size, i.bytes) = (some (.agg #[.string ⟨#[]⟩, .int .i64 0]), 2, 24) := by
        have h : (Tryz.prog.info? 58).map (fun i => (i.zero, i.size, i.bytes)) = some (some (.agg #[.string ⟨#[]⟩, .int .i64 0]), 2, 24) := by kernel_rfl
        cases hq : Tryz.prog.info? 58 with
        | none => rw [hq] at h; cases h
        | some i => rw [hq] at h; exact ⟨i, rfl, by simpa using h⟩
      simp only [Prod.mk.injEq] at hz
      obtain ⟨hz0, hz1, hz2⟩ := hz
      have HI := Lib.hid hi
      have HZ0 := Lib.hid hz0
      have HZ1 := Lib.hid hz1
      have HZ2 := Lib.hid hz2
      obtain ⟨rst, hrst⟩ : ∃ rst, s.extract 4 s.size = rst := ⟨_, rfl⟩
      rw [hrst] at K56 HZ4
      have hzr : rst.size = s.size - 4 := HZ4.out
      have q1 : decide (IntKind.u64.wrap (rst.size : Int) < (C : Int) * 4) = false := by rw [IntKind.wrap_u64, decide_eq_false_iff_not]; omega
      have hs1 : ∀ W, (Instr.slice 9 (.string rst) (some (.int .u32 (4 * (C : Int)))) none none).run Tryz.prog W = .ok (.string (rst.extract (4 * C) rst.size)) W := fun W => by
        rw [run_slice_string_from_if W 9 rst .u32 (4 * (C : Int)) Tryz.underlying9, if_pos (by omega)]
        congr 2
      have HNM : Hid (rst.extract (4 * C) rst.size = s.extract (4 + 4 * C) s.size) := Lib.hid (by rw [← hrst]; exact ext_tail s 4 (4 * C) (by omega))
      clear hzr
      go_enter Tryz.func35, Tryz.ntmps35
      go_wp2_with fail
      refine (K56.out _).mono ?_
      rintro _ _ ⟨rfl, t, rfl⟩
      go_wp2_with fail
      obtain ⟨w1, hmk, hown0, hgr0⟩ := run_make_own (P := Tryz.prog) (w.drewN t) w.heap.size 23 58 i0 (.agg #[.string ⟨#[]⟩, .int .i64 0]) 2 Tryz.underlying23 hi hz0 hz1 .i64 .u32 C (by rw [hz2]; omega) (by unfold maxLen; omega) (Nat.le_refl _)
      rw [hmk]
      simp only [Result.andThen]
      rw [Oper.upon_value]
      have HO1 := Lib.hid hown0
      have HB1 : Hid (Below w.heap.size w w1) := Lib.hid ((below_drewN (Below.refl _ w) t).trans ⟨hgr0.os, hgr0.tape, hgr0.output, hgr0.size, fun k hk => hgr0.block k hk (by simp)⟩)
      clear hmk hown0 hgr0 hi hz0 hz1 hz2
      go_wp2_with fail
      rw [HNM.out]
      clear HNM hs1 q1
      have HZC : Hid (C ≤ 16384) := Lib.hid (by omega)
      go_loopw [7, 9, 10, 41] (fun rest v names i wr => R35 w s P n C rest v names i wr) (fun _ _ _ i _ => C - (intOf i).toNat)
      case atStart => exact ⟨0, fun _ => 0, Nat.zero_le _, rfl, by rw [← hrst], by rw [np, HC.out], fun i hi => absurd hi (by omega), HO1.out, fun i hi => absurd hi (by omega), HB1.out⟩
      case round =>
        obtain ⟨k, mf, hk, rfl, rfl, rfl, hix, ho, hmf, hb⟩ := hrel
        have HO := Lib.hid ho
        have HIX := Lib.hid hix
        have HMF := Lib.hid hmf
        have HBW := Lib.hid hb
        clear ho hix hmf hb
        by_cases hlt : k < C
        · have HLT := Lib.hid hlt
          have hnp := np_le HCN.out k HIX.out
          have HNI : Hid (¬ IdxOk (bb s) s.size P n (k + 1) → ¬ (Cnt (bb s) s.size ∧ IdxOk (bb s) s.size P n (bigN (bb s) 0))) := Lib.hid (fun h q => h (fun i hi => q.2 i (by rw [HC.out]; omega)))
          have hrz : (s.extract (4 + 4 * k) s.size).size = s.size - (4 + 4 * k) := ext_size s _ _ (Nat.le_refl _)
          have K56' := Lib.hid (c56_yes (s.extract (4 + 4 * k) s.size) (by rw [hrz]; omega) (by rw [hrz]; omega))
          rw [bigN_ext s (4 + 4 * k) (by omega)] at K56'
          have HR2 : Hid ((s.extract (4 + 4 * k) s.size).extract 4 (s.extract (4 + 4 * k) s.size).size = s.extract (4 + 4 * (k + 1)) s.size) := Lib.hid (by rw [ext_tail s _ _ (by omega)]; congr 1)
          obtain ⟨a, ha⟩ : ∃ a, bigN (bb s) (4 + 4 * k) = a := ⟨_, rfl⟩
          have HAA := Lib.hid ha
          have hal : a < 4294967296 := by
            rw [← ha]; unfold bigN
            have := bb_lt s (4 + 4 * k); have := bb_lt s (4 + 4 * k + 1); have := bb_lt s (4 + 4 * k + 2); have := bb_lt s (4 + 4 * k + 3)
            omega
          rw [ha] at K56'
          have HK3 := Lib.hid (key3 (a : Int) (wf_nat a (by omega)))
          obtain ⟨D, hD1, hD2, hD3, hD4⟩ := HM.out wr HBW.out
          have HOD : Hid (∀ t, (wr.drewN t).ownsMap Tryz.prog 3 (plainElem Tryz.prog 3) B n D) := Lib.hid (fun t => hD1.kept (grown_below (below_drewN (Below.refl _ _) t)) (by simp))
          have HBT : Hid (∀ t, Below w.heap.size w (wr.drewN t)) := Lib.hid (fun t => below_drewN HBW.out t)
          have HE3 := Lib.hid hD3
          have HE4 := Lib.hid hD4
          have hnz : (s.extract (np (bb s) s.size k) s.size).size = s.size - np (bb s) s.size k := ext_size s _ _ (Nat.le_refl _)
          have HNZ := Lib.hid hnz
          have HCZ : Hid (∀ o, Fst (s.extract (np (bb s) s.size k) s.size) 0 o → zN (bb s) s.size (np (bb s) s.size k) = np (bb s) s.size k + o) := Lib.hid (fun o h => cut_z s _ o hnp h)
          have HCN2 : Hid (hasB (s.extract (np (bb s) s.size k) s.size) 0 = false → zN (bb s) s.size (np (bb s) s.size k) = s.size) := Lib.hid (fun h => cut_no s _ hnp h)
          have HXX : Hid (∀ o, np (bb s) s.size k + o ≤ s.size → (s.extract (np (bb s) s.size k) s.size).extract 0 o = s.extract (np (bb s) s.size k) (np (bb s) s.size k + o)) := Lib.hid (fun o h => by rw [ext_ext _ _ _ _ _ h]; rfl)
          have HXY : Hid (∀ o, np (bb s) s.size k + (o + 1) ≤ s.size → (s.extract (np (bb s) s.size k) s.size).extract (o + 1) (s.extract (np (bb s) s.size k) s.size).size = s.extract (np (bb s) s.size k + (o + 1)) s.size) := Lib.hid (fun o h => ext_tail s _ _ h)
          have HNP1 : Hid (np (bb s) s.size (k + 1) = zN (bb s) s.size (np (bb s) s.size k) + 1) := Lib.hid rfl
          have hxs : (s.extract (np (bb s) s.size k) s.size).size ≤ 65536 := by omega
          have HST : Hid ((np (bb s) s.size k < zN (bb s) s.size (np (bb s) s.size k) ∧ zN (bb s) s.size (np (bb s) s.size k) < s.size) → (∃ j, j < n ∧ P j = a) → IdxOk (bb s) s.size P n (k + 1)) := Lib.hid (fun h1 h2 => idx_step.mpr ⟨HIX.out, h1, by rw [HAA.out]; exact h2⟩)
          have HSB : Hid (IdxOk (bb s) s.size P n (k + 1) → (np (bb s) s.size k < zN (bb s) s.size (np (bb s) s.size k) ∧ zN (bb s) s.size (np (bb s) s.size k) < s.size) ∧ ∃ j, j < n ∧ P j = a) := Lib.hid (fun h => by have := (idx_step.mp h).2; rw [HAA.out] at this; exact this)
          clear hD1 hD2 hD3 hD4 ha hrz hnz
          generalize s.extract (4 + 4 * k) s.size = rk at *
          generalize rk.extract 4 rk.size = rk2 at *
          obtain ⟨q, hq⟩ : ∃ q, Maps.has D (.int .i64 (a : Int)) = q := ⟨_, rfl⟩
          have HQ := Lib.hid hq
          by_cases hh : hasB (s.extract (np (bb s) s.size k) s.size) 0 = true
          · obtain ⟨o, ho1, ho2⟩ := idx_some hh
            have K53 := Lib.hid (c53_yes (s.extract (np (bb s) s.size k) s.size) 0 o (by omega) ho1 ho2)
            have hol := ho2.1
            have hol2 : np (bb s) s.size k + o < s.size := by rw [HNZ.out] at hol; omega
            have HZZ := Lib.hid (HCZ.out o ho2)
            have HX1 := Lib.hid (HXX.out o (by omega))
            have HX2 := Lib.hid (HXY.out o (by omega))
            have hnxz : ((s.extract (np (bb s) s.size k) s.size).extract 0 o).size = o := by rw [HX1.out, ext_size _ _ _ (by omega)]; omega
            have K55 := Lib.hid (c55 ((s.extract (np (bb s) s.size k) s.size).extract 0 o) (by omega))
            have HEM := Lib.hid (empty_size ((s.extract (np (bb s) s.size k) s.size).extract 0 o))
            rw [hnxz] at HEM
            have HNX : Hid ((s.extract (np (bb s) s.size k) s.size).extract 0 o = s.extract (np (bb s) s.size k) (zN (bb s) s.size (np (bb s) s.size k))) := Lib.hid (by rw [HX1.out, HZZ.out])
            have HBH : Hid ((s.extract (np (bb s) s.size k) s.size).extract (o + 1) (s.extract (np (bb s) s.size k) s.size).size = s.extract (np (bb s) s.size (k + 1)) s.size) := Lib.hid (by rw [HX2.out, HNP1.out, HZZ.out]; rfl)
            clear ho1 ho2 hh HCZ HCN2 HXX HXY HX1 HX2 hol hnxz
            generalize (s.extract (np (bb s) s.size k) s.size).extract 0 o = nx at *
            generalize (s.extract (np (bb s) s.size k) s.size).extract (o + 1) (s.extract (np (bb s) s.size k) s.size).size = bh at *
            generalize s.extract (np (bb s) s.size k) s.size = nms at *
            cases q
            · have HNO : Hid (¬ (Cnt (bb s) s.size ∧ IdxOk (bb s) s.size P n (bigN (bb s) 0))) := Lib.hid (HNI.out (fun h => by
                obtain ⟨_, j, hj1, hj2⟩ := HSB.out h
                have := (HE3.out (a : Int)).mpr ⟨j, hj1, by rw [hj2]⟩
                rw [HQ.out] at this
                cases this))
              go_wp2_with fail
              refine (K56'.out _).mono ?_
              rintro _ _ ⟨rfl, t1, rfl⟩
              have HOD' := Lib.hid (HOD.out t1)
              go_wp2_with (at_lookup; refine wpList_lookup_own_ok_int _ rfl _ _ 66 rfl 3 3 .i64 law3 Tryz.underlying66 Tryz.underlying3 (zero3 _) B n D rfl HOD'.out _ _ rfl HK3.out ?_; intro cc hat hwc)
              refine (K53.out _).mono ?_
              rintro _ _ ⟨rfl, t2, rfl⟩
              have HBW' := Lib.hid (HBT.out (t1 + t2))
              go_wp2_with fail
              go_ret2
              exact Or.inl ⟨HNO.out, rfl, by first | exact HBW'.out | exact HBT.out _⟩
            · by_cases ho0 : o = 0
              · have hem : (nx.toList == []) = true := by rw [HEM.out, decide_eq_true ho0]
                have HNO : Hid (¬ (Cnt (bb s) s.size ∧ IdxOk (bb s) s.size P n (bigN (bb s) 0))) := Lib.hid (HNI.out (fun h => by
                  have := (HSB.out h).1.1
                  rw [HZZ.out] at this
                  omega))
                clear ho0
                go_wp2_with fail
                refine (K56'.out _).mono ?_
                rintro _ _ ⟨rfl, t1, rfl⟩
                have HOD' := Lib.hid (HOD.out t1)
                go_wp2_with (at_lookup; refine wpList_lookup_own_ok_int _ rfl _ _ 66 rfl 3 3 .i64 law3 Tryz.underlying66 Tryz.underlying3 (zero3 _) B n D rfl HOD'.out _ _ rfl HK3.out ?_; intro cc hat hwc)
                refine (K53.out _).mono ?_
                rintro _ _ ⟨rfl, t2, rfl⟩
                have HBW' := Lib.hid (HBT.out (t1 + t2))
                go_wp2_with fail
                go_ret2
                exact Or.inl ⟨HNO.out, rfl, by first | exact HBW'.out | exact HBT.out _⟩
              · have hem : (nx.toList == []) = false := by rw [HEM.out, decide_eq_false ho0]
                obtain ⟨jm, hj1, hj2⟩ := (HE3.out (a : Int)).mp HQ.out
                have HJN := Lib.hid hj1
                have HJP := Lib.hid hj2
                have HJA : Hid (P jm = a) := Lib.hid (by omega)
                have HJP2 : Hid (P jm = bigN (bb s) (4 + 4 * k)) := Lib.hid (by rw [HAA.out]; exact HJA.out)
                have HS2 := Lib.hid (HST.out ⟨by rw [HZZ.out]; omega, by rw [HZZ.out]; exact hol2⟩ ⟨jm, hj1, HJA.out⟩)
                have hzk : k ≤ 16384 := by have := HZC.out; omega
                clear hj1 hj2 ho0
                go_wp2_with fail
                refine (K56'.out _).mono ?_
                rintro _ _ ⟨rfl, t1, rfl⟩
                have HOD' := Lib.hid (HOD.out t1)
                go_wp2_with (at_lookup; refine wpList_lookup_own_ok_int _ rfl _ _ 66 rfl 3 3 .i64 law3 Tryz.underlying66 Tryz.underlying3 (zero3 _) B n D rfl HOD'.out _ _ rfl HK3.out ?_; intro cc hat hwc)
                refine (K53.out _).mono ?_
                rintro _ _ ⟨rfl, t2, rfl⟩
                have HCC : Hid (cc = (jm : Int)) := Lib.hid (by
                  have h := HE4.out jm HJN.out
                  rw [HJP.out] at h
                  rw [h] at hat
                  simp only [DataW.lit.injEq, Lit.int.injEq, true_and] at hat
                  exact hat.symm)
                rw [HCC.out]
                clear hat hwc
                have HW0 : Hid (Below wr.heap.size wr (wr.drewN (t1 + t2))) := Lib.hid (below_drewN (Below.refl _ _) _)
                have HB0 := Lib.hid (HBT.out (t1 + t2))
                have HO0 : Hid ((wr.drewN (t1 + t2)).ownsRow w.heap.size 58 2 u9 k (icC s mf k)) := Lib.hid (own_below HO.out HW0.out)
                go_wp2_with fail
                generalize wr.drewN (t1 + t2) = W0 at *
                have hzW := HB0.out.size
                refine (K55.out _).mono ?_
                rintro _ w4 ⟨rfl, hb4⟩
                have HB4 : Hid (Below W0.heap.size W0 w4) := Lib.hid hb4
                have HO4 := Lib.hid (own_below HO0.out hb4)
                have hz4 := (HB0.out.trans (hb4.mono HB0.out.size)).size
                clear hb4
                go_wp2_with (at_builtin; refine wpList_append_own _ rfl _ _ 23 rfl w.heap.size 58 i0 (.agg #[.string ⟨#[]⟩, .int .i64 0]) 2 24 Tryz.underlying23 HI.out HZ0.out HZ1.out HZ2.out rfl (by decide) _ _ _ rfl (HO4.out.alloc _) ⟨w4.heap.size, 0, none⟩ 1 1 [.string nx, .int .i64 (jm : Int)] rfl rfl (l_cells w4 w4.heap.size rfl [.string nx, .int .i64 (jm : Int)] 58) (fun y hy => by simp at hy; rcases hy with rfl | rfl <;> rfl) (by unfold maxLen; omega) (by omega) (by simp; omega) ?_)
                intro v' w5 hown5 hgrow5 _
                all_goals
                  have HO5 : Hid (w5.ownsRow w.heap.size 58 2 v' (k + 1) (icC s (fun j => if j = k then jm else mf j) (k + 1))) := Lib.hid (by
                    rw [icC, icC_congr (b := mf) (fun j hj => by rw [if_neg (by omega)]), if_pos rfl, ← HNX.out]
                    exact hown5)
                  have HB5 : Hid (Below w.heap.size w w5) := Lib.hid (gr_below ((HB0.out.trans (HB4.out.mono HB0.out.size)).alloc (HB0.out.trans (HB4.out.mono HB0.out.size)).size _) ((own_below HO0.out HB4.out).alloc _) hgrow5 (by have := (HB0.out.trans (HB4.out.mono HB0.out.size)).size; simp; omega))
                  clear hown5 hgrow5
                  go_wp2_with fail
                  go_roundw
                  case rel => exact ⟨k + 1, fun j => if j = k then jm else mf j, HLT.out, by go_num, by rw [HR2.out], by rw [HBH.out], HS2.out, HO5.out, fun i hi => by
                    show (if i = k then jm else mf i) < n ∧ P (if i = k then jm else mf i) = _
                    by_cases e : i = k
                    · rw [if_pos e, e]; exact ⟨HJN.out, HJP2.out⟩
                    · rw [if_neg e]; exact HMF.out i (by omega), HB5.out⟩
                  case measure => simp [intOf]; have := HLT.out; omega
          · have hno : hasB (s.extract (np (bb s) s.size k) s.size) 0 = false := by simpa using hh
            have K53 := Lib.hid (c53_no (s.extract (np (bb s) s.size k) s.size) 0 hno)
            have HZZ := Lib.hid (HCN2.out hno)
            have HNO : Hid (¬ (Cnt (bb s) s.size ∧ IdxOk (bb s) s.size P n (bigN (bb s) 0))) := Lib.hid (HNI.out (fun h => by
              have := (HSB.out h).1.2
              rw [HZZ.out] at this
              omega))
            clear hh hno HCZ HCN2 HXX HXY
            generalize s.extract (np (bb s) s.size k) s.size = nms at *
            cases q
            all_goals
              go_wp2_with fail
              refine (K56'.out _).mono ?_
              rintro _ _ ⟨rfl, t1, rfl⟩
              have HOD' := Lib.hid (HOD.out t1)
              go_wp2_with (at_lookup; refine wpList_lookup_own_ok_int _ rfl _ _ 66 rfl 3 3 .i64 law3 Tryz.underlying66 Tryz.underlying3 (zero3 _) B n D rfl HOD'.out _ _ rfl HK3.out ?_; intro cc hat hwc)
              refine (K53.out _).mono ?_
              rintro _ _ ⟨rfl, t2, rfl⟩
              have HBW' := Lib.hid (HBT.out (t1 + t2))
              go_wp2_with fail
              go_ret2
              exact Or.inl ⟨HNO.out, rfl, by first | exact HBW'.out | exact HBT.out _⟩
        · obtain rfl : k = C := by omega
          have HEM := Lib.hid (empty_size (s.extract (np (bb s) s.size k) s.size))
          have hnp := np_le HCN.out k HIX.out
          have HEQ : Hid (((s.extract (np (bb s) s.size k) s.size).toList == []) = decide (np (bb s) s.size (bigN (bb s) 0) = s.size)) := Lib.hid (by
            rw [HEM.out, HC.out, ext_size s _ _ (Nat.le_refl _), decide_eq_decide]
            omega)
          have HIE : Hid ((s.extract (np (bb s) s.size k) s.size).toList.isEmpty = decide (np (bb s) s.size (bigN (bb s) 0) = s.size)) := Lib.hid (by
            rw [← HEQ.out]
            cases (s.extract (np (bb s) s.size k) s.size).toList <;> rfl)
          have HOK2 : Hid (Cnt (bb s) s.size ∧ IdxOk (bb s) s.size P n (bigN (bb s) 0)) := Lib.hid ⟨HCN.out, by rw [HC.out]; exact HIX.out⟩
          generalize s.extract (np (bb s) s.size k) s.size = nms at *
          go_wp2_with fail
          go_ret2
          exact Or.inr ⟨HOK2.out, _, mf, by rw [← HIE.out]; rfl, by rw [HC.out]; exact HO.out, by rw [HC.out]; exact HMF.out, HBW.out⟩
    · have HNO : Hid (¬ (Cnt (bb s) s.size ∧ IdxOk (bb s) s.size P n (bigN (bb s) 0))) := Lib.hid (fun h => hcnt (by have := h.1.2; rw [HC.out] at this; exact this))
      obtain ⟨rst, hrst⟩ : ∃ rst, s.extract 4 s.size = rst := ⟨_, rfl⟩
      rw [hrst] at K56 HZ4
      have hzr : rst.size = s.size - 4 := HZ4.out
      have q1 : decide (IntKind.u64.wrap (rst.size : Int) < (C : Int) * 4) = true := by rw [IntKind.wrap_u64, decide_eq_true_iff]; omega
      clear hzr
      go_enter Tryz.func35, Tryz.ntmps35
      go_wp2_with fail
      refine (K56.out _).mono ?_
      rintro _ _ ⟨rfl, t, rfl⟩
      go_wp2_with fail
      go_ret2
      exact Or.inl ⟨HNO.out, rfl, below_drewN (Below.refl _ _) _⟩
  · have K56 := Lib.hid (c56_no s (by omega))
    have HNO : Hid (¬ (Cnt (bb s) s.size ∧ IdxOk (bb s) s.size P n (bigN (bb s) 0))) := Lib.hid (fun h => h4 h.1.1)
    go_enter Tryz.func35, Tryz.ntmps35
    go_wp2_with fail
    refine (K56.out _).mono ?_
    rintro _ _ ⟨rfl, rfl⟩
    go_wp2_with fail
    go_ret2
    exact Or.inl ⟨HNO.out, rfl, Below.refl _ _⟩
end Go.Proofs.YtgmifaadlaigdaaGreatDoor
