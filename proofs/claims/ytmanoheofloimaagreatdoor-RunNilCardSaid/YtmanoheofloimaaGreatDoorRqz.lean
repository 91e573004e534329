import Derived.Test.YtmanoheofloimaaGreatDoorRtz
import Derived.IntWalk
namespace Go.Proofs.YtmanoheofloimaaGreatDoor
open Go.ChangeShapes Go.WideShapes Go.ChangeAt Go.RowKit
set_option linter.unusedVariables false
set_option maxRecDepth 100000
theorem mc_put (m : Option Addr) (s X : St) (n : Nat) : putA (mc m s n).toArray 1 X.L.toArray.toList = (mc m X n).toArray := by
  have h1 : s.L.length = 151 := s.len
  have h2 : X.L.length = 151 := X.len
  unfold mc
  generalize s.L = S at h1 ⊢
  generalize X.L = T at h2 ⊢
  rw [putA_list]
  refine congrArg List.toArray ?_
  rw [show 1 + T.length = T.length + 1 by omega, List.drop_succ_cons, h2, ← h1, List.drop_left]
  rfl
theorem mc_inc (m : Option Addr) (s : St) (n : Nat) (v : Value) (hv : v = .int .i64 ((n + 1 : Nat) : Int)) : (mc m s n).toArray.setIfInBounds 152 v = (mc m s (n + 1)).toArray := by
  subst hv
  have h1 : s.L.length = 151 := s.len
  unfold mc
  generalize s.L = S at h1 ⊢
  rw [List.setIfInBounds_toArray]
  refine congrArg List.toArray ?_
  rw [show (152 : Nat) = S.length + 1 by omega, List.set_cons_succ, List.set_append_right _ _ (Nat.le_refl _)]
  simp
theorem mc_151 (m : Option Addr) (s : St) (n : Nat) : (mc m s n).toArray[151]? = some (.bool s.halted) := by
  have := mc_1 m s n (147 + 3) (.bool s.halted) (by rw [s.tl]; rfl)
  exact this
theorem mc_152 (m : Option Addr) (s : St) (n : Nat) : (mc m s n).toArray[152]? = some (.int .i64 (n : Int)) := by
  have h1 : s.L.length = 151 := s.len
  unfold mc
  generalize s.L = S at h1 ⊢
  rw [List.getElem?_toArray, show (152 : Nat) = S.length + 1 by omega, List.getElem?_cons_succ, List.getElem?_append_right (Nat.le_refl _)]
  simp
theorem rep_false (n i : Nat) : (Array.replicate n false).getD i false = false := by
  rw [Array.getD_eq_getD_getElem?]
  cases h : (Array.replicate n false)[i]? with
  | none => rfl
  | some v => rw [Array.getElem?_replicate] at h; split at h <;> simp_all
set_option maxHeartbeats 1000000 in
theorem mStep (x b n : Nat) (s X : St) (D : Dn) (tm : Bool) (y : Nat) (M : Nat → Nat) (G : Nat → Bool) (w : World) (hs : s.halted = false) (hn : n < 1000000) (hx : Blk w x 36 (mc (some ⟨b, 0, none⟩) s n).toArray) (hm : Mem w b M G) (hbx : b ≠ x)
    (hD1 : D.L.toArray.all (·.oneCell') = true)
    (KC : ∀ W, Mem W b M G → Calls Tryz.prog 11 #[P b 0, .agg s.L.toArray, .bool tm, .int .u32 (y : Int)] W fun e w' => e = .returned (.tuple #[.agg X.L.toArray, .agg D.L.toArray, .int .i64 0]) ∧ Below W.heap.size W w') :
    Calls Tryz.prog 4 #[.pointer (some ⟨x, 0, none⟩), .agg #[.bool tm, .int .u32 (y : Int)]] w fun e w' => e = .returned (.tuple #[.agg D.L.toArray, .int .i64 0]) ∧ Blk w' x 36 (mc (some ⟨b, 0, none⟩) X (n + 1)).toArray ∧ Mem w' b M G ∧ Only x w w' := by
  have hXn : X.L.length = 151 := X.len
  have hX1 : X.L.toArray.all (·.oneCell') = true := St.one X
  have hDn : D.L.length = 5 := rfl
  have HP := Lib.hid (mc_put (some ⟨b, 0, none⟩) s X (n + 1))
  have HMn : Hid ((mc (some ⟨b, 0, none⟩) s (n + 1)).toArray.size = 153) := Lib.hid (mc_len _ _ _)
  obtain ⟨XL, hXL⟩ : ∃ XL, X.L = XL := ⟨_, rfl⟩
  obtain ⟨DL, hDL⟩ : ∃ DL, D.L = DL := ⟨_, rfl⟩
  obtain ⟨MX, hMX⟩ : ∃ MX, (mc (some ⟨b, 0, none⟩) X (n + 1)).toArray = MX := ⟨_, rfl⟩
  rw [hXL] at hXn hX1 KC HP
  rw [hDL] at hDn hD1 KC
  rw [hMX] at HP
  rw [hMX, hDL]
  have HIX : Hid ((Tryz.prog.info? 34).map (·.size) = some XL.toArray.size) := Lib.hid (by rw [List.size_toArray, hXn]; exact info32s)
  have HID : Hid ((Tryz.prog.info? 39).map (·.size) = some DL.toArray.size) := Lib.hid (by rw [List.size_toArray, hDn]; exact info41s)
  have HXn := Lib.hid hXn; have HDn := Lib.hid hDn; have HXO := Lib.hid hX1; have HDO := Lib.hid hD1
  clear hXL hMX hXn hDn hX1 hD1
  have hz := zDn
  obtain ⟨DA, hDA⟩ : ∃ DA, dn0.L.toArray = DA := ⟨_, rfl⟩
  rw [hDA] at hz
  have HDs : Hid (DA.size = DL.toArray.size) := Lib.hid (by rw [← hDA, List.size_toArray, List.size_toArray, HDn.out]; rfl)
  clear hDA hDL
  have hl := hx.lt
  have hlb := hm.lt
  have hx2 := (hx.alloc (.cells #[.bool tm, .int .u32 (y : Int)] 24)).alloc (.cells DA 39)
  have hm2 : Mem ((w.alloc (.cells #[.bool tm, .int .u32 (y : Int)] 24)).alloc (.cells DA 39)) b M G := (hm.below ((Below.refl _ w).alloc (Nat.le_refl _) _) hlb).below ((Below.refl _ _).alloc (Nat.le_refl _) _) (by rw [World.size_alloc]; omega)
  have K := Lib.hid (isM x ⟨b, 0, none⟩ _ (by rw [hx2.cell]; rfl))
  have HX2 := Lib.hid hx2
  have HM2 := Lib.hid hm2
  have HKC := Lib.hid KC
  have HDD : Hid (Blk ((w.alloc (.cells #[.bool tm, .int .u32 (y : Int)] 24)).alloc (.cells DA 39)) (w.heap.size + 1) 39 DA) := Lib.hid (by
    have := Blk.new (w.alloc (.cells #[.bool tm, .int .u32 (y : Int)] 24)) 39 DA
    rwa [World.size_alloc] at this)
  have HRR : Hid (Blk ((w.alloc (.cells #[.bool tm, .int .u32 (y : Int)] 24)).alloc (.cells DA 39)) w.heap.size 24 #[.bool tm, .int .u32 (y : Int)]) := Lib.hid ((Blk.new w 24 _).alloc _)
  have HO2 : Hid (Only x w ((w.alloc (.cells #[.bool tm, .int .u32 (y : Int)] 24)).alloc (.cells DA 39))) := Lib.hid (((Only.refl x w).alloc _).alloc _)
  clear hx2 hm2 KC
  go_enter Tryz.func4, Tryz.ntmps4
  go_wp2_with fail
  refine K.out.mono ?_
  rintro _ _ ⟨rfl, rfl⟩
  go_wp2_with fail
  rename_i Q' K' hcont
  generalize hW2 : (w.alloc (.cells #[.bool tm, .int .u32 (y : Int)] 24)).alloc (.cells DA 39) = W2 at *
  have hsz2 : W2.heap.size = w.heap.size + 2 := by rw [← hW2]; simp
  refine step3 (x := x) (rb := w.heap.size) (b := b) (rd := w.heap.size + 1) (B := w.heap.size + 2) (SL := s.L) (NL := XL) (DL := DL) (tm := tm) (y := (y : Int)) (MA := (mc (some ⟨b, 0, none⟩) s n).toArray) (RA := #[.bool tm, .int .u32 (y : Int)]) (M := M) (G := G) (w0 := W2) (by omega) (by omega) (by omega) (by omega) (mc_0 _ _ _) (mc_1 _ _ _) (by rw [s.len]; exact info32s) rfl rfl HXn.out HDn.out HXO.out HDO.out HKC.out _ _ _ ?_ ?_
  · exact { sz := rfl, df := rfl
            fx := fun e he => by
              simp only [F3, List.mem_cons, List.not_mem_nil, or_false] at he
              rcases he with rfl | rfl | rfl | rfl <;> rfl
            tv := fun e he q => by rw [rep_false] at q; cases q
            mm := HM2.out, mx := HX2.out, mr := HRR.out
            a6 := fun q => by rw [rep_false] at q; cases q
            a7 := fun q => by rw [rep_false] at q; cases q
            b6 := fun q => by rw [rep_false] at q; cases q
            b7 := fun q => by rw [rep_false] at q; cases q
            o := (Below.refl _ _).drew }
  intro l' a w' hall h
  have f0 := h.fx (0, P x 0) (by simp [F3])
  have f3 := h.fx (3, P w.heap.size 0) (by simp [F3])
  have f4 := h.fx (4, P (w.heap.size + 1) 0) (by simp [F3])
  have f5 := h.fx (5, .int .i64 0) (by simp [F3])
  have f8 := h.tv (21, 8, .int .i64 0) (by simp [T3]) (hall 21 (by decide))
  obtain ⟨r6, C6, f6, hr6, hb6, _, e6⟩ := h.a6 (hall 17 (by decide))
  obtain ⟨r7, C7, f7, hr7, hb7, _, e7⟩ := h.a7 (hall 18 (by decide))
  have e6 := e6 (hall 19 (by decide))
  have e7 := e7 (hall 20 (by decide))
  have hdf := h.df
  have hlit := lit52 a.tmps h.sz
  have hM := h.mm
  have hX := h.mx
  have ho := h.o
  clear h hall
  subst e6 e7
  obtain ⟨tmps, defers⟩ := a
  simp only at f0 f3 f4 f5 f8 f6 f7 hdf hlit
  subst hdf
  rw [f0, f3, f4, f5, f6, f7, f8] at hlit
  clear f0 f3 f4 f5 f6 f7 f8
  generalize tmps.getD 1 undef = v1 at hlit
  generalize tmps.getD 2 undef = v2 at hlit
  generalize tmps.getD 9 undef = v9 at hlit
  generalize tmps.getD 10 undef = v10 at hlit
  generalize tmps.getD 11 undef = v11 at hlit
  generalize tmps.getD 12 undef = v12 at hlit
  generalize tmps.getD 13 undef = v13 at hlit
  generalize tmps.getD 14 undef = v14 at hlit
  generalize tmps.getD 15 undef = v15 at hlit
  generalize tmps.getD 16 undef = v16 at hlit
  generalize tmps.getD 17 undef = v17 at hlit
  generalize tmps.getD 18 undef = v18 at hlit
  generalize tmps.getD 19 undef = v19 at hlit
  generalize tmps.getD 20 undef = v20 at hlit
  generalize tmps.getD 21 undef = v21 at hlit
  generalize tmps.getD 22 undef = v22 at hlit
  generalize tmps.getD 23 undef = v23 at hlit
  generalize tmps.getD 24 undef = v24 at hlit
  generalize tmps.getD 25 undef = v25 at hlit
  generalize tmps.getD 26 undef = v26 at hlit
  generalize tmps.getD 27 undef = v27 at hlit
  generalize tmps.getD 28 undef = v28 at hlit
  generalize tmps.getD 29 undef = v29 at hlit
  generalize tmps.getD 30 undef = v30 at hlit
  generalize tmps.getD 31 undef = v31 at hlit
  generalize tmps.getD 32 undef = v32 at hlit
  generalize tmps.getD 33 undef = v33 at hlit
  generalize tmps.getD 34 undef = v34 at hlit
  generalize tmps.getD 35 undef = v35 at hlit
  generalize tmps.getD 36 undef = v36 at hlit
  generalize tmps.getD 37 undef = v37 at hlit
  generalize tmps.getD 38 undef = v38 at hlit
  generalize tmps.getD 39 undef = v39 at hlit
  generalize tmps.getD 40 undef = v40 at hlit
  generalize tmps.getD 41 undef = v41 at hlit
  generalize tmps.getD 42 undef = v42 at hlit
  generalize tmps.getD 43 undef = v43 at hlit
  generalize tmps.getD 44 undef = v44 at hlit
  generalize tmps.getD 45 undef = v45 at hlit
  generalize tmps.getD 46 undef = v46 at hlit
  generalize tmps.getD 47 undef = v47 at hlit
  generalize tmps.getD 48 undef = v48 at hlit
  generalize tmps.getD 49 undef = v49 at hlit
  generalize tmps.getD 50 undef = v50 at hlit
  generalize tmps.getD 51 undef = v51 at hlit
  subst hlit
  have hD4 : Blk w' (w.heap.size + 1) 39 DA := HDD.out.below ho (by omega)
  have hO : Only x w w' := ⟨fun B h1 h2 => (HO2.out.1 B h1 h2).trans (ho.mono (by omega)), fun g h1 h2 => (ho.block g (by omega)).trans (HO2.out.2 g h1 h2)⟩
  have hr6x : r6 ≠ x := by omega
  have hr7x : r7 ≠ x := by omega
  have hd4x : w.heap.size + 1 ≠ x := by omega
  have hd4b : b ≠ w.heap.size + 1 := by omega
  have h67 : r7 ≠ r6 := fun e => by
    subst e
    have := hb7.symm.trans hb6
    injection this with this
    injection this with _ h2
    exact absurd h2 (by decide)
  have hc1 : w'.cell? ⟨x, 151, none⟩ = some (.bool false) := by rw [hX.cell, mc_151, hs]
  have hc2 : w'.cell? ⟨x, 152, none⟩ = some (.int .i64 (n : Int)) := by rw [hX.cell, mc_152]
  have hfr : w'.frozen? ⟨x, 152, none⟩ = false := hX.frozen _
  have hwr : IntKind.i64.wrap ((n : Int) + 1) = (n : Int) + 1 := Go.IntWalk.i64_in _ (by omega)
  have hX1 := hX.set_ 152 (.int .i64 ((n : Int) + 1))
  rw [mc_inc _ _ _ _ (by simp)] at hX1
  have hO1 := hO.set_ 152 (.int .i64 ((n : Int) + 1))
  have hM1 := hM.far ((Only.refl x w').set_ 152 (.int .i64 ((n : Int) + 1))) hbx
  have hR1 := (((Only.refl x w').set_ 152 (.int .i64 ((n : Int) + 1)))).blk hr6x hb6
  have hR2 := (((Only.refl x w').set_ 152 (.int .i64 ((n : Int) + 1)))).blk hr7x hb7
  have hR3 := (((Only.refl x w').set_ 152 (.int .i64 ((n : Int) + 1)))).blk hd4x hD4
  have HX1 := Lib.hid hX1; have HO1 := Lib.hid hO1; have HM1 := Lib.hid hM1; have HR1 := Lib.hid hR1; have HR2 := Lib.hid hR2; have HR3 := Lib.hid hR3
  clear hX1 hO1 hM1 hR1 hR2 hR3 hX hO hM hb6 hb7 hD4 ho
  obtain ⟨MS, hMS⟩ : ∃ MS, (mc (some ⟨b, 0, none⟩) s (n + 1)).toArray = MS := ⟨_, rfl⟩
  rw [hMS] at HP HMn HX1
  clear hMS
  refine hcont _ _ ?_
  clear hcont HX2 HM2 HRR HDD HO2 HKC K
  go_wp2_with first
    | (refine wpList_load_row rfl 34 (.tmp 6) rfl r6 rfl 34 XL.toArray (0, 0) _ HR1.out Tryz.underlying34 rfl HIX.out ?_)
    | (refine wpList_store_sub rfl 34 (.tmp 50) (.tmp 48) rfl x 1 XL.toArray rfl rfl 36 MS HX1.out HIX.out (by rw [HMn.out, List.size_toArray, HXn.out]; decide) HXO.out ?_
       rw [HP.out]
       generalize w'.setCell ⟨x, 152, none⟩ (.int .i64 ((n : Int) + 1)) = W4 at HX1 HO1 HM1 HR1 HR2 HR3 ⊢
       have HX5 := Lib.hid (blk_row HX1.out MX)
       have HO5 := Lib.hid (HO1.out.trans (only_row W4 x MX))
       have HM5 := Lib.hid (HM1.out.far (only_row W4 x MX) hbx)
       have HR5 := Lib.hid ((only_row W4 x MX).blk hr7x HR2.out)
       have HD5 := Lib.hid ((only_row W4 x MX).blk hd4x HR3.out)
       clear HX1 HO1 HM1 HR1 HR2 HR3
       generalize W4.setRow x MX = W5 at HX5 HO5 HM5 HR5 HD5 ⊢
       have HX6 := Lib.hid ((only_row W5 (w.heap.size + 1) DL.toArray).blk (Ne.symm hd4x) HX5.out)
       have HM6 := Lib.hid (HM5.out.far (only_row W5 (w.heap.size + 1) DL.toArray) hd4b)
       have HD6 := Lib.hid (blk_row HD5.out DL.toArray)
       have HO6 : Hid (Only x w (W5.setRow (w.heap.size + 1) DL.toArray)) := Lib.hid ⟨fun B hB hs => below_setRow (HO5.out.1 B hB hs) (by omega) _, fun g hg hs => ((only_row W5 (w.heap.size + 1) DL.toArray).2 g (by omega) (Nat.lt_of_lt_of_le hs HO5.out.size)).trans (HO5.out.2 g hg hs)⟩)
    | (refine wpList_load_row rfl 39 (.tmp 7) rfl r7 rfl 39 DL.toArray (0, 0) _ HR5.out Tryz.underlying39 rfl HID.out ?_)
    | (refine wpList_store_row rfl 39 (.tmp 4) (.tmp 51) rfl (w.heap.size + 1) DL.toArray rfl rfl 39 DA HD5.out HID.out HDs.out HDO.out ?_)
  exact bodyPost_ret (results_ct rfl _ _ (w.heap.size + 1) 39 DL.toArray (0, 0) _ _ rfl HD6.out Tryz.underlying39 rfl HID.out rfl) rfl ⟨rfl, HX6.out, HM6.out, HO6.out⟩
end Go.Proofs.YtmanoheofloimaaGreatDoor
