import Derived.Test.YtmanoheofloimaaGreatDoorGf
import Derived.Test.YtmanoheofloimaaGreatDoorGg
namespace Go.Proofs.YtmanoheofloimaaGreatDoor
open Go.ChangeShapes Go.WideShapes Go.ChangeAt Go.RowKit
set_option linter.unusedVariables false
set_option maxRecDepth 100000
set_option maxHeartbeats 2000000
def wk0 (mp : Value) (s : St) (x : Nat) : WK := ⟨mp, s, s, ⟨0, 0, 0, 0, 0⟩, x, dn0⟩
def wkz : WK := ⟨.pointer none, st0, st0, ⟨0, 0, 0, 0, 0⟩, 0, dn0⟩
theorem z81 (W : World) : (zeroValue 78).run Tryz.prog W = .ok (.agg wkz.L.toArray) W := by kernel_rfl
theorem info81s : (Tryz.prog.info? 78).map (·.size) = some 314 := by kernel_rfl
theorem b81 (a : Option Addr) (s : St) (x : Nat) : Tryz.prog.built 78 [(0, .pointer a), (1, .agg s.L.toArray), (2, .agg s.L.toArray), (4, .int .u32 (x : Int))] = some (wk0 (.pointer a) s x).L.toArray := by kernel_rfl
theorem b41c (z : Nat) (q : Option Addr) (l c : Nat) : Tryz.prog.built 39 [(0, .int .u32 (z : Int)), (1, .slice q l c)] = some (⟨z, .slice q l c, false, 0, 0⟩ : Dn).L.toArray := by kernel_rfl
theorem one81 (a : Option Addr) (s : St) (x : Nat) : (wk0 (.pointer a) s x).L.toArray.all (·.oneCell') = true := by kernel_rfl
def stepS (s : St) (cause : Nat) (k : WK) : St := if cause = 0 then k.N.put 0 nul else trp (s.put 0 nul) cause
def stepD (cause : Nat) (k : WK) : Dn := if cause = 0 then k.d else ⟨cause, k.d.tc, false, 0, 0⟩
theorem WK.rowN (k : WK) : ∀ j v, k.N.L[j]? = some v → k.L.toArray[152 + j]? = some v := fun j v h => by
  have hj : j < 151 := by
    have := (List.getElem?_eq_some_iff.mp h).1
    rw [St.len] at this
    exact this
  rw [List.getElem?_toArray, k.atN j hj]
  exact h
theorem WK.rowD (k : WK) : ∀ j v, k.d.L[j]? = some v → k.L.toArray[309 + j]? = some v := fun j v h => by
  rw [List.getElem?_toArray, show 309 + j = 303 + (6 + j) by omega, k.atT]
  show (k.i.L ++ (.int .u32 (k.ans : Int) :: k.d.L))[6 + j]? = _
  rw [List.getElem?_append_right (by simp; omega), show 6 + j - k.i.L.length = j + 1 from by simp; omega, List.getElem?_cons_succ]
  exact h
theorem info41len (d : Dn) : (Tryz.prog.info? 39).map (·.size) = some d.L.length := info41s
theorem dn_one (d : Dn) (q : Option Addr) (l c : Nat) (h : d.tc = .slice q l c) : d.L.toArray.all (·.oneCell') = true := by
  simp [Value.oneCell', h]
/-- Step, to the call of attempt -/
theorem c10_run (b : Nat) (s : St) (tm : Bool) (x cause : Nat) (M : Nat → Nat) (T : Nat → Bool) (Pk : WK → Prop) (R : World → Prop) (w : World) (hm : Mem w b M T) (hh : s.halted = false) (hon : (tm && s.on) = false) (hPk : ∀ k', Pk k' → ∃ q l c, k'.d.tc = .slice q l c)
    (K30 : ∀ w1 g, w.heap.size + 3 ≤ g → Below w.heap.size w w1 → Wk w1 g (wk0 (.pointer (some ⟨b, 0, none⟩)) (s.put 0 nul) x) → Calls Tryz.prog 18 #[.pointer (some ⟨g, 0, none⟩)] w1 fun e w' => e = .returned (.int .u32 (cause : Int)) ∧ ∃ k', Pk k' ∧ Wk w' g k' ∧ R w' ∧ (∀ i, w.heap.size ≤ i → i < g → w'.heap[i]? = w1.heap[i]?) ∧ w1.heap.size ≤ w'.heap.size) :
    Calls Tryz.prog 11 #[.pointer (some ⟨b, 0, none⟩), .agg s.L.toArray, .bool tm, .int .u32 (x : Int)] w fun e w' => ∃ k' w2, Pk k' ∧ R w2 ∧ Below w.heap.size w2 w' ∧ e = .returned (.tuple #[.agg (stepS s cause k').L.toArray, .agg (stepD cause k').L.toArray, .int .i64 0]) := by
  have hb81 := b81 (some ⟨b, 0, none⟩) (s.put 0 nul) x
  have h1K := one81 (some ⟨b, 0, none⟩) (s.put 0 nul) x
  have hput : putA s.L.toArray 0 nul.L = (s.put 0 nul).L.toArray := s.putL 0 nul (by decide)
  have hsS : s.L.toArray.size = 151 := by rw [List.size_toArray]; exact s.len
  have hsS0 : (s.put 0 nul).L.toArray.size = 151 := by rw [List.size_toArray]; exact St.len _
  have hsZ : st0.L.toArray.size = 151 := by rw [List.size_toArray]; exact st0.len
  have hsD : dn0.L.toArray.size = 5 := rfl
  have hsW : wkz.L.toArray.size = 314 := by rw [List.size_toArray]; exact wkz.len
  have hsK : (wk0 (.pointer (some ⟨b, 0, none⟩)) (s.put 0 nul) x).L.toArray.size = 314 := by rw [List.size_toArray]; exact WK.len _
  have hz : ∀ W, (zeroValue 34).run Tryz.prog W = .ok (.agg st0.L.toArray) W := z32
  have hz2 : ∀ W, (zeroValue 39).run Tryz.prog W = .ok (.agg dn0.L.toArray) W := z41
  have hz3 : ∀ W, (zeroValue 78).run Tryz.prog W = .ok (.agg wkz.L.toArray) W := z81
  have ht : ∀ W : World, Blk W w.heap.size 34 (s.put 0 nul).L.toArray → W.cell? ⟨w.heap.size, 148, none⟩ = some (.bool s.on) ∧ W.cell? ⟨w.heap.size, 150, none⟩ = some (.bool false) := fun W h => by
    have := Sb.tail (s := s.put 0 nul) h
    rw [← hh]
    exact ⟨this.2.1, this.2.2.2⟩
  have HT := Lib.hid ht
  obtain ⟨SA, hSA⟩ : ∃ SA, s.L.toArray = SA := ⟨_, rfl⟩
  obtain ⟨S0, hS0⟩ : ∃ S0, (s.put 0 nul).L.toArray = S0 := ⟨_, rfl⟩
  obtain ⟨ZA, hZA⟩ : ∃ ZA, st0.L.toArray = ZA := ⟨_, rfl⟩
  obtain ⟨DA, hDA⟩ : ∃ DA, dn0.L.toArray = DA := ⟨_, rfl⟩
  obtain ⟨WZ, hWZ⟩ : ∃ WZ, wkz.L.toArray = WZ := ⟨_, rfl⟩
  obtain ⟨KA, hKA⟩ : ∃ KA, (wk0 (.pointer (some ⟨b, 0, none⟩)) (s.put 0 nul) x).L.toArray = KA := ⟨_, rfl⟩
  rw [hSA] at hput hsS
  rw [hS0] at hput hsS0 hb81 HT
  rw [hZA] at hsZ hz
  rw [hDA] at hsD hz2
  rw [hWZ] at hsW hz3
  rw [hKA] at hsK hb81 h1K
  have HK1 := Lib.hid h1K
  rw [hSA]
  have HK30 := Lib.hid K30
  have HKA := Lib.hid hKA
  have HS0E := Lib.hid hS0
  have HSS := Lib.hid hsS
  have HSS0 := Lib.hid hsS0
  have HSZ := Lib.hid hsZ
  have HSD := Lib.hid hsD
  have HSW := Lib.hid hsW
  have HSK := Lib.hid hsK
  have HB81 := Lib.hid hb81
  have HPUT := Lib.hid hput
  clear ht hSA hS0 hZA hDA hWZ hKA hb81 hput hsS hsS0 hsZ hsD hsW hsK K30 h1K
  have HA0 : Hid (Blk (((w.alloc (.cells SA 34)).alloc (.cells ZA 34)).alloc (.cells DA 39)) w.heap.size 34 SA) := Lib.hid (((Blk.new w 34 SA).alloc _).alloc _)
  have HR0 : Hid (Blk (((w.alloc (.cells SA 34)).alloc (.cells ZA 34)).alloc (.cells DA 39)) (w.heap.size + 1) 34 ZA) := Lib.hid (by
    have := (Blk.new (w.alloc (.cells SA 34)) 34 ZA).alloc (.cells DA 39)
    simpa using this)
  have HQ0 : Hid (Blk (((w.alloc (.cells SA 34)).alloc (.cells ZA 34)).alloc (.cells DA 39)) (w.heap.size + 2) 39 DA) := Lib.hid (by
    have := Blk.new ((w.alloc (.cells SA 34)).alloc (.cells ZA 34)) 39 DA
    simpa using this)
  have HO0 : Hid (Below w.heap.size w (((w.alloc (.cells SA 34)).alloc (.cells ZA 34)).alloc (.cells DA 39))) := Lib.hid ((((Below.refl _ _).alloc (Nat.le_refl _) _).alloc (by simp) _).alloc (by simp; omega) _)
  have HM0 : Hid (Mem (((w.alloc (.cells SA 34)).alloc (.cells ZA 34)).alloc (.cells DA 39)) b M T) := Lib.hid (hm.below HO0.out hm.lt)
  have hsz0 : (((w.alloc (.cells SA 34)).alloc (.cells ZA 34)).alloc (.cells DA 39)).heap.size = w.heap.size + 3 := by simp
  have HSZ0 := Lib.hid hsz0
  clear hm hh hsz0
  go_enter Tryz.func11, Tryz.ntmps11
  go_upto_region 1 with fail
  generalize ((w.alloc (.cells SA 34)).alloc (.cells ZA 34)).alloc (.cells DA 39) = W at *
  go_wp2_with fail
  refine (mLoad b 0 1 M T W HM0.out (by decide)).mono ?_
  rintro _ _ ⟨rfl, rfl⟩
  go_wp2_with fail
  refine (Ca.c46 W).mono ?_
  rintro _ W1 ⟨rfl, hb1⟩
  have HA1 : Hid (Blk W1 w.heap.size 34 SA) := Lib.hid (HA0.out.below hb1 HA0.out.lt)
  have HR1 : Hid (Blk W1 (w.heap.size + 1) 34 ZA) := Lib.hid (HR0.out.below hb1 HR0.out.lt)
  have HQ1 : Hid (Blk W1 (w.heap.size + 2) 39 DA) := Lib.hid (HQ0.out.below hb1 HQ0.out.lt)
  have hsz1 : w.heap.size + 3 ≤ W1.heap.size := by have := hb1.size; rw [HSZ0.out] at this; exact this
  have HSZ1 := Lib.hid hsz1
  have HO1 : Hid (Below w.heap.size w W1) := Lib.hid (HO0.out.trans (hb1.mono (by rw [HSZ0.out]; omega)))
  clear hb1 HA0 HR0 HQ0 HO0 HM0 HSZ0 hsz1
  have HA2 : Hid (Blk (W1.setRow w.heap.size S0) w.heap.size 34 S0) := Lib.hid (blk_row HA1.out _)
  have HR2 : Hid (Blk (W1.setRow w.heap.size S0) (w.heap.size + 1) 34 ZA) := Lib.hid ((only_row W1 w.heap.size S0).blk (by omega) HR1.out)
  have HQ2 : Hid (Blk (W1.setRow w.heap.size S0) (w.heap.size + 2) 39 DA) := Lib.hid ((only_row W1 w.heap.size S0).blk (by omega) HQ1.out)
  have HO2 : Hid (Below w.heap.size w (W1.setRow w.heap.size S0)) := Lib.hid (below_setRow HO1.out (Nat.le_refl _) _)
  have HZ2 : Hid (w.heap.size + 3 ≤ (W1.setRow w.heap.size S0).heap.size) := Lib.hid (by have := HSZ1.out; simpa [World.setRow] using this)
  obtain ⟨ht1, ht2⟩ := HT.out _ HA2.out
  have hput' : putA SA 0 (#[Value.bool nul.g, .int .u32 (nul.a : Int), .int .u8 (nul.p : Int), .int .u8 (nul.y : Int), .int .u8 (nul.e : Int), .int .u16 (nul.b : Int), .int .u16 (nul.t : Int)]).toList = S0 := HPUT.out
  go_upto_region 5 with (refine wpList_store_sub rfl 31 (.tmp 27) (.tmp 25) rfl w.heap.size 0 #[.bool nul.g, .int .u32 (nul.a : Int), .int .u8 (nul.p : Int), .int .u8 (nul.y : Int), .int .u8 (nul.e : Int), .int .u16 (nul.b : Int), .int .u16 (nul.t : Int)] rfl rfl 34 SA HA1.out info29s (by rw [HSS.out]; decide) (arr_all nul) ?_; rw [hput'])
  clear hput' HA1 HR1 HQ1 HO1 HSZ1
  generalize W1.setRow w.heap.size S0 = W2 at *
  go_upto_region 7 with fail
  go_cut [36] from 32 to 36 (fun c wx => c = Value.bool false ∧ wx = W2)
  case first =>
    cases tm
    · go_wp2_with fail
      go_meet
      exact ⟨rfl, rfl⟩
    · have hon' : s.on = false := by simpa using hon
      rw [hon'] at ht1
      go_wp2_with fail
      go_meet
      exact ⟨rfl, rfl⟩
  case rest =>
  obtain ⟨rfl, rfl⟩ := hcut
  have HB1 := Blk.new wc 78 WZ
  have hW3 : Blk ((wc.alloc (.cells WZ 78)).setRow wc.heap.size KA) wc.heap.size 78 KA := blk_row HB1 _
  have HW3 : Hid (Wk ((wc.alloc (.cells WZ 78)).setRow wc.heap.size KA) wc.heap.size (wk0 (.pointer (some ⟨b, 0, none⟩)) (s.put 0 nul) x)) := Lib.hid (by unfold Wk; rw [HKA.out]; exact hW3)
  have HO3 : Hid (Below w.heap.size w ((wc.alloc (.cells WZ 78)).setRow wc.heap.size KA)) := Lib.hid (below_setRow (HO2.out.alloc (by have := HZ2.out; omega) _) (by have := HZ2.out; omega) _)
  have HA3 : Hid (Blk ((wc.alloc (.cells WZ 78)).setRow wc.heap.size KA) w.heap.size 34 S0) := Lib.hid ((only_row _ wc.heap.size KA).blk (by have := HZ2.out; omega) (HA2.out.alloc _))
  have HR3 : Hid (Blk ((wc.alloc (.cells WZ 78)).setRow wc.heap.size KA) (w.heap.size + 1) 34 ZA) := Lib.hid ((only_row _ wc.heap.size KA).blk (by have := HZ2.out; omega) (HR2.out.alloc _))
  have HQ3 : Hid (Blk ((wc.alloc (.cells WZ 78)).setRow wc.heap.size KA) (w.heap.size + 2) 39 DA) := Lib.hid ((only_row _ wc.heap.size KA).blk (by have := HZ2.out; omega) (HQ2.out.alloc _))
  have HZ3 : Hid (wc.heap.size < ((wc.alloc (.cells WZ 78)).setRow wc.heap.size KA).heap.size) := Lib.hid HW3.out.lt
  have HBB := Lib.hid HB1
  clear HB1 hW3
  go_upto_region 10 with (first
    | (refine wpList_load_row rfl 34 (.tmp 5) rfl w.heap.size rfl 34 S0 (0, 0) _ HA2.out Tryz.underlying34 rfl (by rw [info32s, HSS0.out]) ?_)
    | (refine wpList_buildE rfl 78 [(0, .tmp 40), (1, .tmp 41), (2, .tmp 42), (4, .tmp 43)] rfl KA ?_ ?_; exact HB81.out)
    | (refine wpList_store_row rfl 78 (.tmp 13) (.tmp 44) rfl wc.heap.size KA rfl rfl 78 WZ HBB.out (by rw [info81s, HSK.out]) (by rw [HSW.out, HSK.out]) HK1.out ?_))
  have hg3 : w.heap.size + 3 ≤ wc.heap.size := HZ2.out
  generalize hW : (wc.alloc (.cells WZ 78)).setRow wc.heap.size KA = W3 at *
  obtain ⟨g, hg⟩ : ∃ g, wc.heap.size = g := ⟨_, rfl⟩
  rw [hg] at HW3 HZ3 hg3
  go_wp2_with fail
  refine (HK30.out W3 g hg3 HO3.out HW3.out).mono ?_
  rintro _ W4 ⟨rfl, k', hk', hw4, hr4, hkeep, hsz4⟩
  have HK4 := Lib.hid hw4
  have HR4' := Lib.hid hr4
  have HPK := Lib.hid hk'
  have HA4 : Hid (Blk W4 w.heap.size 34 S0) := Lib.hid ((hkeep _ (by omega) (by omega)).trans HA3.out)
  have HR4 : Hid (Blk W4 (w.heap.size + 1) 34 ZA) := Lib.hid ((hkeep _ (by omega) (by omega)).trans HR3.out)
  have HQ4 : Hid (Blk W4 (w.heap.size + 2) 39 DA) := Lib.hid ((hkeep _ (by omega) (by omega)).trans HQ3.out)
  have hlt : w.heap.size + 3 ≤ W4.heap.size := by have := hw4.lt; omega
  have HLT := Lib.hid hlt
  have HG := Lib.hid hg3
  clear hw4 hr4 hkeep hsz4 hlt HA3 HR3 HQ3 HO3 HZ3 HW3 HBB HA2 HR2 HQ2 HO2 HZ2 ht1 ht2 HK30 hW hg hg3 hk'
  obtain ⟨tq, tl, tcc, htc⟩ := hPk k' HPK.out
  clear hPk
  by_cases hc : cause = 0
  · subst hc
    go_upto_region 13 with fail
    go_wp2_with fail
    refine (Ca.c46 W4).mono ?_
    rintro _ W5 ⟨rfl, hb5⟩
    have hG5 : Wk W5 g k' := HK4.out.below hb5 HK4.out.lt
    have HG5 := Lib.hid hG5
    have HP6 := Lib.hid (k'.putN_L 0 nul (by decide))
    have HG6 : Hid (Blk (W5.setRow g (k'.putN 0 nul).L.toArray) g 78 (k'.putN 0 nul).L.toArray) := Lib.hid (blk_row hG5 _)
    have HR6 : Hid (Blk (W5.setRow g (k'.putN 0 nul).L.toArray) (w.heap.size + 1) 34 ZA) := Lib.hid ((only_row W5 g _).blk (by have := HG.out; omega) (HR4.out.below hb5 HR4.out.lt))
    have HQ6 : Hid (Blk (W5.setRow g (k'.putN 0 nul).L.toArray) (w.heap.size + 2) 39 DA) := Lib.hid ((only_row W5 g _).blk (by have := HG.out; omega) (HQ4.out.below hb5 HQ4.out.lt))
    have HO6 : Hid (Below w.heap.size W4 (W5.setRow g (k'.putN 0 nul).L.toArray)) := Lib.hid (below_setRow (hb5.mono (by have := HLT.out; omega)) (by have := HG.out; omega) _)
    have hput' : putA k'.L.toArray 152 (#[Value.bool nul.g, .int .u32 (nul.a : Int), .int .u8 (nul.p : Int), .int .u8 (nul.y : Int), .int .u8 (nul.e : Int), .int .u16 (nul.b : Int), .int .u16 (nul.t : Int)]).toList = (k'.putN 0 nul).L.toArray := HP6.out
    have hk6 : ∀ j v, (k'.N.put 0 nul).L[j]? = some v → (k'.putN 0 nul).L.toArray[152 + j]? = some v := (k'.putN 0 nul).rowN
    have hk7 : ∀ j v, k'.d.L[j]? = some v → (k'.putN 0 nul).L.toArray[309 + j]? = some v := (k'.putN 0 nul).rowD
    have HD1 := Lib.hid (dn_one k'.d tq tl tcc htc)
    have HDL : Hid (k'.d.L.length = 5) := Lib.hid rfl
    have hlen : k'.L.toArray.size = 314 := by rw [List.size_toArray]; exact k'.len
    have HLEN := Lib.hid hlen
    have HI4 := Lib.hid (info41len k'.d)
    have HE1 : Hid (stepS s 0 k' = k'.N.put 0 nul) := Lib.hid rfl
    have HE2 : Hid (stepD 0 k' = k'.d) := Lib.hid rfl
    obtain ⟨DL, hDL⟩ : ∃ DL, k'.d.L = DL := ⟨_, rfl⟩
    obtain ⟨NL, hNL⟩ : ∃ NL, (k'.N.put 0 nul).L = NL := ⟨_, rfl⟩
    obtain ⟨KL, hKL⟩ : ∃ KL, (k'.putN 0 nul).L.toArray = KL := ⟨_, rfl⟩
    have hNlen : NL.length = 151 := by rw [← hNL]; exact St.len _
    have hN1 : NL.toArray.all (·.oneCell') = true := by rw [← hNL]; exact St.one _
    rw [hKL] at HG6 HR6 HQ6 HO6 hput' hk6 hk7
    rw [hNL] at hk6
    rw [hDL] at hk7 HD1 HDL HI4
    have HK6 := Lib.hid hk6
    have HK7 := Lib.hid hk7
    have HNL := Lib.hid hNlen
    have HN1 := Lib.hid hN1
    have HEN := Lib.hid hNL
    have HED := Lib.hid hDL
    clear hk6 hk7 hNlen hN1 hNL hDL hKL hlen hb5 hG5
    go_upto_region 14 with (refine wpList_store_sub rfl 31 (.tmp 59) (.tmp 56) rfl g 152 #[.bool nul.g, .int .u32 (nul.a : Int), .int .u8 (nul.p : Int), .int .u8 (nul.y : Int), .int .u8 (nul.e : Int), .int .u16 (nul.b : Int), .int .u16 (nul.t : Int)] rfl rfl 78 k'.L.toArray HG5.out info29s (by rw [HLEN.out]; decide) (arr_all nul) ?_; rw [hput'])
    generalize W5.setRow g KL = W6 at *
    have hgo := HG.out
    refine tail14 g (w.heap.size + 1) (w.heap.size + 2) w.heap.size W4 KL ZA DA NL DL _ _ _ (by omega) (by omega) (by omega) (by omega) (by omega) HNL.out HDL.out HN1.out HD1.out HK6.out HK7.out rfl rfl rfl rfl rfl HG6.out HR6.out HSZ.out HQ6.out HSD.out HO6.out ?_
    intro a' w' df' q8 q9 q10 b8 b9 ob
    refine ‹∀ (a : Act) (w : World), Code.wp Tryz.prog Code.ret _ a w → _› a' w' ?_
    go_wp2_with fail
    exact bodyPost_ret (results_cct (fn := Tryz.f11) (r := 10) rfl _ _ (w.heap.size + 1) (w.heap.size + 2) _ _ NL.toArray DL.toArray _ _ _ _ _ q8 b8 Tryz.underlying34 rfl (by rw [info32s, List.size_toArray, HNL.out]) q9 b9 Tryz.underlying39 rfl (by rw [info41s, List.size_toArray, HDL.out]) q10) df' ⟨k', W4, HPK.out, HR4'.out, ob, by rw [HE1.out, HE2.out, HEN.out, HED.out]⟩
  · have hk310 : k'.L.toArray[309 + 1]? = some (.slice tq tl tcc) := k'.rowD 1 (.slice tq tl tcc) (by show some k'.d.tc = _; rw [htc])
    have HK310 := Lib.hid hk310
    have HE1 : Hid (stepS s cause k' = trp (s.put 0 nul) cause) := Lib.hid (if_neg hc)
    have he2 : stepD cause k' = ⟨cause, k'.d.tc, false, 0, 0⟩ := if_neg hc
    rw [htc] at he2
    have HE2 := Lib.hid he2
    have hkA := b41c cause tq tl tcc
    have hD1 := dn_one ⟨cause, .slice tq tl tcc, false, 0, 0⟩ tq tl tcc rfl
    have hDL : (⟨cause, .slice tq tl tcc, false, 0, 0⟩ : Dn).L.length = 5 := rfl
    have K29 : ∀ W, Calls Tryz.prog 17 #[.agg S0, .int .u32 (cause : Int)] W fun e w' => e = .returned (.agg (trp (s.put 0 nul) cause).L.toArray) ∧ Below W.heap.size W w' := fun W => by rw [← HS0E.out]; exact c29 (s.put 0 nul) cause W
    obtain ⟨NL, hNL⟩ : ∃ NL, (trp (s.put 0 nul) cause).L = NL := ⟨_, rfl⟩
    obtain ⟨DL, hDL'⟩ : ∃ DL, (⟨cause, .slice tq tl tcc, false, 0, 0⟩ : Dn).L = DL := ⟨_, rfl⟩
    have hNlen : NL.length = 151 := by rw [← hNL]; exact St.len _
    have hN1 : NL.toArray.all (·.oneCell') = true := by rw [← hNL]; exact St.one _
    rw [hNL] at K29
    rw [hDL'] at hkA hD1 hDL
    have HKB := Lib.hid hkA
    have HD1 := Lib.hid hD1
    have HDL := Lib.hid hDL
    have HNL := Lib.hid hNlen
    have HN1 := Lib.hid hN1
    have HEN := Lib.hid hNL
    have HED := Lib.hid hDL'
    have H29 := Lib.hid K29
    have HG4 : Hid (Blk W4 g 78 k'.L.toArray) := Lib.hid HK4.out
    obtain ⟨KL, hKL⟩ : ∃ KL, k'.L.toArray = KL := ⟨_, rfl⟩
    rw [hKL] at HG4 HK310
    clear hk310 he2 hkA hD1 hDL hNlen hN1 hNL hDL' K29 hKL
    have hci : ¬ (cause : Int) = 0 := by omega
    have hcb : ((cause : Int) != 0) = true := by simp [hc]
    go_upto_region 12 with fail
    have hgo := HG.out
    refine tail12 g w.heap.size (w.heap.size + 1) (w.heap.size + 2) w.heap.size cause (.slice tq tl tcc) W4 S0 KL ZA DA NL DL _ _ _ (by omega) (by omega) (by omega) (by omega) (by omega) (by omega) (by omega) HNL.out HDL.out HN1.out HD1.out HSS0.out HK310.out HKB.out H29.out rfl rfl rfl rfl rfl rfl rfl HA4.out HG4.out HR4.out HSZ.out HQ4.out HSD.out (Below.refl _ _) ?_
    intro a' w' df' q8 q9 q10 b8 b9 ob
    refine ‹∀ (a : Act) (w : World), Code.wp Tryz.prog Code.ret _ a w → _› a' w' ?_
    go_wp2_with fail
    exact bodyPost_ret (results_cct (fn := Tryz.f11) (r := 10) rfl _ _ (w.heap.size + 1) (w.heap.size + 2) _ _ NL.toArray DL.toArray _ _ _ _ _ q8 b8 Tryz.underlying34 rfl (by rw [info32s, List.size_toArray, HNL.out]) q9 b9 Tryz.underlying39 rfl (by rw [info41s, List.size_toArray, HDL.out]) q10) df' ⟨k', W4, HPK.out, HR4'.out, ob, by rw [HE1.out, HE2.out, HEN.out, HED.out]⟩
end Go.Proofs.YtmanoheofloimaaGreatDoor
