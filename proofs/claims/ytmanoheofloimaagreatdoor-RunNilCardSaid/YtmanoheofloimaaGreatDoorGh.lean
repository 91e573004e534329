import Derived.Test.YtmanoheofloimaaGreatDoorQmz
namespace Go.Proofs.YtmanoheofloimaaGreatDoor
open Go.ChangeShapes Go.WideShapes Go.ChangeAt Go.RowKit
set_option linter.unusedVariables false
theorem zeroValue64 (w : World) : (zeroValue 86).run Tryz.prog w = .ok (.agg Z) w := by kernel_rfl
theorem Zne : ¬ Z = #[] := fun h => by have := Zsize; rw [h] at this; simp at this
theorem new7 (w : World) : Calls Tryz.prog 30 #[] w fun e w' => e = .returned (.pointer (some ⟨w.heap.size, 0, none⟩)) ∧ Below w.heap.size w w' ∧ w'.heap.size = w.heap.size + 1 ∧ Me w' w.heap.size Z1 := by
  have hz := zeroValue64
  have hne := Zne
  go_enter Tryz.func30, Tryz.ntmps30
  go_wp2_with fail
  go_ret
  exact ⟨rfl, (Below.refl _ _).alloc (Nat.le_refl _) _, by simp, Blk.new _ _ _, Z1size, Z1_0⟩
theorem Me.tag_ {w : World} {b : Nat} {C : Array Value} (h : Me w b C) {i : Nat} (hi : 1 ≤ i) (v : Value) : Me (w.setCell ⟨b, i, none⟩ v) b (C.setIfInBounds i v) :=
  ⟨h.1.set_ _ _, by rw [Array.size_setIfInBounds]; exact h.2.1, by rw [Array.getElem?_setIfInBounds_ne (by omega)]; exact h.2.2⟩
set_option maxHeartbeats 1000000 in
theorem store1 (b at_ n : Nat) (C : Array Value) (w : World) (hm : Me w b C) (hn : n < 4294967296) (ha : at_ + 1 ≤ 65536) (hw : wordB at_ 1 = true) :
    Calls Tryz.prog 49 #[.pointer (some ⟨b, 0, none⟩), .int .u32 (at_ : Int), .int .i64 1, .int .u32 (n : Int)] w fun e w' => e = .returned (.int .i64 0) ∧ Only b w w' ∧ Me w' b (stC C at_ 1 n) := by
  have K := Lib.hid (c30 at_ 1)
  rw [hw] at K
  have KT := Lib.hid hm.there
  have HM := Lib.hid hm
  clear hw hm
  go_enter Tryz.func49, Tryz.ntmps49
  go_wp2_with fail
  refine KT.out.mono ?_
  rintro _ _ ⟨rfl, rfl⟩
  go_wp2_with fail
  refine (K.out _).mono ?_
  rintro _ _ ⟨rfl, rfl⟩
  go_wp2_with fail
  go_loopw [9, 18] (fun _ i wr => SR w b C at_ n 1 i wr) (fun _ i _ => 1 - (intOf i).toNat)
  case atStart => exact ⟨0, by omega, rfl, Only.refl _ _, HM.out⟩
  case round =>
    obtain ⟨k, hk, rfl, ho, hm⟩ := hrel
    have hk4 : k = 0 ∨ k = 1 := by omega
    clear hk
    rcases hk4 with rfl | rfl
    · obtain ⟨v, hv⟩ := hm.at_ (1 + (at_ + 0)) (by omega)
      have hf := hm.1.frozen (1 + (at_ + 0))
      have hv : wr.cell? ⟨b, 1 + at_, none⟩ = some v := hv
      have hf : wr.frozen? ⟨b, 1 + at_, none⟩ = false := hf
      have hi : (at_ : Int) + 0 < 65536 := by omega
      have HO := Lib.hid ho; have HM2 := Lib.hid hm; have HA := Lib.hid ha
      clear ho hm ha HM
      go_wp2_with fail
      go_region
      go_wp2_with fail
      exact ⟨SR.step (k := 0) (by omega) HO.out HM2.out rfl (by unfold bt; simp) rfl, by simp [intOf]⟩
    · obtain ⟨v, hv⟩ := hm.at_ (65537 + at_ / 8) (by omega)
      have hf := hm.1.frozen (65537 + at_ / 8)
      have hi : (at_ : Int) / 8 < 8192 := by omega
      have HO := Lib.hid ho; have HM2 := Lib.hid hm; have HA := Lib.hid ha
      clear ho hm ha HM
      go_wp2_with fail
      go_ret
      exact ⟨rfl, HO.out.set_ _ _, HM2.out.tag_ (by have := HA.out; omega) _⟩
/-- a byte is stored -/
theorem mStore1 (b at_ n : Nat) (B : Nat → Nat) (T : Nat → Bool) (w : World) (hm : Mem w b B T) (hn : n < 4294967296) (hw : at_ < 65536) :
    Calls Tryz.prog 49 #[.pointer (some ⟨b, 0, none⟩), .int .u32 (at_ : Int), .int .i64 1, .int .u32 (n : Int)] w fun e w' => e = .returned (.int .i64 0) ∧ Only b w w' ∧ Mem w' b (stB B at_ 1 n) (stT T at_ false) := by
  obtain ⟨C, hb, r⟩ := hm
  have hm := Mem.me hb r
  refine (store1 b at_ n C w hm hn (by omega) (by unfold wordB; rw [decide_eq_true_eq]; omega)).mono ?_
  rintro _ w' ⟨rfl, ho, hm'⟩
  exact ⟨rfl, ho, _, hm'.1, r.store at_ 1 n (by omega) (by omega)⟩
theorem mNew (w : World) : Calls Tryz.prog 30 #[] w fun e w' => e = .returned (.pointer (some ⟨w.heap.size, 0, none⟩)) ∧ Below w.heap.size w w' ∧ w'.heap.size = w.heap.size + 1 ∧ Mem w' w.heap.size (fun _ => 0) (fun _ => false) := by
  refine (new7 w).mono ?_
  rintro _ w' ⟨rfl, h1, h2, h3⟩
  exact ⟨rfl, h1, h2, Z1, h3.1, Rds.new⟩
end Go.Proofs.YtmanoheofloimaaGreatDoor
namespace Go.Proofs.YtmanoheofloimaaGreatDoor
open Go.ChangeShapes Go.WideShapes Go.ChangeAt Go.RowKit
set_option linter.unusedVariables false
theorem zSt (W : World) : (zeroValue 34).run Tryz.prog W = .ok (.agg st0.L.toArray) W := by kernel_rfl
theorem zDn (W : World) : (zeroValue 39).run Tryz.prog W = .ok (.agg dn0.L.toArray) W := by kernel_rfl
def NoM (w : World) (a : Option Addr) : Prop := Calls Tryz.prog 10 #[.pointer a] w fun e w' => e = .returned (.bool false) ∧ w = w'
theorem noM0 (w : World) : NoM w none := by
  unfold NoM
  go_enter Tryz.func10, Tryz.ntmps10
  go_wp2
  go_ret
  exact ⟨rfl, rfl⟩
theorem noM1 (b : Nat) (w : World) (h : w.cell? ⟨b, 0, none⟩ = some (.pointer none)) : NoM w (some ⟨b, 0, none⟩) := by
  unfold NoM
  go_enter Tryz.func10, Tryz.ntmps10
  go_wp2
  go_ret
  exact ⟨rfl, rfl⟩
theorem isM (b : Nat) (m : Addr) (w : World) (h : w.cell? ⟨b, 0, none⟩ = some (.pointer (some m))) : Calls Tryz.prog 10 #[.pointer (some ⟨b, 0, none⟩)] w fun e w' => e = .returned (.bool true) ∧ w = w' := by
  go_enter Tryz.func10, Tryz.ntmps10
  go_wp2
  go_ret
  exact ⟨rfl, rfl⟩
theorem results_ct {P : Program} {fn : Func} {p r : Tmp} {ty : TypeId} (h : fn.results = #[.cell p ty, .tmp r]) (tmps : Array Value) (w : World) (g : Nat) (t : TypeId) (cs : Array Value) (f1 : Nat × Nat) (d : TypeDesc) (v : Value)
    (hp : tmps.getD p undef = .pointer (some ⟨g, 0, none⟩)) (hg : w.heap[g]? = some (.cells cs t f1))
    (hu : P.underlying ty = some d) (hd : (match d with | .struct _ | .array _ _ => true | _ => false) = true) (hi : (P.info? ty).map (·.size) = some cs.size)
    (hr : tmps.getD r undef = v) :
    (results fn tmps).run P w = .ok (.tuple #[.agg cs, v]) w := by
  have hp' : tmps[p]?.getD undef = .pointer (some ⟨g, 0, none⟩) := by simpa using hp
  have hr' : tmps[r]?.getD undef = v := by simpa using hr
  simp [results, h, hp', hr', asAddr, run_loadVar_row w g t ty cs f1 d hg hu hd hi]
theorem nStep (w : World) (a : Option Addr) (t : Bool) (x : Nat) (h : ∀ W, Below w.heap.size w W → NoM W a) : Calls Tryz.prog 4 #[.pointer a, .agg #[.bool t, .int .u32 (x : Int)]] w fun e w' => e = .returned (.tuple #[.agg dn0.L.toArray, .int .i64 1]) ∧ Below w.heap.size w w' := by
  obtain ⟨DA, hDA⟩ : ∃ DA, dn0.L.toArray = DA := ⟨_, rfl⟩
  have hsD : DA.size = 5 := by rw [← hDA]; rfl
  have h1D : DA.all (·.oneCell') = true := by rw [← hDA]; kernel_rfl
  have hz2 : ∀ W, (zeroValue 39).run Tryz.prog W = .ok (.agg DA) W := by rw [← hDA]; exact zDn
  rw [hDA]
  have hi : (Tryz.prog.info? 39).map (·.size) = some DA.size := by rw [hsD]; exact info41s
  have HI := Lib.hid hi
  have H1 := Lib.hid h1D
  have hb : Blk ((w.alloc (.cells #[.bool t, .int .u32 (x : Int)] 24)).alloc (.cells DA 39)) (w.heap.size + 1) 39 DA := by
    have := Blk.new (w.alloc (.cells #[.bool t, .int .u32 (x : Int)] 24)) 39 DA
    rwa [World.size_alloc] at this
  have HB := Lib.hid hb
  have HBB := Lib.hid (blk_row hb DA)
  have HO : Hid (Below w.heap.size w (((w.alloc (.cells #[.bool t, .int .u32 (x : Int)] 24)).alloc (.cells DA 39)).setRow (w.heap.size + 1) DA)) := Lib.hid (below_setRow (((Below.refl _ _).alloc (Nat.le_refl _) _).alloc (by simp) _) (by omega) _)
  have K := Lib.hid h
  clear h hDA hsD h1D hi hb
  go_enter Tryz.func4, Tryz.ntmps4
  go_wp2_with fail
  refine (K.out _ ?_).mono ?_
  · exact ((Below.refl _ _).alloc (Nat.le_refl _) _).alloc (by simp) _
  rintro _ _ ⟨rfl, rfl⟩
  go_wp2_with (refine wpList_store_row rfl 39 (.tmp 4) (.tmp 12) rfl (w.heap.size + 1) DA rfl rfl 39 DA HB.out HI.out rfl H1.out ?_)
  exact bodyPost_ret (results_ct rfl _ _ (w.heap.size + 1) 39 DA (0, 0) _ _ rfl HBB.out Tryz.underlying39 rfl HI.out rfl) rfl ⟨rfl, HO.out⟩
theorem nRun (w : World) (a : Option Addr) (l : Value) (n : Int) (h : NoM w a) : Calls Tryz.prog 5 #[.pointer a, l, .int .i64 n] w fun e w' => e = .returned (.tuple #[.slice none 0 0, .int .i64 1]) ∧ w = w' := by
  have K := Lib.hid h
  clear h
  go_enter Tryz.func5, Tryz.ntmps5
  go_wp2_with fail
  refine K.out.mono ?_
  rintro _ _ ⟨rfl, rfl⟩
  go_wp2_with fail
  go_ret2
  exact ⟨rfl, rfl⟩
theorem nMemory (w : World) (a : Option Addr) (h : NoM w a) : Calls Tryz.prog 7 #[.pointer a] w fun e w' => e = .returned (.pointer none) ∧ w = w' := by
  have K := Lib.hid h
  clear h
  go_enter Tryz.func7, Tryz.ntmps7
  go_wp2_with fail
  refine K.out.mono ?_
  rintro _ _ ⟨rfl, rfl⟩
  go_wp2_with fail
  go_ret
  exact ⟨rfl, rfl⟩
theorem nSteps (w : World) (a : Option Addr) (h : NoM w a) : Calls Tryz.prog 8 #[.pointer a] w fun e w' => e = .returned (.int .i64 0) ∧ w = w' := by
  have K := Lib.hid h
  clear h
  go_enter Tryz.func8, Tryz.ntmps8
  go_wp2_with fail
  refine K.out.mono ?_
  rintro _ _ ⟨rfl, rfl⟩
  go_wp2_with fail
  go_ret
  exact ⟨rfl, rfl⟩
theorem nState (w : World) (a : Option Addr) (h : ∀ W, Below w.heap.size w W → NoM W a) : Calls Tryz.prog 6 #[.pointer a] w fun e w' => e = .returned (.agg st0.L.toArray) ∧ Below w.heap.size w w' := by
  have hsZ : st0.L.toArray.size = 151 := by rw [List.size_toArray]; exact st0.len
  have h1Z : st0.L.toArray.all (·.oneCell') = true := St.one _
  have hz : ∀ W, (zeroValue 34).run Tryz.prog W = .ok (.agg st0.L.toArray) W := zSt
  obtain ⟨ZA, hZA⟩ : ∃ ZA, st0.L.toArray = ZA := ⟨_, rfl⟩
  rw [hZA] at hsZ h1Z hz ⊢
  have hi : (Tryz.prog.info? 34).map (·.size) = some ZA.size := by rw [hsZ]; exact info32s
  have HI := Lib.hid hi
  have H1 := Lib.hid h1Z
  have hb : Blk (w.alloc (.cells ZA 34)) w.heap.size 34 ZA := Blk.new w 34 ZA
  have HB := Lib.hid hb
  have HBB := Lib.hid (blk_row hb ZA)
  have HO : Hid (Below w.heap.size w ((w.alloc (.cells ZA 34)).setRow w.heap.size ZA)) := Lib.hid (below_setRow ((Below.refl _ _).alloc (Nat.le_refl _) _) (Nat.le_refl _) _)
  have K := Lib.hid h
  clear h hZA hsZ h1Z hi hb
  go_enter Tryz.func6, Tryz.ntmps6
  go_wp2_with fail
  refine (K.out _ ?_).mono ?_
  · exact (Below.refl _ _).alloc (Nat.le_refl _) _
  rintro _ _ ⟨rfl, rfl⟩
  go_wp2_with (refine wpList_store_row rfl 34 (.tmp 2) (.tmp 6) rfl w.heap.size ZA rfl rfl 34 ZA HB.out HI.out rfl H1.out ?_)
  exact bodyPost_ret (results_cell_row rfl _ _ w.heap.size 34 ZA (0, 0) _ rfl HBB.out Tryz.underlying34 rfl HI.out) rfl ⟨rfl, HO.out⟩
end Go.Proofs.YtmanoheofloimaaGreatDoor
