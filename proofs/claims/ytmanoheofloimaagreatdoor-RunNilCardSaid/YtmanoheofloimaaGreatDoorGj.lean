import Derived.Test.YtmanoheofloimaaGreatDoorRfz
namespace Go.Proofs.YtmanoheofloimaaGreatDoor
open Go.ChangeShapes Go.WideShapes Go.ChangeAt Go.RowKit
set_option linter.unusedVariables false
theorem infoRo : (Tryz.prog.info? 24).map (·.size) = some 2 := by kernel_rfl
/-- the next round where none is left -/
theorem next0 (x : Nat) (w : World) (h : w.cell? ⟨x, 1, none⟩ = some (.slice none 0 0)) (hx : x < w.heap.size) : Calls Tryz.prog 20 #[.pointer (some ⟨x, 0, none⟩)] w fun e w' => e = .returned (.agg #[.bool false, .int .u32 0]) ∧ Below w.heap.size w w' := by
  have c1 : (w.alloc (.cells #[.bool false, .int .u32 0] 24)).cell? ⟨x, 1, none⟩ = some (.slice none 0 0) := by
    rw [cell_same (Below.heap_alloc w _ x hx)]; exact h
  have HB : Hid (Blk ((w.alloc (.cells #[.bool false, .int .u32 0] 24)).setRow w.heap.size #[.bool false, .int .u32 0]) w.heap.size 24 #[.bool false, .int .u32 0]) := Lib.hid (blk_row (Blk.new w 24 _) _)
  clear h
  go_enter Tryz.func20, Tryz.ntmps20
  go_wp2_with fail
  exact bodyPost_ret (results_cell_row rfl _ _ w.heap.size 24 #[.bool false, .int .u32 0] (0, 0) _ rfl (Blk.new w 24 _) Tryz.underlying24 rfl infoRo) rfl ⟨rfl, (Below.refl _ _).alloc (Nat.le_refl _) _⟩
/-- all's function, over the boxed walk and the boxed steps -/
theorem all12 (x : Nat) (n : Int) (w : World) : Calls Tryz.prog 12 #[.pointer (some ⟨x, 0, none⟩), .int .i64 n] w fun e w' => e = .returned (.func (.func 19) #[] #[.pointer (some ⟨w.heap.size + 1, 0, none⟩), .pointer (some ⟨w.heap.size, 0, none⟩)]) ∧ w' = (w.alloc (.cells #[.pointer (some ⟨x, 0, none⟩)] 80)).alloc (.cells #[.int .i64 n] 3) := by
  go_enter Tryz.func12, Tryz.ntmps12
  go_wp2_with fail
  go_ret
  exact ⟨by simp, rfl⟩
end Go.Proofs.YtmanoheofloimaaGreatDoor
namespace Go.Proofs.YtmanoheofloimaaGreatDoor
open Go.ChangeShapes Go.WideShapes Go.ChangeAt Go.RowKit
set_option linter.unusedVariables false
set_option maxRecDepth 20000
theorem eqSt0 (W : World) : (Op.equalIn 10000 34 (.agg st0.L.toArray) (.agg st0.L.toArray)).run Tryz.prog W = .ok true W := by kernel_rfl
theorem law3n (K9 : ∀ W, Calls Tryz.prog 9 #[] W fun e w' => e = .returned (.bool true) ∧ Below W.heap.size W w') (r : Bool) (x : Nat) (n : Int) (w : World) :
    Calls Tryz.prog 3 #[.agg #[.bool r, .int .u32 (x : Int)], .int .i64 n, .bool false] w fun e w' => e = .returned (.bool true) ∧ Below w.heap.size w w' := by
  have hEq := eqSt0
  have hzS := zSt
  have hNM := Lib.hid noM0
  have KS := Lib.hid nState
  have KP := Lib.hid nStep
  have hD1 : dn0.L.toArray.all (·.oneCell') = true := by kernel_rfl
  have hDn : (Tryz.prog.info? 39).map (·.size) = some dn0.L.toArray.size := info41s
  have hzD : ∀ W, (zeroValue 39).run Tryz.prog W = .ok (.agg dn0.L.toArray) W := zDn
  obtain ⟨DA, hDA⟩ : ∃ DA, dn0.L.toArray = DA := ⟨_, rfl⟩
  rw [hDA] at hD1 hDn hzD KP
  have HI := Lib.hid hDn; have H1 := Lib.hid hD1
  obtain ⟨ZA, hZA⟩ : ∃ ZA, st0.L.toArray = ZA := ⟨_, rfl⟩
  rw [hZA] at hEq hzS KS
  clear hDA hZA hDn hD1
  have HK9 := Lib.hid K9
  clear K9
  go_enter Tryz.func3, Tryz.ntmps3
  go_wp2_with fail
  refine (KP.out _ none r x (fun W _ => hNM.out W)).mono ?_
  rintro _ w2 ⟨rfl, hb2⟩
  rw [World.size_alloc] at hb2
  have HB2 := Lib.hid hb2
  have hz2 : w.heap.size + 1 ≤ w2.heap.size := by have := hb2.size; simpa using this
  have c24 : Blk w2 w.heap.size 24 #[.bool r, .int .u32 (x : Int)] := Blk.below (Blk.new w 24 _) hb2 (Nat.lt_succ_self _)
  have HBL := Lib.hid c24
  have HDB := Lib.hid (Blk.new w2 39 DA)
  clear hb2 c24
  have HB3 : Hid (Below w.heap.size w ((w2.alloc (.cells DA 39)).setRow w2.heap.size DA)) := Lib.hid (below_setRow ((((Below.refl _ w).alloc (Nat.le_refl _) _).trans (HB2.out.mono (Nat.le_succ _))).alloc (by omega) _) (by omega) _)
  have HC3 : Hid (Blk ((w2.alloc (.cells DA 39)).setRow w2.heap.size DA) w.heap.size 24 #[.bool r, .int .u32 (x : Int)]) := Lib.hid ((only_row _ _ _).blk (by omega) (HBL.out.alloc _))
  go_wp2_with first
    | (refine wpList_store_row rfl 39 (.tmp 8) (.tmp 19) rfl w2.heap.size DA rfl rfl 39 DA HDB.out HI.out rfl H1.out ?_
       generalize ((w2.alloc (.cells DA 39)).setRow w2.heap.size DA) = W3 at HB3 HC3 ⊢
       clear HDB HBL HB2)
    | (refine wpList_load_row rfl 24 (.tmp 3) rfl w.heap.size rfl 24 _ (0, 0) _ HC3.out Tryz.underlying24 rfl infoRo ?_)
  refine (nRun _ none _ n (hNM.out _)).mono ?_
  rintro _ _ ⟨rfl, rfl⟩
  go_wp2_with fail
  refine (KS.out _ none (fun W _ => hNM.out W)).mono ?_
  rintro _ w4 ⟨rfl, hb4⟩
  have HB4 : Hid (Below w.heap.size w w4) := Lib.hid ((HB3.out.alloc HB3.out.size _).trans (hb4.mono (by have := HB3.out.size; simp; omega)))
  clear hb4 HB3 HC3
  go_wp2_with fail
  refine (nMemory _ none (hNM.out _)).mono ?_
  rintro _ _ ⟨rfl, rfl⟩
  go_wp2_with fail
  refine (nSteps _ none (hNM.out _)).mono ?_
  rintro _ _ ⟨rfl, rfl⟩
  go_wp2_with fail
  refine (HK9.out _).mono ?_
  rintro _ w5 ⟨rfl, hb5⟩
  have HB5 : Hid (Below w.heap.size w w5) := Lib.hid (HB4.out.trans (hb5.mono HB4.out.size))
  clear hb5 HB4
  go_wp2_with fail
  go_ret
  exact ⟨rfl, HB5.out⟩
theorem law3z (K9 : ∀ W, Calls Tryz.prog 9 #[] W fun e w' => e = .returned (.bool true) ∧ Below W.heap.size W w') (r : Bool) (x : Nat) (n : Int) (w : World) :
    Calls Tryz.prog 3 #[.agg #[.bool r, .int .u32 (x : Int)], .int .i64 n, .bool true] w fun e w' => e = .returned (.bool true) ∧ Below w.heap.size w w' := by
  have hEq := eqSt0
  have hzS := zSt
  have hbM := bMc0
  obtain ⟨MA, hMA⟩ : ∃ MA, (mc none st0 0).toArray = MA := ⟨_, rfl⟩
  have hzM := zMc
  have hm0 : MA[0]? = some (.pointer none) := by rw [← hMA]; rfl
  rw [hMA] at hbM hzM
  have hBM : Blk ((w.alloc (.cells #[.bool r, .int .u32 (x : Int)] 24)).alloc (.cells MA 36)) (w.heap.size + 1) 36 MA := by
    have := Blk.new (w.alloc (.cells #[.bool r, .int .u32 (x : Int)] 24)) 36 MA
    rwa [World.size_alloc] at this
  have hNM : Hid (∀ W, Below (w.heap.size + 2) ((w.alloc (.cells #[.bool r, .int .u32 (x : Int)] 24)).alloc (.cells MA 36)) W → NoM W (some ⟨w.heap.size + 1, 0, none⟩)) := Lib.hid (fun W hW => noM1 _ _ (by rw [(hBM.below hW (by omega)).cell, hm0]))
  clear hMA hm0 hBM
  have KS := Lib.hid nState
  have KP := Lib.hid nStep
  have hD1 : dn0.L.toArray.all (·.oneCell') = true := by kernel_rfl
  have hDn : (Tryz.prog.info? 39).map (·.size) = some dn0.L.toArray.size := info41s
  have hzD : ∀ W, (zeroValue 39).run Tryz.prog W = .ok (.agg dn0.L.toArray) W := zDn
  obtain ⟨DA, hDA⟩ : ∃ DA, dn0.L.toArray = DA := ⟨_, rfl⟩
  rw [hDA] at hD1 hDn hzD KP
  have HI := Lib.hid hDn; have H1 := Lib.hid hD1
  obtain ⟨ZA, hZA⟩ : ∃ ZA, st0.L.toArray = ZA := ⟨_, rfl⟩
  rw [hZA] at hEq hzS KS
  clear hDA hZA hDn hD1
  have HK9 := Lib.hid K9
  clear K9
  have HMB := Lib.hid hbM
  clear hbM
  go_enter Tryz.func3, Tryz.ntmps3
  go_wp2_with (refine wpList_buildE rfl 36 [] rfl MA HMB.out ?_)
  refine (KP.out _ (some ⟨w.heap.size + 1, 0, none⟩) r x (fun W h => hNM.out W (by simpa using h))).mono ?_
  rintro _ w2 ⟨rfl, hb2⟩
  rw [World.size_alloc, World.size_alloc] at hb2
  have HB2 := Lib.hid hb2
  have hz2 : w.heap.size + 2 ≤ w2.heap.size := by have := hb2.size; simpa using this
  have c24 : Blk w2 w.heap.size 24 #[.bool r, .int .u32 (x : Int)] := Blk.below ((Blk.new w 24 _).alloc _) hb2 (by omega)
  have HBL := Lib.hid c24
  have HDB := Lib.hid (Blk.new w2 39 DA)
  clear hb2 c24
  have HB3 : Hid (Below w.heap.size w ((w2.alloc (.cells DA 39)).setRow w2.heap.size DA)) := Lib.hid (below_setRow (((((Below.refl _ w).alloc (Nat.le_refl _) _).alloc (by simp) _).trans (HB2.out.mono (by omega))).alloc (by omega) _) (by omega) _)
  have HC3 : Hid (Blk ((w2.alloc (.cells DA 39)).setRow w2.heap.size DA) w.heap.size 24 #[.bool r, .int .u32 (x : Int)]) := Lib.hid ((only_row _ _ _).blk (by omega) (HBL.out.alloc _))
  have HN3 : Hid (Below (w.heap.size + 2) ((w.alloc (.cells #[.bool r, .int .u32 (x : Int)] 24)).alloc (.cells MA 36)) ((w2.alloc (.cells DA 39)).setRow w2.heap.size DA)) := Lib.hid (below_setRow (HB2.out.alloc (by omega) _) (by omega) _)
  have hz3 : w2.heap.size + 1 ≤ ((w2.alloc (.cells DA 39)).setRow w2.heap.size DA).heap.size := by simp
  go_wp2_with first
    | (refine wpList_store_row rfl 39 (.tmp 8) (.tmp 19) rfl w2.heap.size DA rfl rfl 39 DA HDB.out HI.out rfl H1.out ?_
       generalize ((w2.alloc (.cells DA 39)).setRow w2.heap.size DA) = W3 at HB3 HC3 HN3 hz3 ⊢
       clear HDB HBL HB2)
    | (refine wpList_load_row rfl 24 (.tmp 3) rfl w.heap.size rfl 24 _ (0, 0) _ HC3.out Tryz.underlying24 rfl infoRo ?_)
  refine (nRun _ (some ⟨w.heap.size + 1, 0, none⟩) _ n (hNM.out _ (HN3.out.alloc (by omega) _))).mono ?_
  rintro _ _ ⟨rfl, rfl⟩
  go_wp2_with fail
  refine (KS.out _ (some ⟨w.heap.size + 1, 0, none⟩) (fun W h => hNM.out W ((HN3.out.alloc (by omega) _).trans (h.mono (by simp; omega))))).mono ?_
  rintro _ w4 ⟨rfl, hb4⟩
  have HB4 : Hid (Below w.heap.size w w4) := Lib.hid ((HB3.out.alloc HB3.out.size _).trans (hb4.mono (by have := HB3.out.size; simp; omega)))
  have HN4 : Hid (Below (w.heap.size + 2) ((w.alloc (.cells #[.bool r, .int .u32 (x : Int)] 24)).alloc (.cells MA 36)) w4) := Lib.hid ((HN3.out.alloc (by omega) _).trans (hb4.mono (by simp; omega)))
  clear hb4 HB3 HC3 HN3
  go_wp2_with fail
  refine (nMemory _ _ (hNM.out _ HN4.out)).mono ?_
  rintro _ _ ⟨rfl, rfl⟩
  go_wp2_with fail
  refine (nSteps _ _ (hNM.out _ HN4.out)).mono ?_
  rintro _ _ ⟨rfl, rfl⟩
  go_wp2_with fail
  refine (HK9.out _).mono ?_
  rintro _ w5 ⟨rfl, hb5⟩
  have HB5 : Hid (Below w.heap.size w w5) := Lib.hid (HB4.out.trans (hb5.mono HB4.out.size))
  clear hb5 HB4
  go_wp2_with fail
  go_ret
  exact ⟨rfl, HB5.out⟩
end Go.Proofs.YtmanoheofloimaaGreatDoor
