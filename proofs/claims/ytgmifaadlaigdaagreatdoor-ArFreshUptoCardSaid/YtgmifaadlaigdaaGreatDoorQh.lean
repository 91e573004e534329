import Derived.Test.YtgmifaadlaigdaaGreatDoorQg
namespace Go.Proofs.YtgmifaadlaigdaaGreatDoor
open Go.ChangeShapes Go.WideShapes Go.ChangeAt Go.RowKit
set_option linter.unusedVariables false
theorem int_ne {a b : Int} (h : a ≠ b) : (Lit.int .i64 a) ≠ .int .i64 b := fun e => h (by injection e)
/-- the map of the places: what stands at each, its number -/
def Mi (w : World) (B : Nat) (f : Nat → Nat) (k : Nat) : Prop :=
  ∃ D : DataW Unit, w.ownsMap Tryz.prog 3 (plainElem Tryz.prog 3) B k D ∧ Maps.IsMap D ∧ (∀ a : Int, Maps.has D (.int .i64 a) = true ↔ ∃ j, j < k ∧ (f j : Int) = a) ∧ ∀ j, j < k → D.atKey (.int .i64 (f j : Int)) (.lit (.int .i64 0)) = .lit (.int .i64 (j : Int))
theorem Mi.keep {w w' : World} {B : Nat} {f : Nat → Nat} {k : Nat} {row : Option Nat} (h : Mi w B f k) (hg : w.grownBy w' row) (hn : some B ≠ row) : Mi w' B f k := by
  obtain ⟨D, h1, h2⟩ := h
  exact ⟨D, h1.kept hg hn, h2⟩
theorem Mn.keep {w w' : World} {B : Nat} {g : Nat → ByteArray} {k : Nat} {row : Option Nat} (h : Mn w B g k) (hg : w.grownBy w' row) (hn : some B ≠ row) : Mn w' B g k := by
  obtain ⟨D, h1, h2⟩ := h
  exact ⟨D, h1.kept hg hn, h2⟩
theorem mi_zero (w : World) (f : Nat → Nat) : Mi (w.alloc (.map #[] 0)) w.heap.size f 0 :=
  ⟨.map [], World.ownsMap_made w _ _ _, Maps.isMap_empty, fun s => ⟨(fun h => by cases h), (fun ⟨j, hj, _⟩ => absurd hj (by omega))⟩, fun j hj => absurd hj (by omega)⟩
theorem mi_put {w' : World} {B : Nat} {f : Nat → Nat} {k : Nat} {D : DataW Unit} {a : Nat} (ha : f k = a) (hd : ∀ j, j < k → f j ≠ f k) (h2 : Maps.IsMap D) (h3 : ∀ a : Int, Maps.has D (.int .i64 a) = true ↔ ∃ j, j < k ∧ (f j : Int) = a)
    (h4 : ∀ j, j < k → D.atKey (.int .i64 (f j : Int)) (.lit (.int .i64 0)) = .lit (.int .i64 (j : Int)))
    (h1 : w'.ownsMap Tryz.prog 3 (plainElem Tryz.prog 3) B (k + 1) (D.put (.int .i64 (a : Int)) (.lit (.int .i64 (k : Int))))) : Mi w' B f (k + 1) := by
  subst ha
  refine ⟨_, h1, h2.put _ _, fun t => ?_, fun j hj => ?_⟩
  · by_cases ht : t = (f k : Int)
    · subst ht
      rw [Maps.has_put_same h2 (show WideAt.IsKeyLit (.int _ _) from trivial)]
      exact ⟨fun _ => ⟨k, by omega, rfl⟩, fun _ => rfl⟩
    · rw [Maps.has_put_other (int_ne ht), h3 t]
      exact ⟨fun ⟨j, hj, e⟩ => ⟨j, by omega, e⟩, fun ⟨j, hj, e1⟩ => by
        by_cases hjk : j = k
        · subst hjk; exact absurd e1.symm ht
        · exact ⟨j, by omega, e1⟩⟩
  · by_cases hjk : j = k
    · subst hjk
      exact Maps.atKey_put_same h2 (show WideAt.IsKeyLit (.int _ _) from trivial) _ _
    · have hne : (f j : Int) ≠ (f k : Int) := fun e => hd j (by omega) (by omega)
      rw [Maps.atKey_put_other (int_ne hne)]
      exact h4 j (by omega)
/-- the cells of so many members -/
def mcC (g : Nat → Pc) (sl : Nat → Value) : Nat → List Value
  | 0 => []
  | k + 1 => mcC g sl k ++ [.string (nmS (g k).nm), sl k]
theorem mcC_congr {g : Nat → Pc} {s t : Nat → Value} : ∀ {k : Nat}, (∀ j, j < k → s j = t j) → mcC g s k = mcC g t k
  | 0, _ => rfl
  | k + 1, h => by rw [mcC, mcC, mcC_congr (fun j hj => h j (by omega)), h k (by omega)]
/-- a slice of a text's bytes, in a row of its own -/
def Sl (B : Nat) (w : World) (s : ByteArray) (v : Value) : Prop := ∃ b c, v = .slice (some ⟨b, 0, none⟩) s.size c ∧ s.size ≤ c ∧ Hb w b s ∧ B ≤ b ∧ c ≤ maxLen ∧ ∃ cs fr, w.heap[b]? = some (.cells cs 5 fr) ∧ cs.size = c ∧ c ≤ fr.1 ∧ ∀ j, j < c → ∃ x : Nat, cs[j]? = some (.int .u8 (x : Int))
theorem Sl.keep {B : Nat} {w w' : World} {s : ByteArray} {v : Value} (h : Sl B w s v) (hk : K5 w w') : Sl B w' s v := by
  obtain ⟨b, c, h1, h2, h3, h4, h5, cs, fr, h6, h7⟩ := h
  exact ⟨b, c, h1, h2, h3.keep hk, h4, h5, cs, fr, hk b cs fr h6, h7⟩
/-- what all answers -/
def AllOut (g : Nat → Pc) (n : Nat) (w : World) (e : Ending) (w' : World) : Prop :=
  (¬ AllS g n ∧ e = .returned (.tuple #[.slice none 0 0, .map none, .bool false]) ∧ Below w.heap.size w w') ∨
  (AllS g n ∧ ∃ v B sl, e = .returned (.tuple #[v, .map (some B), .bool true]) ∧ w'.ownsRow w.heap.size 39 2 v n (mcC g sl n) ∧ (∀ j, j < n → Sl w.heap.size w' (g j).body (sl j)) ∧ Mi w' B (fun j => (g j).at') n ∧ Below w.heap.size w w')
def R34 (w : World) (g : Nat → Pc) (n Bp Bs : Nat) (v i : Value) (wr : World) : Prop := ∃ (k : Nat) (sl : Nat → Value), k ≤ n ∧ i = .int .i64 (k : Int) ∧ wr.ownsRow w.heap.size 39 2 v k (mcC g sl k) ∧ (∀ j, j < k → Sl w.heap.size wr (g j).body (sl j)) ∧ Mi wr Bp (fun j => (g j).at') k ∧ Mn wr Bs (fun j => nmS (g j).nm) k ∧ Below w.heap.size w wr ∧ AllS g k
theorem hb_bytes (w : World) (s : ByteArray) : Hb (Lib.bytesWorld w 5 s) w.heap.size s := by
  refine ⟨_, _, Lib.bytesWorld_at_new w 5 s, fun j hj => ?_⟩
  have h := Lib.bytesWorld_cell w 5 s j hj
  rw [Lib.cell_of_heap (Lib.bytesWorld_at_new w 5 s)] at h
  rw [h, bb_eq s j hj]
  have h2 := bb_list s j hj
  simp [List.getD, h2]
theorem sl_new (B : Nat) (w : World) (s : ByteArray) (hB : B ≤ w.heap.size) (hs : s.size ≤ 65536) : Sl B (Lib.bytesWorld w 5 s) s (.slice (some ⟨w.heap.size, 0, none⟩) s.size (grownCap w s.size 0 5)) := by
  have hg := grownCap_ge w s.size 0 5
  have hds : s.data.size = s.size := rfl
  have hz : (Lib.bytesCells w 5 s).size = grownCap w s.size 0 5 := by
    unfold Lib.bytesCells
    simp only [Array.size_append, Array.size_map, Array.size_replicate, hds]
    omega
  refine ⟨_, _, rfl, hg, hb_bytes w s, hB, grownCap_le_maxLen w s.size 0 5 (by unfold maxLen; omega), _, _, Lib.bytesWorld_at_new w 5 s, hz, Nat.le_of_eq hz.symm, fun j hj => ?_⟩
  unfold Lib.bytesCells
  by_cases h : j < s.size
  · refine ⟨(s.data[j]'h).toNat, ?_⟩
    rw [Array.getElem?_append_left (by simp only [Array.size_map, hds]; exact h)]
    simp [h, hds]
  · refine ⟨0, ?_⟩
    rw [Array.getElem?_append_right (by simp only [Array.size_map, hds]; omega)]
    simp only [Array.size_map, hds, Array.getElem?_replicate]
    rw [if_pos (by omega)]
    rfl
theorem all_step {w W w5 : World} {g : Nat → Pc} {sl : Nat → Value} {k Bp Bs : Nat} {v v' nv : Value} {o : Obj} {nm : ByteArray} (hO : W.ownsRow w.heap.size 39 2 v k (mcC g sl k)) (hS : ∀ j, j < k → Sl w.heap.size W (g j).body (sl j)) (hN : Sl w.heap.size W (g k).body nv)
    (hmi : Mi W Bp (fun j => (g j).at') (k + 1)) (hmn : Mn W Bs (fun j => nmS (g j).nm) (k + 1)) (hB : Below w.heap.size w W) (h5 : w5.ownsRow w.heap.size 39 2 v' (k + 1) (mcC g sl k ++ [.string nm, nv])) (hg : (W.alloc o).grownBy w5 v.ownBlock) (hnm : nmS (g k).nm = nm) :
    ∃ sl', w5.ownsRow w.heap.size 39 2 v' (k + 1) (mcC g sl' (k + 1)) ∧ (∀ j, j < k + 1 → Sl w.heap.size w5 (g j).body (sl' j)) ∧ Mi w5 Bp (fun j => (g j).at') (k + 1) ∧ Mn w5 Bs (fun j => nmS (g j).nm) (k + 1) ∧ Below w.heap.size w w5 := by
  have hA := hO.alloc o
  have hK : K5 W w5 := k5_trans (k5_below ((Below.refl _ W).alloc (Nat.le_refl _) o)) (k5_row hA hg)
  have hmi2 := hmi.keep (World.grownBy_alloc W o none) (by simp)
  have hmn2 := hmn.keep (World.grownBy_alloc W o none) (by simp)
  refine ⟨fun j => if j = k then nv else sl j, ?_, fun j hj => ?_, hmi2.keep hg (fun e => ?_), hmn2.keep hg (fun e => ?_), gr_below (hB.alloc hB.size o) hA hg (by have := hB.size; simp; omega)⟩
  · rw [mcC, mcC_congr (t := sl) (fun j hj => by rw [if_neg (by omega)]), if_pos rfl, hnm]
    exact h5
  · show Sl w.heap.size w5 (g j).body (if j = k then nv else sl j)
    by_cases e : j = k
    · rw [if_pos e, e]; exact hN.keep hK
    · rw [if_neg e]; exact (hS j (by omega)).keep hK
  · obtain ⟨D, h1, _⟩ := hmi2
    exact row_map hA h1 e.symm
  · obtain ⟨D, h1, _⟩ := hmn2
    exact row_map hA h1 e.symm
set_option maxRecDepth 100000 in
set_option maxHeartbeats 8000000 in
theorem c34 (A : Option Addr) (n c : Nat) (g : Nat → Pc) (w : World) (hA : Ps w A n g) (hn : n ≤ 65536) (hd : ∀ i j, i < j → j < n → (g i).at' ≠ (g j).at') : Calls Tryz.prog 34 #[.slice A n c] w (AllOut g n w) := by
  have HA := Lib.hid hA
  have HD := Lib.hid hd
  clear hA hd
  obtain ⟨i0, hi, hz⟩ : ∃ i, Tryz.prog.info? 39 = some i ∧ (i.zero, i.size, i.bytes) = (some (.agg #[.string ⟨#[]⟩, .slice none 0 0]), 2, 40) := by
    have h : (Tryz.prog.info? 39).map (fun i => (i.zero, i.size, i.bytes)) = some (some (.agg #[.string ⟨#[]⟩, .slice none 0 0]), 2, 40) := by kernel_rfl
    cases hq : Tryz.prog.info? 39 with
    | none => rw [hq] at h; cases h
    | some i => rw [hq] at h; exact ⟨i, rfl, by simpa using h⟩
  simp only [Prod.mk.injEq] at hz
  obtain ⟨hz0, hz1, hz2⟩ := hz
  have HI := Lib.hid hi
  have HZ0 := Lib.hid hz0
  have HZ1 := Lib.hid hz1
  have HZ2 := Lib.hid hz2
  have hmm := @run_makeMap Tryz.prog
  go_enter Tryz.func34, Tryz.ntmps34
  go_wp2
  obtain ⟨w1, hmk, hown0, hgr0⟩ := run_make_own (P := Tryz.prog) w w.heap.size 22 39 i0 (.agg #[.string ⟨#[]⟩, .slice none 0 0]) 2 Tryz.underlying22 hi hz0 hz1 .i64 .i64 n (by rw [hz2]; omega) (by unfold maxLen; omega) (Nat.le_refl _)
  rw [hmk]
  simp only [Result.andThen]
  rw [Oper.upon_value]
  have HO1 := Lib.hid hown0
  have HB1 : Hid (Below w.heap.size w w1) := Lib.hid ⟨hgr0.os, hgr0.tape, hgr0.output, hgr0.size, fun k hk => hgr0.block k hk (by simp)⟩
  have HM1 := Lib.hid (mi_zero w1 (fun j => (g j).at'))
  have HM2 := Lib.hid (mn_zero (w1.alloc (.map #[] 0)) (fun j => nmS (g j).nm))
  clear hmk hown0 hgr0 hi hz0 hz1 hz2
  have HS0 : Hid (R34 w g n w1.heap.size (w1.heap.size + 1) (.slice (some ⟨w.heap.size, 0, none⟩) 0 n) (.int .i64 0) ((w1.alloc (.map #[] 0)).alloc (.map #[] 0))) := Lib.hid (by
    have b1 := (Below.refl w1.heap.size w1).alloc (Nat.le_refl _) (.map #[] 0)
    have e : (w1.alloc (.map #[] 0)).heap.size = w1.heap.size + 1 := by simp
    have h2 := HM2.out
    rw [e] at h2
    refine ⟨0, fun _ => .nilIface, Nat.zero_le _, rfl, (HO1.out.alloc _).alloc _, fun j hj => absurd hj (by omega), HM1.out.keep (World.grownBy_alloc _ _ none) (by simp), h2, (HB1.out.alloc HB1.out.size _).alloc (by have := HB1.out.size; rw [e]; omega) _, fun i hi => absurd hi (by omega)⟩)
  have HBS : Hid (w.heap.size ≤ w1.heap.size) := Lib.hid HB1.out.size
  go_wp2
  go_loopw [5, 22] (fun v i wr => R34 w g n w1.heap.size (w1.heap.size + 1) v i wr) (fun _ i _ => n - (intOf i).toNat)
  case atStart => exact HS0.out
  case round =>
    obtain ⟨k, sl, hk, rfl, ho, hsl, hmi, hmn, hb, hok⟩ := hrel
    have HO := Lib.hid ho
    have HSL := Lib.hid hsl
    have HMI := Lib.hid hmi
    have HMN := Lib.hid hmn
    have HBW := Lib.hid hb
    have HOK := Lib.hid hok
    by_cases hlt : k < n
    · obtain ⟨b, o, rfl, hbl, hc⟩ := HA.out (by omega)
      obtain ⟨q0, q1, q2, z1, z2, z3⟩ := hc k hlt
      have z : ∀ j, wr.cell? ⟨b, j, none⟩ = w.cell? ⟨b, j, none⟩ := fun j => hb.cell (p := ⟨b, j, none⟩) hbl
      rw [← z] at q0 q1 q2
      have HLT := Lib.hid hlt
      have HN : Hid (AllS g n → gdS (g k).nm ∧ ∀ j, j < k → nmS (g j).nm ≠ nmS (g k).nm) := Lib.hid (fun h => h k hlt)
      have HST : Hid ((gdS (g k).nm ∧ ∀ j, j < k → nmS (g j).nm ≠ nmS (g k).nm) → AllS g (k + 1)) := Lib.hid (fun h => alls_step.mpr ⟨HOK.out, h⟩)
      clear ho hsl hmi hmn hb hok hc z
      have hzs := HBW.out.size
      obtain ⟨x, hx⟩ : ∃ x, g k = x := ⟨_, rfl⟩
      have HX := Lib.hid hx
      rw [hx] at q0 q1 q2 z1 z2 z3 HN HST
      clear hx
      obtain ⟨hn', hnq⟩ : ∃ h, x.nm = h := ⟨_, rfl⟩
      rw [hnq] at q0 z1 HN HST
      have HNQ := Lib.hid hnq
      clear hnq
      by_cases hh : hasB hn' 47 = true
      · obtain ⟨i, hi1, hi2⟩ := idx_some hh
        have K53 := Lib.hid (c53_yes hn' 47 i (by omega) hi1 hi2)
        have HF := Lib.hid hi2
        have hib := hi2.1
        have HGN : Hid (gdS hn' → nmS hn' = hn'.extract 0 i) := Lib.hid (fun hg => by
          obtain ⟨o', h1, h2⟩ := gd_fst hg
          have := fst_uniq h1 hi2
          subst this
          exact gd_nm h1 h2)
        have HGB : Hid (gdS hn' → nmB (hn'.extract 0 i) = true ∧ ∀ j, i < j → j < hn'.size → bb hn' j = 32) := Lib.hid (fun hg => by
          obtain ⟨o', h1, h2⟩ := gd_fst hg
          have := fst_uniq h1 hi2
          subst this
          exact ⟨(gd_yes h1 h2).mp hg, h2⟩)
        have HGY : Hid (nmB (hn'.extract 0 i) = true → (∀ j, i < j → j < hn'.size → bb hn' j = 32) → gdS hn') := Lib.hid (fun h1 h2 => (gd_yes hi2 h2).mpr h1)
        have HBL := Lib.hid (blank_iff hn' i hib)
        have hzx : (hn'.extract 0 i).size = i := by rw [ext_size _ _ _ (by omega)]; omega
        have K38 := Lib.hid (c38 (hn'.extract 0 i) (by omega))
        have hzy : (hn'.extract (i + 1) hn'.size).size ≤ 65536 := by rw [ext_size _ _ _ (Nat.le_refl _)]; omega
        have K54 : Hid (∀ w, Calls Tryz.prog 54 #[.string (hn'.extract (i + 1) hn'.size), .string ⟨#[32]⟩] w fun e w' => e = .returned (.string ⟨(Lib.trimB (hn'.extract (i + 1) hn'.size).data.toList 32).toArray⟩) ∧ ∃ q, w' = w.drewN q) := Lib.hid (fun w => (Tryz.strings_Trim_one _ 32 (by decide) w (by omega)).mono fun _ w' ⟨h1, h2⟩ => ⟨h1, by
          rcases h2 with rfl | rfl
          · exact ⟨0, rfl⟩
          · exact ⟨1, rfl⟩⟩)
        have HK9 := Lib.hid (key9 (hn'.extract 0 i) (by omega))
        have K55 := Lib.hid (c55 (hn'.extract 0 i) (by omega))
        clear hi1 hi2 hh hzx hzy
        generalize hn'.extract 0 i = nmx at *
        generalize (⟨(Lib.trimB (hn'.extract (i + 1) hn'.size).data.toList 32).toArray⟩ : ByteArray) = tb at *
        generalize hn'.extract (i + 1) hn'.size = bhx at *
        obtain ⟨D, hown, h2, h3⟩ := HMN.out
        have H2 := Lib.hid h2
        have H3 := Lib.hid h3
        have HOD : Hid (∀ t, ((wr.alloc (.cells #[.string hn', .int .i64 (x.at' : Int), .string x.body] 65)).drewN t).ownsMap Tryz.prog 9 (plainElem Tryz.prog 3) (w1.heap.size + 1) k D) := Lib.hid (fun t => (hown.kept (World.grownBy_alloc wr _ none) (by simp)).kept (grown_below (below_drewN (Below.refl _ _) t)) (by simp))
        have HBT : Hid (∀ t, Below w.heap.size w ((wr.alloc (.cells #[.string hn', .int .i64 (x.at' : Int), .string x.body] 65)).drewN t)) := Lib.hid (fun t => below_drewN (HBW.out.alloc HBW.out.size _) t)
        clear hown h2 h3
        obtain ⟨q, hq⟩ : ∃ q, Maps.has D (.string nmx.data.toList) = q := ⟨_, rfl⟩
        have HQ := Lib.hid hq
        cases q
        · have HDI : Hid (∀ j, j < k → nmS (g j).nm ≠ nmx) := Lib.hid (fun j hj e => by
            have := (H3.out nmx).mpr ⟨j, hj, e⟩
            rw [HQ.out] at this
            cases this)
          obtain ⟨q', hq'⟩ : ∃ q', nmB nmx = q' := ⟨_, rfl⟩
          rw [hq'] at K38 HGB HGY
          clear hq'
          cases q'
          · have HNO : Hid (¬ AllS g n) := Lib.hid (fun h => by have := (HGB.out (HN.out h).1).1; cases this)
            go_wp2_with fail
            refine (K53.out _).mono ?_
            rintro _ _ ⟨rfl, t, rfl⟩
            have HOD' := Lib.hid (HOD.out t)
            go_wp2_with (at_lookup; refine wpList_lookup_own_ok_int _ rfl _ _ 77 rfl 9 3 .i64 law9 Tryz.underlying77 Tryz.underlying3 (zero3 _) (w1.heap.size + 1) k D rfl HOD'.out _ _ rfl HK9.out ?_; intro cc hat hwc)
            refine (K38.out _).mono ?_
            rintro _ _ ⟨rfl, u, rfl⟩
            go_wp2_with fail
            go_ret3
            exact Or.inl ⟨HNO.out, rfl, HBT.out _⟩
          · by_cases hbl2 : ∀ j, i < j → j < hn'.size → bb hn' j = 32
            · have hbq : (tb.toList == []) = true := HBL.out.mpr hbl2
              have HGD := Lib.hid (HGY.out rfl hbl2)
              have HNX := Lib.hid (HGN.out HGD.out)
              have HS2 : Hid (AllS g (k + 1)) := Lib.hid (HST.out ⟨HGD.out, by rw [HNX.out]; exact HDI.out⟩)
              clear hbl2
              go_wp2_with fail
              refine (K53.out _).mono ?_
              rintro _ _ ⟨rfl, t, rfl⟩
              have HOD' := Lib.hid (HOD.out t)
              go_wp2_with (at_lookup; refine wpList_lookup_own_ok_int _ rfl _ _ 77 rfl 9 3 .i64 law9 Tryz.underlying77 Tryz.underlying3 (zero3 _) (w1.heap.size + 1) k D rfl HOD'.out _ _ rfl HK9.out ?_; intro cc hat hwc)
              refine (K38.out _).mono ?_
              rintro _ _ ⟨rfl, u, rfl⟩
              go_wp2_with fail
              refine (K54.out _).mono ?_
              rintro _ _ ⟨rfl, u2, rfl⟩
              have HWW : Hid (Below wr.heap.size wr ((wr.alloc (.cells #[.string hn', .int .i64 (x.at' : Int), .string x.body] 65)).drewN (t + u + u2))) := Lib.hid (below_drewN ((Below.refl _ wr).alloc (Nat.le_refl _) _) _)
              have HCL : Hid (((wr.alloc (.cells #[.string hn', .int .i64 (x.at' : Int), .string x.body] 65)).drewN (t + u + u2)).heap[wr.heap.size]? = some (.cells #[.string hn', .int .i64 (x.at' : Int), .string x.body] 65 (0, 0))) := Lib.hid (heap_alloc_new wr _)
              have HB0 := Lib.hid (HBT.out (t + u + u2))
              have HM0 := Lib.hid (HOD.out (t + u + u2))
              clear HOD HBT HOD' K53 K38 K54 HBL HGN HGB HGY
              go_wp2_with fail
              generalize ((wr.alloc (.cells #[.string hn', .int .i64 (x.at' : Int), .string x.body] 65)).drewN (t + u + u2)) = W0 at *
              obtain ⟨w2, hmu1, hown2, hg2⟩ := (show W0.drew.ownsMap Tryz.prog 9 (plainElem Tryz.prog 3) (w1.heap.size + 1) k D from HM0.out).update law9 Tryz.underlying77 (by unfold maxLen; omega) HK9.out (val := .int .i64 (k : Int)) (plainElem_int Tryz.underlying3 (wf_nat k (by omega)))
              have HG2 : Hid (W0.grownBy w2 (some (w1.heap.size + 1))) := Lib.hid ⟨hg2.os, hg2.tape, hg2.output, hg2.size, hg2.block⟩
              have hKE : w1.heap.size ≠ w1.heap.size + 1 := by omega
              have hmi0 : Mi W0 w1.heap.size (fun j => (g j).at') k := HMI.out.keep (grown_below HWW.out) (by simp)
              obtain ⟨E, hE1, hE2, hE3, hE4⟩ := hmi0.keep HG2.out (by simp)
              obtain ⟨w3, hmu2, hown3, hg3⟩ := hE1.update law3 Tryz.underlying66 (by unfold maxLen; omega) (key3 (x.at' : Int) (wf_nat x.at' (by omega))) (val := .int .i64 (k : Int)) (plainElem_int Tryz.underlying3 (wf_nat k (by omega)))
              have HG3 := Lib.hid hg3
              have HSN : Hid (Mn w3 (w1.heap.size + 1) (fun j => nmS (g j).nm) (k + 1)) := Lib.hid ((mn_put (by show nmS (g k).nm = nmx; rw [HX.out, HNQ.out, HNX.out]) H2.out H3.out hown2).keep HG3.out (by simp))
              have HMP : Hid (Mi w3 w1.heap.size (fun j => (g j).at') (k + 1)) := Lib.hid (mi_put (by show (g k).at' = x.at'; rw [HX.out]) (fun j hj => HD.out j k hj HLT.out) hE2 hE3 hE4 hown3)
              have HO0 : Hid (W0.ownsRow w.heap.size 39 2 u5 k (mcC g sl k)) := Lib.hid (own_below HO.out HWW.out)
              have HO2 : Hid (w2.ownsRow w.heap.size 39 2 u5 k (mcC g sl k)) := Lib.hid (HO0.out.kept HG2.out (Or.inr (row_map HO0.out HM0.out)))
              have HO3 : Hid (w3.ownsRow w.heap.size 39 2 u5 k (mcC g sl k)) := Lib.hid (HO2.out.kept HG3.out (Or.inr (row_map HO2.out hE1)))
              have HK5 : Hid (K5 wr w3) := Lib.hid (k5_trans (k5_below HWW.out) (k5_trans (k5_map HM0.out HG2.out) (k5_map hE1 HG3.out)))
              have HB2 : Hid (Below w.heap.size w w2) := Lib.hid (HB0.out.grown HG2.out HB0.out.size (fun j hj => by have := Option.some.inj hj; have := HBS.out; omega))
              have HB3 : Hid (Below w.heap.size w w3) := Lib.hid (HB2.out.grown HG3.out HB2.out.size (fun j hj => by have := Option.some.inj hj; have := HBS.out; omega))
              have HL2 : Hid (w2.heap[wr.heap.size]? = some (.cells #[.string hn', .int .i64 (x.at' : Int), .string x.body] 65 (0, 0))) := Lib.hid (by
                rw [HG2.out.block _ (lt_of HCL.out) (fun e => by
                  obtain ⟨es, c, hm⟩ := map_obj HM0.out
                  rw [← Option.some.inj e] at hm
                  rw [HCL.out] at hm
                  cases hm)]
                exact HCL.out)
              have HL3 : Hid (w3.heap[wr.heap.size]? = some (.cells #[.string hn', .int .i64 (x.at' : Int), .string x.body] 65 (0, 0))) := Lib.hid (by
                rw [HG3.out.block _ (lt_of HL2.out) (fun e => by
                  obtain ⟨es, c, hm⟩ := map_obj hE1
                  rw [← Option.some.inj e] at hm
                  rw [HL2.out] at hm
                  cases hm)]
                exact HL2.out)
              have c0 : W0.drew.cell? ⟨wr.heap.size, 1, none⟩ = some (.int .i64 (x.at' : Int)) := by
                rw [Lib.cell_of_heap (show W0.drew.heap[wr.heap.size]? = _ from HCL.out)]; rfl
              have c2 : w2.cell? ⟨wr.heap.size, 1, none⟩ = some (.int .i64 (x.at' : Int)) := by
                rw [Lib.cell_of_heap HL2.out]; rfl
              clear hown2 hown3 hg2 hg3 hE1 hE2 hE3 hE4 hmi0 hKE
              go_region
              all_goals
                have hcv : ∀ W, (convert 9 24 (.string x.body)).run Tryz.prog W = .ok (.slice (some ⟨W.heap.size, 0, none⟩) x.body.size (grownCap W x.body.size 0 5)) (Lib.bytesWorld W 5 x.body) := fun W => Lib.run_convert_string_bytes W 9 24 5 x.body Tryz.underlying9 Tryz.underlying24 Tryz.underlying5
                have d0 : w3.drew.cell? ⟨wr.heap.size, 2, none⟩ = some (.string x.body) := by
                  rw [Lib.cell_of_heap (show w3.drew.heap[wr.heap.size]? = _ from HL3.out)]; rfl
                have HL3' : Hid (∀ w4, Below w3.drew.heap.size w3.drew w4 → w4.cell? ⟨wr.heap.size, 2, none⟩ = some (.string x.body)) := Lib.hid (fun w4 hb => by rw [hb.cell (p := ⟨wr.heap.size, 2, none⟩) (lt_of HL3.out)]; exact d0)
                have hkk : k + 1 ≤ 65536 := by have := HLT.out; omega
                go_wp2_with fail
                have HWX3 : ∀ W, Below w3.drew.heap.size w3.drew W → Below w3.heap.size w3 W := fun W h => ((Below.refl _ w3).drew).trans h
                go_region_law (first | (go_simp; go_at_call 55; (with_reducible refine (K55.out w3.drew).mono ?_); rintro _ w4 ⟨rfl, hb4⟩; have d1 := HL3'.out w4 hb4; have HBA : Hid (Below w3.drew.heap.size w3.drew (Lib.bytesWorld w4 5 x.body)) := Lib.hid (hb4.trans ((below_bytes w4 x.body).mono hb4.size))) | (go_simp; go_at_call 55; refine (K55.out _).mono ?_; rintro _ w4 ⟨rfl, hb4⟩; have HBB : Hid (Below w3.drew.heap.size w3.drew w4) := Lib.hid ((below_bytes w3.drew x.body).trans (hb4.mono (below_bytes w3.drew x.body).size))) | (refine step_own rfl _ _ 22 rfl w.heap.size 39 i0 (.agg #[.string ⟨#[]⟩, .slice none 0 0]) 2 40 Tryz.underlying22 HI.out HZ0.out HZ1.out HZ2.out rfl (by decide) _ _ _ rfl ((own_below HO3.out (HWX3 _ HBA.out)).alloc _) ⟨(Lib.bytesWorld w4 5 x.body).heap.size, 0, none⟩ 1 1 [.string nmx, .slice (some ⟨w4.heap.size, 0, none⟩) x.body.size (grownCap w4 x.body.size 0 5)] rfl rfl (l_cells (Lib.bytesWorld w4 5 x.body) (Lib.bytesWorld w4 5 x.body).heap.size rfl [.string nmx, .slice (some ⟨w4.heap.size, 0, none⟩) x.body.size (grownCap w4 x.body.size 0 5)] 39) (fun y hy => by simp at hy; rcases hy with rfl | rfl <;> rfl) (by unfold maxLen; omega) (by omega) (by have := (HB3.out.trans ((HWX3 _ HBA.out).mono HB3.out.size)).size; simp at this ⊢; omega) ?_; intro v' w5 hown5 hgrow5; have HFIN := Lib.hid (all_step (own_below HO3.out (HWX3 _ HBA.out)) (fun j hj => ((HSL.out j hj).keep HK5.out).keep (k5_below (HWX3 _ HBA.out))) (by rw [HX.out]; exact sl_new _ w4 x.body (Nat.le_trans HB3.out.size hb4.size) z2) (HMP.out.keep (grown_below (HWX3 _ HBA.out)) (by simp)) (HSN.out.keep (grown_below (HWX3 _ HBA.out)) (by simp)) (HB3.out.trans ((HWX3 _ HBA.out).mono HB3.out.size)) hown5 hgrow5 (by rw [HX.out, HNQ.out, HNX.out]))) | (refine step_own rfl _ _ 22 rfl w.heap.size 39 i0 (.agg #[.string ⟨#[]⟩, .slice none 0 0]) 2 40 Tryz.underlying22 HI.out HZ0.out HZ1.out HZ2.out rfl (by decide) _ _ _ rfl ((own_below HO3.out (HWX3 _ HBB.out)).alloc _) ⟨(w4).heap.size, 0, none⟩ 1 1 [.string nmx, .slice (some ⟨w3.drew.heap.size, 0, none⟩) x.body.size (grownCap w3.drew x.body.size 0 5)] rfl rfl (l_cells (w4) (w4).heap.size rfl [.string nmx, .slice (some ⟨w3.drew.heap.size, 0, none⟩) x.body.size (grownCap w3.drew x.body.size 0 5)] 39) (fun y hy => by simp at hy; rcases hy with rfl | rfl <;> rfl) (by unfold maxLen; omega) (by omega) (by have := (HB3.out.trans ((HWX3 _ HBB.out).mono HB3.out.size)).size; simp at this ⊢; omega) ?_; intro v' w5 hown5 hgrow5; have HFIN := Lib.hid (all_step (own_below HO3.out (HWX3 _ HBB.out)) (fun j hj => ((HSL.out j hj).keep HK5.out).keep (k5_below (HWX3 _ HBB.out))) (by rw [HX.out]; exact (sl_new _ w3.drew x.body HB3.out.size z2).keep (k5_below hb4)) (HMP.out.keep (grown_below (HWX3 _ HBB.out)) (by simp)) (HSN.out.keep (grown_below (HWX3 _ HBB.out)) (by simp)) (HB3.out.trans ((HWX3 _ HBB.out).mono HB3.out.size)) hown5 hgrow5 (by rw [HX.out, HNQ.out, HNX.out]))))
                all_goals
                  obtain ⟨sl', f1, f2, f3, f4, f5⟩ := HFIN.out
                  have F1 := Lib.hid f1
                  have F2 := Lib.hid f2
                  have F3 := Lib.hid f3
                  have F4 := Lib.hid f4
                  have F5 := Lib.hid f5
                  clear f1 f2 f3 f4 f5 HFIN hown5 hgrow5
                  go_wp2_with fail
                  go_roundw
                  case rel => exact ⟨k + 1, sl', HLT.out, by go_num, F1.out, F2.out, F3.out, F4.out, F5.out, HS2.out⟩
                  case measure => simp [intOf]; have := HLT.out; omega
            · have hbq : (tb.toList == []) = false := by
                cases hc : (tb.toList == [])
                · rfl
                · exact absurd (HBL.out.mp hc) hbl2
              have HNO : Hid (¬ AllS g n) := Lib.hid (fun h => hbl2 (HGB.out (HN.out h).1).2)
              clear hbl2
              go_wp2_with fail
              refine (K53.out _).mono ?_
              rintro _ _ ⟨rfl, t, rfl⟩
              have HOD' := Lib.hid (HOD.out t)
              go_wp2_with (at_lookup; refine wpList_lookup_own_ok_int _ rfl _ _ 77 rfl 9 3 .i64 law9 Tryz.underlying77 Tryz.underlying3 (zero3 _) (w1.heap.size + 1) k D rfl HOD'.out _ _ rfl HK9.out ?_; intro cc hat hwc)
              refine (K38.out _).mono ?_
              rintro _ _ ⟨rfl, u, rfl⟩
              go_wp2_with fail
              refine (K54.out _).mono ?_
              rintro _ _ ⟨rfl, u2, rfl⟩
              go_wp2_with fail
              go_ret3
              exact Or.inl ⟨HNO.out, rfl, HBT.out _⟩
        · have HNO : Hid (¬ AllS g n) := Lib.hid (fun h => by
            obtain ⟨j, hj, e⟩ := (H3.out nmx).mp HQ.out
            obtain ⟨h1, h2⟩ := HN.out h
            exact h2 j hj ((show nmS (g j).nm = nmx from e).trans (HGN.out h1).symm))
          go_wp2_with fail
          refine (K53.out _).mono ?_
          rintro _ _ ⟨rfl, t, rfl⟩
          have HOD' := Lib.hid (HOD.out t)
          go_wp2_with (at_lookup; refine wpList_lookup_own_ok_int _ rfl _ _ 77 rfl 9 3 .i64 law9 Tryz.underlying77 Tryz.underlying3 (zero3 _) (w1.heap.size + 1) k D rfl HOD'.out _ _ rfl HK9.out ?_; intro cc hat hwc)
          go_ret3
          exact Or.inl ⟨HNO.out, rfl, HBT.out t⟩
      · have hno : hasB hn' 47 = false := by simpa using hh
        have K53 := Lib.hid (c53_no hn' 47 hno)
        have HNO : Hid (¬ AllS g n) := Lib.hid (fun h => gd_no hno (HN.out h).1)
        have HK9 := Lib.hid (key9 hn' (by omega))
        clear hh hno
        obtain ⟨D, hown, h2, h3⟩ := HMN.out
        have HOD : Hid (∀ t, ((wr.alloc (.cells #[.string hn', .int .i64 (x.at' : Int), .string x.body] 65)).drewN t).ownsMap Tryz.prog 9 (plainElem Tryz.prog 3) (w1.heap.size + 1) k D) := Lib.hid (fun t => (hown.kept (World.grownBy_alloc wr _ none) (by simp)).kept (grown_below (below_drewN (Below.refl _ _) t)) (by simp))
        have HBT : Hid (∀ t, Below w.heap.size w ((wr.alloc (.cells #[.string hn', .int .i64 (x.at' : Int), .string x.body] 65)).drewN t)) := Lib.hid (fun t => below_drewN (HBW.out.alloc HBW.out.size _) t)
        clear hown h2 h3
        obtain ⟨q, hq⟩ : ∃ q, Maps.has D (.string hn'.data.toList) = q := ⟨_, rfl⟩
        have HQ := Lib.hid hq
        cases q
        all_goals
          go_wp2_with fail
          refine (K53.out _).mono ?_
          rintro _ _ ⟨rfl, t, rfl⟩
          have HOD' := Lib.hid (HOD.out t)
          go_wp2_with (at_lookup; refine wpList_lookup_own_ok_int _ rfl _ _ 77 rfl 9 3 .i64 law9 Tryz.underlying77 Tryz.underlying3 (zero3 _) (w1.heap.size + 1) k D rfl HOD'.out _ _ rfl HK9.out ?_; intro cc hat hwc)
          go_ret3
          exact Or.inl ⟨HNO.out, rfl, HBT.out _⟩
    · obtain rfl : k = n := by omega
      clear ho hsl hmi hmn hb hok
      go_wp2_with fail
      go_ret3
      exact Or.inr ⟨HOK.out, _, _, sl, rfl, HO.out, HSL.out, HMI.out, HBW.out⟩
end Go.Proofs.YtgmifaadlaigdaaGreatDoor
