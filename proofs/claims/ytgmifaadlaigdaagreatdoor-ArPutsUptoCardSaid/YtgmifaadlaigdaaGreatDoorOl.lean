import Derived.Test.YtgmifaadlaigdaaGreatDoorOk
namespace Go.Proofs.YtgmifaadlaigdaaGreatDoor
open Go.ChangeShapes Go.WideShapes Go.ChangeAt Go.RowKit
set_option linter.unusedVariables false
def R9f (w : World) (g : Nat → Mem) (s0 : ByteArray) (n : Nat) (v i : Value) (wr : World) : Prop := ∃ k : Nat, k ≤ n ∧ i = .int .i64 (k : Int) ∧ Ow wr w.heap.size v (outB g s0 k).size (Lib.strCells (outB g s0 k)) ∧ Below w.heap.size w wr
def R9a (w : World) (g : Nat → Mem) (n : Nat) (i : Value) (wr : World) : Prop := ∃ k : Nat, k ≤ n ∧ i = .int .i64 (k : Int) ∧ MemsOk g k ∧ Below w.heap.size w wr
def R9b (w : World) (g : Nat → Mem) (k : Nat) (i : Value) (wr : World) : Prop := ∃ j : Nat, j ≤ k ∧ i = .int .i64 (j : Int) ∧ (∀ i, i < j → (g i).nm ≠ (g k).nm) ∧ Below w.heap.size w wr
def R9c (w : World) (x : Nat → Ix) (n m : Nat) (l i : Value) (wr : World) : Prop := ∃ k : Nat, k ≤ m ∧ i = .int .i64 (k : Int) ∧ l = .int .i64 (lgN x k : Int) ∧ IxsOk x n k ∧ Below w.heap.size w wr
def R9d (w : World) (g : Nat → Mem) (e0 n : Nat) (e v i : Value) (wr : World) : Prop := ∃ k : Nat, k ≤ n ∧ i = .int .i64 (k : Int) ∧ e = .int .i64 (endN g e0 k : Int) ∧ wr.ownsRow w.heap.size 3 1 v k ((List.range k).map fun j => Value.int .i64 (evn (endN g e0 j) : Int)) ∧ Below w.heap.size w wr
set_option maxRecDepth 100000 in
set_option maxHeartbeats 8000000 in
theorem c9z (A B : Option Addr) (n c m d : Nat) (g : Nat → Mem) (x : Nat → Ix) (w : World) (hA : Ms w A n g) (hB : Is w B m x) (hz : Nz g n) (hn : n ≤ 1073741824) (hm : m ≤ 1073741824)
    (hx : lgN x m ≤ 16777216) (hb : endN g (begN x m) n ≤ 1099511627776) (hm0 : ¬ 0 < m) : Calls Tryz.prog 9 #[.slice A n c, .slice B m d] w (PutOut g x n m w) := by
  have HA := Lib.hid hA
  have HB := Lib.hid hB
  have HZ := Lib.hid hz
  have HM0 := Lib.hid hm0
  have HEND := Lib.hid hb
  clear hA hB hz hm0 hb
  obtain ⟨i0, hi, hz0⟩ : ∃ i, Tryz.prog.info? 3 = some i ∧ (i.zero, i.size, i.bytes) = (some (.int .i64 0), 1, 8) := by
    have h : (Tryz.prog.info? 3).map (fun i => (i.zero, i.size, i.bytes)) = some (some (.int .i64 0), 1, 8) := by kernel_rfl
    cases hq : Tryz.prog.info? 3 with
    | none => rw [hq] at h; cases h
    | some i => rw [hq] at h; exact ⟨i, rfl, by simpa using h⟩
  simp only [Prod.mk.injEq] at hz0
  obtain ⟨hz0, hz1, hz2⟩ := hz0
  have HI := Lib.hid hi
  have HZ0 := Lib.hid hz0
  have HZ1 := Lib.hid hz1
  have HZ2' := Lib.hid hz2
  clear hi hz0 hz1 hz2
  go_enter Tryz.func9, Tryz.ntmps9
  go_wp2_with fail
  go_loopw [6] (fun i wr => R9a w g n i wr) (fun i _ => n - (intOf i).toNat)
  case atStart => exact ⟨0, by omega, rfl, fun i hi => absurd hi (by omega), Below.refl _ _⟩
  case round =>
    obtain ⟨k, hk, rfl, hok, hb⟩ := hrel
    have HBW := Lib.hid hb
    have HOK := Lib.hid hok
    by_cases hlt : k < n
    · obtain ⟨b, o, rfl, hbl, hc⟩ := HA.out (by omega)
      obtain ⟨q0, -, -, -, -, hsl⟩ := hc k hlt
      have HC : Hid (∀ j, j < n → w.cell? ⟨b, o + j * 2, none⟩ = some (.string (g j).nm)) := Lib.hid (fun j hj => (hc j hj).1)
      have HZ2 : Hid (∀ w', Below w.heap.size w w' → ∀ j, j < n → w'.cell? ⟨b, o + j * 2, none⟩ = some (.string (g j).nm)) := Lib.hid (fun w' hb j hj => by rw [hb.cell (p := ⟨b, o + j * 2, none⟩) hbl]; exact HC.out j hj)
      have q0 := HZ2.out _ hb k hlt
      have HLT := Lib.hid hlt
      have hzs := hb.size
      have HN : Hid (MemsOk g n → nmB (g k).nm = true ∧ ∀ j, j < k → (g j).nm ≠ (g k).nm) := Lib.hid (fun hm => hm k hlt)
      have HS : Hid ((nmB (g k).nm = true ∧ ∀ j, j < k → (g j).nm ≠ (g k).nm) → MemsOk g (k + 1)) := Lib.hid (fun h => mems_step.mpr ⟨HOK.out, h⟩)
      have K27 := Lib.hid (c27 (g k).nm hsl)
      obtain ⟨nm, hnm⟩ : ∃ nm, (g k).nm = nm := ⟨_, rfl⟩
      rw [hnm] at K27 HN HS q0
      have HNM := Lib.hid hnm
      clear hc hb hok hsl hnm
      obtain ⟨q', hq'⟩ : ∃ q', nmB nm = q' := ⟨_, rfl⟩
      rw [hq'] at K27 HN HS
      clear hq'
      cases q'
      · have HNO : Hid (¬ MemsOk g n) := Lib.hid (fun h => by have := (HN.out h).1; cases this)
        go_wp2_with fail
        refine (K27.out _).mono ?_
        rintro _ _ ⟨rfl, rfl⟩
        go_wp2_with fail
        go_ret2
        exact Or.inl ⟨fun h => HNO.out h.1, rfl, HBW.out⟩
      · go_wp2_with fail
        refine (K27.out _).mono ?_
        rintro _ _ ⟨rfl, rfl⟩
        go_wp2_with fail
        go_loopw [7] (fun i wr => R9b w g k i wr) (fun i _ => k - (intOf i).toNat)
        case atStart => exact ⟨0, by omega, rfl, fun i hi => absurd hi (by omega), HBW.out⟩
        case round =>
          obtain ⟨j, hj, rfl, hdi, hb2⟩ := hrel
          have HB2 := Lib.hid hb2
          have HDI := Lib.hid hdi
          clear hdi
          by_cases hlt2 : j < k
          · have p0 := HZ2.out _ hb2 k HLT.out
            have p1 := HZ2.out _ hb2 j (by have := HLT.out; omega)
            rw [HNM.out] at p0
            have HLT2 := Lib.hid hlt2
            have hl2 := HLT.out
            clear hb2
            by_cases he : (g j).nm = nm
            · rw [he] at p1
              have HNO : Hid (¬ MemsOk g n) := Lib.hid (fun h => (HN.out h).2 j hlt2 he)
              have b0 : (nm.toList == nm.toList) = true := by simp
              clear he
              go_wp2_with fail
              go_region
              all_goals
                go_wp2_with fail
                go_ret2
                exact Or.inl ⟨fun h => HNO.out h.1, rfl, below_drewN HB2.out _⟩
            · have HE := Lib.hid he
              have b0 : ((g j).nm.toList == nm.toList) = false := by
                rw [ByteArray.toList_eq, ByteArray.toList_eq, beq_eq_false_iff_ne]
                intro e
                exact he (by
                  have h1 := congrArg List.toArray e
                  simp only [Array.toArray_toList] at h1
                  exact ByteArray.ext h1)
              have HDS : Hid (∀ i, i < j + 1 → (g i).nm ≠ (g k).nm) := Lib.hid (fun i hi => by
                by_cases e : i = j
                · rw [e, HNM.out]; exact HE.out
                · exact HDI.out i (by omega))
              clear he
              generalize (g j).nm = nj at *
              go_wp2_with fail
              go_region
              all_goals
                go_wp2_with fail
                go_roundw
                case rel => exact ⟨j + 1, HLT2.out, by go_num, HDS.out, below_drewN HB2.out _⟩
                case measure => simp [intOf]; have := HLT2.out; omega
          · obtain rfl : j = k := by omega
            have HS2 := Lib.hid (HS.out ⟨trivial, by rw [← HNM.out]; exact HDI.out⟩)
            have HBX := Lib.hid hb2
            have hl2 := HLT.out
            clear hb2
            go_wp2_with fail
            go_roundw
            case rel => exact ⟨j + 1, HLT.out, by go_num, HS2.out, HBX.out⟩
            case measure => simp [intOf]; have := HLT.out; omega
    · obtain rfl : k = n := by omega
      clear hb hok
      go_wp2_with fail
      have HLG := Lib.hid (fun j (hj : j ≤ m) => lgN_le x hj)
      go_loopw [8, 9] (fun l i wr => R9c w x k m l i wr) (fun _ i _ => m - (intOf i).toNat)
      case atStart => exact ⟨0, Nat.zero_le _, rfl, rfl, fun i hi => absurd hi (by omega), HBW.out⟩
      case round =>
        obtain ⟨j, hj, rfl, rfl, hok, hb⟩ := hrel
        have HBX := Lib.hid hb
        have HOX := Lib.hid hok
        by_cases hlt2 : j < m
        · obtain ⟨b, o, rfl, hbl, hc⟩ := HB.out (by omega)
          obtain ⟨q0, q1, hs1, hs2, hs3⟩ := hc j hlt2
          have z : ∀ j, wr.cell? ⟨b, j, none⟩ = w.cell? ⟨b, j, none⟩ := fun j => hb.cell (p := ⟨b, j, none⟩) hbl
          rw [← z] at q0 q1
          have HLT := Lib.hid hlt2
          have hl1 := HLG.out (j + 1) hlt2
          have HLS : Hid (lgN x (j + 1) = lgN x j + ((x j).nm.size + 1)) := Lib.hid rfl
          rw [lgN] at hl1
          have HN : Hid (IxsOk x k m → 0 ≤ (x j).m ∧ (x j).m < (k : Int) ∧ (x j).nm ≠ ⟨#[]⟩ ∧ zeB (x j).nm = false) := Lib.hid (fun h => h j hlt2)
          have HS : Hid ((0 ≤ (x j).m ∧ (x j).m < (k : Int) ∧ (x j).nm ≠ ⟨#[]⟩ ∧ zeB (x j).nm = false) → IxsOk x k (j + 1)) := Lib.hid (fun h => ixs_step.mpr ⟨HOX.out, h⟩)
          have K28 := Lib.hid (c28 (x j).nm hs1)
          have HE := Lib.hid (emp (x j).nm)
          clear hc z hb hok hs1
          generalize (x j).nm = nm at *
          generalize (x j).m = xm at *
          generalize lgN x j = lg at *
          by_cases h1 : xm < 0
          · have HNO : Hid (¬ IxsOk x k m) := Lib.hid (fun h => by have := (HN.out h).1; omega)
            go_wp2_with fail
            go_ret2
            exact Or.inl ⟨fun h => HNO.out h.2, rfl, HBX.out⟩
          · by_cases h2 : (k : Int) ≤ xm
            · have HNO : Hid (¬ IxsOk x k m) := Lib.hid (fun h => by have := (HN.out h).2.1; omega)
              go_wp2_with fail
              go_ret2
              exact Or.inl ⟨fun h => HNO.out h.2, rfl, HBX.out⟩
            · by_cases h3 : nm = ⟨#[]⟩
              · have b0 : (nm.toList == []) = true := by rw [HE.out, decide_eq_true h3]
                have HNO : Hid (¬ IxsOk x k m) := Lib.hid (fun h => (HN.out h).2.2.1 h3)
                clear h3
                go_wp2_with fail
                go_ret2
                exact Or.inl ⟨fun h => HNO.out h.2, rfl, HBX.out⟩
              · have b0 : (nm.toList == []) = false := by rw [HE.out, decide_eq_false h3]
                have H3 := Lib.hid h3
                clear h3
                obtain ⟨q, hq⟩ : ∃ q, zeB nm = q := ⟨_, rfl⟩
                rw [hq] at K28 HN HS
                clear hq
                cases q
                · have HS2 : Hid (IxsOk x k (j + 1)) := Lib.hid (HS.out ⟨by omega, by omega, H3.out, rfl⟩)
                  go_wp2_with fail
                  refine (K28.out _).mono ?_
                  rintro _ _ ⟨rfl, rfl⟩
                  go_wp2_with fail
                  go_roundw
                  case rel => exact ⟨j + 1, HLT.out, by go_num, by rw [HLS.out]; go_num, HS2.out, HBX.out⟩
                  case measure => simp [intOf]; have := HLT.out; omega
                · have HNO : Hid (¬ IxsOk x k m) := Lib.hid (fun h => by have := (HN.out h).2.2.2; cases this)
                  go_wp2_with fail
                  refine (K28.out _).mono ?_
                  rintro _ _ ⟨rfl, rfl⟩
                  go_wp2_with fail
                  go_ret2
                  exact Or.inl ⟨fun h => HNO.out h.2, rfl, HBX.out⟩
        · obtain rfl : j = m := by omega
          have HY : Hid (MemsOk g k ∧ IxsOk x k j) := Lib.hid ⟨HOK.out, HOX.out⟩
          clear hb hok
          have HBX0 := HBX
          have HMB : Hid (j ≤ 1073741824) := Lib.hid hm
          obtain ⟨e0, he0⟩ : ∃ e0, begN x j = e0 := ⟨_, rfl⟩
          have hend := HEND.out
          rw [he0] at hend
          have HLE : Hid (∀ t, t ≤ k → endN g e0 t ≤ 1099511627776) := Lib.hid (fun t ht => Nat.le_trans (endN_le g e0 ht) hend)
          clear hend
          have HEQ := Lib.hid he0
          clear he0
          have hm0 := HM0.out
          have HE0 : Hid (e0 = 8) := Lib.hid (by rw [← HEQ.out]; unfold begN; rw [if_pos (by omega)])
          go_wp2_with fail
          go_loopw [11, 12, 13] (fun e v i wr => R9d w g e0 k e v i wr) (fun _ _ i _ => k - (intOf i).toNat)
          case atStart => exact ⟨0, Nat.zero_le _, rfl, by show _ = Value.int .i64 (e0 : Int); rw [HE0.out]; first | rfl | go_num, World.ownsRow_nil _ _ _ _, HBX0.out⟩
          case round =>
            obtain ⟨t, ht, rfl, rfl, ho, hb⟩ := hrel
            have HBX := Lib.hid hb
            have HO := Lib.hid ho
            by_cases hlt3 : t < k
            · obtain ⟨b, o, rfl, hbl, hc⟩ := HA.out (by omega)
              obtain ⟨-, q1, -, hg1, -, -⟩ := hc t hlt3
              have q1' := q1
              rw [← hb.cell (p := ⟨b, o + t * 2 + 1, none⟩) hbl] at q1
              have HZP : Hid (∀ w', Below w.heap.size w w' → w'.cell? ⟨b, o + t * 2 + 1, none⟩ = some (.slice (g t).A (g t).n (g t).c)) := Lib.hid (fun w' hb' => by rw [hb'.cell (p := ⟨b, o + t * 2 + 1, none⟩) hbl]; exact q1')
              have HLT := Lib.hid hlt3
              have hl1 := HLE.out (t + 1) hlt3
              have HS : Hid (endN g e0 (t + 1) = evn (endN g e0 t) + 60 + (g t).n) := Lib.hid rfl
              rw [endN] at hl1
              have hev1 : endN g e0 t ≤ evn (endN g e0 t) := by unfold evn; omega
              obtain ⟨L, hL⟩ : ∃ L, endN g e0 t = L := ⟨_, rfl⟩
              rw [hL] at HS hl1 hev1
              have HL := Lib.hid hL
              clear hc hb ho hbl q1'
              generalize (g t).n = gn at *
              generalize (g t).A = gA at *
              generalize (g t).c = gc at *
              by_cases hp : L % 2 = 1
              · have HEV : Hid (evn (endN g e0 t) = L + 1) := Lib.hid (by rw [HL.out]; unfold evn; omega)
                have HEW : Hid (evn L = L + 1) := Lib.hid (by unfold evn; omega)
                have b0 : ((L : Int) % 2 == 1) = true := by rw [beq_iff_eq]; omega
                rw [HL.out]
                clear hp
                go_wp2_with (at_builtin; refine wpList_append_own _ rfl _ _ 40 rfl w.heap.size 3 i0 (.int .i64 0) 1 8 Tryz.underlying40 HI.out HZ0.out HZ1.out HZ2'.out rfl (by decide) _ _ _ rfl (HO.out.alloc _) ⟨wr.heap.size, 0, none⟩ 1 1 [.int .i64 ((L : Int) + 1)] rfl rfl ?c1 (fun x hx => by simp at hx; subst hx; rfl) (by unfold maxLen; omega) (by omega) (by have := HBX.out.size; simp; omega) ?_)
                case c1 => exact one_cellN wr wr.heap.size rfl _ _
                intro v' w5 hown5 hgrow5 hnil5
                have HB5 : Hid (Below w.heap.size w w5) := Lib.hid (gr_below (HBX.out.alloc HBX.out.size _) (HO.out.alloc _) hgrow5 (by have := HBX.out.size; simp; omega))
                have p1 := HZP.out w5 HB5.out
                have HC : Hid (((List.range (t + 1)).map fun j => Value.int .i64 (evn (endN g e0 j) : Int)) = ((List.range t).map fun j => Value.int .i64 (evn (endN g e0 j) : Int)) ++ [.int .i64 ((L : Int) + 1)]) := Lib.hid (by
                  rw [List.range_succ, List.map_append]
                  simp only [List.map_cons, List.map_nil]
                  rw [HEV.out]
                  rfl)
                go_wp2_with fail
                go_roundw
                case rel => exact ⟨t + 1, HLT.out, by go_num, by rw [HS.out, HEW.out]; go_num, by rw [HC.out]; exact hown5, HB5.out⟩
                case measure => simp [intOf]; have := HLT.out; omega
              · have HEV : Hid (evn (endN g e0 t) = L) := Lib.hid (by rw [HL.out]; unfold evn; omega)
                have HEW : Hid (evn L = L) := Lib.hid (by unfold evn; omega)
                have b0 : ((L : Int) % 2 == 1) = false := by rw [beq_eq_false_iff_ne]; omega
                clear hp
                rw [HL.out]
                go_wp2_with (at_builtin; refine wpList_append_own _ rfl _ _ 40 rfl w.heap.size 3 i0 (.int .i64 0) 1 8 Tryz.underlying40 HI.out HZ0.out HZ1.out HZ2'.out rfl (by decide) _ _ _ rfl (HO.out.alloc _) ⟨wr.heap.size, 0, none⟩ 1 1 [.int .i64 ((L : Int))] rfl rfl ?c1 (fun x hx => by simp at hx; subst hx; rfl) (by unfold maxLen; omega) (by omega) (by have := HBX.out.size; simp; omega) ?_)
                case c1 => exact one_cellN wr wr.heap.size rfl _ _
                intro v' w5 hown5 hgrow5 hnil5
                have HB5 : Hid (Below w.heap.size w w5) := Lib.hid (gr_below (HBX.out.alloc HBX.out.size _) (HO.out.alloc _) hgrow5 (by have := HBX.out.size; simp; omega))
                have p1 := HZP.out w5 HB5.out
                have HC : Hid (((List.range (t + 1)).map fun j => Value.int .i64 (evn (endN g e0 j) : Int)) = ((List.range t).map fun j => Value.int .i64 (evn (endN g e0 j) : Int)) ++ [.int .i64 ((L : Int))]) := Lib.hid (by
                  rw [List.range_succ, List.map_append]
                  simp only [List.map_cons, List.map_nil]
                  rw [HEV.out])
                go_wp2_with fail
                go_roundw
                case rel => exact ⟨t + 1, HLT.out, by go_num, by rw [HS.out, HEW.out]; go_num, by rw [HC.out]; exact hown5, HB5.out⟩
                case measure => simp [intOf]; have := HLT.out; omega
            · obtain rfl : t = k := by omega
              have HO3 := Lib.hid ho
              have HB3 := Lib.hid hb
              clear ho hb
              obtain ⟨en, hen⟩ : ∃ en, endN g e0 t = en := ⟨_, rfl⟩
              have HEN := Lib.hid hen
              clear hen
              rw [HEN.out]
              by_cases hle : 65536 < en
              · go_wp2_with fail
                go_ret2
                exact Or.inr (Or.inl ⟨HY.out, by rw [HEQ.out, HEN.out]; exact hle, rfl, HB3.out⟩)
              · have HLE6 : Hid (∀ k, k ≤ t → endN g e0 k ≤ 65536) := Lib.hid (fun k hk => by
                  have := endN_le g e0 hk
                  rw [HEN.out] at this
                  omega)
                have HEV6 : Hid (∀ k, k < t → evn (endN g e0 k) < 4294967296) := Lib.hid (fun k hk => by have := HLE6.out k (by omega); unfold evn; omega)
                obtain ⟨AV, cV, rfl, hat⟩ := at_own HO3.out HEV6.out
                have HAT := Lib.hid hat
                clear hat HO3
                have HLN : Hid (∀ i, i < t → (g i).nm.size ≤ 15) := Lib.hid (fun i hi => by
                  have := (HY.out.1 i hi).1
                  unfold nmB at this
                  exact (of_decide_eq_true this).1.2)
                have HIX : Hid (0 < j → ixS x j ≤ 65536) := Lib.hid (fun h => by
                  have := HLE6.out 0 (Nat.zero_le _)
                  rw [endN, ← HEQ.out] at this
                  unfold begN at this
                  rw [if_neg (by omega)] at this
                  omega)
                have HIXS : Hid (ixS x j < 10000000000) := Lib.hid (by
                  by_cases h : 0 < j
                  · have := HIX.out h; omega
                  · obtain rfl : j = 0 := by omega
                    show 4 + 4 * 0 + 0 < _
                    decide)
                go_wp2_with fail
                refine (c29 _).mono ?_
                rintro _ w2 ⟨rfl, hb2⟩
                have HB2 : Hid (Below w.heap.size w w2) := Lib.hid (HB3.out.trans (hb2.mono HB3.out.size))
                have HAT2 := Lib.hid (HAT.out.below hb2)
                clear hb2
                go_wp2_with fail
                rw [Lib.run_convert_string_bytes w2 9 24 5 magicB Tryz.underlying9 Tryz.underlying24 Tryz.underlying5]
                simp only [Result.andThen]
                rw [Oper.upon_value]
                have HB4 : Hid (Below w.heap.size w (Lib.bytesWorld w2 5 magicB)) := Lib.hid (HB2.out.trans ((below_bytes w2 magicB).mono HB2.out.size))
                have HAT4 := Lib.hid (HAT2.out.below (below_bytes w2 magicB))
                obtain ⟨c4, hc4⟩ : ∃ c4, grownCap w2 magicB.size 0 5 = c4 := ⟨_, rfl⟩
                have HO4 : Hid (Ow (Lib.bytesWorld w2 5 magicB) w.heap.size (.slice (some ⟨w2.heap.size, 0, none⟩) magicB.size c4) magicB.size (Lib.strCells magicB)) := Lib.hid (by rw [← hc4]; exact ow_mono HB2.out.size (ow_made w2 magicB (by decide)))
                rw [hc4]
                clear hc4
                have HAR : Hid (outB g (startB g x j) t = arB g x t j) := Lib.hid rfl
                have HSZ : Hid (∀ k, k ≤ t → (outB g (startB g x j) k).size = endN g e0 k) := Lib.hid (fun k hk => by
                  rw [outB_size g _ k (fun i hi => ⟨HLN.out i (by omega), by have := HLE6.out (i + 1) (by omega); rw [endN] at this; unfold evn at this; omega⟩), startB_size g x j HIXS.out, HEQ.out])
                have HS0 : Hid (outB g (startB g x j) 0 = startB g x j) := Lib.hid rfl
                have HST : Hid (∀ k, outB g (startB g x j) (k + 1) = padB (outB g (startB g x j) k) ++ headB ((g k).nm ++ ⟨#[47]⟩) (g k).n ++ strN (g k).f (g k).n) := Lib.hid (fun _ => rfl)
                clear HAT HAT2
                generalize Lib.bytesWorld w2 5 magicB = w4 at *
                go_wp2_with fail
                have HS00 : Hid (startB g x j = magicB) := Lib.hid (by unfold startB; rw [if_pos (by omega)])
                have START : Hid (Ow w4 w.heap.size (.slice (some ⟨w2.heap.size, 0, none⟩) magicB.size c4) (outB g (startB g x j) 0).size (Lib.strCells (outB g (startB g x j) 0))) := Lib.hid (by rw [HS0.out, HS00.out]; exact HO4.out)
                clear HS00
                generalize startB g x j = s0 at *
                go_loopw [14, 17] (fun v i wr => R9f w g s0 t v i wr) (fun _ i _ => t - (intOf i).toNat)
                case atStart => exact ⟨0, Nat.zero_le _, rfl, START.out, HB4.out⟩
                case round =>
                  obtain ⟨r, hr, rfl, ho6, hb6⟩ := hrel
                  have HO6 := Lib.hid ho6
                  have HB6 := Lib.hid hb6
                  clear ho6 hb6
                  by_cases hlt6 : r < t
                  · obtain ⟨b, o, rfl, hbl, hc⟩ := HA.out (by omega)
                    obtain ⟨q0, q1, hbz, hg1, hg2, hsl⟩ := hc r hlt6
                    have HLT := Lib.hid hlt6
                    have HSK := Lib.hid (HST.out r)
                    have z1 : (outB g s0 r).size ≤ 65536 := by rw [HSZ.out r hr]; exact HLE6.out r hr
                    have z2 : (g r).n ≤ 65536 := by
                      have := HLE6.out (r + 1) hlt6
                      rw [endN] at this
                      unfold evn at this
                      omega
                    have z3 := HLN.out r hlt6
                    have zz : ((g r).nm ++ ⟨#[47]⟩).size = (g r).nm.size + 1 := by rw [ByteArray.size_append]; rfl
                    have zh := headB_size ((g r).nm ++ ⟨#[47]⟩) (g r).n (by omega) (by omega)
                    have zp : (padB (outB g s0 r)).size ≤ 65537 := by rw [padB_size]; unfold evn; omega
                    have HBZ : Hid (∀ w', Below w.heap.size w w' → Bz w' (g r).A (g r).n (g r).f) := Lib.hid (fun w' hb => hbz.below hb)
                    have HQ : Hid (∀ w', Below w.heap.size w w' → w'.cell? ⟨b, o + r * 2, none⟩ = some (.string (g r).nm) ∧ w'.cell? ⟨b, o + r * 2 + 1, none⟩ = some (.slice (g r).A (g r).n (g r).c)) := Lib.hid (fun w' hb => by
                      rw [hb.cell (p := ⟨b, o + r * 2, none⟩) hbl, hb.cell (p := ⟨b, o + r * 2 + 1, none⟩) hbl]; exact ⟨q0, q1⟩)
                    have HZK := Lib.hid (HZ.out r hlt6)
                    have HZM : Hid ((g r).A = none → (g r).n = 0) := Lib.hid (fun e => by have := HZK.out e; omega)
                    have K31 := Lib.hid (c31 ((g r).nm ++ ⟨#[47]⟩) (g r).n (by omega) (by omega))
                    have HPO : Hid ((outB g s0 r).size % 2 = 1 → padB (outB g s0 r) = outB g s0 r ++ strN (fun _ => 10) 1) := Lib.hid (fun hp => by unfold padB; rw [if_pos hp]; rfl)
                    have HPE : Hid (¬ (outB g s0 r).size % 2 = 1 → padB (outB g s0 r) = outB g s0 r) := Lib.hid (fun hp => by unfold padB; rw [if_neg hp])
                    have z5 : ¬ (9223372036854775807 < (g r).nm.size + 1) := by omega
                    have ZH := Lib.hid zh
                    have ZP := Lib.hid zp
                    have ZZ := Lib.hid zz
                    obtain ⟨A6, c6, rfl⟩ := ow_shape HO6.out
                    clear hc hbz zz zh zp q0 q1 hbl
                    generalize (g r).nm = nm at *
                    generalize (g r).A = gA at *
                    generalize (g r).n = gn at *
                    generalize (g r).c = gc at *
                    generalize (g r).f = gf at *
                    generalize outB g s0 r = O at *
                    generalize headB (nm ++ ⟨#[47]⟩) gn = hd at *
                    generalize padB O = P at *
                    by_cases hp : O.size % 2 = 1
                    · have HP := Lib.hid (HPO.out hp)
                      have b0 : ((O.size : Int) % 2 == 1) = true := by rw [beq_iff_eq]; omega
                      clear hp HPO HPE
                      go_wp2_with (at_builtin; refine app_bs rfl _ _ rfl rfl w.heap.size _ O rfl (HO6.out.below ((Below.refl _ _).alloc (Nat.le_refl _) _)) (HB6.out.alloc HB6.out.size _) (some ⟨wr.heap.size, 0, none⟩) 1 1 (fun _ => 10) rfl (fun e => by cases e) (bz_one wr 10 (by decide)) (fun e => by cases e) (by omega) (by have := HB6.out.size; simp; omega) P HP.out ?_)
                      intro A7 c7 w7 ho7 hb7
                      have HO7 := Lib.hid ho7
                      have HB7 := Lib.hid hb7
                      have q0 := (HQ.out _ (hb7.drew)).1
                      have q1 := (HQ.out _ (hb7.drew)).2
                      clear ho7 hb7
                      go_wp2_with fail
                      obtain ⟨PH, hPH⟩ : ∃ PH, PH = P ++ hd := ⟨_, rfl⟩
                      have HPH := Lib.hid hPH
                      clear hPH
                      rw [← HPH.out] at HSK
                      have ZP2 := ZP.out
                      have ZH2 : hd.size ≤ 60 := by rw [ZH.out]; exact Nat.le_refl _
                      go_region_law (first | (go_simp; go_at_call 31; (with_reducible refine (K31.out _).mono ?_); rintro _ w8 ⟨rfl, hb8⟩; have HO8 := Lib.hid (HO7.out.below (by first | exact hb8 | exact ((Below.refl _ _).drew).trans hb8)); have HB8 := Lib.hid (HB7.out.trans ((by first | exact hb8 | exact ((Below.refl _ _).drew).trans hb8 : Below w7.heap.size w7 w8).mono HB7.out.size))) | (refine step_ts rfl _ _ rfl rfl w.heap.size _ P rfl HO8.out HB8.out hd rfl (by omega) HB8.out.size PH HPH.out ?_; intro A9 c9 w9 ho9 hb9))
                      all_goals
                        have p1 := (HQ.out _ hb9).2
                        have HO9 := Lib.hid ho9
                        have HB9 := Lib.hid hb9
                        have ZS : Hid (PH.size ≤ 65600) := Lib.hid (by rw [HPH.out, ByteArray.size_append]; omega)
                        clear ho9 hb9
                        have hz9 := ZS.out
                        go_wp2_with (at_builtin; refine app_bs rfl _ _ rfl rfl w.heap.size _ PH rfl HO9.out HB9.out gA gn gc gf rfl HZK.out (HBZ.out _ HB9.out) HZM.out (by omega) HB9.out.size _ HSK.out ?_)
                        intro A10 c10 w10 ho10 hb10
                        have HO10 := Lib.hid ho10
                        have HB10 := Lib.hid hb10
                        clear ho10 hb10
                        go_wp2_with fail
                        go_roundw
                        case rel => exact ⟨r + 1, HLT.out, by go_num, HO10.out, HB10.out⟩
                        case measure => simp [intOf]; have := HLT.out; omega
                    · have HP := Lib.hid (HPE.out hp)
                      have b0 : ((O.size : Int) % 2 == 1) = false := by rw [beq_eq_false_iff_ne]; omega
                      have ho7 := HO6.out
                      have hb7 := HB6.out
                      have hpo := HP.out
                      clear hp HPO HPE HP
                      subst hpo
                      have HO7 := Lib.hid ho7
                      have HB7 := Lib.hid hb7
                      have q0 := (HQ.out _ (hb7.drew)).1
                      have q1 := (HQ.out _ (hb7.drew)).2
                      clear ho7 hb7
                      go_wp2_with fail
                      obtain ⟨PH, hPH⟩ : ∃ PH, PH = P ++ hd := ⟨_, rfl⟩
                      have HPH := Lib.hid hPH
                      clear hPH
                      rw [← HPH.out] at HSK
                      have ZP2 := ZP.out
                      have ZH2 : hd.size ≤ 60 := by rw [ZH.out]; exact Nat.le_refl _
                      go_region_law (first | (go_simp; go_at_call 31; (with_reducible refine (K31.out _).mono ?_); rintro _ w8 ⟨rfl, hb8⟩; have HO8 := Lib.hid (HO7.out.below (by first | exact hb8 | exact ((Below.refl _ _).drew).trans hb8)); have HB8 := Lib.hid (HB7.out.trans ((by first | exact hb8 | exact ((Below.refl _ _).drew).trans hb8 : Below wr.heap.size wr w8).mono HB7.out.size))) | (refine step_ts rfl _ _ rfl rfl w.heap.size _ P rfl HO8.out HB8.out hd rfl (by omega) HB8.out.size PH HPH.out ?_; intro A9 c9 w9 ho9 hb9))
                      all_goals
                        have p1 := (HQ.out _ hb9).2
                        have HO9 := Lib.hid ho9
                        have HB9 := Lib.hid hb9
                        have ZS : Hid (PH.size ≤ 65600) := Lib.hid (by rw [HPH.out, ByteArray.size_append]; omega)
                        clear ho9 hb9
                        have hz9 := ZS.out
                        go_wp2_with (at_builtin; refine app_bs rfl _ _ rfl rfl w.heap.size _ PH rfl HO9.out HB9.out gA gn gc gf rfl HZK.out (HBZ.out _ HB9.out) HZM.out (by omega) HB9.out.size _ HSK.out ?_)
                        intro A10 c10 w10 ho10 hb10
                        have HO10 := Lib.hid ho10
                        have HB10 := Lib.hid hb10
                        clear ho10 hb10
                        go_wp2_with fail
                        go_roundw
                        case rel => exact ⟨r + 1, HLT.out, by go_num, HO10.out, HB10.out⟩
                        case measure => simp [intOf]; have := HLT.out; omega
                  · obtain rfl : r = t := by omega
                    obtain ⟨A6, c6, rfl⟩ := ow_shape HO6.out
                    rw [HAR.out] at HO6
                    rw [HAR.out]
                    have h8 : 0 < (arB g x r j).size := by
                      rw [← HAR.out, HSZ.out r hr]
                      have := endN_le g e0 (Nat.zero_le r)
                      rw [endN] at this
                      have h8 : 8 ≤ e0 := by rw [← HEQ.out]; unfold begN; split <;> omega
                      omega
                    obtain ⟨bA, cA, hv, hcA, hbA, hbs⟩ := ow_bs HO6.out h8
                    have HBS := Lib.hid hbs
                    have HVA := Lib.hid hv
                    clear hbs h8 hv
                    go_wp2_with fail
                    go_ret2
                    exact Or.inr (Or.inr ⟨HY.out, by rw [HEQ.out, HEN.out]; omega, ⟨bA, cA, by rw [HVA.out]; rfl, hcA, hbA, HBS.out⟩, HB6.out⟩)
end Go.Proofs.YtgmifaadlaigdaaGreatDoor
