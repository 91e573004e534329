import Derived.Test.YtgmifaadlaigdaaGreatDoorOk
namespace Go.Proofs.YtgmifaadlaigdaaGreatDoor
open Go.ChangeShapes Go.WideShapes Go.ChangeAt Go.RowKit
set_option linter.unusedVariables false
def R9pf (w : World) (g : Nat → Mem) (s0 : ByteArray) (n : Nat) (v i : Value) (wr : World) : Prop := ∃ k : Nat, k ≤ n ∧ i = .int .i64 (k : Int) ∧ Ow wr w.heap.size v (outB g s0 k).size (Lib.strCells (outB g s0 k)) ∧ Below w.heap.size w wr
def R9pg (w4 : World) (F : ByteArray) (x : Nat → Ix) (m : Nat) (v i : Value) (wr : World) : Prop := ∃ k : Nat, k ≤ m ∧ i = .int .i64 (k : Int) ∧ Ow wr w4.heap.size v (F ++ namesB x k).size (Lib.strCells (F ++ namesB x k)) ∧ Below w4.heap.size w4 wr
def R9pa (w : World) (g : Nat → Mem) (n : Nat) (i : Value) (wr : World) : Prop := ∃ k : Nat, k ≤ n ∧ i = .int .i64 (k : Int) ∧ MemsOk g k ∧ Below w.heap.size w wr
def R9pb (w : World) (g : Nat → Mem) (k : Nat) (i : Value) (wr : World) : Prop := ∃ j : Nat, j ≤ k ∧ i = .int .i64 (j : Int) ∧ (∀ i, i < j → (g i).nm ≠ (g k).nm) ∧ Below w.heap.size w wr
def R9pc (w : World) (x : Nat → Ix) (n m : Nat) (l i : Value) (wr : World) : Prop := ∃ k : Nat, k ≤ m ∧ i = .int .i64 (k : Int) ∧ l = .int .i64 (lgN x k : Int) ∧ IxsOk x n k ∧ Below w.heap.size w wr
def R9pe (w4 : World) (g : Nat → Mem) (x : Nat → Ix) (e0 m : Nat) (v i : Value) (wr : World) : Prop := ∃ k : Nat, k ≤ m ∧ i = .int .i64 (k : Int) ∧ Ow wr w4.heap.size v (fourB m ++ placesB g x e0 k).size (Lib.strCells (fourB m ++ placesB g x e0 k)) ∧ Below w4.heap.size w4 wr
def R9pd (w : World) (g : Nat → Mem) (e0 n : Nat) (e v i : Value) (wr : World) : Prop := ∃ k : Nat, k ≤ n ∧ i = .int .i64 (k : Int) ∧ e = .int .i64 (endN g e0 k : Int) ∧ wr.ownsRow w.heap.size 3 1 v k ((List.range k).map fun j => Value.int .i64 (evn (endN g e0 j) : Int)) ∧ Below w.heap.size w wr
set_option maxRecDepth 100000 in
set_option maxHeartbeats 8000000 in
theorem c9p (A B : Option Addr) (n c m d : Nat) (g : Nat → Mem) (x : Nat → Ix) (w : World) (hA : Ms w A n g) (hB : Is w B m x) (hz : Nz g n) (hn : n ≤ 1073741824) (hm : m ≤ 1073741824)
    (hx : lgN x m ≤ 16777216) (hb : endN g (begN x m) n ≤ 1099511627776) (hm0 : 0 < m) : Calls Tryz.prog 9 #[.slice A n c, .slice B m d] w (PutOut g x n m w) := by
  have HA := Lib.hid hA
  have HB := Lib.hid hB
  have HZ := Lib.hid hz
  have HM0 := Lib.hid hm0
  have HEND := Lib.hid hb
  clear hA hB hz hm0 hb
  obtain ⟨i0, hi, hz0⟩ : ∃ i, Tryz.prog.info? 3 = some i ∧ (i.zero, i.size, i.bytes) = (some (.int .i64 0), 1, 8) := by
    have h : (Tryz.prog.info? 3).map (fun i => (i.zero, i.size, i.bytes)) = some (some (.int .i64 0), 1, 8) := by kernel_rfl
    cases hq : Tryz.prog.info? 3 with
    | none => rw [hq] at h; cases h
    | some i => rw [hq] at h; exact ⟨i, rfl, by simpa using h⟩
  simp only [Prod.mk.injEq] at hz0
  obtain ⟨hz0, hz1, hz2⟩ := hz0
  have HI := Lib.hid hi
  have HZ0 := Lib.hid hz0
  have HZ1 := Lib.hid hz1
  have HZ2' := Lib.hid hz2
  clear hi hz0 hz1 hz2
  go_enter Tryz.func9, Tryz.ntmps9
  go_wp2_with fail
  go_loopw [6] (fun i wr => R9pa w g n i wr) (fun i _ => n - (intOf i).toNat)
  case atStart => exact ⟨0, by omega, rfl, fun i hi => absurd hi (by omega), Below.refl _ _⟩
  case round =>
    obtain ⟨k, hk, rfl, hok, hb⟩ := hrel
    have HBW := Lib.hid hb
    have HOK := Lib.hid hok
    by_cases hlt : k < n
    · obtain ⟨b, o, rfl, hbl, hc⟩ := HA.out (by omega)
      obtain ⟨q0, -, -, -, -, hsl⟩ := hc k hlt
      have HC : Hid (∀ j, j < n → w.cell? ⟨b, o + j * 2, none⟩ = some (.string (g j).nm)) := Lib.hid (fun j hj => (hc j hj).1)
      have HZ2 : Hid (∀ w', Below w.heap.size w w' → ∀ j, j < n → w'.cell? ⟨b, o + j * 2, none⟩ = some (.string (g j).nm)) := Lib.hid (fun w' hb j hj => by rw [hb.cell (p := ⟨b, o + j * 2, none⟩) hbl]; exact HC.out j hj)
      have q0 := HZ2.out _ hb k hlt
      have HLT := Lib.hid hlt
      have hzs := hb.size
      have HN : Hid (MemsOk g n → nmB (g k).nm = true ∧ ∀ j, j < k → (g j).nm ≠ (g k).nm) := Lib.hid (fun hm => hm k hlt)
      have HS : Hid ((nmB (g k).nm = true ∧ ∀ j, j < k → (g j).nm ≠ (g k).nm) → MemsOk g (k + 1)) := Lib.hid (fun h => mems_step.mpr ⟨HOK.out, h⟩)
      have K27 := Lib.hid (c27 (g k).nm hsl)
      obtain ⟨nm, hnm⟩ : ∃ nm, (g k).nm = nm := ⟨_, rfl⟩
      rw [hnm] at K27 HN HS q0
      have HNM := Lib.hid hnm
      clear hc hb hok hsl hnm
      obtain ⟨q', hq'⟩ : ∃ q', nmB nm = q' := ⟨_, rfl⟩
      rw [hq'] at K27 HN HS
      clear hq'
      cases q'
      · have HNO : Hid (¬ MemsOk g n) := Lib.hid (fun h => by have := (HN.out h).1; cases this)
        go_wp2_with fail
        refine (K27.out _).mono ?_
        rintro _ _ ⟨rfl, rfl⟩
        go_wp2_with fail
        go_ret2
        exact Or.inl ⟨fun h => HNO.out h.1, rfl, HBW.out⟩
      · go_wp2_with fail
        refine (K27.out _).mono ?_
        rintro _ _ ⟨rfl, rfl⟩
        go_wp2_with fail
        go_loopw [7] (fun i wr => R9pb w g k i wr) (fun i _ => k - (intOf i).toNat)
        case atStart => exact ⟨0, by omega, rfl, fun i hi => absurd hi (by omega), HBW.out⟩
        case round =>
          obtain ⟨j, hj, rfl, hdi, hb2⟩ := hrel
          have HB2 := Lib.hid hb2
          have HDI := Lib.hid hdi
          clear hdi
          by_cases hlt2 : j < k
          · have p0 := HZ2.out _ hb2 k HLT.out
            have p1 := HZ2.out _ hb2 j (by have := HLT.out; omega)
            rw [HNM.out] at p0
            have HLT2 := Lib.hid hlt2
            have hl2 := HLT.out
            clear hb2
            by_cases he : (g j).nm = nm
            · rw [he] at p1
              have HNO : Hid (¬ MemsOk g n) := Lib.hid (fun h => (HN.out h).2 j hlt2 he)
              have b0 : (nm.toList == nm.toList) = true := by simp
              clear he
              go_wp2_with fail
              go_region
              all_goals
                go_wp2_with fail
                go_ret2
                exact Or.inl ⟨fun h => HNO.out h.1, rfl, below_drewN HB2.out _⟩
            · have HE := Lib.hid he
              have b0 : ((g j).nm.toList == nm.toList) = false := by
                rw [ByteArray.toList_eq, ByteArray.toList_eq, beq_eq_false_iff_ne]
                intro e
                exact he (by
                  have h1 := congrArg List.toArray e
                  simp only [Array.toArray_toList] at h1
                  exact ByteArray.ext h1)
              have HDS : Hid (∀ i, i < j + 1 → (g i).nm ≠ (g k).nm) := Lib.hid (fun i hi => by
                by_cases e : i = j
                · rw [e, HNM.out]; exact HE.out
                · exact HDI.out i (by omega))
              clear he
              generalize (g j).nm = nj at *
              go_wp2_with fail
              go_region
              all_goals
                go_wp2_with fail
                go_roundw
                case rel => exact ⟨j + 1, HLT2.out, by go_num, HDS.out, below_drewN HB2.out _⟩
                case measure => simp [intOf]; have := HLT2.out; omega
          · obtain rfl : j = k := by omega
            have HS2 := Lib.hid (HS.out ⟨trivial, by rw [← HNM.out]; exact HDI.out⟩)
            have HBX := Lib.hid hb2
            have hl2 := HLT.out
            clear hb2
            go_wp2_with fail
            go_roundw
            case rel => exact ⟨j + 1, HLT.out, by go_num, HS2.out, HBX.out⟩
            case measure => simp [intOf]; have := HLT.out; omega
    · obtain rfl : k = n := by omega
      clear hb hok
      go_wp2_with fail
      have HLG := Lib.hid (fun j (hj : j ≤ m) => lgN_le x hj)
      go_loopw [8, 9] (fun l i wr => R9pc w x k m l i wr) (fun _ i _ => m - (intOf i).toNat)
      case atStart => exact ⟨0, Nat.zero_le _, rfl, rfl, fun i hi => absurd hi (by omega), HBW.out⟩
      case round =>
        obtain ⟨j, hj, rfl, rfl, hok, hb⟩ := hrel
        have HBX := Lib.hid hb
        have HOX := Lib.hid hok
        by_cases hlt2 : j < m
        · obtain ⟨b, o, rfl, hbl, hc⟩ := HB.out (by omega)
          obtain ⟨q0, q1, hs1, hs2, hs3⟩ := hc j hlt2
          have z : ∀ j, wr.cell? ⟨b, j, none⟩ = w.cell? ⟨b, j, none⟩ := fun j => hb.cell (p := ⟨b, j, none⟩) hbl
          rw [← z] at q0 q1
          have HLT := Lib.hid hlt2
          have hl1 := HLG.out (j + 1) hlt2
          have HLS : Hid (lgN x (j + 1) = lgN x j + ((x j).nm.size + 1)) := Lib.hid rfl
          rw [lgN] at hl1
          have HN : Hid (IxsOk x k m → 0 ≤ (x j).m ∧ (x j).m < (k : Int) ∧ (x j).nm ≠ ⟨#[]⟩ ∧ zeB (x j).nm = false) := Lib.hid (fun h => h j hlt2)
          have HS : Hid ((0 ≤ (x j).m ∧ (x j).m < (k : Int) ∧ (x j).nm ≠ ⟨#[]⟩ ∧ zeB (x j).nm = false) → IxsOk x k (j + 1)) := Lib.hid (fun h => ixs_step.mpr ⟨HOX.out, h⟩)
          have K28 := Lib.hid (c28 (x j).nm hs1)
          have HE := Lib.hid (emp (x j).nm)
          clear hc z hb hok hs1
          generalize (x j).nm = nm at *
          generalize (x j).m = xm at *
          generalize lgN x j = lg at *
          by_cases h1 : xm < 0
          · have HNO : Hid (¬ IxsOk x k m) := Lib.hid (fun h => by have := (HN.out h).1; omega)
            go_wp2_with fail
            go_ret2
            exact Or.inl ⟨fun h => HNO.out h.2, rfl, HBX.out⟩
          · by_cases h2 : (k : Int) ≤ xm
            · have HNO : Hid (¬ IxsOk x k m) := Lib.hid (fun h => by have := (HN.out h).2.1; omega)
              go_wp2_with fail
              go_ret2
              exact Or.inl ⟨fun h => HNO.out h.2, rfl, HBX.out⟩
            · by_cases h3 : nm = ⟨#[]⟩
              · have b0 : (nm.toList == []) = true := by rw [HE.out, decide_eq_true h3]
                have HNO : Hid (¬ IxsOk x k m) := Lib.hid (fun h => (HN.out h).2.2.1 h3)
                clear h3
                go_wp2_with fail
                go_ret2
                exact Or.inl ⟨fun h => HNO.out h.2, rfl, HBX.out⟩
              · have b0 : (nm.toList == []) = false := by rw [HE.out, decide_eq_false h3]
                have H3 := Lib.hid h3
                clear h3
                obtain ⟨q, hq⟩ : ∃ q, zeB nm = q := ⟨_, rfl⟩
                rw [hq] at K28 HN HS
                clear hq
                cases q
                · have HS2 : Hid (IxsOk x k (j + 1)) := Lib.hid (HS.out ⟨by omega, by omega, H3.out, rfl⟩)
                  go_wp2_with fail
                  refine (K28.out _).mono ?_
                  rintro _ _ ⟨rfl, rfl⟩
                  go_wp2_with fail
                  go_roundw
                  case rel => exact ⟨j + 1, HLT.out, by go_num, by rw [HLS.out]; go_num, HS2.out, HBX.out⟩
                  case measure => simp [intOf]; have := HLT.out; omega
                · have HNO : Hid (¬ IxsOk x k m) := Lib.hid (fun h => by have := (HN.out h).2.2.2; cases this)
                  go_wp2_with fail
                  refine (K28.out _).mono ?_
                  rintro _ _ ⟨rfl, rfl⟩
                  go_wp2_with fail
                  go_ret2
                  exact Or.inl ⟨fun h => HNO.out h.2, rfl, HBX.out⟩
        · obtain rfl : j = m := by omega
          have HY : Hid (MemsOk g k ∧ IxsOk x k j) := Lib.hid ⟨HOK.out, HOX.out⟩
          clear hb hok
          have HBX0 := HBX
          have HMB : Hid (j ≤ 1073741824) := Lib.hid hm
          obtain ⟨e0, he0⟩ : ∃ e0, begN x j = e0 := ⟨_, rfl⟩
          have hend := HEND.out
          rw [he0] at hend
          have HLE : Hid (∀ t, t ≤ k → endN g e0 t ≤ 1099511627776) := Lib.hid (fun t ht => Nat.le_trans (endN_le g e0 ht) hend)
          clear hend
          have HEQ := Lib.hid he0
          clear he0
          have hm0 := HM0.out
          have HE0 : Hid (e0 = 72 + 4 * j + lgN x j) := Lib.hid (by rw [← HEQ.out]; unfold begN ixS; rw [if_neg (by omega)]; omega)
          have hlgj := HLG.out j (Nat.le_refl _)
          go_wp2_with fail
          go_loopw [11, 12, 13] (fun e v i wr => R9pd w g e0 k e v i wr) (fun _ _ i _ => k - (intOf i).toNat)
          case atStart => exact ⟨0, Nat.zero_le _, rfl, by show _ = Value.int .i64 (e0 : Int); rw [HE0.out]; first | rfl | go_num, World.ownsRow_nil _ _ _ _, HBX0.out⟩
          case round =>
            obtain ⟨t, ht, rfl, rfl, ho, hb⟩ := hrel
            have HBX := Lib.hid hb
            have HO := Lib.hid ho
            by_cases hlt3 : t < k
            · obtain ⟨b, o, rfl, hbl, hc⟩ := HA.out (by omega)
              obtain ⟨-, q1, -, hg1, -, -⟩ := hc t hlt3
              have q1' := q1
              rw [← hb.cell (p := ⟨b, o + t * 2 + 1, none⟩) hbl] at q1
              have HZP : Hid (∀ w', Below w.heap.size w w' → w'.cell? ⟨b, o + t * 2 + 1, none⟩ = some (.slice (g t).A (g t).n (g t).c)) := Lib.hid (fun w' hb' => by rw [hb'.cell (p := ⟨b, o + t * 2 + 1, none⟩) hbl]; exact q1')
              have HLT := Lib.hid hlt3
              have hl1 := HLE.out (t + 1) hlt3
              have HS : Hid (endN g e0 (t + 1) = evn (endN g e0 t) + 60 + (g t).n) := Lib.hid rfl
              rw [endN] at hl1
              have hev1 : endN g e0 t ≤ evn (endN g e0 t) := by unfold evn; omega
              obtain ⟨L, hL⟩ : ∃ L, endN g e0 t = L := ⟨_, rfl⟩
              rw [hL] at HS hl1 hev1
              have HL := Lib.hid hL
              clear hc hb ho hbl q1'
              generalize (g t).n = gn at *
              generalize (g t).A = gA at *
              generalize (g t).c = gc at *
              by_cases hp : L % 2 = 1
              · have HEV : Hid (evn (endN g e0 t) = L + 1) := Lib.hid (by rw [HL.out]; unfold evn; omega)
                have HEW : Hid (evn L = L + 1) := Lib.hid (by unfold evn; omega)
                have b0 : ((L : Int) % 2 == 1) = true := by rw [beq_iff_eq]; omega
                rw [HL.out]
                clear hp
                go_wp2_with (at_builtin; refine wpList_append_own _ rfl _ _ 40 rfl w.heap.size 3 i0 (.int .i64 0) 1 8 Tryz.underlying40 HI.out HZ0.out HZ1.out HZ2'.out rfl (by decide) _ _ _ rfl (HO.out.alloc _) ⟨wr.heap.size, 0, none⟩ 1 1 [.int .i64 ((L : Int) + 1)] rfl rfl ?c1 (fun x hx => by simp at hx; subst hx; rfl) (by unfold maxLen; omega) (by omega) (by have := HBX.out.size; simp; omega) ?_)
                case c1 => exact one_cellN wr wr.heap.size rfl _ _
                intro v' w5 hown5 hgrow5 hnil5
                have HB5 : Hid (Below w.heap.size w w5) := Lib.hid (gr_below (HBX.out.alloc HBX.out.size _) (HO.out.alloc _) hgrow5 (by have := HBX.out.size; simp; omega))
                have p1 := HZP.out w5 HB5.out
                have HC : Hid (((List.range (t + 1)).map fun j => Value.int .i64 (evn (endN g e0 j) : Int)) = ((List.range t).map fun j => Value.int .i64 (evn (endN g e0 j) : Int)) ++ [.int .i64 ((L : Int) + 1)]) := Lib.hid (by
                  rw [List.range_succ, List.map_append]
                  simp only [List.map_cons, List.map_nil]
                  rw [HEV.out]
                  rfl)
                go_wp2_with fail
                go_roundw
                case rel => exact ⟨t + 1, HLT.out, by go_num, by rw [HS.out, HEW.out]; go_num, by rw [HC.out]; exact hown5, HB5.out⟩
                case measure => simp [intOf]; have := HLT.out; omega
              · have HEV : Hid (evn (endN g e0 t) = L) := Lib.hid (by rw [HL.out]; unfold evn; omega)
                have HEW : Hid (evn L = L) := Lib.hid (by unfold evn; omega)
                have b0 : ((L : Int) % 2 == 1) = false := by rw [beq_eq_false_iff_ne]; omega
                clear hp
                rw [HL.out]
                go_wp2_with (at_builtin; refine wpList_append_own _ rfl _ _ 40 rfl w.heap.size 3 i0 (.int .i64 0) 1 8 Tryz.underlying40 HI.out HZ0.out HZ1.out HZ2'.out rfl (by decide) _ _ _ rfl (HO.out.alloc _) ⟨wr.heap.size, 0, none⟩ 1 1 [.int .i64 ((L : Int))] rfl rfl ?c1 (fun x hx => by simp at hx; subst hx; rfl) (by unfold maxLen; omega) (by omega) (by have := HBX.out.size; simp; omega) ?_)
                case c1 => exact one_cellN wr wr.heap.size rfl _ _
                intro v' w5 hown5 hgrow5 hnil5
                have HB5 : Hid (Below w.heap.size w w5) := Lib.hid (gr_below (HBX.out.alloc HBX.out.size _) (HO.out.alloc _) hgrow5 (by have := HBX.out.size; simp; omega))
                have p1 := HZP.out w5 HB5.out
                have HC : Hid (((List.range (t + 1)).map fun j => Value.int .i64 (evn (endN g e0 j) : Int)) = ((List.range t).map fun j => Value.int .i64 (evn (endN g e0 j) : Int)) ++ [.int .i64 ((L : Int))]) := Lib.hid (by
                  rw [List.range_succ, List.map_append]
                  simp only [List.map_cons, List.map_nil]
                  rw [HEV.out])
                go_wp2_with fail
                go_roundw
                case rel => exact ⟨t + 1, HLT.out, by go_num, by rw [HS.out, HEW.out]; go_num, by rw [HC.out]; exact hown5, HB5.out⟩
                case measure => simp [intOf]; have := HLT.out; omega
            · obtain rfl : t = k := by omega
              have HO3 := Lib.hid ho
              have HB3 := Lib.hid hb
              clear ho hb
              obtain ⟨en, hen⟩ : ∃ en, endN g e0 t = en := ⟨_, rfl⟩
              have HEN := Lib.hid hen
              clear hen
              rw [HEN.out]
              by_cases hle : 65536 < en
              · go_wp2_with fail
                go_ret2
                exact Or.inr (Or.inl ⟨HY.out, by rw [HEQ.out, HEN.out]; exact hle, rfl, HB3.out⟩)
              · have HLE6 : Hid (∀ k, k ≤ t → endN g e0 k ≤ 65536) := Lib.hid (fun k hk => by
                  have := endN_le g e0 hk
                  rw [HEN.out] at this
                  omega)
                have HEV6 : Hid (∀ k, k < t → evn (endN g e0 k) < 4294967296) := Lib.hid (fun k hk => by have := HLE6.out k (by omega); unfold evn; omega)
                obtain ⟨AV, cV, rfl, hat⟩ := at_own HO3.out HEV6.out
                have HAT := Lib.hid hat
                clear hat HO3
                have HLN : Hid (∀ i, i < t → (g i).nm.size ≤ 15) := Lib.hid (fun i hi => by
                  have := (HY.out.1 i hi).1
                  unfold nmB at this
                  exact (of_decide_eq_true this).1.2)
                have HIX : Hid (0 < j → ixS x j ≤ 65536) := Lib.hid (fun h => by
                  have := HLE6.out 0 (Nat.zero_le _)
                  rw [endN, ← HEQ.out] at this
                  unfold begN at this
                  rw [if_neg (by omega)] at this
                  omega)
                have HIXS : Hid (ixS x j < 10000000000) := Lib.hid (by
                  by_cases h : 0 < j
                  · have := HIX.out h; omega
                  · obtain rfl : j = 0 := by omega
                    show 4 + 4 * 0 + 0 < _
                    decide)
                go_wp2_with fail
                refine (c29 _).mono ?_
                rintro _ w2 ⟨rfl, hb2⟩
                have HB2 : Hid (Below w.heap.size w w2) := Lib.hid (HB3.out.trans (hb2.mono HB3.out.size))
                have HAT2 := Lib.hid (HAT.out.below hb2)
                clear hb2
                go_wp2_with fail
                rw [Lib.run_convert_string_bytes w2 9 24 5 magicB Tryz.underlying9 Tryz.underlying24 Tryz.underlying5]
                simp only [Result.andThen]
                rw [Oper.upon_value]
                have HB4 : Hid (Below w.heap.size w (Lib.bytesWorld w2 5 magicB)) := Lib.hid (HB2.out.trans ((below_bytes w2 magicB).mono HB2.out.size))
                have HAT4 := Lib.hid (HAT2.out.below (below_bytes w2 magicB))
                obtain ⟨c4, hc4⟩ : ∃ c4, grownCap w2 magicB.size 0 5 = c4 := ⟨_, rfl⟩
                have HO4 : Hid (Ow (Lib.bytesWorld w2 5 magicB) w.heap.size (.slice (some ⟨w2.heap.size, 0, none⟩) magicB.size c4) magicB.size (Lib.strCells magicB)) := Lib.hid (by rw [← hc4]; exact ow_mono HB2.out.size (ow_made w2 magicB (by decide)))
                rw [hc4]
                clear hc4
                have HAR : Hid (outB g (startB g x j) t = arB g x t j) := Lib.hid rfl
                have HSZ : Hid (∀ k, k ≤ t → (outB g (startB g x j) k).size = endN g e0 k) := Lib.hid (fun k hk => by
                  rw [outB_size g _ k (fun i hi => ⟨HLN.out i (by omega), by have := HLE6.out (i + 1) (by omega); rw [endN] at this; unfold evn at this; omega⟩), startB_size g x j HIXS.out, HEQ.out])
                have HS0 : Hid (outB g (startB g x j) 0 = startB g x j) := Lib.hid rfl
                have HST : Hid (∀ k, outB g (startB g x j) (k + 1) = padB (outB g (startB g x j) k) ++ headB ((g k).nm ++ ⟨#[47]⟩) (g k).n ++ strN (g k).f (g k).n) := Lib.hid (fun _ => rfl)
                clear HAT HAT2
                generalize Lib.bytesWorld w2 5 magicB = w4 at *
                go_wp2_with fail
                refine (c30 j (by omega) _).mono ?_
                rintro _ _ ⟨rfl, rfl⟩
                have HF0 := Lib.hid (ow_four w4 j (by omega))
                have HBF := Lib.hid ((Below.refl w4.heap.size w4).alloc (Nat.le_refl _) (.cells (fourA j) 5))
                generalize w4.alloc (.cells (fourA j) 5) = w5 at *
                have H0 : Hid (fourB j ++ placesB g x e0 0 = fourB j) := Lib.hid (ba_empty _)
                have HPS : Hid (∀ k, placesB g x e0 (k + 1) = placesB g x e0 k ++ fourB (evn (endN g e0 (x k).m.toNat))) := Lib.hid (fun _ => rfl)
                have HPZ : Hid (∀ k, (fourB j ++ placesB g x e0 k).size = 4 + 4 * k) := Lib.hid (fun k => by rw [ByteArray.size_append, placesB_size]; rfl)
                have hj6 : j ≤ 65536 := by have := HIX.out hm0; unfold ixS at this; omega
                have hl6 : lgN x j ≤ 65536 := by have := HIX.out hm0; unfold ixS at this; omega
                go_wp2_with fail
                go_loopw [10, 15] (fun v i wr => R9pe w4 g x e0 j v i wr) (fun _ i _ => j - (intOf i).toNat)
                case atStart => exact ⟨0, Nat.zero_le _, rfl, by rw [H0.out]; exact HF0.out, HBF.out⟩
                case round =>
                  obtain ⟨q, hq, rfl, hof, hbf⟩ := hrel
                  have HOF := Lib.hid hof
                  have HBF2 := Lib.hid hbf
                  obtain ⟨A1, c1, rfl⟩ := ow_shape hof
                  have HBW2 : Hid (Below w.heap.size w wr) := Lib.hid (HB4.out.trans (hbf.mono HB4.out.size))
                  clear hof hbf
                  by_cases hlt7 : q < j
                  · obtain ⟨b, o, rfl, hbl, hc⟩ := (HB.out.below HBW2.out) (by omega)
                    obtain ⟨-, q1, -, -, -⟩ := hc q hlt7
                    obtain ⟨x1, x2, x3, x4⟩ := HY.out.2 q hlt7
                    obtain ⟨y, hy⟩ : ∃ y : Nat, (x q).m = (y : Int) := ⟨(x q).m.toNat, by omega⟩
                    have HJ : Hid ((x q).m.toNat = y) := Lib.hid (by omega)
                    have HLT := Lib.hid hlt7
                    rw [hy] at q1
                    have hyn : y < t := by omega
                    obtain ⟨ba, rfl, hbl2, hc2⟩ := (HAT4.out.below HBF2.out) (by omega)
                    obtain ⟨q2, hq2⟩ : wr.cell? ⟨ba, y, none⟩ = some (.int .i64 (evn (endN g e0 y) : Int)) ∧ evn (endN g e0 y) < 4294967296 := hc2 y hyn
                    have HSK := Lib.hid (HPS.out q)
                    rw [HJ.out] at HSK
                    have hz : (fourB j ++ placesB g x e0 q).size ≤ 400000 := by have := HPZ.out q; omega
                    have HEQ2 : Hid (fourB j ++ placesB g x e0 (q + 1) = fourB j ++ placesB g x e0 q ++ strN (bb (fourB (evn (endN g e0 y)))) 4) := Lib.hid (by
                      rw [HSK.out, ← ba_assoc]
                      congr 1
                      exact (strN_bb (fourB _)).symm)
                    clear x1 x2 x3 x4 hc hc2 hy hbl hbl2
                    generalize evn (endN g e0 y) = pl at *
                    generalize fourB j ++ placesB g x e0 q = F at *
                    obtain ⟨F2, hF2⟩ : ∃ F2, fourB j ++ placesB g x e0 (q + 1) = F2 := ⟨_, rfl⟩
                    rw [hF2] at HEQ2
                    have HF2 := Lib.hid hF2
                    clear hF2
                    go_wp2_with fail
                    refine (c30 pl hq2 _).mono ?_
                    rintro _ _ ⟨rfl, rfl⟩
                    go_wp2_with (at_builtin; refine app_bs rfl _ _ rfl rfl w4.heap.size _ F rfl (HOF.out.below ((Below.refl _ _).alloc (Nat.le_refl _) _)) (HBF2.out.alloc HBF2.out.size _) (some ⟨wr.heap.size, 0, none⟩) 4 4 (bb (fourB pl)) rfl (fun e => by cases e) (bz_four wr pl hq2) (fun e => by cases e) (by omega) (by have := HBF2.out.size; simp; omega) F2 HEQ2.out ?_)
                    intro A2 c2 w6 ho6 hb6
                    have HO6 := Lib.hid ho6
                    have HB6 := Lib.hid hb6
                    clear ho6 hb6
                    go_wp2_with fail
                    go_roundw
                    case rel => exact ⟨q + 1, HLT.out, by go_num, by rw [HF2.out]; exact HO6.out, HB6.out⟩
                    case measure => simp [intOf]; have := HLT.out; omega
                  · obtain rfl : q = j := by omega
                    have HN0 : Hid (fourB q ++ placesB g x e0 q ++ namesB x 0 = fourB q ++ placesB g x e0 q) := Lib.hid (ba_empty _)
                    have HNS : Hid (∀ k, namesB x (k + 1) = namesB x k ++ (x k).nm ++ ⟨#[0]⟩) := Lib.hid (fun _ => rfl)
                    have HFI : Hid (fourB q ++ placesB g x e0 q ++ namesB x q = indexB g x e0 q) := Lib.hid rfl
                    have HNZ : Hid (∀ k, k ≤ q → (fourB q ++ placesB g x e0 q ++ namesB x k).size ≤ 400000) := Lib.hid (fun k hk => by rw [ByteArray.size_append, HPZ.out, namesB_size]; have := HLG.out k hk; omega)
                    have HNN : Hid (∀ k, k < q → (x k).nm.size ≤ 65536) := Lib.hid (fun k hk => by have := HLG.out (k + 1) hk; rw [lgN] at this; omega)
                    have HOX2 : Hid (q ≤ 65536) := Lib.hid hj6
                    generalize fourB q ++ placesB g x e0 q = F0 at *
                    go_wp2_with fail
                    go_loopw [10, 16] (fun v i wr => R9pg w4 F0 x q v i wr) (fun _ i _ => q - (intOf i).toNat)
                    case atStart => exact ⟨0, Nat.zero_le _, rfl, by rw [HN0.out]; exact HOF.out, HBF2.out⟩
                    case round =>
                      obtain ⟨r, hr, rfl, hof, hbf⟩ := hrel
                      have HOG := Lib.hid hof
                      have HBG := Lib.hid hbf
                      obtain ⟨A3, c3, rfl⟩ := ow_shape hof
                      have HBW3 : Hid (Below w.heap.size w wr) := Lib.hid (HB4.out.trans (hbf.mono HB4.out.size))
                      clear hof hbf
                      by_cases hlt8 : r < q
                      · obtain ⟨b, o, rfl, hbl, hc⟩ := (HB.out.below HBW3.out) (by omega)
                        obtain ⟨q1, -, -, -, -⟩ := hc r hlt8
                        have HLT := Lib.hid hlt8
                        have hz : (F0 ++ namesB x r).size ≤ 400000 := HNZ.out r hr
                        have hzn := HNN.out r hlt8
                        obtain ⟨G1, hG1⟩ : ∃ G1, F0 ++ namesB x r ++ (x r).nm = G1 := ⟨_, rfl⟩
                        have HG1 : Hid (G1 = F0 ++ namesB x r ++ (x r).nm) := Lib.hid hG1.symm
                        have hz1 : G1.size ≤ 500000 := by rw [← hG1, ByteArray.size_append]; omega
                        obtain ⟨G2, hG2⟩ : ∃ G2, F0 ++ namesB x (r + 1) = G2 := ⟨_, rfl⟩
                        have HG2 : Hid (F0 ++ namesB x (r + 1) = G2) := Lib.hid hG2
                        have HG3 : Hid (G2 = G1 ++ strN (fun _ => 0) 1) := Lib.hid (by
                          rw [← hG2, HNS.out, ← hG1, ← ba_assoc, ← ba_assoc]
                          rfl)
                        clear hc hbl hG1 hG2
                        generalize (x r).nm = nm at *
                        generalize F0 ++ namesB x r = G0 at *
                        go_wp2_with (at_builtin; refine app_ts rfl _ _ rfl rfl w4.heap.size _ G0 rfl HOG.out HBG.out nm rfl (by omega) HBG.out.size G1 HG1.out ?_)
                        intro A4 c4' w6 ho6 hb6
                        have HO6 := Lib.hid ho6
                        have HB6 := Lib.hid hb6
                        clear ho6 hb6
                        go_wp2_with (at_builtin; refine app_bs rfl _ _ rfl rfl w4.heap.size _ G1 rfl (HO6.out.below ((Below.refl _ _).alloc (Nat.le_refl _) _)) (HB6.out.alloc HB6.out.size _) (some ⟨w6.heap.size, 0, none⟩) 1 1 (fun _ => 0) rfl (fun e => by cases e) (bz_one w6 0 (by decide)) (fun e => by cases e) (by omega) (by have := HB6.out.size; simp; omega) G2 HG3.out ?_)
                        intro A5 c5 w7 ho7 hb7
                        have HO7 := Lib.hid ho7
                        have HB7 := Lib.hid hb7
                        clear ho7 hb7
                        go_wp2_with fail
                        go_roundw
                        case rel => exact ⟨r + 1, HLT.out, by go_num, by rw [HG2.out]; exact HO7.out, HB7.out⟩
                        case measure => simp [intOf]; have := HLT.out; omega
                      · obtain rfl : r = q := by omega
                        rw [HFI.out] at HOG
                        rw [HFI.out]
                        have HII := Lib.hid (indexB_size g x e0 r)
                        have hix6 := HIX.out hm0
                        have HIZ : Hid ((indexB g x e0 r).size ≤ 65536) := Lib.hid (by rw [HII.out]; exact hix6)
                        have K31 := Lib.hid (c31 ⟨#[47]⟩ (indexB g x e0 r).size (by decide) (by have := HIZ.out; omega))
                        have HSB : Hid (startB g x r = magicB ++ headB ⟨#[47]⟩ (indexB g x e0 r).size ++ strN (bb (indexB g x e0 r)) (indexB g x e0 r).size) := Lib.hid (by
                          unfold startB
                          rw [if_neg (by omega), HEQ.out, strN_bb])
                        have ZH : Hid ((headB ⟨#[47]⟩ (indexB g x e0 r).size).size = 60) := Lib.hid (headB_size _ _ (by decide) (by have := HIZ.out; omega))
                        clear hix6 HII
                        generalize indexB g x e0 r = IB at *
                        generalize headB ⟨#[47]⟩ IB.size = hd at *
                        go_wp2_with fail
                        refine (K31.out _).mono ?_
                        rintro _ w8 ⟨rfl, hb8⟩
                        have HO8 := Lib.hid ((HO4.out.below HBG.out).below hb8)
                        have HB8 : Hid (Below w.heap.size w w8) := Lib.hid (HBW3.out.trans (hb8.mono HBW3.out.size))
                        have HF8 := Lib.hid (HOG.out.below hb8)
                        have HLT4 := Lib.hid ((HO4.out.lt w2.heap.size rfl).2)
                        have hm8 : magicB.size = 8 := rfl
                        have HM8 := Lib.hid hm8
                        have hz60 : hd.size ≤ 60 := by rw [ZH.out]; exact Nat.le_refl _
                        have hzi := HIZ.out
                        have HBO : Hid (magicB.size + hd.size ≤ 140737488355328) := Lib.hid (by omega)
                        clear hb8 hm8
                        go_wp2_with (at_builtin; refine app_t rfl _ _ rfl rfl w.heap.size _ magicB.size (Lib.strCells magicB) rfl HO8.out hd rfl HBO.out HB8.out.size ?_)
                        intro v9 w9 h9 hg9
                        have HO9 := Lib.hid (ow_cat h9)
                        obtain ⟨A9, c9, rfl⟩ := ow_shape (ow_cat h9)
                        have HB9 := Lib.hid (ow_grown HB8.out HO8.out hg9 HB8.out.size)
                        have HF9 := Lib.hid (HF8.out.kept hg9 (Or.inr (fun e => by have h1 : w4.heap.size ≤ w2.heap.size := (HF8.out.lt _ e).1; have h2 := HLT4.out; omega)))
                        have HSZ9 : Hid (magicB.size + hd.size = (magicB ++ hd).size) := Lib.hid (by rw [ByteArray.size_append])
                        have hz9 : (magicB ++ hd).size ≤ 68 := by rw [← HSZ9.out, HM8.out]; omega
                        clear h9 hg9
                        generalize magicB ++ hd = M9 at *
                        go_wp2_with (at_builtin; refine app_bs rfl _ _ rfl rfl w.heap.size _ M9 rfl HO9.out HB9.out A3 IB.size c3 (bb IB) rfl (ow_bz HF9.out).2.1 (ow_bz HF9.out).1 (ow_bz HF9.out).2.2 (by omega) HB9.out.size (startB g x r) HSB.out ?_)
                        intro A10 c10 w10 ho10 hb10
                        have HO10 := Lib.hid ho10
                        have HB10 := Lib.hid hb10
                        clear ho10 hb10
                        have START : Hid (Ow w10 w.heap.size (.slice A10 (startB g x r).size c10) (outB g (startB g x r) 0).size (Lib.strCells (outB g (startB g x r) 0))) := Lib.hid (by rw [HS0.out]; exact HO10.out)
                        generalize startB g x r = s0 at *
                        go_wp2_with fail
                        go_loopw [14, 17] (fun v i wr => R9pf w g s0 t v i wr) (fun _ i _ => t - (intOf i).toNat)
                        case atStart => exact ⟨0, Nat.zero_le _, rfl, START.out, HB10.out⟩
                        case round =>
                          obtain ⟨z, hr, rfl, ho6, hb6⟩ := hrel
                          have HO6 := Lib.hid ho6
                          have HB6 := Lib.hid hb6
                          clear ho6 hb6
                          by_cases hlt6 : z < t
                          · obtain ⟨b, o, rfl, hbl, hc⟩ := HA.out (by omega)
                            obtain ⟨q0, q1, hbz, hg1, hg2, hsl⟩ := hc z hlt6
                            have HLT := Lib.hid hlt6
                            have HSK := Lib.hid (HST.out z)
                            have z1 : (outB g s0 z).size ≤ 65536 := by rw [HSZ.out z hr]; exact HLE6.out z hr
                            have z2 : (g z).n ≤ 65536 := by
                              have := HLE6.out (z + 1) hlt6
                              rw [endN] at this
                              unfold evn at this
                              omega
                            have z3 := HLN.out z hlt6
                            have zz : ((g z).nm ++ ⟨#[47]⟩).size = (g z).nm.size + 1 := by rw [ByteArray.size_append]; rfl
                            have zh := headB_size ((g z).nm ++ ⟨#[47]⟩) (g z).n (by omega) (by omega)
                            have zp : (padB (outB g s0 z)).size ≤ 65537 := by rw [padB_size]; unfold evn; omega
                            have HBZ : Hid (∀ w', Below w.heap.size w w' → Bz w' (g z).A (g z).n (g z).f) := Lib.hid (fun w' hb => hbz.below hb)
                            have HQ : Hid (∀ w', Below w.heap.size w w' → w'.cell? ⟨b, o + z * 2, none⟩ = some (.string (g z).nm) ∧ w'.cell? ⟨b, o + z * 2 + 1, none⟩ = some (.slice (g z).A (g z).n (g z).c)) := Lib.hid (fun w' hb => by
                              rw [hb.cell (p := ⟨b, o + z * 2, none⟩) hbl, hb.cell (p := ⟨b, o + z * 2 + 1, none⟩) hbl]; exact ⟨q0, q1⟩)
                            have HZK := Lib.hid (HZ.out z hlt6)
                            have HZM : Hid ((g z).A = none → (g z).n = 0) := Lib.hid (fun e => by have := HZK.out e; omega)
                            have K31 := Lib.hid (c31 ((g z).nm ++ ⟨#[47]⟩) (g z).n (by omega) (by omega))
                            have HPO : Hid ((outB g s0 z).size % 2 = 1 → padB (outB g s0 z) = outB g s0 z ++ strN (fun _ => 10) 1) := Lib.hid (fun hp => by unfold padB; rw [if_pos hp]; rfl)
                            have HPE : Hid (¬ (outB g s0 z).size % 2 = 1 → padB (outB g s0 z) = outB g s0 z) := Lib.hid (fun hp => by unfold padB; rw [if_neg hp])
                            have z5 : ¬ (9223372036854775807 < (g z).nm.size + 1) := by omega
                            have ZH := Lib.hid zh
                            have ZP := Lib.hid zp
                            have ZZ := Lib.hid zz
                            obtain ⟨A6, c6, rfl⟩ := ow_shape HO6.out
                            clear hc hbz zz zh zp q0 q1 hbl
                            generalize (g z).nm = nm at *
                            generalize (g z).A = gA at *
                            generalize (g z).n = gn at *
                            generalize (g z).c = gc at *
                            generalize (g z).f = gf at *
                            generalize outB g s0 z = O at *
                            generalize headB (nm ++ ⟨#[47]⟩) gn = hd at *
                            generalize padB O = P at *
                            by_cases hp : O.size % 2 = 1
                            · have HP := Lib.hid (HPO.out hp)
                              have b0 : ((O.size : Int) % 2 == 1) = true := by rw [beq_iff_eq]; omega
                              clear hp HPO HPE
                              go_wp2_with (at_builtin; refine app_bs rfl _ _ rfl rfl w.heap.size _ O rfl (HO6.out.below ((Below.refl _ _).alloc (Nat.le_refl _) _)) (HB6.out.alloc HB6.out.size _) (some ⟨wr.heap.size, 0, none⟩) 1 1 (fun _ => 10) rfl (fun e => by cases e) (bz_one wr 10 (by decide)) (fun e => by cases e) (by omega) (by have := HB6.out.size; simp; omega) P HP.out ?_)
                              intro A7 c7 w7 ho7 hb7
                              have HO7 := Lib.hid ho7
                              have HB7 := Lib.hid hb7
                              have q0 := (HQ.out _ (hb7.drew)).1
                              have q1 := (HQ.out _ (hb7.drew)).2
                              clear ho7 hb7
                              go_wp2_with fail
                              obtain ⟨PH, hPH⟩ : ∃ PH, PH = P ++ hd := ⟨_, rfl⟩
                              have HPH := Lib.hid hPH
                              clear hPH
                              rw [← HPH.out] at HSK
                              have ZP2 := ZP.out
                              have ZH2 : hd.size ≤ 60 := by rw [ZH.out]; exact Nat.le_refl _
                              go_region_law (first | (go_simp; go_at_call 31; (with_reducible refine (K31.out _).mono ?_); rintro _ w8 ⟨rfl, hb8⟩; have HO8 := Lib.hid (HO7.out.below (by first | exact hb8 | exact ((Below.refl _ _).drew).trans hb8)); have HB8 := Lib.hid (HB7.out.trans ((by first | exact hb8 | exact ((Below.refl _ _).drew).trans hb8 : Below w7.heap.size w7 w8).mono HB7.out.size))) | (refine step_ts rfl _ _ rfl rfl w.heap.size _ P rfl HO8.out HB8.out hd rfl (by omega) HB8.out.size PH HPH.out ?_; intro A9 c9 w9 ho9 hb9))
                              all_goals
                                have p1 := (HQ.out _ hb9).2
                                have HO9 := Lib.hid ho9
                                have HB9 := Lib.hid hb9
                                have ZS : Hid (PH.size ≤ 65600) := Lib.hid (by rw [HPH.out, ByteArray.size_append]; omega)
                                clear ho9 hb9
                                have hz9 := ZS.out
                                go_wp2_with (at_builtin; refine app_bs rfl _ _ rfl rfl w.heap.size _ PH rfl HO9.out HB9.out gA gn gc gf rfl HZK.out (HBZ.out _ HB9.out) HZM.out (by omega) HB9.out.size _ HSK.out ?_)
                                intro A10 c10 w10 ho10 hb10
                                have HO10 := Lib.hid ho10
                                have HB10 := Lib.hid hb10
                                clear ho10 hb10
                                go_wp2_with fail
                                go_roundw
                                case rel => exact ⟨z + 1, HLT.out, by go_num, HO10.out, HB10.out⟩
                                case measure => simp [intOf]; have := HLT.out; omega
                            · have HP := Lib.hid (HPE.out hp)
                              have b0 : ((O.size : Int) % 2 == 1) = false := by rw [beq_eq_false_iff_ne]; omega
                              have ho7 := HO6.out
                              have hb7 := HB6.out
                              have hpo := HP.out
                              clear hp HPO HPE HP
                              subst hpo
                              have HO7 := Lib.hid ho7
                              have HB7 := Lib.hid hb7
                              have q0 := (HQ.out _ (hb7.drew)).1
                              have q1 := (HQ.out _ (hb7.drew)).2
                              clear ho7 hb7
                              go_wp2_with fail
                              obtain ⟨PH, hPH⟩ : ∃ PH, PH = P ++ hd := ⟨_, rfl⟩
                              have HPH := Lib.hid hPH
                              clear hPH
                              rw [← HPH.out] at HSK
                              have ZP2 := ZP.out
                              have ZH2 : hd.size ≤ 60 := by rw [ZH.out]; exact Nat.le_refl _
                              go_region_law (first | (go_simp; go_at_call 31; (with_reducible refine (K31.out _).mono ?_); rintro _ w8 ⟨rfl, hb8⟩; have HO8 := Lib.hid (HO7.out.below (by first | exact hb8 | exact ((Below.refl _ _).drew).trans hb8)); have HB8 := Lib.hid (HB7.out.trans ((by first | exact hb8 | exact ((Below.refl _ _).drew).trans hb8 : Below wr.heap.size wr w8).mono HB7.out.size))) | (refine step_ts rfl _ _ rfl rfl w.heap.size _ P rfl HO8.out HB8.out hd rfl (by omega) HB8.out.size PH HPH.out ?_; intro A9 c9 w9 ho9 hb9))
                              all_goals
                                have p1 := (HQ.out _ hb9).2
                                have HO9 := Lib.hid ho9
                                have HB9 := Lib.hid hb9
                                have ZS : Hid (PH.size ≤ 65600) := Lib.hid (by rw [HPH.out, ByteArray.size_append]; omega)
                                clear ho9 hb9
                                have hz9 := ZS.out
                                go_wp2_with (at_builtin; refine app_bs rfl _ _ rfl rfl w.heap.size _ PH rfl HO9.out HB9.out gA gn gc gf rfl HZK.out (HBZ.out _ HB9.out) HZM.out (by omega) HB9.out.size _ HSK.out ?_)
                                intro A10 c10 w10 ho10 hb10
                                have HO10 := Lib.hid ho10
                                have HB10 := Lib.hid hb10
                                clear ho10 hb10
                                go_wp2_with fail
                                go_roundw
                                case rel => exact ⟨z + 1, HLT.out, by go_num, HO10.out, HB10.out⟩
                                case measure => simp [intOf]; have := HLT.out; omega
                          · obtain rfl : z = t := by omega
                            obtain ⟨A6, c6, rfl⟩ := ow_shape HO6.out
                            rw [HAR.out] at HO6
                            rw [HAR.out]
                            have h8 : 0 < (arB g x z r).size := by
                              rw [← HAR.out, HSZ.out z hr]
                              have := endN_le g e0 (Nat.zero_le z)
                              rw [endN] at this
                              have h8 : 8 ≤ e0 := by rw [← HEQ.out]; unfold begN; split <;> omega
                              omega
                            obtain ⟨bA, cA, hv, hcA, hbA, hbs⟩ := ow_bs HO6.out h8
                            have HBS := Lib.hid hbs
                            have HVA := Lib.hid hv
                            clear hbs h8 hv
                            go_wp2_with fail
                            go_ret2
                            exact Or.inr (Or.inr ⟨HY.out, by rw [HEQ.out, HEN.out]; omega, ⟨bA, cA, by rw [HVA.out]; rfl, hcA, hbA, HBS.out⟩, HB6.out⟩)
end Go.Proofs.YtgmifaadlaigdaaGreatDoor
