import Derived.Test.YtblfnjdbihhglaaGreatDoorLU
namespace Go.Proofs.YtblfnjdbihhglaaGreatDoor.Li
open Go.ChangeShapes Go.WideShapes Go.ChangeAt Go.RowKit
set_option linter.unusedVariables false
def LR (s : ByteArray) (w : World) (wr : World) : Prop := ∃ k : Nat, k ≤ s.size ∧ wr = w.iter s k ∧ ∀ i, i < k → okb (bb s i) = true
theorem okT_no (s : ByteArray) (k : Nat) (h : k < s.size) (hb : okb (bb s k) = false) : okT s = false := by
  unfold okT
  exact decide_eq_false (fun hh => by rw [hh k h] at hb; cases hb)
theorem okT_yes (s : ByteArray) (h : ∀ i, i < s.size → okb (bb s i) = true) : okT s = true := by unfold okT; exact decide_eq_true h
theorem rdE_form (s : ByteArray) (h : okT s = false) : rdE s = 5 := by unfold rdE; rw [if_pos h]
theorem rdE_many (s : ByteArray) (h : okT s = true) (hm : manyP s) : rdE s = 3 := by unfold rdE; rw [if_neg (by rw [h]; decide), if_pos hm]
theorem rdE_ok (s : ByteArray) (h : okT s = true) (hm : ¬ manyP s) : rdE s = 0 := by unfold rdE; rw [if_neg (by rw [h]; decide), if_neg hm]
theorem rdV_ok (s : ByteArray) (h : rdE s = 0) : rdV s = saidB 1 (lnsB s) := by unfold rdV; rw [if_pos h]
theorem rdV_no (s : ByteArray) (h : rdE s ≠ 0) : rdV s = [] := by unfold rdV; rw [if_neg h]
/-- the call's answer -/
def RdPost (s : ByteArray) (w : World) (e : Ending) (w' : World) : Prop := ∃ A n c, e = .returned (.tuple #[.slice A n c, .int .i64 (rdE s : Int)]) ∧ n = (rdV s).length ∧ RdOut w.heap.size (.slice A n c) (rdV s) w' ∧ Below w.heap.size w w'
theorem post_no (s : ByteArray) (w w' : World) (q : Nat) (hq : rdE s = q) (h0 : q ≠ 0) (hb : Below w.heap.size w w') : RdPost s w (.returned (.tuple #[.slice none 0 0, .int .i64 (q : Int)])) w' := by
  have hv : rdV s = [] := rdV_no s (by rw [hq]; exact h0)
  refine ⟨none, 0, 0, by rw [hq], by rw [hv]; rfl, ?_, hb⟩
  rw [hv]
  exact rd_nil _ _
/-- so many lines read -/
def RL (w1 : World) (B : Nat) (ls : List ByteArray) (l i : Value) (wr : World) : Prop :=
  ∃ k : Nat, k ≤ ls.length ∧ i = .int .i64 (k : Int) ∧ (∃ D : List (Nat × Value × List ByteArray), D.map (fun x => (x.1, x.2.2)) = saidB 1 (ls.take k) ∧ wr.ownsRow B 44 2 l D.length (D.flatMap fun x => [.int .i64 (x.1 : Int), x.2.1]) ∧ D.length ≤ k ∧ ∀ x ∈ D, wr.ownsRow B 9 1 x.2.1 x.2.2.length (x.2.2.map Value.string)) ∧
    Below w1.heap.size w1 wr ∧ ∀ j, (h : j < ls.length) → j < k → ¬ 100 < (ls[j]).size
theorem two_cells (w : World) (x y : Value) (t : TypeId) : ∀ (j : Nat) (u : Value), [x, y][j]? = some u → (w.alloc (.cells #[x, y] t)).cell? ((⟨w.heap.size, 0, none⟩ : Addr).add j) = some u := by
  intro j u h
  rw [addr_add]
  have hj : j < 2 := by
    by_cases hh : j < 2
    · exact hh
    · rw [List.getElem?_eq_none (by simp; omega)] at h; cases h
  rw [World.cell?_alloc_at _ _ _ _ (by simp)]
  simpa using h
theorem lns_take_all (ls : List ByteArray) : ls.take ls.length = ls := List.take_length ..
set_option maxRecDepth 100000 in
set_option maxHeartbeats 8000000 in
theorem c8 (s : ByteArray) (hs : s.size ≤ 16777215) (w : World) (hG : Gl w) :
    Calls Tryz.prog 20 #[.string s] w fun e w' => RdPost s w e w' := by
  obtain ⟨i0, hi, hz⟩ : ∃ i, Tryz.prog.info? 44 = some i ∧ (i.zero, i.size, i.bytes) = (some (.agg #[.int .i64 0, .slice none 0 0]), 2, 32) := by
    have h : (Tryz.prog.info? 44).map (fun i => (i.zero, i.size, i.bytes)) = some (some (.agg #[.int .i64 0, .slice none 0 0]), 2, 32) := by kernel_rfl
    cases hq : Tryz.prog.info? 44 with
    | none => rw [hq] at h; cases h
    | some i => rw [hq] at h; exact ⟨i, rfl, by simpa using h⟩
  simp only [Prod.mk.injEq] at hz
  obtain ⟨hz0, hz1, hz2⟩ := hz
  have HI := Lib.hid hi
  have HZ0 := Lib.hid hz0
  have HZ1 := Lib.hid hz1
  have HZ2 := Lib.hid hz2
  have HG := Lib.hid hG
  clear hi hz0 hz1 hz2 hG
  go_enter Tryz.func20, Tryz.ntmps20
  go_wp2
  go_loopw [5] (fun _ wr => LR s w wr) (fun _ wr => s.size - wr.iterPos w.heap.size)
  case atStart => exact ⟨0, by omega, rfl, fun i hi => absurd hi (by omega)⟩
  case round =>
    obtain ⟨k, hk, rfl, hin⟩ := hrel
    have HIN := Lib.hid hin
    clear hin
    by_cases hlt : k < s.size
    · by_cases ha : bb s k < 128
      · have hd := dec_bb s k hlt ha
        have hnx : ∀ ty, (Instr.next (.pointer (some ⟨w.heap.size, 0, none⟩)) true ty).run Tryz.prog (w.iter s k) = .ok (.tuple #[.bool true, .int .i64 k, .int .i32 (bb s k : Int)]) (w.iter s (k + 1)) := fun ty => by
          rw [run_next_any w s k ty hlt, hd]
        have K := Lib.hid (c17 (bb s k : Int))
        have hq : decide ((bb s k : Int) = 9 ∨ (bb s k : Int) = 10 ∨ (32 ≤ (bb s k : Int) ∧ (bb s k : Int) ≤ 126)) = okb (bb s k) := by unfold okb; rw [decide_eq_decide]; omega
        rw [hq] at K
        have HS : Hid (okb (bb s k) = true → LR s w (w.iter s (k + 1))) := Lib.hid fun hok => ⟨k + 1, hlt, rfl, fun i hi => by
          by_cases e : i = k
          · rw [e]; exact hok
          · exact HIN.out i (by omega)⟩
        have HN : Hid (okb (bb s k) = false → rdE s = 5) := Lib.hid fun h => rdE_form s (okT_no s k hlt h)
        obtain ⟨q, hqq⟩ : ∃ q, okb (bb s k) = q := ⟨_, rfl⟩
        rw [hqq] at K HS HN
        generalize bb s k = v at *
        clear hd hq hqq ha
        have HLT := Lib.hid hlt
        go_wp2_with fail
        refine (K.out _).mono ?_
        rintro _ _ ⟨rfl, rfl⟩
        cases q
        · have HW := Lib.hid (HN.out rfl)
          go_wp2_with fail
          go_ret2
          exact post_no s w _ 5 HW.out (by decide) (iter_below _ _ _)
        · have HS3 := Lib.hid (HS.out rfl)
          go_wp2_with fail
          go_roundw
          case rel => exact HS3.out
          case measure => simp; have := HLT.out; omega
      · obtain ⟨hd1, hd2⟩ := dec_hi s k hlt ha
        have hnx : ∀ ty, (Instr.next (.pointer (some ⟨w.heap.size, 0, none⟩)) true ty).run Tryz.prog (w.iter s k) = _ := fun ty => run_next_any w s k ty hlt
        have HW : Hid (rdE s = 5) := Lib.hid (rdE_form s (okT_no s k hlt (by unfold okb; exact decide_eq_false (by omega))))
        have K := Lib.hid (c17 ((Utf8.decode s k).1 : Int))
        generalize (Utf8.decode s k).1 = v at *
        generalize (Utf8.decode s k).2 = v2 at *
        have hq : decide ((v : Int) = 9 ∨ (v : Int) = 10 ∨ (32 ≤ (v : Int) ∧ (v : Int) ≤ 126)) = false := decide_eq_false (by omega)
        rw [hq] at K
        clear ha hd1 hq
        go_wp2_with fail
        refine (K.out _).mono ?_
        rintro _ _ ⟨rfl, rfl⟩
        go_wp2_with fail
        go_ret2
        exact post_no s w _ 5 HW.out (by decide) (iter_below _ _ _)
    · have hnx : ∀ ty, (Instr.next (.pointer (some ⟨w.heap.size, 0, none⟩)) true ty).run Tryz.prog (w.iter s k) = _ := fun ty => run_next_end w s k ty hlt
      have HT : Hid (okT s = true) := Lib.hid (okT_yes s (fun i hi => HIN.out i (by omega)))
      have HB0 : Hid (Below w.heap.size w (w.iter s k)) := Lib.hid (iter_below _ _ _)
      have K18 := Lib.hid (c18 s (by omega))
      have HM : Hid (manyP s ↔ (400 < (lnsB s).length ∨ ∃ x ∈ lnsB s, 100 < x.size)) := Lib.hid Iff.rfl
      have HV : Hid (¬ manyP s → rdV s = saidB 1 (lnsB s) ∧ rdE s = 0) := Lib.hid fun h => ⟨rdV_ok s (rdE_ok s HT.out h), rdE_ok s HT.out h⟩
      have HE : Hid (manyP s → rdE s = 3) := Lib.hid (rdE_many s HT.out)
      clear hlt
      generalize lnsB s = ls at *
      go_wp2_with fail
      refine (K18.out _ (HG.out.below (by first | exact iter_below _ _ _ | exact HB0.out))).mono ?_
      rintro _ w1 ⟨c, rfl, b1, hl1, hc1, hc2, hcell⟩
      have HB1 : Hid (Below w.heap.size w w1) := Lib.hid (HB0.out.trans (b1.mono HB0.out.size))
      have HC := Lib.hid hcell
      have HL1 := Lib.hid hl1
      clear hcell b1
      by_cases h4 : 400 < ls.length
      · have HW := Lib.hid (HE.out (HM.out.mpr (Or.inl h4)))
        have h4i : decide ((400 : Int) < (ls.length : Int)) = true := by simp; omega
        clear h4
        go_wp2_with fail
        go_ret2
        exact post_no s w _ 3 HW.out (by decide) HB1.out
      · have h4i : decide ((400 : Int) < (ls.length : Int)) = false := by simp; omega
        have H4 := Lib.hid h4
        clear h4
        go_wp2_with fail
        go_loopw [7, 26] (fun l i wr => RL w1 w1.heap.size ls l i wr) (fun _ i _ => ls.length - (intOf i).toNat)
        case atStart => exact ⟨0, by omega, rfl, ⟨[], rfl, World.ownsRow_nil _ _ _ _, by simp, fun x hx => by cases hx⟩, Below.refl _ _, fun j _ hj => absurd hj (by omega)⟩
        case round =>
          obtain ⟨k2, hk2, rfl, ⟨D, hD1, hD2, hD3, hD4⟩, hb2, hall⟩ := hrel
          have HD1 := Lib.hid hD1
          have HD2 := Lib.hid hD2
          have HD3 := Lib.hid hD3
          have HD4 := Lib.hid hD4
          have HB2 := Lib.hid hb2
          have HALL := Lib.hid hall
          clear hD1 hD2 hD3 hD4 hb2 hall
          by_cases hkn : k2 < ls.length
          · have hcell : wr.cell? ⟨(w.iter s k).heap.size, k2, none⟩ = some (.string ls[k2]) := by
              rw [HB2.out.cell (p := ⟨(w.iter s k).heap.size, k2, none⟩) HL1.out]
              exact HC.out k2 hkn
            have HLG : Hid (100 < (ls[k2]).size → rdE s = 3) := Lib.hid fun h => HE.out (HM.out.mpr (Or.inr ⟨_, List.getElem_mem hkn, h⟩))
            have HST : Hid (¬ 100 < (ls[k2]).size → ∀ j, (h : j < ls.length) → j < k2 + 1 → ¬ 100 < (ls[j]).size) := Lib.hid fun h j h1 h2 => by
              by_cases e : j = k2
              · subst e; exact h
              · exact HALL.out j h1 (by omega)
            have HSD : Hid (saidB 1 (ls.take (k2 + 1)) = saidB 1 (ls.take k2) ++ (if wordsB ls[k2] = [] then [] else [(1 + k2, wordsB ls[k2])])) := Lib.hid (by
              rw [take_snoc ls k2 hkn, saidB_snoc, List.length_take, Nat.min_eq_left hk2])
            generalize ls[k2] = x at *
            have HBB : Hid (Below w.heap.size w wr) := Lib.hid (HB1.out.trans (HB2.out.mono HB1.out.size))
            by_cases hlong : 100 < x.size
            · have HW := Lib.hid (HLG.out hlong)
              have hb : decide ((100 : Int) < (x.size : Int)) = true := by simp; omega
              clear hlong
              go_wp2_with fail
              go_ret2
              exact post_no s w _ 3 HW.out (by decide) HBB.out
            · have HS3 := Lib.hid (HST.out hlong)
              have hb : decide ((100 : Int) < (x.size : Int)) = false := by simp; omega
              have hx1 : x.size ≤ 100 := by omega
              have hwl := wordsB_len x
              have K19 := Lib.hid (c19s x (by omega))
              have hl1 : (wordsB x).length ≤ 101 := by omega
              clear hlong hwl
              by_cases hw0 : wordsB x = []
              · have HSD2 : Hid (saidB 1 (ls.take (k2 + 1)) = saidB 1 (ls.take k2)) := Lib.hid (by rw [HSD.out, if_pos hw0, List.append_nil])
                rw [hw0] at K19
                clear hw0 hl1
                go_wp2_with fail
                refine (K19.out _).mono ?_
                rintro _ w4 ⟨A4, c4, rfl, ho4, b4⟩
                have HB4 := Lib.hid b4
                clear b4 ho4
                go_wp2_with fail
                go_roundw
                case rel => exact ⟨k2 + 1, hkn, by go_num, ⟨D, by rw [HSD2.out]; exact HD1.out, own_below HD2.out HB4.out, Nat.le_succ_of_le HD3.out, fun x hx => own_below (HD4.out x hx) HB4.out⟩, HB2.out.trans (HB4.out.mono HB2.out.size), HS3.out⟩
                case measure => simp [intOf]; omega
              · have HSD2 : Hid (saidB 1 (ls.take (k2 + 1)) = saidB 1 (ls.take k2) ++ [(k2 + 1, wordsB x)]) := Lib.hid (by rw [HSD.out, if_neg hw0, Nat.add_comm])
                have hpos : 0 < (wordsB x).length := List.length_pos_iff.2 hw0
                clear hw0
                generalize wordsB x = ws at *
                obtain ⟨n4, hn4⟩ : ∃ n4, ws.length = n4 := ⟨_, rfl⟩
                have HN4 := Lib.hid hn4
                rw [hn4] at K19 hpos hl1
                have hbp := hpos
                clear hpos hn4
                have HL9 := Lib.hid hl1
                have HX9 := Lib.hid hx1
                have HKN := Lib.hid hkn
                have HBP := Lib.hid hbp
                clear hl1 hx1 hbp
                go_wp2_with fail
                refine (K19.out _).mono ?_
                rintro _ w4 ⟨A4, c4, rfl, ho4, b4⟩
                have HB4 := Lib.hid (HB2.out.trans (b4.mono HB2.out.size))
                have HO4 := Lib.hid (own_base ho4 HB2.out.size)
                rw [← HN4.out] at ho4
                have HO5 := Lib.hid (own_base ho4 HB2.out.size)
                have HD24 := Lib.hid (own_below HD2.out b4)
                have HD44 : Hid (∀ x ∈ D, w4.ownsRow w1.heap.size 9 1 x.2.1 x.2.2.length (x.2.2.map Value.string)) := Lib.hid (fun x hx => own_below (HD4.out x hx) b4)
                clear b4 ho4
                have z4 := HB4.out.size
                have hbp := HBP.out
                go_wp2_with (at_builtin; refine wpList_append_own _ rfl _ _ 35 rfl w1.heap.size 44 i0 (.agg #[.int .i64 0, .slice none 0 0]) 2 32 Tryz.underlying35 HI.out HZ0.out HZ1.out HZ2.out rfl (by decide) _ _ _ rfl (HD24.out.alloc _) ⟨w4.heap.size, 0, none⟩ 1 1 [.int .i64 ((k2 : Int) + 1), .slice A4 n4 c4] rfl rfl (two_cells _ _ _ _) (fun x hx => by simp at hx; rcases hx with rfl | rfl <;> rfl) (by have := HD3.out; have := H4.out; unfold maxLen; omega) (by have := HD3.out; have := H4.out; omega) (by simp; omega) ?_; intro v' w5 hown5 hgrow5 hnil5)
                go_roundw
                case rel =>
                  obtain ⟨D', e1, e2, e3⟩ := rd_snoc (j := k2 + 1) (l := ws) HD1.out (HD24.out.alloc _) (fun x hx => (HD44.out x hx).alloc _) (HO5.out.alloc _) (by rw [HN4.out]; exact hown5) hgrow5
                  have e4 : D'.length = D.length + 1 := by
                    have h1 := congrArg List.length e1
                    have h2 := congrArg List.length HD1.out
                    simp at h1 h2
                    omega
                  exact ⟨k2 + 1, hkn, by go_num, ⟨D', by rw [e1, HSD2.out], e2, by have := HD3.out; omega, e3⟩, gr_below (HB4.out.alloc HB4.out.size _) (HD24.out.alloc _) hgrow5 (by simp; omega), HS3.out⟩
                case measure => simp [intOf]; omega
          · have hkk : k2 = ls.length := by omega
            subst hkk
            have HNM : Hid (¬ manyP s) := Lib.hid fun h => by
              rcases HM.out.mp h with h | ⟨y, hy, h⟩
              · exact H4.out h
              · obtain ⟨i, hi, rfl⟩ := List.getElem_of_mem hy
                exact HALL.out i hi hi h
            have HVV := Lib.hid (HV.out HNM.out)
            obtain ⟨A6, c6, rfl, _⟩ := own_slice HD2.out
            go_wp2_with fail
            go_ret2
            have hr : saidB 1 (ls.take ls.length) = rdV s := by rw [lns_take_all, HVV.out.1]
            refine ⟨A6, D.length, c6, by rw [HVV.out.2]; rfl, ?_, ?_, HB1.out.trans (HB2.out.mono HB1.out.size)⟩
            · rw [← hr, ← HD1.out, List.length_map]
            · rw [← hr]
              exact rd_base ⟨D, HD1.out, HD2.out, HD4.out⟩ HB1.out.size
end Go.Proofs.YtblfnjdbihhglaaGreatDoor.Li
