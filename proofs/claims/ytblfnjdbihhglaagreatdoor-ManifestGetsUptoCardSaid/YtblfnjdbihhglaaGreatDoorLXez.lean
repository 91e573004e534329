import Derived.Test.YtblfnjdbihhglaaGreatDoorLXdz
import Derived.Test.YtblfnjdbihhglaaGreatDoorLV
namespace Go.Proofs.YtblfnjdbihhglaaGreatDoor.Li
open Go.ChangeShapes Go.WideShapes Go.ChangeAt Go.RowKit
set_option linter.unusedVariables false
theorem okT_all {s : ByteArray} (h : okT s = true) : ∀ i, i < s.size → okb (bb s i) = true := by unfold okT at h; exact of_decide_eq_true h
theorem okb_lt {n : Nat} (h : okb n = true) : n < 128 := by unfold okb at h; simp at h; omega
theorem asc_ok {s : ByteArray} (h : okT s = true) : asc s := fun i hi => okb_lt (okT_all h i hi)
theorem bb_ext_any (s : ByteArray) (a k j : Nat) (h : j < (s.extract a k).size) : bb (s.extract a k) j = bb s (a + j) := by
  have hz : (s.extract a k).size = min k s.size - a := by rw [ByteArray.size_extract]
  rw [bb_eq _ j h, bb_eq s (a + j) (by omega)]
  simp [ByteArray.getElem_extract]
theorem asc_ext {s : ByteArray} (h : asc s) (a k : Nat) : asc (s.extract a k) := fun i hi => by
  rw [bb_ext_any s a k i hi]
  refine h _ ?_
  rw [ByteArray.size_extract] at hi
  omega
/-- the lines read so far -/
def Dn (w1 : World) (o : Value) (done : List ByteArray) (wr : World) : Prop :=
  ∃ D : List (Nat × Value × List ByteArray), D.map (fun x => (x.1, x.2.2)) = saidB 1 done ∧ wr.ownsRow w1.heap.size 44 2 o D.length (D.flatMap fun x => [.int .i64 (x.1 : Int), x.2.1]) ∧ D.length ≤ done.length ∧ ∀ x ∈ D, wr.ownsRow w1.heap.size 9 1 x.2.1 x.2.2.length (x.2.2.map Value.string)
theorem dn_nil (w1 wr : World) : Dn w1 (.slice none 0 0) [] wr := ⟨[], rfl, World.ownsRow_nil _ _ _ _, Nat.le_refl _, fun x hx => by cases hx⟩
def S9t (s : ByteArray) (ls : List ByteArray) (k a : Nat) (done : List ByteArray) : Prop := (k ≤ s.size ∧ ls = done ++ remL s a k) ∨ (k = s.size + 1 ∧ ls = done)
def R9 (s : ByteArray) (ls : List ByteArray) (w1 : World) (o li fr i : Value) (wr : World) : Prop :=
  ∃ (k a : Nat) (done : List ByteArray), i = .int .i64 (k : Int) ∧ fr = .int .i64 (a : Int) ∧ li = .int .i64 (done.length : Int) ∧ a ≤ k ∧ k ≤ s.size + 1 ∧ done.length ≤ 400 ∧ (∀ x ∈ done, ¬ 100 < x.size) ∧ Dn w1 o done wr ∧ Below w1.heap.size w1 wr ∧ S9t s ls k a done
theorem fin9 {s : ByteArray} {w wr : World} {o : Value} {done : List ByteArray} (hls : lnsB s = done) (ht : okT s = true) (h4 : done.length ≤ 400) (hs : ∀ x ∈ done, ¬ 100 < x.size) (hD : Dn w o done wr) (hb : Below w.heap.size w wr) :
    RdPost s w (.returned (.tuple #[o, .int .i64 0])) wr := by
  have hm : ¬ manyP s := by
    rintro (h | ⟨x, hx, h⟩)
    · rw [hls] at h; omega
    · rw [hls] at hx; exact hs x hx h
  have he := rdE_ok s ht hm
  have hv := rdV_ok s he
  obtain ⟨D, h1, h2, _, h3⟩ := hD
  obtain ⟨A, c, rfl, _⟩ := own_slice h2
  refine ⟨A, D.length, c, by rw [he]; rfl, ?_, ?_, hb⟩
  · rw [hv, hls, ← h1, List.length_map]
  · rw [hv, hls]
    exact ⟨D, h1, h2, h3⟩
theorem many9 {s : ByteArray} {done r : List ByteArray} {x : ByteArray} (ht : okT s = true) (hls : lnsB s = done ++ x :: r) (h : 400 < done.length + 1 ∨ 100 < x.size) : rdE s = 3 := by
  apply rdE_many s ht
  rcases h with h | h
  · left; rw [hls]; simp; omega
  · right; exact ⟨x, by rw [hls]; simp, h⟩
theorem close9 {s : ByteArray} {ls done : List ByteArray} {a k : Nat} (hk : k ≤ s.size) (hc : (∃ h : k < s.size, bb s k = 10) ∨ (k = s.size ∧ a < k)) (h : ls = done ++ remL s a k) : (∃ r, ls = done ++ s.extract a k :: r) ∧ S9t s ls (k + 1) (k + 1) (done ++ [s.extract a k]) := by
  rcases hc with ⟨hlt, h10⟩ | ⟨rfl, ha⟩
  · rw [remL_put s a k hlt h10] at h
    exact ⟨⟨_, h⟩, Or.inl ⟨hlt, by rw [h]; simp⟩⟩
  · rw [remL_end_put s a ha] at h
    exact ⟨⟨_, h⟩, Or.inr ⟨rfl, h⟩⟩
theorem dn_same {w1 wr w' : World} {o : Value} {done : List ByteArray} {y : ByteArray} (hs : saidB 1 (done ++ [y]) = saidB 1 done) (h : Dn w1 o done wr) (hb : Below wr.heap.size wr w') : Dn w1 o (done ++ [y]) w' := by
  obtain ⟨D, h1, h2, h3, h4⟩ := h
  exact ⟨D, by rw [hs]; exact h1, own_below h2 hb, by rw [List.length_append]; omega, fun x hx => own_below (h4 x hx) hb⟩
theorem dn_more {w1 w4 w5 : World} {o v' : Value} {done : List ByteArray} {x : ByteArray} {dn n4 c4 : Nat} {A4 : Option Addr} {ws : List ByteArray} {D : List (Nat × Value × List ByteArray)} {ob : Obj} (hdn : done.length = dn) (hs : saidB 1 (done ++ [x]) = saidB 1 done ++ [(dn + 1, ws)]) (hn4 : ws.length = n4)
    (h1 : D.map (fun x => (x.1, x.2.2)) = saidB 1 done) (h3 : D.length ≤ done.length) (h2 : w4.ownsRow w1.heap.size 44 2 o D.length (D.flatMap fun x => [.int .i64 (x.1 : Int), x.2.1])) (h4 : ∀ x ∈ D, w4.ownsRow w1.heap.size 9 1 x.2.1 x.2.2.length (x.2.2.map Value.string))
    (h5 : w4.ownsRow w1.heap.size 9 1 (.slice A4 ws.length c4) ws.length (ws.map Value.string))
    (ho : w5.ownsRow w1.heap.size 44 2 v' (D.length + 1) ((D.flatMap fun x => [.int .i64 (x.1 : Int), x.2.1]) ++ [.int .i64 ((dn : Int) + 1), .slice A4 n4 c4])) (hg : (w4.alloc ob).grownBy w5 o.ownBlock) : Dn w1 v' (done ++ [x]) w5 := by
  subst hn4
  obtain ⟨D', e1, e2, e3⟩ := rd_snoc (j := dn + 1) (l := ws) h1 (h2.alloc _) (fun x hx => (h4 x hx).alloc _) (h5.alloc _) ho hg
  have e4 : D'.length = D.length + 1 := by
    have g1 := congrArg List.length e1
    have g2 := congrArg List.length h1
    simp at g1 g2
    omega
  exact ⟨D', by rw [e1, hs], e2, by rw [List.length_append, e4]; simp; omega, e3⟩
def R9a (s : ByteArray) (w : World) (i : Value) (wr : World) : Prop := wr = w ∧ ∃ k : Nat, k ≤ s.size ∧ i = .int .i64 (k : Int) ∧ ∀ j, j < k → okb (bb s j) = true
set_option maxRecDepth 100000 in
set_option maxHeartbeats 16000000 in
theorem c9 (s : ByteArray) (hs : s.size ≤ 16777215) (w : World) : Calls Tryz.prog 12 #[.string s] w fun e w' => RdPost s w e w' := by
  obtain ⟨i0, hi, hz⟩ : ∃ i, Tryz.prog.info? 44 = some i ∧ (i.zero, i.size, i.bytes) = (some (.agg #[.int .i64 0, .slice none 0 0]), 2, 32) := by
    have h : (Tryz.prog.info? 44).map (fun i => (i.zero, i.size, i.bytes)) = some (some (.agg #[.int .i64 0, .slice none 0 0]), 2, 32) := by kernel_rfl
    cases hq : Tryz.prog.info? 44 with
    | none => rw [hq] at h; cases h
    | some i => rw [hq] at h; exact ⟨i, rfl, by simpa using h⟩
  simp only [Prod.mk.injEq] at hz
  obtain ⟨hz0, hz1, hz2⟩ := hz
  have HI := Lib.hid hi
  have HZ0 := Lib.hid hz0
  have HZ1 := Lib.hid hz1
  have HZ2 := Lib.hid hz2
  clear hi hz0 hz1 hz2
  go_enter Tryz.func12, Tryz.ntmps12
  go_wp2_with fail
  go_loopw [4] (fun i wr => R9a s w i wr) (fun i _ => s.size - (intOf i).toNat)
  case atStart => exact ⟨rfl, 0, by omega, rfl, fun i hi => absurd hi (by omega)⟩
  case round =>
    obtain ⟨rfl, k, hk, rfl, hin⟩ := hrel
    have HIN := Lib.hid hin
    clear hin
    by_cases hlt : k < s.size
    · have he : (s[k]'hlt).toNat = bb s k := (bb_eq s k hlt).symm
      have HLT := Lib.hid hlt
      by_cases hok : okb (bb s k) = true
      · have HS : Hid (∀ i, i < k + 1 → okb (bb s i) = true) := Lib.hid fun i hi => by
          by_cases e : i = k
          · rw [e]; exact hok
          · exact HIN.out i (by omega)
        have hT : bb s k = 9 ∨ bb s k = 10 ∨ (((bb s k : Int) != 9) = true ∧ ((bb s k : Int) != 10) = true ∧ decide ((bb s k : Int) < 32) = false ∧ decide ((126 : Int) < (bb s k : Int)) = false) := by
          unfold okb at hok
          have := of_decide_eq_true hok
          rcases this with h | h | h
          · exact Or.inl h
          · exact Or.inr (Or.inl h)
          · exact Or.inr (Or.inr ⟨by simp; omega, by simp; omega, by simp; omega, by simp; omega⟩)
        clear hok
        generalize bb s k = v at *
        rcases hT with rfl | rfl | ⟨b1, b2, b3, b4⟩
        all_goals
          go_wp2_with fail
          go_roundw
          case rel => exact ⟨rfl, k + 1, HLT.out, by go_num, HS.out⟩
          case measure => simp [intOf]; have := HLT.out; omega
      · have hok' : okb (bb s k) = false := by simpa using hok
        have HW : Hid (rdE s = 5) := Lib.hid (rdE_form s (okT_no s k hlt hok'))
        have hT : ((bb s k : Int) != 9) = true ∧ ((bb s k : Int) != 10) = true ∧ (decide ((bb s k : Int) < 32) = true ∨ (decide ((bb s k : Int) < 32) = false ∧ decide ((126 : Int) < (bb s k : Int)) = true)) := by
          unfold okb at hok'
          have := of_decide_eq_false hok'
          refine ⟨by simp; omega, by simp; omega, ?_⟩
          by_cases h : bb s k < 32
          · exact Or.inl (by simp; omega)
          · exact Or.inr ⟨by simp; omega, by simp; omega⟩
        clear hok hok'
        generalize bb s k = v at *
        obtain ⟨b1, b2, b3 | ⟨b3, b4⟩⟩ := hT
        all_goals
          go_wp2_with fail
          go_ret2
          exact post_no s wr _ 5 HW.out (by decide) (Below.refl _ _)
    · have HT : Hid (okT s = true) := Lib.hid (okT_yes s (fun i hi => HIN.out i (by omega)))
      have H0 : Hid (lnsB s = remL s 0 0) := Lib.hid (lns_rem s)
      obtain ⟨w0, hw0⟩ : ∃ w0 : World, w0 = wr := ⟨_, rfl⟩
      subst hw0
      clear hk
      go_wp2_with fail
      clear hlt
      generalize hls : lnsB s = ls at *
      have HLS := Lib.hid hls
      clear hls
      go_loopw [6, 7, 8, 9] (fun o li fr i wr => R9 s ls w0 o li fr i wr) (fun _ _ _ i _ => s.size + 1 - (intOf i).toNat)
      case atStart => exact ⟨0, 0, [], rfl, rfl, rfl, Nat.le_refl _, by omega, by simp, (fun x hx => by cases hx), dn_nil _ _, Below.refl _ _, Or.inl ⟨Nat.zero_le _, by rw [H0.out]; rfl⟩⟩
      case round =>
        obtain ⟨k, a, done, rfl, rfl, rfl, hak, hk1, h400, hsz, hD, hb, hst⟩ := hrel
        have HSZ := Lib.hid hsz
        have HD := Lib.hid hD
        have HB := Lib.hid hb
        have z1 := hb.size
        clear hsz hD hb
        by_cases hks : k ≤ s.size
        · have hls : ls = done ++ remL s a k := by
            rcases hst with ⟨_, h⟩ | ⟨h, _⟩
            · exact h
            · omega
          clear hst
          by_cases hin : k < s.size ∧ bb s k ≠ 10
          · obtain ⟨hlt, h10⟩ := hin
            have he : (s[k]'hlt).toNat = bb s k := (bb_eq s k hlt).symm
            have HN : Hid (ls = done ++ remL s a (k + 1)) := Lib.hid (by rw [hls, remL_in s a k hak hlt h10])
            have b1 : ((bb s k : Int) != 10) = true := by simp; omega
            have HLT := Lib.hid hlt
            have HAK := Lib.hid hak
            have H400 := Lib.hid h400
            clear hls h10 h400
            generalize bb s k = v at *
            go_wp2_with fail
            go_roundw
            case rel => exact ⟨k + 1, a, done, by go_num, rfl, rfl, Nat.le_succ_of_le HAK.out, by have := HLT.out; omega, H400.out, HSZ.out, HD.out, HB.out, Or.inl ⟨HLT.out, HN.out⟩⟩
            case measure => simp [intOf]; have := HLT.out; omega
          · by_cases hend : k = s.size ∧ a = k
            · obtain ⟨h1, h2⟩ := hend
              subst h2
              have HW : Hid (lnsB s = done) := Lib.hid (by rw [HLS.out, hls, h1, remL_end, List.append_nil])
              clear hls hin
              have c1 : decide ((a : Int) < (s.size : Int)) = false := by simp; omega
              have c2 : ((a : Int) == (s.size : Int)) = true := by rw [h1]; simp
              have H400 := Lib.hid h400
              clear h1 h400
              go_wp2_with fail
              go_ret2
              exact fin9 HW.out HT.out H400.out HSZ.out HD.out HB.out
            · have hcl : (∃ h : k < s.size, bb s k = 10) ∨ (k = s.size ∧ a < k) := by
                by_cases hlt : k < s.size
                · exact Or.inl ⟨hlt, Decidable.byContradiction fun h => hin ⟨hlt, h⟩⟩
                · have : k = s.size := by omega
                  exact Or.inr ⟨this, by omega⟩
              obtain ⟨⟨r, hr⟩, hnx⟩ := close9 hks hcl hls
              have HNX := Lib.hid hnx
              have HM : Hid (400 < done.length + 1 ∨ 100 < (s.extract a k).size → rdE s = 3) := Lib.hid (many9 HT.out (by rw [HLS.out]; exact hr))
              have hT : (∃ hlt : k < s.size, ((s[k]'hlt).toNat : Int) = 10 ∧ ((k : Int) == (s.size : Int)) = false ∧ decide ((k : Int) < (s.size : Int)) = true) ∨ (decide ((k : Int) < (s.size : Int)) = false ∧ ((k : Int) == (s.size : Int)) = true ∧ ((a : Int) == (k : Int)) = false) := by
                rcases hcl with ⟨h, h10⟩ | ⟨h, h2⟩
                · exact Or.inl ⟨h, by rw [← bb_eq s k h, h10]; rfl, by simp; omega, by simp; omega⟩
                · exact Or.inr ⟨by simp; omega, by simp; omega, by simp; omega⟩
              clear hnx hr hcl hin hend hls
              have hx : (s.extract a k).size = k - a := by rw [ByteArray.size_extract]; omega
              have HXA : Hid (asc (s.extract a k)) := Lib.hid (asc_ext (asc_ok HT.out) a k)
              obtain ⟨x, hxx⟩ : ∃ x, s.extract a k = x := ⟨_, rfl⟩
              rw [hxx] at HNX HM hx HXA
              have HX := Lib.hid hx
              have H400 := Lib.hid h400
              have HKS := Lib.hid hks
              by_cases h4 : 400 < done.length + 1
              · have b4 : decide ((400 : Int) < (done.length : Int) + 1) = true := by simp; omega
                have HW := Lib.hid (HM.out (Or.inl h4))
                clear hxx hx
                generalize done.length = dn at *
                rcases hT with ⟨hlt, e1, e2, e3⟩ | ⟨e1, e2, e3⟩
                all_goals
                  go_wp2_with fail
                  go_ret2
                  exact post_no s w0 _ 3 HW.out (by decide) HB.out
              · have b4 : decide ((400 : Int) < (done.length : Int) + 1) = false := by simp; omega
                have H4 := Lib.hid h4
                clear h4
                by_cases h5 : 100 < x.size
                · have b5 : decide ((100 : Int) < (k : Int) - (a : Int)) = true := by simp; omega
                  have HW := Lib.hid (HM.out (Or.inr h5))
                  clear hxx hx h5
                  generalize done.length = dn at *
                  rcases hT with ⟨hlt, e1, e2, e3⟩ | ⟨e1, e2, e3⟩
                  all_goals
                    go_wp2_with fail
                    go_ret2
                    exact post_no s w0 _ 3 HW.out (by decide) HB.out
                · have b5 : decide ((100 : Int) < (k : Int) - (a : Int)) = false := by simp; omega
                  have HSX : Hid (∀ y ∈ done ++ [x], ¬ 100 < y.size) := Lib.hid fun y hy => by
                    rcases List.mem_append.1 hy with h | h
                    · exact HSZ.out y h
                    · obtain rfl : y = x := by simpa using h
                      exact h5
                  have K20 := Lib.hid (c20 x (by omega) HXA.out)
                  have hl1 : (wordsB x).length ≤ 101 := by have := wordsB_len x; omega
                  have HSD : Hid (saidB 1 (done ++ [x]) = saidB 1 done ++ (if wordsB x = [] then [] else [(1 + done.length, wordsB x)])) := Lib.hid (saidB_snoc x done 1)
                  clear h5 hx
                  generalize wordsB x = ws at *
                  generalize hdn : done.length = dn at *
                  have HDN := Lib.hid hdn
                  clear hdn
                  by_cases hw0 : ws = []
                  · subst hw0
                    have HSD2 : Hid (saidB 1 (done ++ [x]) = saidB 1 done) := Lib.hid (by rw [HSD.out, if_pos rfl, List.append_nil])
                    have hxe := hxx
                    clear hxx
                    rcases hT with ⟨hlt, e1, e2, e3⟩ | ⟨e1, e2, e3⟩
                    all_goals
                      go_wp2_with fail
                      refine (K20.out _).mono ?_
                      rintro _ w4 ⟨A4, c4, rfl, ho4, b4⟩
                      have HB4 := Lib.hid b4
                      clear b4 ho4
                      go_wp2_with fail
                      go_roundw
                      case rel => exact ⟨k + 1, k + 1, done ++ [x], by go_num, by go_num, by rw [List.length_append, HDN.out]; go_num, Nat.le_refl _, by have := HKS.out; omega, by rw [List.length_append, HDN.out]; have := H4.out; simp; omega, HSX.out, dn_same HSD2.out HD.out HB4.out, HB.out.trans (HB4.out.mono HB.out.size), HNX.out⟩
                      case measure => simp [intOf]; have := HKS.out; omega
                  · have HSD2 : Hid (saidB 1 (done ++ [x]) = saidB 1 done ++ [(dn + 1, ws)]) := Lib.hid (by rw [HSD.out, if_neg hw0, Nat.add_comm])
                    have hpos : 0 < ws.length := List.length_pos_iff.2 hw0
                    have hxe := Lib.hid hxx
                    obtain ⟨n4, hn4⟩ : ∃ n4, ws.length = n4 := ⟨_, rfl⟩
                    have HN4 := Lib.hid hn4
                    unfold P20 at K20
                    rw [hn4] at K20 hpos
                    have hbp := hpos
                    clear hpos hn4 hw0 hl1
                    rcases hT with ⟨hlt, e1, e2, e3⟩ | ⟨e1, e2, e3⟩
                    all_goals
                      go_wp2_with fail
                      refine (K20.out _).mono ?_
                      rintro _ w4 ⟨A4, c4, rfl, ho4, b4⟩
                      have HB4 := Lib.hid (HB.out.trans (b4.mono HB.out.size))
                      have HO4 := Lib.hid (own_base ho4 HB.out.size)
                      rw [← HN4.out] at ho4
                      have HO5 := Lib.hid (own_base ho4 HB.out.size)
                      obtain ⟨D, hD1, hD2, hD3, hD4⟩ := HD.out
                      have HD1 := Lib.hid hD1
                      have HD3 := Lib.hid hD3
                      have HD24 := Lib.hid (own_below hD2 b4)
                      have HD44 : Hid (∀ x ∈ D, w4.ownsRow w0.heap.size 9 1 x.2.1 x.2.2.length (x.2.2.map Value.string)) := Lib.hid (fun x hx => own_below (hD4 x hx) b4)
                      clear b4 ho4 hD1 hD2 hD3 hD4
                      have z4 := HB4.out.size
                      go_wp2_with (at_builtin; refine wpList_append_own _ rfl _ _ 35 rfl w0.heap.size 44 i0 (.agg #[.int .i64 0, .slice none 0 0]) 2 32 Tryz.underlying35 HI.out HZ0.out HZ1.out HZ2.out rfl (by decide) _ _ _ rfl (HD24.out.alloc _) ⟨w4.heap.size, 0, none⟩ 1 1 [.int .i64 ((dn : Int) + 1), .slice A4 n4 c4] rfl rfl (two_cells _ _ _ _) (fun x hx => by simp at hx; rcases hx with rfl | rfl <;> rfl) (by have := HD3.out; have := H4.out; rw [HDN.out] at *; unfold maxLen; omega) (by have := HD3.out; have := H4.out; rw [HDN.out] at *; omega) (by simp; omega) ?_; intro v' w5 hown5 hgrow5 hnil5)
                      go_roundw
                      case rel => exact ⟨k + 1, k + 1, done ++ [x], by go_num, by go_num, by rw [List.length_append, HDN.out]; go_num, Nat.le_refl _, by have := HKS.out; omega, by rw [List.length_append, HDN.out]; have := H4.out; simp; omega, HSX.out, dn_more HDN.out HSD2.out HN4.out HD1.out HD3.out HD24.out HD44.out HO5.out hown5 hgrow5, gr_below (HB4.out.alloc HB4.out.size _) (HD24.out.alloc _) hgrow5 (by simp; omega), HNX.out⟩
                      case measure => simp [intOf]; have := HKS.out; omega
        · have HW : Hid (lnsB s = done) := Lib.hid (by
            rcases hst with ⟨h, _⟩ | ⟨_, h⟩
            · omega
            · rw [HLS.out]; exact h)
          have hki : (s.size : Int) < (k : Int) := by omega
          clear hst
          have H400 := Lib.hid h400
          clear h400
          go_wp2_with fail
          go_ret2
          exact fin9 HW.out HT.out H400.out HSZ.out HD.out HB.out
end Go.Proofs.YtblfnjdbihhglaaGreatDoor.Li
