import Derived.Test.YtapdiionikfgpaaGreatDoorRjz
import Derived.Test.YtapdiionikfgpaaGreatDoorGg
namespace Go.Proofs.YtapdiionikfgpaaGreatDoor
open Go.ChangeShapes Go.WideShapes Go.ChangeAt Go.RowKit
open Li (Gl)
set_option linter.unusedVariables false
set_option linter.unusedSimpArgs false
theorem linesV_zero : ∀ (p : Pm) (R : List (Nat × List ByteArray)) (e n : Nat) (q : Pm), linesV p R = (n, e, q) → e ≠ 0 ∨ e = 0 := fun _ _ e _ _ _ => by omega
theorem readP_none {s : ByteArray} {n k : Nat} (h : readP s = ((n, k), none)) : k ≠ 0 := by
  unfold readP at h
  split at h
  · split at h
    · split at h
      · cases h
      · simp only [Prod.mk.injEq] at h; omega
    · rename_i h2
      simp only [Prod.mk.injEq] at h
      obtain ⟨⟨_, h3⟩, _⟩ := h
      omega
  · rename_i h2
    simp only [Prod.mk.injEq] at h
    omega
theorem zeroPl_eq : zeroPl = .agg #[.int .i64 0, .int .i64 0, .slice none 0 0, .slice none 0 0, .int .i64 0, .string ⟨#[]⟩] := rfl
set_option maxRecDepth 100000 in
set_option maxHeartbeats 8000000 in
/-- Put -/
theorem n12 (SV CV : Value) (P : PlI) (D : List (Sv × CoI)) (w : World) (h : PlL w SV CV P D) (hok : OkP P) (hG : Gt w) (hGl : Gl w) :
    Calls Tryz.prog 12 #[plV SV CV P] w fun e w' => e = .returned (.tuple #[.string (putP P).1, .int .i64 ((putP P).2 : Int)]) ∧ Below w.heap.size w w' := by
  have HPL : Hid (∀ W, Below w.heap.size w W → PlL W SV CV P D) := Lib.hid (fun W hW => h.below hW)
  have HOK := Lib.hid hok
  have HG0 := Lib.hid hG
  have HGL := Lib.hid hGl
  obtain ⟨AS, sc, hsv, -⟩ := h.1
  obtain ⟨AC, cc, hcv, -⟩ := h.2.1
  subst hsv hcv
  obtain ⟨W0, hW0⟩ : ∃ W0, w.alloc (.cells #[.int .i64 P.st, .int .i64 P.tr, .slice AS P.ss.length sc, .slice AC D.length cc, .int .i64 P.s0, .string P.mn] 25) = W0 := ⟨_, rfl⟩
  have HBA : Hid (Below w.heap.size w W0) := Lib.hid (by rw [← hW0]; exact (Below.refl _ _).alloc (Nat.le_refl _) _)
  have HPB : Hid (Bx W0 w.heap.size #[.int .i64 P.st, .int .i64 P.tr, .slice AS P.ss.length sc, .slice AC D.length cc, .int .i64 P.s0, .string P.mn] 25) := Lib.hid (by rw [← hW0]; exact bx_alloc' _ _ _)
  have HTX : Hid (Calls Tryz.prog 29 #[.agg #[.int .i64 P.st, .int .i64 P.tr, .slice AS P.ss.length sc, .slice AC D.length cc, .int .i64 P.s0, .string P.mn]] W0 fun e w' => e = .returned (.tuple #[.string (outT P).1, .int .i64 ((outT P).2 : Int)]) ∧ Below W0.heap.size W0 w') := Lib.hid (n29 _ _ P D W0 (HPL.out _ HBA.out) hok.1 hok.2.1 (hG.below HBA.out) hok.2.2.2 (fun W V B hW hr => put_lines (txt P) hok.2.2.1 hok.2.2.2 W V B hr))
  have y0 := HPB.out.cell 0
  have y1 := HPB.out.cell 1
  have y2 := HPB.out.cell 2
  have y3 := HPB.out.cell 3
  have y4 := HPB.out.cell 4
  have y5 := HPB.out.cell 5
  simp at y0 y1 y2 y3 y4 y5
  unfold plV
  obtain ⟨s, hs⟩ : ∃ s, (outT P).1 = s := ⟨_, rfl⟩
  obtain ⟨c, hc⟩ : ∃ c, (outT P).2 = c := ⟨_, rfl⟩
  have HSZ : Hid (s.size ≤ 16777215) := Lib.hid (by rw [← hs]; exact outT_size P)
  have HNO : Hid (¬ (c = 0 ∧ ∃ q, readP s = ((0, 0), some q) ∧ toI q = P) → putP P = (⟨#[]⟩, 5)) := Lib.hid (by rw [← hs, ← hc]; exact putP_no)
  have HYES : Hid ((c = 0 ∧ ∃ q, readP s = ((0, 0), some q) ∧ toI q = P) → putP P = (s, 0)) := Lib.hid (by rw [← hs, ← hc]; exact putP_yes)
  rw [hs, hc] at HTX
  clear h hok hG hGl hs hc
  go_enter Tryz.func12, Tryz.ntmps12
  go_wp2_with fail
  with_reducible refine HTX.out.mono ?_
  rintro _ w1 ⟨rfl, hb1⟩
  have HB1 : Hid (Below W0.heap.size W0 w1) := Lib.hid hb1
  have HBW1 : Hid (Below w.heap.size w w1) := Lib.hid (HBA.out.trans (hb1.mono HBA.out.size))
  clear hb1 HTX y0 y1 y2 y3 y4 y5
  by_cases hc0 : c = 0
  · subst hc0
    have HRD := Lib.hid (n8 s HSZ.out w1 (HGL.out.below HBW1.out))
    go_wp2_with fail
    with_reducible refine HRD.out.mono ?_
    rintro E w2 ⟨hb2, hh⟩
    have HB2 : Hid (Below W0.heap.size W0 w2) := Lib.hid (HB1.out.trans (hb2.mono HB1.out.size))
    have HBW2 : Hid (Below w.heap.size w w2) := Lib.hid (HBW1.out.trans (hb2.mono HBW1.out.size))
    clear hb2 HRD
    rcases hh with ⟨n, k, hrd, rfl⟩ | ⟨q, SV', CV', D', B', hrd, hB', hpl, hD, hsm, rfl⟩
    · have hk0 := readP_none hrd
      have e1 : ((k : Int) != 0) = true := by simp; omega
      have HR := Lib.hid (HNO.out (fun hh => by obtain ⟨-, q, h1, -⟩ := hh; rw [hrd] at h1; cases h1))
      rw [zeroPl_eq]
      clear hrd hk0
      go_wp2_with fail
      go_ret2
      exact ⟨by rw [HR.out]; rfl, HBW2.out.alloc HBW2.out.size _⟩
    · obtain ⟨AS', sc', hsv', -⟩ := own_slice hpl.1
      obtain ⟨AC', cc', hcv', -⟩ := own_slice hpl.2.1
      subst hsv' hcv'
      unfold plA
      have hly := pl_ly hpl hD
      obtain ⟨w3, hw3⟩ : ∃ w3, w2.alloc (.cells #[.int .i64 (q.st : Int), .int .i64 (q.tr : Int), .slice AS' q.ss.length sc', .slice AC' D'.length cc', .int .i64 (q.s0 : Int), .string q.mn] 25) = w3 := ⟨_, rfl⟩
      have HB3 : Hid (Below w2.heap.size w2 w3) := Lib.hid (by rw [← hw3]; exact (Below.refl _ _).alloc (Nat.le_refl _) _)
      have HQB : Hid (Bx w3 w2.heap.size #[.int .i64 (q.st : Int), .int .i64 (q.tr : Int), .slice AS' q.ss.length sc', .slice AC' D'.length cc', .int .i64 (q.s0 : Int), .string q.mn] 25) := Lib.hid (by rw [← hw3]; exact bx_alloc' _ _ _)
      have HPB3 := Lib.hid ((HPB.out.below HB2.out).below HB3.out)
      have HBW3 : Hid (Below w.heap.size w w3) := Lib.hid (HBW2.out.trans (HB3.out.mono HBW2.out.size))
      have HSM : Hid (Calls Tryz.prog 30 #[.agg #[.int .i64 (q.st : Int), .int .i64 (q.tr : Int), .slice AS' q.ss.length sc', .slice AC' D'.length cc', .int .i64 (q.s0 : Int), .string q.mn], .agg #[.int .i64 P.st, .int .i64 P.tr, .slice AS P.ss.length sc, .slice AC D.length cc, .int .i64 P.s0, .string P.mn]] w3 fun e w' => YN e (toI q = P) ∧ Below w3.heap.size w3 w') := Lib.hid (n30 _ _ _ _ (toI q) P _ D w3 (hly.below HB3.out) (HPL.out _ HBW3.out) (bd_sm hsm) HOK.out.1)
      have y0 := HPB3.out.cell 0
      have y1 := HPB3.out.cell 1
      have y2 := HPB3.out.cell 2
      have y3 := HPB3.out.cell 3
      have y4 := HPB3.out.cell 4
      have y5 := HPB3.out.cell 5
      have z0 := HQB.out.cell 0
      have z1 := HQB.out.cell 1
      have z2 := HQB.out.cell 2
      have z3 := HQB.out.cell 3
      have z4 := HQB.out.cell 4
      have z5 := HQB.out.cell 5
      simp at y0 y1 y2 y3 y4 y5 z0 z1 z2 z3 z4 z5
      have HRP := Lib.hid hrd
      clear hrd hB' hpl hD hsm hly
      go_wp2_with fail
      with_reducible refine HSM.out.mono ?_
      rintro _ w4 ⟨⟨b, rfl, hb⟩, hb4⟩
      have HB4 : Hid (Below w.heap.size w w4) := Lib.hid (HBW3.out.trans (hb4.mono HBW3.out.size))
      have HBQ := Lib.hid hb
      clear hb hb4 HSM
      cases b
      · have HR := Lib.hid (HNO.out (fun hh => by
          obtain ⟨-, q', h1, h2⟩ := hh
          rw [HRP.out] at h1
          cases h1
          have := HBQ.out.2 h2
          cases this))
        go_wp2_with fail
        go_ret2
        exact ⟨by rw [HR.out]; rfl, HB4.out⟩
      · have HR := Lib.hid (HYES.out ⟨by first | rfl | trivial, q, HRP.out, HBQ.out.1 rfl⟩)
        go_wp2_with fail
        go_ret2
        exact ⟨by rw [HR.out]; rfl, HB4.out⟩
  · have e1 : ((c : Int) != 0) = true := by simp; omega
    have HR := Lib.hid (HNO.out (fun hh => hc0 hh.1))
    clear hc0
    go_wp2_with fail
    go_ret2
    exact ⟨by rw [HR.out]; rfl, HBW1.out⟩
set_option maxRecDepth 100000 in
set_option maxHeartbeats 8000000 in
/-- May -/
theorem n14 (SV CV : Value) (P : PlI) (D : List (Sv × CoI)) (w : World) (h : PlL w SV CV P D) (hok : OkP P) (hG : Gt w) (hGl : Gl w) :
    Calls Tryz.prog 14 #[plV SV CV P] w fun e w' => e = .returned (.bool (decide ((putP P).2 = 0))) ∧ Below w.heap.size w w' := by
  obtain ⟨AS, sc, hsv, -⟩ := h.1
  obtain ⟨AC, cc, hcv, -⟩ := h.2.1
  subst hsv hcv
  obtain ⟨W0, hW0⟩ : ∃ W0, w.alloc (.cells #[.int .i64 P.st, .int .i64 P.tr, .slice AS P.ss.length sc, .slice AC D.length cc, .int .i64 P.s0, .string P.mn] 25) = W0 := ⟨_, rfl⟩
  have HBA : Hid (Below w.heap.size w W0) := Lib.hid (by rw [← hW0]; exact (Below.refl _ _).alloc (Nat.le_refl _) _)
  have HPB : Hid (Bx W0 w.heap.size #[.int .i64 P.st, .int .i64 P.tr, .slice AS P.ss.length sc, .slice AC D.length cc, .int .i64 P.s0, .string P.mn] 25) := Lib.hid (by rw [← hW0]; exact bx_alloc' _ _ _)
  have HPT : Hid (Calls Tryz.prog 12 #[.agg #[.int .i64 P.st, .int .i64 P.tr, .slice AS P.ss.length sc, .slice AC D.length cc, .int .i64 P.s0, .string P.mn]] W0 fun e w' => e = .returned (.tuple #[.string (putP P).1, .int .i64 ((putP P).2 : Int)]) ∧ Below W0.heap.size W0 w') := Lib.hid (n12 _ _ P D W0 (h.below HBA.out) hok (hG.below HBA.out) (hGl.below HBA.out))
  have y0 := HPB.out.cell 0
  have y1 := HPB.out.cell 1
  have y2 := HPB.out.cell 2
  have y3 := HPB.out.cell 3
  have y4 := HPB.out.cell 4
  have y5 := HPB.out.cell 5
  simp at y0 y1 y2 y3 y4 y5
  unfold plV
  generalize putP P = z at HPT
  obtain ⟨s, c⟩ := z
  have e1 : ((c : Int) == 0) = decide (c = 0) := by rw [Bool.eq_iff_iff]; simp
  simp only at HPT
  generalize hd : decide (c = 0) = d at e1
  clear h hok hG hGl
  go_enter Tryz.func14, Tryz.ntmps14
  go_wp2_with fail
  with_reducible refine HPT.out.mono ?_
  rintro _ w1 ⟨rfl, hb1⟩
  have HB1 : Hid (Below w.heap.size w w1) := Lib.hid (HBA.out.trans (hb1.mono HBA.out.size))
  clear hb1 HPT
  go_wp2_with fail
  go_ret
  exact ⟨by first | rfl | (simp only [hd]; rfl), HB1.out⟩
end Go.Proofs.YtapdiionikfgpaaGreatDoor
namespace Go.Proofs.YtapdiionikfgpaaGreatDoor
open Go.ChangeShapes Go.WideShapes Go.ChangeAt Go.RowKit
open Li (bb okT okb lnsB wordsB mk rdE rdV asc hexP badN numN refV finV noN fin_yes)
set_option linter.unusedVariables false
set_option linter.unusedSimpArgs false
theorem mk_asc (l : List UInt8) (h : l.all (fun b => decide (b.toNat < 128)) = true) : asc (mk l) := fun i hi => by
  have hi2 : i < l.length := by
    have : (mk l).size = l.length := by show (mk l).data.toList.length = _; rw [Li.list_mk]
    omega
  rw [Li.bb_eq _ i hi]
  have := (List.all_eq_true.1 h) l[i] (List.getElem_mem hi2)
  have e : (mk l)[i]'hi = l[i] := by
    show (mk l).data[i] = _
    unfold mk
    simp
  rw [e]
  simpa using this
theorem wd_of (l : List UInt8) (h0 : l ≠ []) (h : (List.range l.length).all (fun i => Li.inW (bb (mk l) i)) = true) (h1 : bb (mk l) 0 ≠ 35) : Li.wd (mk l) = true := by
  have hs : (mk l).size = l.length := by show (mk l).data.toList.length = _; rw [Li.list_mk]
  unfold Li.wd
  refine decide_eq_true ⟨by rw [hs]; exact List.length_pos_iff.2 h0, h1, fun i hi => (List.all_eq_true.1 h) i (List.mem_range.2 (by omega))⟩
theorem val_dec (s : ByteArray) (n : Nat) (h0 : ¬ hexP s) (h1 : ¬ ((1 < s.size ∧ bb s 0 = 48) ∨ 10 < s.size)) (h2 : s.size ≠ 0) (h3 : (List.range s.size).all (fun i => decide (Li.dg (bb s i) < 10)) = true) (hn : numN 10 s s.size = n) (h4 : n < 4294967296) : valO s = some n := by
  have hb : ¬ badN 10 s := by
    rintro (h | ⟨i, hi, h⟩ | h)
    · exact h2 h
    · have := (List.all_eq_true.1 h3) i (List.mem_range.2 hi)
      simp at this
      omega
    · omega
  have h5 : refV s = .tuple #[.int .u32 (n : Int), .bool true] := by
    unfold refV
    rw [if_neg h0, if_neg h1, fin_yes _ _ hb, hn]
  have h6 := (refV_eq s).1
  rw [h5] at h6
  cases hv : valO s with
  | none => rw [hv] at h6; simp at h6
  | some m =>
    rw [hv] at h6
    simp at h6
    have h7 : n = m := by omega
    rw [h7]
theorem lns_0 : lnsB ⟨#[]⟩ = [] := by
  rw [Li.lns_list]
  rfl
theorem e_0 : rdE ⟨#[]⟩ = 0 := Li.rdE_ok _ (Li.okT_yes _ (fun i hi => absurd hi (by show ¬ i < 0; omega))) (by
  rintro (h | ⟨x, hx, h⟩)
  · rw [lns_0] at h; simp at h
  · rw [lns_0] at hx; cases hx)
theorem v_0 : rdV ⟨#[]⟩ = [] := by rw [Li.rdV_ok _ e_0, lns_0]; rfl
theorem read_0 : readP ⟨#[]⟩ = ((0, 6), none) := by
  unfold readP
  rw [if_pos e_0, v_0, show linesV Pm.zero [] = (0, 0, Pm.zero) from rfl, if_pos rfl, if_neg (by show ¬ wholeB Pm.zero = true; unfold wholeB; simp [Pm.zero])]
def Ts : ByteArray := ⟨#[115, 116, 97, 99, 107, 32, 54, 48]⟩
theorem ok_s : Li.okT Ts = true := Li.okT_yes Ts (fun i hi => by
  have h : (List.range 8).all (fun i => okb (bb Ts i)) = true := by decide
  exact (List.all_eq_true.1 h) i (List.mem_range.2 hi))
theorem lns_s : lnsB Ts = [mk [115, 116, 97, 99, 107, 32, 54, 48]] := by
  rw [Li.lns_list, show Ts.data.toList = [115, 116, 97, 99, 107, 32, 54, 48] from rfl]
  rfl
theorem w_s0 : wordsB (mk [115, 116, 97, 99, 107, 32, 54, 48]) = [kStack, ⟨#[54, 48]⟩] := by
  rw [Li.words_list _ (mk_asc _ (by decide)), Li.list_mk]
  rfl
theorem e_s : rdE Ts = 0 := Li.rdE_ok Ts ok_s (by
  rintro (h | ⟨x, hx, h⟩)
  · rw [lns_s] at h; simp at h
  · rw [lns_s] at hx
    simp only [List.mem_cons, List.not_mem_nil, or_false] at hx
    rcases hx with rfl <;> exact absurd h (by decide))
theorem v_s : rdV Ts = [(1, [kStack, ⟨#[54, 48]⟩])] := by
  rw [Li.rdV_ok Ts e_s, lns_s]
  simp [Li.saidB, w_s0]
def Tc : ByteArray := ⟨#[99, 111, 109, 112, 97, 114, 116, 109, 101, 110, 116, 32, 97, 10, 99, 111, 109, 112, 97, 114, 116, 109, 101, 110, 116, 32, 97]⟩
theorem ok_c : Li.okT Tc = true := Li.okT_yes Tc (fun i hi => by
  have h : (List.range 27).all (fun i => okb (bb Tc i)) = true := by decide
  exact (List.all_eq_true.1 h) i (List.mem_range.2 hi))
theorem lns_c : lnsB Tc = [mk [99, 111, 109, 112, 97, 114, 116, 109, 101, 110, 116, 32, 97], mk [99, 111, 109, 112, 97, 114, 116, 109, 101, 110, 116, 32, 97]] := by
  rw [Li.lns_list, show Tc.data.toList = [99, 111, 109, 112, 97, 114, 116, 109, 101, 110, 116, 32, 97, 10, 99, 111, 109, 112, 97, 114, 116, 109, 101, 110, 116, 32, 97] from rfl]
  rfl
theorem w_c0 : wordsB (mk [99, 111, 109, 112, 97, 114, 116, 109, 101, 110, 116, 32, 97]) = [kComp, ⟨#[97]⟩] := by
  rw [Li.words_list _ (mk_asc _ (by decide)), Li.list_mk]
  rfl
theorem w_c1 : wordsB (mk [99, 111, 109, 112, 97, 114, 116, 109, 101, 110, 116, 32, 97]) = [kComp, ⟨#[97]⟩] := by
  rw [Li.words_list _ (mk_asc _ (by decide)), Li.list_mk]
  rfl
theorem e_c : rdE Tc = 0 := Li.rdE_ok Tc ok_c (by
  rintro (h | ⟨x, hx, h⟩)
  · rw [lns_c] at h; simp at h
  · rw [lns_c] at hx
    simp only [List.mem_cons, List.not_mem_nil, or_false] at hx
    rcases hx with rfl | rfl <;> exact absurd h (by decide))
theorem v_c : rdV Tc = [(1, [kComp, ⟨#[97]⟩]), (2, [kComp, ⟨#[97]⟩])] := by
  rw [Li.rdV_ok Tc e_c, lns_c]
  simp [Li.saidB, w_c0, w_c1]
def To : ByteArray := ⟨#[111, 98, 106, 101, 99, 116, 32, 97, 32, 102]⟩
theorem ok_o : Li.okT To = true := Li.okT_yes To (fun i hi => by
  have h : (List.range 10).all (fun i => okb (bb To i)) = true := by decide
  exact (List.all_eq_true.1 h) i (List.mem_range.2 hi))
theorem lns_o : lnsB To = [mk [111, 98, 106, 101, 99, 116, 32, 97, 32, 102]] := by
  rw [Li.lns_list, show To.data.toList = [111, 98, 106, 101, 99, 116, 32, 97, 32, 102] from rfl]
  rfl
theorem w_o0 : wordsB (mk [111, 98, 106, 101, 99, 116, 32, 97, 32, 102]) = [kObject, ⟨#[97]⟩, ⟨#[102]⟩] := by
  rw [Li.words_list _ (mk_asc _ (by decide)), Li.list_mk]
  rfl
theorem e_o : rdE To = 0 := Li.rdE_ok To ok_o (by
  rintro (h | ⟨x, hx, h⟩)
  · rw [lns_o] at h; simp at h
  · rw [lns_o] at hx
    simp only [List.mem_cons, List.not_mem_nil, or_false] at hx
    rcases hx with rfl <;> exact absurd h (by decide))
theorem v_o : rdV To = [(1, [kObject, ⟨#[97]⟩, ⟨#[102]⟩])] := by
  rw [Li.rdV_ok To e_o, lns_o]
  simp [Li.saidB, w_o0]
def Tm : ByteArray := ⟨#[115, 116, 97, 99, 107, 32, 54, 52, 10, 116, 114, 117, 115, 116, 101, 100, 32, 49, 10, 99, 111, 109, 112, 97, 114, 116, 109, 101, 110, 116, 32, 97, 10, 101, 120, 112, 111, 114, 116, 32, 97, 32, 109, 97, 105, 110, 32, 48, 32, 48, 10, 115, 116, 97, 114, 116, 32, 97, 32, 109, 97, 105, 110, 10]⟩
theorem ok_m : Li.okT Tm = true := Li.okT_yes Tm (fun i hi => by
  have h : (List.range 64).all (fun i => okb (bb Tm i)) = true := by decide
  exact (List.all_eq_true.1 h) i (List.mem_range.2 hi))
theorem lns_m : lnsB Tm = [mk [115, 116, 97, 99, 107, 32, 54, 52], mk [116, 114, 117, 115, 116, 101, 100, 32, 49], mk [99, 111, 109, 112, 97, 114, 116, 109, 101, 110, 116, 32, 97], mk [101, 120, 112, 111, 114, 116, 32, 97, 32, 109, 97, 105, 110, 32, 48, 32, 48], mk [115, 116, 97, 114, 116, 32, 97, 32, 109, 97, 105, 110]] := by
  rw [Li.lns_list, show Tm.data.toList = [115, 116, 97, 99, 107, 32, 54, 52, 10, 116, 114, 117, 115, 116, 101, 100, 32, 49, 10, 99, 111, 109, 112, 97, 114, 116, 109, 101, 110, 116, 32, 97, 10, 101, 120, 112, 111, 114, 116, 32, 97, 32, 109, 97, 105, 110, 32, 48, 32, 48, 10, 115, 116, 97, 114, 116, 32, 97, 32, 109, 97, 105, 110, 10] from rfl]
  rfl
theorem w_m0 : wordsB (mk [115, 116, 97, 99, 107, 32, 54, 52]) = [kStack, ⟨#[54, 52]⟩] := by
  rw [Li.words_list _ (mk_asc _ (by decide)), Li.list_mk]
  rfl
theorem w_m1 : wordsB (mk [116, 114, 117, 115, 116, 101, 100, 32, 49]) = [kTrusted, ⟨#[49]⟩] := by
  rw [Li.words_list _ (mk_asc _ (by decide)), Li.list_mk]
  rfl
theorem w_m2 : wordsB (mk [99, 111, 109, 112, 97, 114, 116, 109, 101, 110, 116, 32, 97]) = [kComp, ⟨#[97]⟩] := by
  rw [Li.words_list _ (mk_asc _ (by decide)), Li.list_mk]
  rfl
theorem w_m3 : wordsB (mk [101, 120, 112, 111, 114, 116, 32, 97, 32, 109, 97, 105, 110, 32, 48, 32, 48]) = [kExport, ⟨#[97]⟩, ⟨#[109, 97, 105, 110]⟩, ⟨#[48]⟩, ⟨#[48]⟩] := by
  rw [Li.words_list _ (mk_asc _ (by decide)), Li.list_mk]
  rfl
theorem w_m4 : wordsB (mk [115, 116, 97, 114, 116, 32, 97, 32, 109, 97, 105, 110]) = [kStart, ⟨#[97]⟩, ⟨#[109, 97, 105, 110]⟩] := by
  rw [Li.words_list _ (mk_asc _ (by decide)), Li.list_mk]
  rfl
theorem e_m : rdE Tm = 0 := Li.rdE_ok Tm ok_m (by
  rintro (h | ⟨x, hx, h⟩)
  · rw [lns_m] at h; simp at h
  · rw [lns_m] at hx
    simp only [List.mem_cons, List.not_mem_nil, or_false] at hx
    rcases hx with rfl | rfl | rfl | rfl | rfl <;> exact absurd h (by decide))
theorem v_m : rdV Tm = [(1, [kStack, ⟨#[54, 52]⟩]), (2, [kTrusted, ⟨#[49]⟩]), (3, [kComp, ⟨#[97]⟩]), (4, [kExport, ⟨#[97]⟩, ⟨#[109, 97, 105, 110]⟩, ⟨#[48]⟩, ⟨#[48]⟩]), (5, [kStart, ⟨#[97]⟩, ⟨#[109, 97, 105, 110]⟩])] := by
  rw [Li.rdV_ok Tm e_m, lns_m]
  simp [Li.saidB, w_m0, w_m1, w_m2, w_m3, w_m4]
theorem val_60 : valO ⟨#[54, 48]⟩ = some 60 := val_dec _ 60 (by unfold hexP; decide) (by decide) (by decide) (by decide) (by decide) (by decide)
theorem val_64 : valO ⟨#[54, 52]⟩ = some 64 := val_dec _ 64 (by unfold hexP; decide) (by decide) (by decide) (by decide) (by decide) (by decide)
theorem val_1 : valO ⟨#[49]⟩ = some 1 := val_dec _ 1 (by unfold hexP; decide) (by decide) (by decide) (by decide) (by decide) (by decide)
theorem val_0 : valO ⟨#[48]⟩ = some 0 := val_dec _ 0 (by unfold hexP; decide) (by decide) (by decide) (by decide) (by decide) (by decide)
theorem name_a : nameB ⟨#[97]⟩ = true := by
  unfold nameB
  refine decide_eq_true ⟨by decide, by decide, by decide, fun i hi => ?_⟩
  have : i = 0 := by have : i < 1 := hi; omega
  subst this
  decide
theorem wd_main : Li.wd ⟨#[109, 97, 105, 110]⟩ = true := wd_of [109, 97, 105, 110] (by decide) (by decide) (by decide)
theorem sym_main : symB ⟨#[109, 97, 105, 110]⟩ = true := by
  unfold symB
  rw [wd_main]
  decide
theorem sym_f : symB ⟨#[102]⟩ = true := by
  unfold symB
  rw [show Li.wd ⟨#[102]⟩ = true from wd_of [102] (by decide) (by decide) (by decide)]
  decide
theorem read_s : readP Ts = ((1, 5), none) := by
  unfold readP
  have h : linesV Pm.zero (rdV Ts) = (1, 5, Pm.zero) := by
    rw [v_s]
    exact linesV_err (q := Pm.zero) (by rw [two_stack, numO_some val_60, if_neg (by decide)]; rfl)
  rw [if_pos e_s, h, if_neg (by decide)]
theorem ln_c (p : Pm) (h : fnd (byName ⟨#[97]⟩) p.cs = none) (hl : p.cs.length < 12) : lineV p [kComp, ⟨#[97]⟩] = (0, { p with cs := p.cs ++ [Co.new ⟨#[97]⟩] }) := by
  rw [two_comp]
  unfold compV
  rw [if_pos name_a]
  unfold addV
  rw [h, if_neg (by simp), if_neg (by omega)]
theorem read_c : readP Tc = ((2, 7), none) := by
  unfold readP
  have h : linesV Pm.zero (rdV Tc) = (2, 7, { Pm.zero with cs := [Co.new ⟨#[97]⟩] }) := by
    rw [v_c, linesV_ok (ln_c Pm.zero rfl (by decide))]
    refine linesV_err (q := { Pm.zero with cs := [Co.new ⟨#[97]⟩] }) ?_
    rw [two_comp]
    unfold compV
    rw [if_pos name_a]
    rfl
  rw [if_pos e_c, h, if_neg (by decide)]
theorem read_o : readP To = ((1, 6), none) := by
  unfold readP
  have h : linesV Pm.zero (rdV To) = (1, 6, Pm.zero) := by
    rw [v_o]
    refine linesV_err (q := Pm.zero) ?_
    rw [three_object]
    unfold fileV
    rw [if_pos ⟨name_a, sym_f⟩]
    rfl
  rw [if_pos e_o, h, if_neg (by decide)]
noncomputable def smC : Co := ⟨⟨#[97]⟩, [], [(⟨#[109, 97, 105, 110]⟩, 0, 0)], [], [], []⟩
noncomputable def smP : Pm := ⟨64, 1, [], [smC], 0, ⟨#[109, 97, 105, 110]⟩⟩
theorem read_m : readP Tm = ((0, 0), some smP) := by
  unfold readP
  have h : linesV Pm.zero (rdV Tm) = (0, 0, smP) := by
    rw [v_m]
    have h1 : lineV Pm.zero [kStack, ⟨#[54, 52]⟩] = (0, { Pm.zero with st := 64 }) := by rw [two_stack, numO_some val_64, if_pos (by decide)]; rfl
    have h2 : lineV { Pm.zero with st := 64 } [kTrusted, ⟨#[49]⟩] = (0, { Pm.zero with st := 64, tr := 1 }) := by rw [two_trusted, numO_some val_1, if_pos (by decide)]; rfl
    have h3 : lineV { Pm.zero with st := 64, tr := 1 } [kComp, ⟨#[97]⟩] = (0, { Pm.zero with st := 64, tr := 1, cs := [Co.new ⟨#[97]⟩] }) := ln_c _ rfl (by decide)
    have h4 : lineV { Pm.zero with st := 64, tr := 1, cs := [Co.new ⟨#[97]⟩] } [kExport, ⟨#[97]⟩, ⟨#[109, 97, 105, 110]⟩, ⟨#[48]⟩, ⟨#[48]⟩] = (0, { Pm.zero with st := 64, tr := 1, cs := [smC] }) := by
      rw [five_export, numO_some val_0, numO_some val_0, if_pos (by decide), if_pos (by decide)]
      unfold exportO
      simp only [name_a, sym_main, and_self, if_true]
      rfl
    have h5 : lineV { Pm.zero with st := 64, tr := 1, cs := [smC] } [kStart, ⟨#[97]⟩, ⟨#[109, 97, 105, 110]⟩] = (0, smP) := by
      rw [three_start]
      unfold startV
      rw [if_pos ⟨name_a, sym_main⟩]
      rfl
    rw [linesV_ok h1, linesV_ok h2, linesV_ok h3, linesV_ok h4, linesV_ok h5]
    rfl
  rw [if_pos e_m, h, if_pos rfl, if_pos (by
    rw [show wholeB smP = noArgs smP from whole_yes (by decide) (by decide) (by decide) rfl]
    rfl)]
theorem tn_64 : tnI 64 = ⟨#[54, 52]⟩ := by unfold tnI; rw [show Lib.itoa 64 = Lib.decDigits 64 from Lib.itoa_nonneg 64, Lib.decDigits_two (by decide) (by decide)]; rfl
theorem tn_1 : tnI 1 = ⟨#[49]⟩ := by unfold tnI; rw [show Lib.itoa 1 = Lib.decDigits 1 from Lib.itoa_nonneg 1, Lib.decDigits_one (by decide)]; rfl
theorem tn_0 : tnI 0 = ⟨#[48]⟩ := by unfold tnI; rw [show Lib.itoa 0 = Lib.decDigits 0 from Lib.itoa_nonneg 0, Lib.decDigits_one (by decide)]; rfl
theorem txt_m : txt (toI smP) = [[kStack, ⟨#[54, 52]⟩], [kTrusted, ⟨#[49]⟩], [kComp, ⟨#[97]⟩], [kExport, ⟨#[97]⟩, ⟨#[109, 97, 105, 110]⟩, ⟨#[48]⟩, ⟨#[48]⟩], [kStart, ⟨#[97]⟩, ⟨#[109, 97, 105, 110]⟩]] := by
  rw [← tn_64, ← tn_1, ← tn_0]
  rfl
theorem ok_smP : okT (toI smP) = true := rfl
theorem wds_m : ∀ l ∈ txt (toI smP), ∀ u ∈ l, Li.wd u = true := by
  rw [txt_m]
  intro l hl u hu
  simp only [List.mem_cons, List.not_mem_nil, or_false] at hl
  rcases hl with rfl | rfl | rfl | rfl | rfl <;> simp only [List.mem_cons, List.not_mem_nil, or_false] at hu
  · rcases hu with rfl | rfl
    · exact wd_of [115, 116, 97, 99, 107] (by decide) (by decide) (by decide)
    · exact wd_of [54, 52] (by decide) (by decide) (by decide)
  · rcases hu with rfl | rfl
    · exact wd_of [116, 114, 117, 115, 116, 101, 100] (by decide) (by decide) (by decide)
    · exact wd_of [49] (by decide) (by decide) (by decide)
  · rcases hu with rfl | rfl
    · exact wd_of [99, 111, 109, 112, 97, 114, 116, 109, 101, 110, 116] (by decide) (by decide) (by decide)
    · exact wd_of [97] (by decide) (by decide) (by decide)
  · rcases hu with rfl | rfl | rfl | rfl | rfl
    · exact wd_of [101, 120, 112, 111, 114, 116] (by decide) (by decide) (by decide)
    · exact wd_of [97] (by decide) (by decide) (by decide)
    · exact wd_main
    · exact wd_of [48] (by decide) (by decide) (by decide)
    · exact wd_of [48] (by decide) (by decide) (by decide)
  · rcases hu with rfl | rfl | rfl
    · exact wd_of [115, 116, 97, 114, 116] (by decide) (by decide) (by decide)
    · exact wd_of [97] (by decide) (by decide) (by decide)
    · exact wd_main
theorem pt_m : pt (txt (toI smP)) = (Tm, 0) := by
  have hw := wds_m
  rw [txt_m] at hw ⊢
  have hlen : ∀ k, k < 5 → k = 0 ∨ k = 1 ∨ k = 2 ∨ k = 3 ∨ k = 4 := fun k hk => by omega
  have hg : ∀ (LS : List (List ByteArray)) k (h : k < LS.length), LS[k] ≠ [] → (∀ u ∈ LS[k], Li.wd u = true) → Li.lineP (gL LS k) := fun LS k h hne hu => by
    refine ⟨by show 0 < ((LS[k]?).getD []).length; rw [List.getElem?_eq_getElem h]; exact List.length_pos_iff.2 hne, fun j hj => ?_⟩
    have hj' : j < LS[k].length := by
      have : j < ((LS[k]?).getD []).length := hj
      rw [List.getElem?_eq_getElem h] at this
      exact this
    show Li.wd ((((LS[k]?).getD [])[j]?).getD ⟨#[]⟩) = true
    rw [List.getElem?_eq_getElem h]
    simp only [Option.getD_some, List.getElem?_eq_getElem hj']
    exact hu _ (List.getElem_mem hj')
  unfold pt
  rw [if_neg, if_neg]
  · rfl
  · rintro (⟨k, hk, hl⟩ | h)
    · rcases hlen k hk with rfl | rfl | rfl | rfl | rfl <;> exact absurd hl (by unfold Li.longP; decide)
    · exact absurd h (by decide)
  · rw [Li.mayB_yes _ _ (fun k hk => hg _ k hk (by rcases hlen k hk with rfl | rfl | rfl | rfl | rfl <;> simp) (fun u hu => hw _ (List.getElem_mem hk) u hu))]
    decide
theorem put_m : putP (toI smP) = (Tm, 0) := by
  have h := outT_yes ok_smP
  rw [pt_m] at h
  rw [putP_yes ⟨by rw [h], smP, by rw [h]; exact read_m, rfl⟩, h]
theorem okP_m : OkP (toI smP) := by
  refine ⟨bd_sm ⟨by decide, by decide, fun x hx => ?_⟩, ⟨by unfold InI; decide, by unfold InI; decide, (fun x hx => by cases hx), fun c hc => ?_⟩, ?_, by rw [txt_m]; decide⟩
  · rcases List.mem_singleton.1 hx with rfl
    exact ⟨by decide, by decide, by decide, by decide, by decide⟩
  · rcases List.mem_singleton.1 hc with rfl
    refine ⟨fun y hy => ?_, (fun y hy => by cases hy)⟩
    rcases List.mem_singleton.1 hy with rfl
    exact ⟨by unfold InI; decide, by unfold InI; decide⟩
  · rw [txt_m]
    intro l hl
    simp only [List.mem_cons, List.not_mem_nil, or_false] at hl
    rcases hl with rfl | rfl | rfl | rfl | rfl
    all_goals
      refine ⟨by decide, fun u hu => ?_⟩
      simp only [List.mem_cons, List.not_mem_nil, or_false] at hu
    · rcases hu with rfl | rfl <;> decide
    · rcases hu with rfl | rfl <;> decide
    · rcases hu with rfl | rfl <;> decide
    · rcases hu with rfl | rfl | rfl | rfl | rfl <;> decide
    · rcases hu with rfl | rfl | rfl <;> decide
end Go.Proofs.YtapdiionikfgpaaGreatDoor
namespace Go.Proofs.YtapdiionikfgpaaGreatDoor
open Go.ChangeShapes Go.WideShapes Go.ChangeAt Go.RowKit
open Li (Gl)
set_option linter.unusedVariables false
set_option linter.unusedSimpArgs false
theorem k8 (s : ByteArray) (n k : Nat) (hv : readP s = ((n, k), none)) (hs : s.size ≤ 16777215) (W : World) (hG : Gl W) : Calls Tryz.prog 8 #[.string s] W fun e w' => e = .returned (.tuple #[.agg #[.int .i64 0, .int .i64 0, .slice none 0 0, .slice none 0 0, .int .i64 0, .string ⟨#[]⟩], .int .i64 (n : Int), .int .i64 (k : Int)]) ∧ Below W.heap.size W w' := by
  refine (n8 s hs W hG).mono ?_
  rintro e w' ⟨hb, ⟨n', k', h1, h2⟩ | ⟨q, SV, CV, D, B, h1, _⟩⟩
  · rw [hv] at h1
    simp only [Prod.mk.injEq] at h1
    obtain ⟨⟨rfl, rfl⟩, -⟩ := h1
    exact ⟨h2, hb⟩
  · rw [hv] at h1
    cases h1
theorem k8m (W : World) (hG : Gl W) : Calls Tryz.prog 8 #[.string Tm] W fun e w' => (∃ AS sc AC cc D, PlL w' (.slice AS 0 sc) (.slice AC 1 cc) (toI smP) D ∧ e = .returned (.tuple #[.agg #[.int .i64 64, .int .i64 1, .slice AS 0 sc, .slice AC 1 cc, .int .i64 0, .string ⟨#[109, 97, 105, 110]⟩], .int .i64 0, .int .i64 0])) ∧ Below W.heap.size W w' := by
  refine (n8 Tm (by decide) W hG).mono ?_
  rintro e w' ⟨hb, ⟨n', k', h1, h2⟩ | ⟨q, SV, CV, D, B, h1, hB, hpl, hD, hsm, rfl⟩⟩
  · rw [read_m] at h1
    cases h1
  · rw [read_m] at h1
    simp only [Prod.mk.injEq, Option.some.injEq, true_and] at h1
    subst h1
    have hly := pl_ly hpl hD
    obtain ⟨AS, sc, rfl, -⟩ := own_slice hpl.1
    obtain ⟨AC, cc, rfl, -⟩ := own_slice hpl.2.1
    have hd : D.length = 1 := by have := congrArg List.length hD; simpa [smP] using this
    rw [hd] at hly ⊢
    exact ⟨⟨AS, sc, AC, cc, _, hly, rfl⟩, hb⟩
set_option maxRecDepth 100000 in
theorem n28 (W : World) : Calls Tryz.prog 28 #[] W fun e w' => e = .returned (.string Tm) ∧ w' = W := by
  go_enter Tryz.func28, Tryz.ntmps28
  go_wp2_with fail
  go_ret
  exact ⟨rfl, rfl⟩
set_option maxRecDepth 100000 in
set_option maxHeartbeats 8000000 in
/-- works -/
theorem n11 (w : World) (hG : Gl w) (hg : Gt w) : Calls Tryz.prog 11 #[] w fun e w' => e = .returned (.bool true) ∧ Below w.heap.size w w' := by
  have HG : Hid (∀ W, Below w.heap.size w W → Gl W ∧ Gt W) := Lib.hid (fun W hW => ⟨hG.below hW, hg.below hW⟩)
  have K1 := Lib.hid (k8 ⟨#[]⟩ 0 6 read_0 (by decide) w hG)
  have K2 : Hid (∀ W, Below w.heap.size w W → _) := Lib.hid (fun W hW => k8 Ts 1 5 read_s (by decide) W (HG.out W hW).1)
  have K3 : Hid (∀ W, Below w.heap.size w W → _) := Lib.hid (fun W hW => k8 Tc 2 7 read_c (by decide) W (HG.out W hW).1)
  have K4 : Hid (∀ W, Below w.heap.size w W → _) := Lib.hid (fun W hW => k8 To 1 6 read_o (by decide) W (HG.out W hW).1)
  unfold Ts at K2
  unfold Tc at K3
  unfold To at K4
  clear hG hg
  go_enter Tryz.func11, Tryz.ntmps11
  go_wp2_with fail
  refine K1.out.mono ?_
  rintro _ w1 ⟨rfl, hb1⟩
  have HB1 : Hid (Below w.heap.size w (w1.alloc (.cells #[.int .i64 0, .int .i64 0, .slice none 0 0, .slice none 0 0, .int .i64 0, .string ⟨#[]⟩] 25))) := Lib.hid (hb1.alloc hb1.size _)
  clear hb1 K1
  go_wp2_with fail
  refine (K2.out _ HB1.out).mono ?_
  rintro _ w2 ⟨rfl, hb2⟩
  have HB2 : Hid (Below w.heap.size w (w2.alloc (.cells #[.int .i64 0, .int .i64 0, .slice none 0 0, .slice none 0 0, .int .i64 0, .string ⟨#[]⟩] 25))) := Lib.hid (by have := HB1.out.trans (hb2.mono HB1.out.size); exact this.alloc this.size _)
  clear hb2 K2
  go_wp2_with fail
  refine (K3.out _ HB2.out).mono ?_
  rintro _ w3 ⟨rfl, hb3⟩
  have HB3 : Hid (Below w.heap.size w (w3.alloc (.cells #[.int .i64 0, .int .i64 0, .slice none 0 0, .slice none 0 0, .int .i64 0, .string ⟨#[]⟩] 25))) := Lib.hid (by have := HB2.out.trans (hb3.mono HB2.out.size); exact this.alloc this.size _)
  clear hb3 K3
  go_wp2_with fail
  refine (K4.out _ HB3.out).mono ?_
  rintro _ w4 ⟨rfl, hb4⟩
  have HB4 : Hid (Below w.heap.size w (w4.alloc (.cells #[.int .i64 0, .int .i64 0, .slice none 0 0, .slice none 0 0, .int .i64 0, .string ⟨#[]⟩] 25))) := Lib.hid (by have := HB3.out.trans (hb4.mono HB3.out.size); exact this.alloc this.size _)
  clear hb4 K4
  go_wp2_with fail
  refine (n28 _).mono ?_
  rintro _ w5 ⟨rfl, rfl⟩
  have K5 := Lib.hid (k8m _ (HG.out _ HB4.out).1)
  go_wp2_with fail
  refine K5.out.mono ?_
  rintro _ w5 ⟨⟨AS, sc, AC, cc, D, hly, rfl⟩, hb5⟩
  have HB50 : Hid (Below w.heap.size w w5) := Lib.hid (HB4.out.trans (hb5.mono HB4.out.size))
  obtain ⟨w6, hw6⟩ : ∃ w6, w5.alloc (.cells #[.int .i64 64, .int .i64 1, .slice AS 0 sc, .slice AC 1 cc, .int .i64 0, .string ⟨#[109, 97, 105, 110]⟩] 25) = w6 := ⟨_, rfl⟩
  have HAB : Hid (Below w5.heap.size w5 w6) := Lib.hid (by rw [← hw6]; exact (Below.refl _ _).alloc (Nat.le_refl _) _)
  have HB6 : Hid (Below w.heap.size w w6) := Lib.hid (HB50.out.trans (HAB.out.mono HB50.out.size))
  have HX : Hid (Bx w6 w5.heap.size #[.int .i64 64, .int .i64 1, .slice AS 0 sc, .slice AC 1 cc, .int .i64 0, .string ⟨#[109, 97, 105, 110]⟩] 25) := Lib.hid (by rw [← hw6]; exact bx_alloc' _ _ _)
  have KM : Hid (Calls Tryz.prog 14 #[.agg #[.int .i64 64, .int .i64 1, .slice AS 0 sc, .slice AC 1 cc, .int .i64 0, .string ⟨#[109, 97, 105, 110]⟩]] w6 fun e w' => e = .returned (.bool true) ∧ Below w6.heap.size w6 w') := Lib.hid (by
    have h := n14 _ _ (toI smP) D w6 (hly.below HAB.out) okP_m (HG.out _ HB6.out).2 (HG.out _ HB6.out).1
    rw [put_m] at h
    exact h)
  have x0 := HX.out.cell 0
  have x1 := HX.out.cell 1
  have x2 := HX.out.cell 2
  have x3 := HX.out.cell 3
  have x4 := HX.out.cell 4
  have x5 := HX.out.cell 5
  simp at x0 x1 x2 x3 x4 x5
  clear hb5 K5 hly
  go_wp2_with fail
  refine KM.out.mono ?_
  rintro _ w7 ⟨rfl, hb7⟩
  have HX7 := Lib.hid (HX.out.below hb7)
  have z3 := HX7.out.cell 3
  have z5 := HX7.out.cell 5
  simp at z3 z5
  have HB7 : Hid (Below w.heap.size w w7) := Lib.hid (HB6.out.trans (hb7.mono HB6.out.size))
  clear hb7 KM x0 x1 x2 x3 x4 x5
  go_wp2_with fail
  go_ret
  exact ⟨rfl, HB7.out⟩
end Go.Proofs.YtapdiionikfgpaaGreatDoor
