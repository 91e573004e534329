import Derived.Test.YtapdiionikfgpaaGreatDoorGw
namespace Go.Proofs.YtapdiionikfgpaaGreatDoor
set_option linter.unusedVariables false
theorem wd_nil : Li.wd ⟨#[]⟩ = false := by
  unfold Li.wd
  rw [decide_eq_false_iff_not]
  rintro ⟨h, -⟩
  exact absurd h (by decide)
theorem pt_empty {LS : List (List ByteArray)} {l : List ByteArray} (hl : l ∈ LS) (he : (⟨#[]⟩ : ByteArray) ∈ l) : pt LS = (⟨#[]⟩, 5) := by
  unfold pt
  rw [if_pos]
  unfold Li.mayB
  rw [decide_eq_false_iff_not]
  intro h
  obtain ⟨k, hk, e⟩ := List.getElem_of_mem hl
  obtain ⟨j, hj, e2⟩ := List.getElem_of_mem he
  obtain ⟨h1, h2⟩ := h k hk
  have e3 : LS[k]? = some l := by rw [List.getElem?_eq_getElem hk, e]
  have h3 := h2 j (by unfold gL; rw [e3]; exact hj)
  unfold gL at h3
  simp only [e3, Option.getD_some] at h3
  rw [List.getElem?_eq_getElem hj, e2] at h3
  simp only [Option.getD_some] at h3
  rw [wd_nil] at h3
  cases h3
theorem ok_empty {P : PlI} (h : okT P = false) : ∃ l ∈ txt P, (⟨#[]⟩ : ByteArray) ∈ l := by
  unfold okT at h
  simp only [Bool.and_eq_false_iff] at h
  rcases h with (h | h) | h
  · obtain ⟨c, hc, h⟩ := List.all_eq_false.1 h
    unfold givOk at h
    obtain ⟨x, hx, h⟩ := List.all_eq_false.1 (Bool.eq_false_iff.2 h)
    refine ⟨givL P.ss c.nm x, ?_, ?_⟩
    · unfold txt coLs
      simp only [List.mem_cons, List.mem_append, List.mem_map, List.mem_flatMap]
      exact Or.inr (Or.inr (Or.inl (Or.inl (Or.inr ⟨c, hc, Or.inr (Or.inr ⟨x, hx, rfl⟩)⟩))))
    · unfold givL
      cases hn : nmS P.ss x.1 with
      | none => simp
      | some y => rw [hn] at h; simp at h
  · obtain ⟨c, hc, h⟩ := List.all_eq_false.1 h
    unfold impOk at h
    obtain ⟨x, hx, h⟩ := List.all_eq_false.1 (Bool.eq_false_iff.2 h)
    refine ⟨impL P.cs c.nm x, ?_, ?_⟩
    · unfold txt
      simp only [List.mem_cons, List.mem_append, List.mem_map, List.mem_flatMap]
      exact Or.inr (Or.inr (Or.inl (Or.inr ⟨c, hc, x, hx, rfl⟩)))
    · unfold impL
      cases hn : nmC P.cs x.1 with
      | none => simp
      | some y => rw [hn] at h; simp at h
  · refine ⟨[kStart, (nmC P.cs P.s0).getD ⟨#[]⟩, P.mn], ?_, ?_⟩
    · unfold txt; simp
    · cases hn : nmC P.cs P.s0 with
      | none => simp
      | some y => rw [hn] at h; simp at h
open Classical in
/-- what the reference's Put answers -/
noncomputable def refP (P : PlI) : ByteArray × Nat :=
  if P.cs.length ≤ 20 ∧ P.ss.length ≤ 20 ∧ (pt (txt P)).2 = 0 ∧ ∃ q, readP (pt (txt P)).1 = ((0, 0), some q) ∧ toI q = P then ((pt (txt P)).1, 0) else (⟨#[]⟩, 5)
theorem refP_eq (P : PlI) : refP P = putP P := by
  classical
  cases ho : okT P with
  | false =>
    obtain ⟨l, hl, he⟩ := ok_empty ho
    rw [putP_no (by rw [outT_no ho]; rintro ⟨h, -⟩; cases h)]
    unfold refP
    rw [if_neg (by rw [pt_empty hl he]; rintro ⟨-, -, h, -⟩; cases h)]
  | true =>
    have e := outT_yes ho
    by_cases h : (pt (txt P)).2 = 0 ∧ ∃ q, readP (pt (txt P)).1 = ((0, 0), some q) ∧ toI q = P
    · rw [putP_yes (by rw [e]; exact h), e]
      obtain ⟨h1, q, h2, h3⟩ := h
      have hsm := sm_read h2
      have hc : P.cs.length ≤ 20 ∧ P.ss.length ≤ 20 := by
        subst h3
        show (q.cs.map _).length ≤ 20 ∧ (q.ss.map _).length ≤ 20
        rw [List.length_map, List.length_map]
        have := hsm.1
        have := hsm.2.1
        omega
      unfold refP
      rw [if_pos ⟨hc.1, hc.2, h1, q, h2, h3⟩]
    · rw [putP_no (by rw [e]; exact h)]
      unfold refP
      rw [if_neg (fun hh => h hh.2.2)]
end Go.Proofs.YtapdiionikfgpaaGreatDoor
namespace Go.Proofs.YtapdiionikfgpaaGreatDoor
open Go.ChangeShapes Go.WideShapes Go.ChangeAt Go.RowKit
set_option linter.unusedVariables false
/-- the reference's lines.Put of words that are laid -/
theorem put_lines17 (LS : List (List ByteArray)) (hs : ShL LS) (hl : LS.length ≤ 1073741824) (W : World) (V : Value) (B : Nat) (h : Li.RdOut B V (LS.map (fun l => (0, l))) W) :
    (Calls Tryz.prog 17 #[V] W fun e w' => e = .returned (.tuple #[.string (pt LS).1, .int .i64 ((pt LS).2 : Int)]) ∧ W = w') := by
  obtain ⟨A, n, c, rfl⟩ : ∃ A n c, V = .slice A n c := by
    obtain ⟨D, d1, d2, d3⟩ := h
    obtain ⟨A, c, e, _⟩ := own_slice d2
    exact ⟨A, _, c, e⟩
  obtain ⟨hn, g, hw, hre⟩ := Li.rd_ws h (fun x hx => by
    obtain ⟨l, hl', rfl⟩ := List.mem_map.1 hx
    obtain ⟨h1, h2⟩ := hs l hl'
    exact ⟨by simp only; omega, fun y hy => by have := h2 y hy; omega⟩)
  rw [List.length_map] at hn hw
  have hsm : ∀ k, k < LS.length → SmW (g k) (gL LS k) := fun k hk => by
    obtain ⟨-, h2, h3⟩ := hre k (by simpa using hk)
    refine ⟨by rw [h2]; simp [gL, hk], fun j => by rw [h3 j]; simp [gL, hk]⟩
  have hg : ∀ k, k < LS.length → (g k).n ≤ 5 ∧ ∀ j, ((g k).f j).size ≤ 1048576 := fun k hk => by
    obtain ⟨h1, h2⟩ := gl_words hs k
    exact ⟨by rw [(hsm k hk).1]; exact h1, fun j => by rw [(hsm k hk).2 j]; exact h2 j⟩
  subst hn
  have hC := Li.c15 A LS.length c g W hw (by omega)
    (fun k hk hno => by have := outN_size k hno; omega)
    (fun k hk m hm => by have h1 := jn_size (M := 1048576) (hg k hk).2 m; have h2 := (hg k hk).1; have : m * (1048576 + 1) ≤ 5 * (1048576 + 1) := Nat.mul_le_mul_right _ (by omega); omega)
    (fun k hk m hm => by have := (hg k hk).2 m; omega)
  rw [putV_same hsm, putV_pt] at hC
  exact hC
end Go.Proofs.YtapdiionikfgpaaGreatDoor
namespace Go.Proofs.YtapdiionikfgpaaGreatDoor
open Go.ChangeShapes Go.WideShapes Go.ChangeAt Go.RowKit
open Li (Gl)
set_option linter.unusedVariables false
set_option linter.unusedSimpArgs false
theorem refP_no {P : PlI} (h : ¬ (P.cs.length ≤ 20 ∧ P.ss.length ≤ 20 ∧ (pt (txt P)).2 = 0 ∧ ∃ q, readP (pt (txt P)).1 = ((0, 0), some q) ∧ toI q = P)) : refP P = (⟨#[]⟩, 5) := by unfold refP; rw [if_neg h]
theorem refP_yes {P : PlI} (h : P.cs.length ≤ 20 ∧ P.ss.length ≤ 20 ∧ (pt (txt P)).2 = 0 ∧ ∃ q, readP (pt (txt P)).1 = ((0, 0), some q) ∧ toI q = P) : refP P = ((pt (txt P)).1, 0) := by unfold refP; rw [if_pos h]
/-- what the reference's text is asked to answer -/
def Tx (P : PlI) (W : World) (e : Ending) (w' : World) : Prop := ∃ A n c B, e = .returned (.slice A n c) ∧ Li.RdOut B (.slice A n c) ((txt P).map (fun l => (0, l))) w' ∧ Below W.heap.size W w'
set_option maxRecDepth 100000 in
set_option maxHeartbeats 8000000 in
/-- the reference's Put, out of its text -/
theorem r13 (SV CV : Value) (P : PlI) (D : List (Sv × CoI)) (w : World) (h : PlL w SV CV P D) (hok : OkP P)
    (h31 : ∀ W SV CV, P.cs.length ≤ 20 → P.ss.length ≤ 20 → Below w.heap.size w W → PlL W SV CV P D → Calls Tryz.prog 31 #[plV SV CV P] W fun e w' => Tx P W e w') :
    Calls Tryz.prog 13 #[plV SV CV P] w fun e w' => e = .returned (.tuple #[.string (refP P).1, .int .i64 ((refP P).2 : Int)]) ∧ Below w.heap.size w w' := by
  have HPL : Hid (∀ W, Below w.heap.size w W → PlL W SV CV P D) := Lib.hid (fun W hW => h.below hW)
  have HOK := Lib.hid hok
  have hdl : D.length = P.cs.length := by rw [← h.2.2.1]; simp
  obtain ⟨AS, sc, hsv, -⟩ := h.1
  obtain ⟨AC, cc, hcv, -⟩ := h.2.1
  subst hsv hcv
  obtain ⟨W0, hW0⟩ : ∃ W0, w.alloc (.cells #[.int .i64 P.st, .int .i64 P.tr, .slice AS P.ss.length sc, .slice AC D.length cc, .int .i64 P.s0, .string P.mn] 25) = W0 := ⟨_, rfl⟩
  have HBA : Hid (Below w.heap.size w W0) := Lib.hid (by rw [← hW0]; exact (Below.refl _ _).alloc (Nat.le_refl _) _)
  have HPB : Hid (Bx W0 w.heap.size #[.int .i64 P.st, .int .i64 P.tr, .slice AS P.ss.length sc, .slice AC D.length cc, .int .i64 P.s0, .string P.mn] 25) := Lib.hid (by rw [← hW0]; exact bx_alloc' _ _ _)
  have HTX : Hid (P.cs.length ≤ 20 → P.ss.length ≤ 20 → Calls Tryz.prog 31 #[.agg #[.int .i64 P.st, .int .i64 P.tr, .slice AS P.ss.length sc, .slice AC D.length cc, .int .i64 P.s0, .string P.mn]] W0 fun e w' => Tx P W0 e w') := Lib.hid (fun a b => h31 W0 _ _ a b HBA.out (HPL.out _ HBA.out))
  have HNO := Lib.hid (refP_no (P := P))
  have HYES := Lib.hid (refP_yes (P := P))
  have y0 := HPB.out.cell 0
  have y1 := HPB.out.cell 1
  have y2 := HPB.out.cell 2
  have y3 := HPB.out.cell 3
  have y4 := HPB.out.cell 4
  have y5 := HPB.out.cell 5
  simp at y0 y1 y2 y3 y4 y5
  unfold plV
  have HDL := Lib.hid hdl
  clear h hok h31 hdl
  go_enter Tryz.func13, Tryz.ntmps13
  by_cases hc : D.length ≤ 20
  · have t1 : decide ((20 : Int) < (D.length : Int)) = false := by simp; omega
    have t1' : ¬ ((20 : Int) < (D.length : Int)) := by omega
    by_cases hs : P.ss.length ≤ 20
    · have t2 : decide ((20 : Int) < (P.ss.length : Int)) = false := by simp; omega
      have t2' : ¬ ((20 : Int) < (P.ss.length : Int)) := by omega
      have HT := Lib.hid (HTX.out (by rw [← HDL.out]; exact hc) hs)
      have HCS : Hid (P.cs.length ≤ 20 ∧ P.ss.length ≤ 20) := Lib.hid ⟨by rw [← HDL.out]; exact hc, hs⟩
      clear hc hs
      go_wp2_with fail
      refine HT.out.mono ?_
      rintro _ w1 ⟨A, n, c, B, rfl, hrd, hb1⟩
      have HB1 : Hid (Below W0.heap.size W0 w1) := Lib.hid hb1
      have HBW1 : Hid (Below w.heap.size w w1) := Lib.hid (HBA.out.trans (hb1.mono HBA.out.size))
      have H17 := Lib.hid (put_lines17 (txt P) HOK.out.2.2.1 HOK.out.2.2.2 w1 _ B hrd)
      have hsz := pt_size (txt P)
      generalize pt (txt P) = z at H17 HNO HYES hsz
      obtain ⟨s, k⟩ := z
      simp only at H17 HNO HYES hsz
      clear hrd hb1 HT HTX y0 y1 y2 y3 y4 y5
      go_wp2_with fail
      refine H17.out.mono ?_
      rintro _ w1' ⟨rfl, rfl⟩
      clear H17
      by_cases hk0 : k = 0
      · subst hk0
        have HRD := Lib.hid (r9 s (by omega) w1)
        clear hsz
        go_wp2_with fail
        refine HRD.out.mono ?_
        rintro E w2 ⟨hb2, hh⟩
        have HB2 : Hid (Below W0.heap.size W0 w2) := Lib.hid (HB1.out.trans (hb2.mono HB1.out.size))
        have HBW2 : Hid (Below w.heap.size w w2) := Lib.hid (HBW1.out.trans (hb2.mono HBW1.out.size))
        clear hb2 HRD
        rcases hh with ⟨n', k, hrd, rfl⟩ | ⟨q, SV', CV', D', B', hrd, hB', hpl, hD, hsm, rfl⟩
        · have hk0 := readP_none hrd
          have e1 : ((k : Int) != 0) = true := by simp; omega
          have HR := Lib.hid (HNO.out (fun hh => by obtain ⟨-, -, -, q, h1, -⟩ := hh; rw [hrd] at h1; cases h1))
          rw [zeroPl_eq]
          clear hrd hk0
          go_wp2_with fail
          go_ret2
          exact ⟨by rw [HR.out]; rfl, HBW2.out.alloc HBW2.out.size _⟩
        · obtain ⟨AS', sc', hsv', -⟩ := own_slice hpl.1
          obtain ⟨AC', cc', hcv', -⟩ := own_slice hpl.2.1
          subst hsv' hcv'
          unfold plA
          have hly := pl_ly hpl hD
          obtain ⟨w3, hw3⟩ : ∃ w3, w2.alloc (.cells #[.int .i64 (q.st : Int), .int .i64 (q.tr : Int), .slice AS' q.ss.length sc', .slice AC' D'.length cc', .int .i64 (q.s0 : Int), .string q.mn] 25) = w3 := ⟨_, rfl⟩
          have HB3 : Hid (Below w2.heap.size w2 w3) := Lib.hid (by rw [← hw3]; exact (Below.refl _ _).alloc (Nat.le_refl _) _)
          have HQB : Hid (Bx w3 w2.heap.size #[.int .i64 (q.st : Int), .int .i64 (q.tr : Int), .slice AS' q.ss.length sc', .slice AC' D'.length cc', .int .i64 (q.s0 : Int), .string q.mn] 25) := Lib.hid (by rw [← hw3]; exact bx_alloc' _ _ _)
          have HPB3 := Lib.hid ((HPB.out.below HB2.out).below HB3.out)
          have HBW3 : Hid (Below w.heap.size w w3) := Lib.hid (HBW2.out.trans (HB3.out.mono HBW2.out.size))
          have HSM := Lib.hid (r10 _ _ _ _ P (toI q) D _ w3 (HPL.out _ HBW3.out) (hly.below HB3.out) HOK.out.1 (bd_sm hsm))
          unfold plV at HSM
          simp only [toI, List.length_map] at HSM
          have y0 := HPB3.out.cell 0
          have y1 := HPB3.out.cell 1
          have y2 := HPB3.out.cell 2
          have y3 := HPB3.out.cell 3
          have y4 := HPB3.out.cell 4
          have y5 := HPB3.out.cell 5
          have z0 := HQB.out.cell 0
          have z1 := HQB.out.cell 1
          have z2 := HQB.out.cell 2
          have z3 := HQB.out.cell 3
          have z4 := HQB.out.cell 4
          have z5 := HQB.out.cell 5
          simp at y0 y1 y2 y3 y4 y5 z0 z1 z2 z3 z4 z5
          have HRP := Lib.hid hrd
          clear hrd hB' hpl hD hsm hly
          go_wp2_with fail
          refine HSM.out.mono ?_
          rintro _ w4 ⟨⟨b, rfl, hb⟩, hb4⟩
          have HB4 : Hid (Below w.heap.size w w4) := Lib.hid (HBW3.out.trans (hb4.mono HBW3.out.size))
          have HBQ : Hid (b = true ↔ P = toI q) := Lib.hid hb
          clear hb hb4 HSM
          cases b
          · have HR := Lib.hid (HNO.out (fun hh => by
              obtain ⟨-, -, -, q', h1, h2⟩ := hh
              rw [HRP.out] at h1
              cases h1
              have := HBQ.out.2 h2.symm
              cases this))
            go_wp2_with fail
            go_ret2
            exact ⟨by rw [HR.out]; rfl, HB4.out⟩
          · have HR := Lib.hid (HYES.out ⟨HCS.out.1, HCS.out.2, by first | rfl | trivial, q, HRP.out, (HBQ.out.1 rfl).symm⟩)
            go_wp2_with fail
            go_ret2
            exact ⟨by rw [HR.out]; rfl, HB4.out⟩
      · have e1 : ((k : Int) != 0) = true := by simp; omega
        have HR := Lib.hid (HNO.out (fun hh => hk0 hh.2.2.1))
        clear hk0 hsz
        go_wp2_with fail
        go_ret2
        exact ⟨by rw [HR.out]; rfl, HBW1.out⟩
    · have t2 : decide ((20 : Int) < (P.ss.length : Int)) = true := by simp; omega
      have t2' : ((20 : Int) < (P.ss.length : Int)) := by omega
      have HR := Lib.hid (HNO.out (fun hh => hs hh.2.1))
      clear hc hs
      go_wp2_with fail
      go_ret2
      exact ⟨by rw [HR.out]; rfl, HBA.out⟩
  · have t1 : decide ((20 : Int) < (D.length : Int)) = true := by simp; omega
    have t1' : ((20 : Int) < (D.length : Int)) := by omega
    have HR := Lib.hid (HNO.out (fun hh => hc (by rw [HDL.out]; exact hh.1)))
    clear hc
    go_wp2_with fail
    go_ret2
    exact ⟨by rw [HR.out]; rfl, HBA.out⟩
end Go.Proofs.YtapdiionikfgpaaGreatDoor
namespace Go.Proofs.YtapdiionikfgpaaGreatDoor
open Go.ChangeShapes Go.WideShapes Go.ChangeAt Go.RowKit
open Li (Gl)
set_option linter.unusedVariables false
set_option linter.unusedSimpArgs false
set_option maxRecDepth 100000 in
set_option maxHeartbeats 8000000 in
/-- the reference's May, out of its text -/
theorem r15 (SV CV : Value) (P : PlI) (D : List (Sv × CoI)) (w : World) (h : PlL w SV CV P D) (hok : OkP P)
    (h31 : ∀ W SV CV, P.cs.length ≤ 20 → P.ss.length ≤ 20 → Below w.heap.size w W → PlL W SV CV P D → Calls Tryz.prog 31 #[plV SV CV P] W fun e w' => Tx P W e w') :
    Calls Tryz.prog 15 #[plV SV CV P] w fun e w' => e = .returned (.bool (decide ((refP P).2 = 0))) ∧ Below w.heap.size w w' := by
  obtain ⟨AS, sc, hsv, -⟩ := h.1
  obtain ⟨AC, cc, hcv, -⟩ := h.2.1
  subst hsv hcv
  obtain ⟨W0, hW0⟩ : ∃ W0, w.alloc (.cells #[.int .i64 P.st, .int .i64 P.tr, .slice AS P.ss.length sc, .slice AC D.length cc, .int .i64 P.s0, .string P.mn] 25) = W0 := ⟨_, rfl⟩
  have HBA : Hid (Below w.heap.size w W0) := Lib.hid (by rw [← hW0]; exact (Below.refl _ _).alloc (Nat.le_refl _) _)
  have HPB : Hid (Bx W0 w.heap.size #[.int .i64 P.st, .int .i64 P.tr, .slice AS P.ss.length sc, .slice AC D.length cc, .int .i64 P.s0, .string P.mn] 25) := Lib.hid (by rw [← hW0]; exact bx_alloc' _ _ _)
  have HPT : Hid (Calls Tryz.prog 13 #[.agg #[.int .i64 P.st, .int .i64 P.tr, .slice AS P.ss.length sc, .slice AC D.length cc, .int .i64 P.s0, .string P.mn]] W0 fun e w' => e = .returned (.tuple #[.string (refP P).1, .int .i64 ((refP P).2 : Int)]) ∧ Below W0.heap.size W0 w') := Lib.hid (r13 _ _ P D W0 (h.below HBA.out) hok (fun W SV CV a b hW hp => h31 W SV CV a b (HBA.out.trans (hW.mono HBA.out.size)) hp))
  have y0 := HPB.out.cell 0
  have y1 := HPB.out.cell 1
  have y2 := HPB.out.cell 2
  have y3 := HPB.out.cell 3
  have y4 := HPB.out.cell 4
  have y5 := HPB.out.cell 5
  simp at y0 y1 y2 y3 y4 y5
  unfold plV
  generalize refP P = z at HPT
  obtain ⟨s, c⟩ := z
  have e1 : ((c : Int) == 0) = decide (c = 0) := by rw [Bool.eq_iff_iff]; simp
  simp only at HPT
  generalize hd : decide (c = 0) = d at e1
  clear h hok h31
  go_enter Tryz.func15, Tryz.ntmps15
  go_wp2_with fail
  with_reducible refine HPT.out.mono ?_
  rintro _ w1 ⟨rfl, hb1⟩
  have HB1 : Hid (Below w.heap.size w w1) := Lib.hid (HBA.out.trans (hb1.mono HBA.out.size))
  clear hb1 HPT
  go_wp2_with fail
  go_ret
  exact ⟨by first | rfl | (simp only [hd]; rfl), HB1.out⟩
end Go.Proofs.YtapdiionikfgpaaGreatDoor
