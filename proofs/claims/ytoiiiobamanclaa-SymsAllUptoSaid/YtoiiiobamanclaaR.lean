import Derived.Test.YtoiiiobamanclaaO
import Derived.Test.YtoiiiobamanclaaQ
namespace Go.Proofs.Ytoiiiobamanclaa
set_option linter.unusedVariables false
/-- the first of a kind -/
def fst (G : List Pt) (k : Int) : Tg := match G.find? (fun p => decide (kindS p.1 = k)) with
  | some p => p.2
  | none => tn
def cnt (G : List Pt) (k : Int) : Nat := G.countP fun p => decide (kindS p.1 = k)
def akd (G : List Pt) : Bool := G.any fun p => decide (p.1.ix = -1) && decide (p.1.bd = 1)
def run (n : Nm) (G : List Pt) : Nm := G.foldl (fun n p => take n p.1 p.2) n
theorem first_ne {a t : Tg} (h : t ≠ tn) : first a t ≠ tn := by
  unfold first
  split
  · exact h
  · assumption
theorem first_first {a t u : Tg} (h : t ≠ tn) : first (first a t) u = first a t := by
  show (if first a t = tn then u else first a t) = _
  rw [if_neg (first_ne h)]
theorem first_tn (u : Tg) : first tn u = u := if_pos rfl
theorem fst_cons (p : Pt) (G : List Pt) (k : Int) : fst (p :: G) k = if kindS p.1 = k then p.2 else fst G k := by
  unfold fst
  rw [List.find?_cons]
  by_cases h : kindS p.1 = k <;> simp [h]
theorem cnt_cons (p : Pt) (G : List Pt) (k : Int) : cnt (p :: G) k = cnt G k + if kindS p.1 = k then 1 else 0 := by
  unfold cnt
  rw [List.countP_cons]
  by_cases h : kindS p.1 = k <;> simp [h]
theorem akd_cons (p : Pt) (G : List Pt) : akd (p :: G) = ((decide (p.1.ix = -1) && decide (p.1.bd = 1)) || akd G) := rfl
structure Fx (n : Nm) (G : List Pt) (r : Nm) : Prop where
  tx : r.tx = n.tx
  st : r.st = first n.st (fst G 3)
  co : r.co = first n.co (fst G 2)
  we : r.we = first n.we (fst G 1)
  tw : r.tw = (n.tw || decide (1 < (if n.st = tn then 0 else 1) + cnt G 3))
  ak : r.ak = (n.ak || akd G)
theorem fx_run : ∀ (G : List Pt) (n : Nm), (∀ p ∈ G, p.2 ≠ tn ∧ p.1.bd ≠ 0) → Fx n G (run n G)
  | [], n, _ => by
    have e : ∀ a : Tg, first a tn = a := fun a => by
      unfold first
      split
      · rename_i h; exact h.symm
      · rfl
    refine ⟨rfl, (e _).symm, (e _).symm, (e _).symm, ?_, by simp [run, akd]⟩
    show n.tw = (n.tw || decide (1 < (if n.st = tn then 0 else 1) + 0))
    split <;> simp
  | p :: G, n, h => by
    obtain ⟨hp, hb⟩ := h p (by simp)
    have ih := fx_run G (take n p.1 p.2) (fun q hq => h q (by simp [hq]))
    show Fx n (p :: G) (run (take n p.1 p.2) G)
    generalize run (take n p.1 p.2) G = r at ih
    obtain ⟨i1, i2, i3, i4, i5, i6⟩ := ih
    unfold take at i1 i2 i3 i4 i5 i6
    by_cases h1 : p.1.ix = -1
    · have hk : kindS p.1 = 0 := by unfold kindS; rw [if_neg hb, if_pos h1]
      simp only [h1, if_true] at i1 i2 i3 i4 i5 i6
      refine ⟨i1, ?_, ?_, ?_, ?_, ?_⟩
      · rw [fst_cons, hk, if_neg (by decide)]; exact i2
      · rw [fst_cons, hk, if_neg (by decide)]; exact i3
      · rw [fst_cons, hk, if_neg (by decide)]; exact i4
      · rw [cnt_cons, hk, if_neg (show ¬ (0 : Int) = 3 by decide), Nat.add_zero]; exact i5
      · rw [akd_cons, i6, h1, Bool.or_assoc]; simp
    · have ha : akd (p :: G) = akd G := by rw [akd_cons, decide_eq_false h1]; simp
      rw [if_neg h1] at i1 i2 i3 i4 i5 i6
      by_cases h2 : p.1.ix = -3
      · have hk : kindS p.1 = 2 := by unfold kindS; rw [if_neg hb, if_neg h1, if_pos h2]
        rw [if_pos h2] at i1 i2 i3 i4 i5 i6
        refine ⟨i1, ?_, ?_, ?_, ?_, by rw [ha]; exact i6⟩
        · rw [fst_cons, hk, if_neg (by decide)]; exact i2
        · rw [fst_cons, hk, if_pos rfl, i3]; exact first_first hp
        · rw [fst_cons, hk, if_neg (by decide)]; exact i4
        · rw [cnt_cons, hk, if_neg (show ¬ (2 : Int) = 3 by decide), Nat.add_zero]; exact i5
      · rw [if_neg h2] at i1 i2 i3 i4 i5 i6
        by_cases h3 : p.1.bd = 1
        · have hk : kindS p.1 = 3 := by unfold kindS; rw [if_neg hb, if_neg h1, if_neg h2, if_pos h3]
          rw [if_pos h3] at i1 i2 i3 i4 i5 i6
          refine ⟨i1, ?_, ?_, ?_, ?_, by rw [ha]; exact i6⟩
          · rw [fst_cons, hk, if_pos rfl, i2]; exact first_first hp
          · rw [fst_cons, hk, if_neg (by decide)]; exact i3
          · rw [fst_cons, hk, if_neg (by decide)]; exact i4
          · rw [cnt_cons, hk, if_pos rfl, i5]
            dsimp only
            rw [if_neg (first_ne hp)]
            by_cases hs : n.st = tn
            · rw [if_pos hs, decide_eq_false (fun c => c hs)]
              simp only [Bool.or_false]
              congr 1
              rw [decide_eq_decide]
              omega
            · rw [if_neg hs, decide_eq_true hs, decide_eq_true (show 1 < 1 + (cnt G 3 + 1) by omega)]
              simp
        · have hk : kindS p.1 = 1 := by unfold kindS; rw [if_neg hb, if_neg h1, if_neg h2, if_neg h3]
          rw [if_neg h3] at i1 i2 i3 i4 i5 i6
          refine ⟨i1, ?_, ?_, ?_, ?_, by rw [ha]; exact i6⟩
          · rw [fst_cons, hk, if_neg (by decide)]; exact i2
          · rw [fst_cons, hk, if_neg (by decide)]; exact i3
          · rw [fst_cons, hk, if_pos rfl, i4]; exact first_first hp
          · rw [cnt_cons, hk, if_neg (show ¬ (1 : Int) = 3 by decide), Nat.add_zero]; exact i5
theorem flo_mem {o : Nat} : ∀ {S : List Sm} {k : Nat} {p : Pt}, p ∈ flo o k S → ∃ j : Nat, S[j]? = some p.1 ∧ p.2 = ⟨(o : Int), ((k + j : Nat) : Int), -1⟩
  | [], k, p, h => by cases h
  | s :: S, k, p, h => by
    rw [flo, List.mem_cons] at h
    rcases h with h | h
    · exact ⟨0, by rw [h]; rfl, by rw [h]; rfl⟩
    · obtain ⟨j, h1, h2⟩ := flo_mem h
      exact ⟨j + 1, by simpa using h1, by rw [h2]; congr 2; omega⟩
theorem fl_mem : ∀ {D : List (List Sm)} {o : Nat} {p : Pt}, p ∈ fl o D → ∃ (i : Nat) (S : List Sm) (j : Nat), D[i]? = some S ∧ S[j]? = some p.1 ∧ p.2 = ⟨((o + i : Nat) : Int), (j : Int), -1⟩
  | [], o, p, h => by cases h
  | S :: D, o, p, h => by
    rw [fl, List.mem_append] at h
    rcases h with h | h
    · obtain ⟨j, h1, h2⟩ := flo_mem h
      exact ⟨0, S, j, rfl, h1, by rw [h2]; simp⟩
    · obtain ⟨i, S', j, h1, h2, h3⟩ := fl_mem h
      exact ⟨i + 1, S', j, by simpa using h1, h2, by rw [h3]; congr 2; omega⟩
theorem mem_flo {o : Nat} : ∀ {S : List Sm} {k j : Nat} {s : Sm}, S[j]? = some s → (s, ⟨(o : Int), ((k + j : Nat) : Int), -1⟩) ∈ flo o k S
  | [], k, j, s, h => by simp at h
  | a :: S, k, 0, s, h => by
    simp at h
    subst h
    simp [flo]
  | a :: S, k, j + 1, s, h => by
    rw [flo]
    have := mem_flo (o := o) (k := k + 1) (show S[j]? = some s by simpa using h)
    rw [show k + 1 + j = k + (j + 1) by omega] at this
    exact List.mem_cons_of_mem _ this
theorem mem_fl : ∀ {D : List (List Sm)} {o i j : Nat} {S : List Sm} {s : Sm}, D[i]? = some S → S[j]? = some s → (s, ⟨((o + i : Nat) : Int), (j : Int), -1⟩) ∈ fl o D
  | [], o, i, j, S, s, h, _ => by simp at h
  | A :: D, o, 0, j, S, s, h, hs => by
    simp at h
    subst h
    rw [fl]
    have := mem_flo (o := o) (k := 0) hs
    rw [Nat.zero_add] at this
    exact List.mem_append_left _ this
  | A :: D, o, i + 1, j, S, s, h, hs => by
    rw [fl]
    have := mem_fl (o := o + 1) (show D[i]? = some S by simpa using h) hs
    rw [show o + 1 + i = o + (i + 1) by omega] at this
    exact List.mem_append_right _ this
theorem ofN_mem {F : List Pt} {s : ByteArray} {p : Pt} : p ∈ ofN F s ↔ p ∈ F ∧ p.1.nm = s ∧ p.1.bd ≠ 0 := by
  unfold ofN
  rw [List.mem_filter]
  simp
theorem fl_ok {D : List (List Sm)} {s : ByteArray} : ∀ p ∈ ofN (fl 0 D) s, p.2 ≠ tn ∧ p.1.bd ≠ 0 := fun p hp => by
  obtain ⟨h1, _, h3⟩ := ofN_mem.1 hp
  obtain ⟨i, S, j, _, _, h⟩ := fl_mem h1
  refine ⟨fun e => ?_, h3⟩
  rw [h] at e
  have := congrArg Tg.o e
  dsimp only at this
  omega
/-- what is known of a name -/
theorem fx_out (D : List (List Sm)) (s : ByteArray) : Fx (nw s) (ofN (fl 0 D) s) (foldN (fl 0 D) s) := fx_run _ _ fl_ok
theorem fst_ne {G : List Pt} {k : Int} (h : fst G k ≠ tn) : ∃ p ∈ G, p.2 = fst G k ∧ kindS p.1 = k := by
  unfold fst at h ⊢
  cases hf : G.find? (fun p => decide (kindS p.1 = k)) with
  | none => rw [hf] at h; exact absurd rfl h
  | some p => exact ⟨p, List.mem_of_find?_eq_some hf, rfl, by have := List.find?_some hf; simpa using this⟩
theorem oidx_at {O : List ByteArray} {s : ByteArray} {k : Nat} (h : oidx O s = some k) : O[k]? = some s := by
  unfold oidx at h
  rw [List.findIdx?_eq_some_iff_getElem] at h
  obtain ⟨hi, h1, _⟩ := h
  rw [List.getElem?_eq_getElem hi]
  simpa using h1
/-- whose a name is -/
theorem tgt_out {D : List (List Sm)} {O : List ByteArray} {n : Nm} (hn : n ∈ outE D D.length) : (tgt O n = tn) ∨ (∃ k : Nat, O[k]? = some n.tx ∧ tgt O n = ⟨-1, 0, (k : Int)⟩) ∨ ∃ (o k : Nat) (S : List Sm) (s : Sm), D[o]? = some S ∧ S[k]? = some s ∧ tgt O n = ⟨(o : Int), (k : Int), -1⟩ ∧ s.nm = n.tx ∧ s.bd ≠ 0 ∧ s.ix ≠ -1 := by
  obtain ⟨he, _⟩ := mem_out hn
  have hx := fx_out D n.tx
  rw [← he] at hx
  have hob : ∀ k : Int, k ≠ 0 → fst (ofN (fl 0 D) n.tx) k ≠ tn → ∃ (o j : Nat) (S : List Sm) (s : Sm), D[o]? = some S ∧ S[j]? = some s ∧ fst (ofN (fl 0 D) n.tx) k = ⟨(o : Int), (j : Int), -1⟩ ∧ s.nm = n.tx ∧ s.bd ≠ 0 ∧ s.ix ≠ -1 := fun k hk hf => by
    obtain ⟨p, hp, e, hkp⟩ := fst_ne hf
    obtain ⟨h1, h2, h3⟩ := ofN_mem.1 hp
    obtain ⟨i, S, j, a, b, c⟩ := fl_mem h1
    refine ⟨i, j, S, p.1, a, b, by rw [← e, c]; simp, h2, h3, fun hix => hk ?_⟩
    rw [← hkp]
    unfold kindS
    rw [if_neg h3, if_pos hix]
  have e3 : n.st = fst (ofN (fl 0 D) n.tx) 3 := by rw [hx.st]; exact first_tn _
  have e2 : n.co = fst (ofN (fl 0 D) n.tx) 2 := by rw [hx.co]; exact first_tn _
  have e1 : n.we = fst (ofN (fl 0 D) n.tx) 1 := by rw [hx.we]; exact first_tn _
  unfold tgt
  split
  · rename_i h
    right; right
    rw [e3] at h ⊢
    exact hob 3 (by decide) h
  · split
    · rename_i h
      right; right
      rw [e2] at h ⊢
      exact hob 2 (by decide) h
    · split
      · rename_i h
        right; right
        rw [e1] at h ⊢
        exact hob 1 (by decide) h
      · cases ho : oidx O n.tx with
        | none => exact .inl rfl
        | some k => exact .inr (.inl ⟨k, oidx_at ho, rfl⟩)
end Go.Proofs.Ytoiiiobamanclaa
