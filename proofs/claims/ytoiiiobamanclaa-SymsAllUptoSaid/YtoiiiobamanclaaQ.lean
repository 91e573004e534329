import Derived.Test.YtoiiiobamanclaaF
namespace Go.Proofs.Ytoiiiobamanclaa
set_option linter.unusedVariables false
abbrev Pt := Sm × Tg
/-- the symbols of an object with their targets, from the k-th on -/
def flo (o : Nat) : Nat → List Sm → List Pt
  | _, [] => []
  | k, s :: S => (s, ⟨(o : Int), (k : Int), -1⟩) :: flo o (k + 1) S
/-- all symbols -/
def fl : Nat → List (List Sm) → List Pt
  | _, [] => []
  | o, S :: D => flo o 0 S ++ fl (o + 1) D
def stepL (E : List Nm) (F : List Pt) : List Nm := F.foldl (fun E p => step E p.1 p.2) E
theorem flo_app (o : Nat) : ∀ (S T : List Sm) (k : Nat), flo o k (S ++ T) = flo o k S ++ flo o (k + S.length) T
  | [], T, k => by simp [flo]
  | s :: S, T, k => by
    simp only [List.cons_append, flo, flo_app o S T (k + 1), List.length_cons]
    rw [show k + 1 + S.length = k + (S.length + 1) by omega]
theorem fl_app : ∀ (D1 D2 : List (List Sm)) (o : Nat), fl o (D1 ++ D2) = fl o D1 ++ fl (o + D1.length) D2
  | [], D2, o => by simp [fl]
  | S :: D1, D2, o => by
    simp only [List.cons_append, fl, fl_app D1 D2 (o + 1), List.length_cons, List.append_assoc]
    rw [show o + 1 + D1.length = o + (D1.length + 1) by omega]
theorem inn_step (E : List Nm) (o : Nat) (S : List Sm) : ∀ k, k ≤ S.length → inn E o S k = stepL E (flo o 0 (S.take k))
  | 0, _ => by simp [inn, stepL, flo]
  | k + 1, hk => by
    have hs : S[k]? = some S[k] := List.getElem?_eq_getElem hk
    rw [inn, hs, inn_step E o S k (by omega), List.take_add_one, hs]
    simp only [Option.toList_some]
    rw [flo_app, List.length_take, show 0 + min k S.length = k by omega]
    simp [stepL, flo, List.foldl_append]
theorem outE_step (D : List (List Sm)) : ∀ o, o ≤ D.length → outE D o = stepL [] (fl 0 (D.take o))
  | 0, _ => by simp [outE, stepL, fl]
  | o + 1, ho => by
    have hs : D[o]? = some D[o] := List.getElem?_eq_getElem ho
    rw [outE, hs]
    dsimp only
    rw [inn_step _ _ _ _ (Nat.le_refl _), List.take_length, outE_step D o (by omega), List.take_add_one, hs]
    simp only [Option.toList_some]
    rw [fl_app, List.length_take, show 0 + min o D.length = o by omega]
    simp [stepL, fl, List.foldl_append]
theorem outE_fl (D : List (List Sm)) : outE D D.length = stepL [] (fl 0 D) := by
  rw [outE_step D _ (Nat.le_refl _), List.take_length]
/-- those of a name -/
def ofN (F : List Pt) (s : ByteArray) : List Pt := F.filter fun p => decide (p.1.nm = s) && decide (p.1.bd ≠ 0)
def foldN (F : List Pt) (s : ByteArray) : Nm := (ofN F s).foldl (fun n p => take n p.1 p.2) (nw s)
theorem ofN_app (F : List Pt) (p : Pt) (s : ByteArray) : ofN (F ++ [p]) s = if p.1.nm = s ∧ p.1.bd ≠ 0 then ofN F s ++ [p] else ofN F s := by
  unfold ofN
  rw [List.filter_append]
  by_cases h1 : p.1.nm = s
  · by_cases h2 : p.1.bd = 0
    · simp [h1, h2]
    · simp [h1, h2]
  · simp [h1]
theorem foldN_app (F : List Pt) (p : Pt) (s : ByteArray) : foldN (F ++ [p]) s = if p.1.nm = s ∧ p.1.bd ≠ 0 then take (foldN F s) p.1 p.2 else foldN F s := by
  unfold foldN
  rw [ofN_app]
  split
  · rw [List.foldl_append]; rfl
  · rfl
/-- what is known of names -/
structure Kn (F : List Pt) (E : List Nm) : Prop where
  a : ∀ s i, idx E s = some i → E[i]? = some (foldN F s) ∧ ofN F s ≠ []
  b : ∀ s, idx E s = none → ofN F s = []
  d : ∀ i n, E[i]? = some n → idx E n.tx = some i
theorem Kn.nil : Kn [] [] := ⟨fun s i h => (by cases h), fun s _ => rfl, fun i n h => (by simp at h)⟩
theorem idx_none_tx {E : List Nm} {s : ByteArray} (h : idx E s = none) : ∀ n ∈ E, n.tx ≠ s := fun n hn e => by
  unfold idx at h
  rw [List.findIdx?_eq_none_iff] at h
  have := h n hn
  simp [e] at this
theorem Kn.step {F : List Pt} {E : List Nm} (h : Kn F E) (p : Pt) : Kn (F ++ [p]) (step E p.1 p.2) := by
  unfold Ytoiiiobamanclaa.step
  by_cases h0 : p.1.bd = 0
  · rw [if_pos h0]
    refine ⟨fun s i hi => ?_, fun s hs => ?_, h.d⟩
    · rw [foldN_app, ofN_app, if_neg (fun c => c.2 h0), if_neg (fun c => c.2 h0)]
      exact h.a s i hi
    · rw [ofN_app, if_neg (fun c => c.2 h0)]
      exact h.b s hs
  · rw [if_neg h0]
    cases hi : idx E p.1.nm with
    | some i =>
      dsimp only
      obtain ⟨e1, e2⟩ := h.a _ _ hi
      have hil := (List.getElem?_eq_some_iff.1 e1).1
      have hgd : E.getD i (nw p.1.nm) = foldN F p.1.nm := by rw [List.getD_eq_getElem?_getD, e1]; rfl
      rw [hgd]
      have htx : (foldN F p.1.nm).tx = p.1.nm := by
        obtain ⟨n, hn, hnt⟩ := idx_at hi
        rw [e1] at hn
        cases hn
        exact hnt
      have hidx : ∀ s, idx (E.set i (take (foldN F p.1.nm) p.1 p.2)) s = idx E s := fun s => idx_set E i _ (fun m hm => by rw [e1] at hm; cases hm; exact (take_tx _ _ _).symm) s
      refine ⟨fun s j hj => ?_, fun s hs => ?_, fun j n hj => ?_⟩
      · rw [hidx] at hj
        obtain ⟨f1, f2⟩ := h.a s j hj
        rw [foldN_app, ofN_app]
        by_cases hs : p.1.nm = s
        · subst hs
          rw [hi] at hj
          cases hj
          rw [if_pos ⟨rfl, h0⟩, if_pos ⟨rfl, h0⟩, List.getElem?_set_self hil]
          exact ⟨rfl, by simp⟩
        · rw [if_neg (fun c => hs c.1), if_neg (fun c => hs c.1)]
          have hne : i ≠ j := fun e => by
            subst e
            rw [e1] at f1
            have := congrArg Nm.tx (Option.some.inj f1)
            obtain ⟨n, hn, hnt⟩ := idx_at hj
            rw [e1] at hn
            cases hn
            rw [htx] at hnt
            exact hs hnt
          rw [List.getElem?_set_ne hne]
          exact ⟨f1, f2⟩
      · rw [hidx] at hs
        rw [ofN_app, if_neg (fun c => by rw [c.1, hs] at hi; cases hi)]
        exact h.b s hs
      · rw [hidx]
        by_cases e : i = j
        · subst e
          rw [List.getElem?_set_self hil] at hj
          cases hj
          rw [take_tx, htx]
          exact hi
        · rw [List.getElem?_set_ne e] at hj
          exact h.d j n hj
    | none =>
      dsimp only
      have hnt : (take (nw p.1.nm) p.1 p.2).tx = p.1.nm := take_tx _ _ _
      have hidx : ∀ s, idx (E ++ [take (nw p.1.nm) p.1 p.2]) s = if s = p.1.nm then some E.length else idx E s := fun s => by
        rw [idx_app E _ (by rw [hnt]; exact hi), hnt]
      have hno := h.b _ hi
      refine ⟨fun s j hj => ?_, fun s hs => ?_, fun j n hj => ?_⟩
      · rw [hidx] at hj
        by_cases hs : s = p.1.nm
        · subst hs
          rw [if_pos rfl] at hj
          cases hj
          rw [foldN_app, ofN_app, if_pos ⟨rfl, h0⟩, if_pos ⟨rfl, h0⟩, List.getElem?_append_right (Nat.le_refl _), Nat.sub_self]
          refine ⟨?_, by simp⟩
          show some _ = some _
          congr 2
          unfold foldN
          rw [hno]
          rfl
        · rw [if_neg hs] at hj
          obtain ⟨f1, f2⟩ := h.a s j hj
          rw [foldN_app, ofN_app, if_neg (fun c => hs c.1.symm), if_neg (fun c => hs c.1.symm), List.getElem?_append_left (List.getElem?_eq_some_iff.1 f1).1]
          exact ⟨f1, f2⟩
      · rw [hidx] at hs
        by_cases e : s = p.1.nm
        · rw [if_pos e] at hs; cases hs
        · rw [if_neg e] at hs
          rw [ofN_app, if_neg (fun c => e c.1.symm)]
          exact h.b s hs
      · rw [hidx]
        by_cases hjl : j < E.length
        · rw [List.getElem?_append_left hjl] at hj
          have := idx_none_tx hi n (List.mem_of_getElem? hj)
          rw [if_neg this]
          exact h.d j n hj
        · rw [List.getElem?_append_right (by omega)] at hj
          have h1 : j - E.length = 0 := by
            rcases Nat.eq_zero_or_pos (j - E.length) with h | h
            · exact h
            · rw [List.getElem?_eq_none (by simp; omega)] at hj; cases hj
          rw [h1] at hj
          cases hj
          rw [hnt, if_pos rfl]
          congr 1
          omega
theorem kn_run : ∀ (F : List Pt) (F0 : List Pt) (E : List Nm), Kn F0 E → Kn (F0 ++ F) (stepL E F)
  | [], F0, E, h => by rw [List.append_nil]; exact h
  | p :: F, F0, E, h => by
    have := kn_run F (F0 ++ [p]) _ (h.step p)
    rw [List.append_assoc] at this
    exact this
theorem kn_out (D : List (List Sm)) : Kn (fl 0 D) (outE D D.length) := by
  rw [outE_fl]
  exact kn_run _ [] [] Kn.nil
/-- a name is the fold of its symbols -/
theorem mem_out {D : List (List Sm)} {n : Nm} (h : n ∈ outE D D.length) : n = foldN (fl 0 D) n.tx ∧ ofN (fl 0 D) n.tx ≠ [] := by
  obtain ⟨i, hi, e⟩ := List.getElem_of_mem h
  have h1 : (outE D D.length)[i]? = some n := by rw [← e]; exact List.getElem?_eq_getElem hi
  have hk := kn_out D
  obtain ⟨f1, f2⟩ := hk.a _ _ (hk.d i n h1)
  rw [h1] at f1
  exact ⟨Option.some.inj f1, f2⟩
theorem out_mem {D : List (List Sm)} {s : ByteArray} (h : ofN (fl 0 D) s ≠ []) : ∃ n ∈ outE D D.length, n.tx = s := by
  cases hi : idx (outE D D.length) s with
  | none => exact absurd ((kn_out D).b s hi) h
  | some i =>
    obtain ⟨n, hn, e⟩ := idx_at hi
    exact ⟨n, List.mem_of_getElem? hn, e⟩
theorem out_nodup (D : List (List Sm)) : ((outE D D.length).map (·.tx)).Nodup := by
  unfold List.Nodup
  rw [List.pairwise_iff_getElem]
  intro i j hi hj hij e
  rw [List.length_map] at hi hj
  rw [List.getElem_map, List.getElem_map] at e
  have hk := kn_out D
  have h1 := hk.d i _ (List.getElem?_eq_getElem hi)
  have h2 := hk.d j _ (List.getElem?_eq_getElem hj)
  rw [e, h2] at h1
  cases h1
  omega
end Go.Proofs.Ytoiiiobamanclaa
