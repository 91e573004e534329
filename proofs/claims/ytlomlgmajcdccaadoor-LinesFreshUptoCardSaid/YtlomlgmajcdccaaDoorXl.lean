import Derived.Test.YtlomlgmajcdccaaDoorXk
namespace Go.Proofs.YtlomlgmajcdccaaDoor
open Go.ChangeShapes Go.WideShapes Go.ChangeAt Go.RowKit
set_option linter.unusedVariables false
theorem lnL_pre (c : List UInt8) (hc : c ≠ []) : ∀ (T cur : List UInt8), (cur ≠ [] ∨ T ≠ []) → ∃ h t, lnL cur T = h :: t ∧ lnL (c ++ cur) T = (c ++ h) :: t
  | [], cur, hh => by
    rcases hh with hh | hh
    · exact ⟨cur, [], by rw [lnL, if_neg hh], by rw [lnL, if_neg (by simp [hc])]⟩
    · exact absurd rfl hh
  | b :: T, cur, _ => by
    by_cases hb : b = 10
    · exact ⟨cur, lnL [] T, by rw [lnL, if_pos hb], by rw [lnL, if_pos hb]⟩
    · obtain ⟨h, t, h1, h2⟩ := lnL_pre c hc T (cur ++ [b]) (Or.inl (by simp))
      exact ⟨h, t, by rw [lnL, if_neg hb, h1], by rw [lnL, if_neg hb, List.append_assoc, h2]⟩
theorem lnL_app (X : List UInt8) : ∀ (T cur : List UInt8), lnL cur (T ++ 10 :: X) = lnL cur (T ++ [10]) ++ lnL [] X
  | [], cur => by simp [lnL]
  | b :: T, cur => by
    rw [List.cons_append, List.cons_append, lnL, lnL, lnL_app X T [], lnL_app X T (cur ++ [b])]
    split <;> simp
theorem rem_none : ∀ (l cur : List UInt8), cur.head? = some 35 → (wrd cur l).takeWhile nh = []
  | [], cur, h => by
    have hne : cur ≠ [] := fun e => by rw [e] at h; cases h
    rw [wrd, if_neg hne, List.takeWhile_cons]
    have : nh cur = false := by unfold nh; rw [h]; rfl
    rw [this]
    rfl
  | b :: t, cur, h => by
    have hne : cur ≠ [] := fun e => by rw [e] at h; cases h
    rw [wrd]
    rw [if_neg hne]
    split
    · rw [List.takeWhile_cons]
      have : nh cur = false := by unfold nh; rw [h]; rfl
      rw [this]
      rfl
    · refine rem_none t (cur ++ [b]) ?_
      cases cur with
      | nil => cases h
      | cons a r => simpa using h
theorem said_same : ∀ (l l' : List ByteArray) (j : Nat), l.map wordsB = l'.map wordsB → saidB j l = saidB j l'
  | [], [], _, _ => rfl
  | [], y :: r, _, h => by cases h
  | x :: r, [], _, h => by cases h
  | x :: r, y :: r', j, h => by
    simp only [List.map_cons, List.cons.injEq] at h
    rw [saidB, saidB, h.1, said_same r r' (j + 1) h.2]
theorem ok_bytes {s : ByteArray} (h : okT s = true) : ∀ b ∈ s.data.toList, okb b.toNat = true := by
  intro b hb
  obtain ⟨j, hj, rfl⟩ := List.getElem_of_mem hb
  rw [bb_list s j hj]
  exact okT_all h j hj
theorem ok_of_bytes {s : ByteArray} (h : ∀ b ∈ s.data.toList, okb b.toNat = true) : okT s = true := okT_yes s (fun i hi => by
  rw [← bb_list s i hi]
  exact h _ (List.getElem_mem _))
theorem words_mk (l : List UInt8) (h : ∀ b ∈ l, okb b.toNat = true) : wordsB (mk l) = (wordsL l).map mk := by
  rw [words_list _ (asc_of _ (by rw [list_mk]; exact h)), list_mk]
theorem words_blank (l : List UInt8) (h : ∀ b ∈ l, okb b.toNat = true) : wordsB (mk ([32] ++ l)) = wordsB (mk l) := by
  rw [words_mk l h, words_mk ([32] ++ l) (fun b hb => by
    rcases List.mem_append.1 hb with hb | hb
    · have : b = 32 := by simpa using hb
      rw [this]; rfl
    · exact h b hb)]
  rfl
/-- blanks more, a remark more: the same -/
theorem says_maths (t s : ByteArray) (X : List UInt8) (ht : rdE t = 0) (hs : s.data.toList = 32 :: (t.data.toList ++ X)) (hX : X = [] ∨ ((∃ T', t.data.toList = T' ++ [10]) ∧ ∃ M, X = 35 :: M ∧ ∀ b ∈ M, 32 ≤ b.toNat ∧ b.toNat ≤ 126)) :
    rdE s = 3 ∨ (rdE s = 0 ∧ rdV s = rdV t) := by
  obtain ⟨hto, htm⟩ := rdE_zero ht
  have hT := ok_bytes hto
  generalize hTT : t.data.toList = T at *
  have hXo : ∀ b ∈ X, okb b.toNat = true ∧ b ≠ 10 := by
    rcases hX with rfl | ⟨_, M, rfl, hM⟩
    · intro b hb; cases hb
    · intro b hb
      rcases List.mem_cons.1 hb with rfl | hb
      · decide
      · have := hM b hb
        refine ⟨by unfold okb; exact decide_eq_true (Or.inr (Or.inr this)), fun h10 => ?_⟩
        rw [h10] at this
        exact absurd this.1 (by decide)
  have hso : okT s = true := ok_of_bytes (by
    rw [hs]
    intro b hb
    rcases List.mem_cons.1 hb with rfl | hb
    · rfl
    · rcases List.mem_append.1 hb with hb | hb
      · exact hT b hb
      · exact (hXo b hb).1)
  by_cases hm : manyP s
  · exact Or.inl (rdE_many s hso hm)
  · have he := rdE_ok s hso hm
    refine Or.inr ⟨he, ?_⟩
    rw [rdV_ok s he, rdV_ok t ht, lns_list, lns_list, hs, hTT]
    have hLT : ∀ l ∈ lnL [] T, ∀ b ∈ l, okb b.toNat = true := fun l hl b hb => (lnL_mem (fun b => okb b.toNat = true) T [] (fun b hb => by cases hb) hT l hl b hb).2
    have h1 : saidB 1 ((lnL [32] T).map mk) = saidB 1 ((lnL [] T).map mk) := by
      by_cases h0 : T = []
      · subst h0
        have hw : wordsB (mk [32]) = [] := by
          rw [words_mk [32] (fun b hb => by have : b = 32 := by simpa using hb
                                            rw [this]; rfl)]
          rfl
        show saidB 1 [mk [32]] = saidB 1 []
        simp [saidB, hw]
      · obtain ⟨h, r, e1, e2⟩ := lnL_pre [32] (by simp) T [] (Or.inr h0)
        rw [List.append_nil] at e2
        rw [e1] at hLT
        rw [e1, e2]
        apply said_same
        simp only [List.map_cons]
        rw [words_blank h (hLT h (by simp))]
    have h2 : saidB 1 ((lnL [] (32 :: (T ++ X))).map mk) = saidB 1 ((lnL [32] T).map mk) := by
      have e0 : lnL [] (32 :: (T ++ X)) = lnL [32] (T ++ X) := by rw [lnL, if_neg (by decide)]; rfl
      rw [e0]
      rcases hX with rfl | ⟨⟨T', rfl⟩, M, rfl, hM⟩
      · rw [List.append_nil]
      · have e1 : lnL [32] (T' ++ [10] ++ 35 :: M) = lnL [32] (T' ++ [10]) ++ [35 :: M] := by
          rw [List.append_assoc]
          show lnL [32] (T' ++ 10 :: 35 :: M) = _
          rw [lnL_app, lnL_none (35 :: M) [] (fun b hb => (hXo b hb).2)]
          rfl
        rw [e1, List.map_append]
        show saidB 1 (_ ++ [mk (35 :: M)]) = _
        have hw : wordsB (mk (35 :: M)) = [] := by
          rw [words_mk _ (fun b hb => (hXo b hb).1)]
          unfold wordsL
          rw [wrd, show bl 35 = false from rfl]
          simp only [Bool.false_eq_true, if_false]
          rw [rem_none M ([] ++ [35]) rfl]
          rfl
        rw [saidB_snoc, if_pos hw, List.append_nil]
    rw [h2, h1]
def PS (R : List (Nat × List ByteArray)) (w : World) (e : Ending) (w' : World) : Prop :=
  (∃ A n c, e = .returned (.tuple #[.slice A n c, .int .i64 3]) ∧ Below w.heap.size w w') ∨
  (∃ A c g', e = .returned (.tuple #[.slice A R.length c, .int .i64 0]) ∧ Ws w' A R.length g' ∧ Reads g' R ∧ Below w.heap.size w w')
theorem k8s (t s : ByteArray) (X : List UInt8) (ht : rdE t = 0) (hs : s.data.toList = 32 :: (t.data.toList ++ X)) (hX : X = [] ∨ ((∃ T', t.data.toList = T' ++ [10]) ∧ ∃ M, X = 35 :: M ∧ ∀ b ∈ M, 32 ≤ b.toNat ∧ b.toNat ≤ 126)) (hz : s.size ≤ 16777215) (w : World) (hG : Gl w) :
    Calls Tryd.prog 8 #[.string s] w fun e w' => PS (rdV t) w e w' := by
  refine (k8 _ hz w hG).mono ?_
  rintro e w' ⟨A, c, g', he, hw, hr, -, hb⟩
  rcases says_maths t s X ht hs hX with h | ⟨h1, h2⟩
  · rw [h] at he
    exact Or.inl ⟨A, _, c, he, hb⟩
  · rw [h1, h2] at he
    rw [h2] at hw hr
    exact Or.inr ⟨A, c, g', he, hw, hr, hb⟩
end Go.Proofs.YtlomlgmajcdccaaDoor
