import Derived.Lib.FieldsP
import Derived.Lib.SplitLaws
import Derived.Lib.IndexMore
namespace Go.Proofs.YtblfnjdbihhglaaGreatDoor.Li
set_option linter.unusedVariables false
/-- a blank or a tab, as a byte -/
def bl (b : UInt8) : Bool := b == 32 || b == 9
/-- the fields of a list of bytes, the one at hand first -/
def wrd : List UInt8 → List UInt8 → List (List UInt8)
  | cur, [] => if cur = [] then [] else [cur]
  | cur, b :: t => if bl b then (if cur = [] then wrd [] t else cur :: wrd [] t) else wrd (cur ++ [b]) t
/-- begins no remark -/
def nh (l : List UInt8) : Bool := !(l.head? == some 35)
def mk (l : List UInt8) : ByteArray := ⟨l.toArray⟩
theorem mk_list (s : ByteArray) : mk s.data.toList = s := by unfold mk; simp
theorem list_mk (l : List UInt8) : (mk l).data.toList = l := by unfold mk; simp
theorem mk_nil_iff (l : List UInt8) : mk l = ⟨#[]⟩ ↔ l = [] := by
  unfold mk
  constructor
  · intro h
    have := congrArg (fun x : ByteArray => x.data.toList) h
    simpa using this
  · rintro rfl; rfl
def wordsL (l : List UInt8) : List (List UInt8) := (wrd [] l).takeWhile nh
/-- the lines of a list of bytes, the one at hand first -/
def lnL : List UInt8 → List UInt8 → List (List UInt8)
  | cur, [] => if cur = [] then [] else [cur]
  | cur, b :: t => if b = 10 then cur :: lnL [] t else lnL (cur ++ [b]) t
def pcL : List UInt8 → List UInt8 → List (List UInt8)
  | cur, [] => [cur]
  | cur, b :: t => if b = 10 then cur :: pcL [] t else pcL (cur ++ [b]) t
theorem pcL_ne : ∀ (l cur : List UInt8), pcL cur l ≠ []
  | [], _ => by simp [pcL]
  | b :: t, cur => by
    unfold pcL
    split
    · simp
    · exact pcL_ne t _
theorem pcL_none : ∀ (l cur : List UInt8), (∀ x ∈ l, x ≠ 10) → pcL cur l = [cur ++ l]
  | [], cur, _ => by simp [pcL]
  | b :: t, cur, h => by
    rw [pcL, if_neg (h b (by simp)), pcL_none t _ (fun x hx => h x (by simp [hx]))]
    simp
theorem pcL_hit : ∀ (a cur b : List UInt8), (∀ x ∈ a, x ≠ 10) → pcL cur (a ++ 10 :: b) = (cur ++ a) :: pcL [] b
  | [], cur, b, _ => by simp [pcL]
  | c :: t, cur, b, h => by
    rw [List.cons_append, pcL, if_neg (h c (by simp)), pcL_hit t _ b (fun x hx => h x (by simp [hx]))]
    simp
theorem lnL_pc : ∀ (l cur : List UInt8), lnL cur l = if (pcL cur l).getLast (pcL_ne l cur) = [] then (pcL cur l).dropLast else pcL cur l
  | [], cur => by
    simp only [lnL, pcL, List.getLast_singleton, List.dropLast_singleton]
  | b :: t, cur => by
    by_cases h : b = 10
    · have ih := lnL_pc t []
      have e : pcL cur (b :: t) = cur :: pcL [] t := by rw [pcL, if_pos h]
      simp only [e]
      rw [lnL, if_pos h, ih, List.getLast_cons (pcL_ne t []), List.dropLast_cons_of_ne_nil (pcL_ne t [])]
      split <;> rfl
    · have ih := lnL_pc t (cur ++ [b])
      have e : pcL cur (b :: t) = pcL (cur ++ [b]) t := by rw [pcL, if_neg h]
      simp only [e]
      rw [lnL, if_neg h, ih]
theorem occ10 (l : List UInt8) (j : Nat) : Lib.occAt l [10] j = true ↔ l[j]? = some 10 := by
  unfold Lib.occAt
  rw [← List.head?_drop]
  cases l.drop j with
  | nil => simp
  | cons a t => simp; exact eq_comm
theorem occ10_no (l : List UInt8) (j : Nat) (h : Lib.occAt l [10] j = false) : l[j]? ≠ some 10 := fun hh => by
  rw [(occ10 l j).mpr hh] at h; cases h
theorem split_pc : ∀ (n : Nat) (l : List UInt8), l.length ≤ n → Lib.splitK [10] 0 (Lib.count l [10]) l = pcL [] l := by
  intro n
  induction n with
  | zero =>
    intro l hl
    have : l = [] := List.length_eq_zero_iff.mp (by omega)
    subst this
    rfl
  | succ n ih =>
    intro l hl
    rcases Lib.index_spec l [10] with ⟨h1, h2⟩ | ⟨i, h1, h2, h3, h4⟩
    · have hno : ∀ x ∈ l, x ≠ 10 := by
        intro x hx h10
        obtain ⟨j, hj, rfl⟩ := List.getElem_of_mem hx
        have := occ10_no l j (h2 j (by omega))
        rw [List.getElem?_eq_getElem hj, h10] at this
        exact this rfl
      rw [Lib.count_miss h1, pcL_none l [] hno]
      rfl
    · have hi : l[i]? = some 10 := (occ10 l i).mp h3
      obtain ⟨hil, hie⟩ := List.getElem?_eq_some_iff.mp hi
      have hno : ∀ x ∈ l.take i, x ≠ 10 := by
        intro x hx h10
        obtain ⟨j, hj, rfl⟩ := List.getElem_of_mem hx
        have hj2 : j < i := by have := hj; simp at this; omega
        have := occ10_no l j (h4 j hj2)
        rw [List.getElem?_eq_getElem (by omega)] at this
        rw [List.getElem_take] at h10
        rw [h10] at this
        exact this rfl
      have hl2 : l = l.take i ++ 10 :: l.drop (i + 1) := by
        conv => lhs; rw [← List.take_append_drop i l]
        rw [List.drop_eq_getElem_cons hil, hie]
      have hc := Lib.count_hit (sub := [10]) (by decide) h1
      rw [hc, Nat.add_comm 1]
      have hm : ¬ (Lib.index l [10] == -1) = true := fun e => by have := beq_iff_eq.1 e; omega
      have e : (Lib.index l [10]).toNat = i := by omega
      rw [Lib.splitK, if_neg hm, e]
      have ihh := ih (l.drop (i + 1)) (by rw [List.length_drop]; omega)
      show l.take (i + 0) :: Lib.splitK [10] 0 (Lib.count (l.drop (i + 1)) [10]) (l.drop (i + 1)) = _
      rw [ihh]
      conv => rhs; rw [hl2]
      rw [pcL_hit _ _ _ hno]
      rfl
/-- lines that end -/
theorem lnL_hit : ∀ (a cur b : List UInt8), (∀ x ∈ a, x ≠ 10) → lnL cur (a ++ 10 :: b) = (cur ++ a) :: lnL [] b
  | [], cur, b, _ => by simp [lnL]
  | c :: t, cur, b, h => by
    rw [List.cons_append, lnL, if_neg (h c (by simp)), lnL_hit t _ b (fun x hx => h x (by simp [hx]))]
    simp
theorem lnL_none : ∀ (l cur : List UInt8), (∀ x ∈ l, x ≠ 10) → lnL cur l = if cur ++ l = [] then [] else [cur ++ l]
  | [], cur, _ => by simp [lnL]
  | b :: t, cur, h => by
    rw [lnL, if_neg (h b (by simp)), lnL_none t _ (fun x hx => h x (by simp [hx]))]
    simp
/-- words that end -/
theorem wrd_word : ∀ (a cur b : List UInt8), (∀ x ∈ a, bl x = false) → wrd cur (a ++ b) = wrd (cur ++ a) b
  | [], cur, b, _ => by simp
  | c :: t, cur, b, h => by
    rw [List.cons_append, wrd, h c (by simp)]
    simp only [Bool.false_eq_true, if_false]
    rw [wrd_word t _ b (fun x hx => h x (by simp [hx]))]
    simp
end Go.Proofs.YtblfnjdbihhglaaGreatDoor.Li
