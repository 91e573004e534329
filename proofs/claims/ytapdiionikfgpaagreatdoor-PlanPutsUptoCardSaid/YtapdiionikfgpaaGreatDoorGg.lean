import Derived.Test.YtapdiionikfgpaaGreatDoorGf
import Derived.Test.YtapdiionikfgpaaGreatDoorGe
import Derived.Laws.Concat
import Derived.Lib.FieldsP
import Derived.Lib.SplitLaws
import Derived.Lib.IndexMore
import Derived.Deep.Draws
namespace Go.Proofs.YtapdiionikfgpaaGreatDoor.Li
open Go.ChangeShapes Go.WideShapes Go.ChangeAt Go.RowKit
set_option linter.unusedVariables false
theorem sfp_step (s : ByteArray) (k : Nat) (hk : k < s.size) (ha : bb s k < 128) (f : Nat) (st : Option Nat) (acc : List (Nat × Nat)) :
    Lib.spansFromP pB s (f + 1) k st acc = if pB (bb s k) then (match st with
      | some a => Lib.spansFromP pB s f (k + 1) none (acc ++ [(a, k)])
      | none => Lib.spansFromP pB s f (k + 1) none acc) else (match st with
      | some a => Lib.spansFromP pB s f (k + 1) (some a) acc
      | none => Lib.spansFromP pB s f (k + 1) (some k) acc) := by
  conv => lhs; unfold Lib.spansFromP
  rw [if_pos hk, dec_bb s k hk ha]
  cases st <;> rfl
/-- what was found stays ahead -/
theorem sfp_pre (s : ByteArray) : ∀ (f pos : Nat) (st : Option Nat) (acc : List (Nat × Nat)), ∃ r, (Lib.spansFromP pB s f pos st acc).1 = acc ++ r
  | 0, _, _, acc => ⟨[], by simp [Lib.spansFromP]⟩
  | f + 1, pos, st, acc => by
    unfold Lib.spansFromP
    split
    · split
      · split
        · obtain ⟨r, hr⟩ := sfp_pre s f (pos + (Utf8.decode s pos).2) none (acc ++ [(_, pos)])
          exact ⟨_, hr.trans (by rw [List.append_assoc])⟩
        · exact sfp_pre s f _ _ _
      · split
        · exact sfp_pre s f _ _ _
        · exact sfp_pre s f _ _ _
    · exact ⟨[], by simp⟩
theorem close_pre (s : ByteArray) (x : List (Nat × Nat) × Option Nat) : ∃ r, Lib.closeSpans s x = x.1 ++ r := by
  unfold Lib.closeSpans
  split
  · exact ⟨_, rfl⟩
  · exact ⟨[], by simp⟩
def pcs (s : ByteArray) (acc : List (Nat × Nat)) : List ByteArray := acc.map fun x => s.extract x.1 x.2
theorem pcs_snoc (s : ByteArray) (acc : List (Nat × Nat)) (a k : Nat) : pcs s (acc ++ [(a, k)]) = pcs s acc ++ [s.extract a k] := by simp [pcs]
/-- the state of the walk over a line -/
def At (s : ByteArray) (k : Nat) (st : Option Nat) (acc : List (Nat × Nat)) : Prop :=
  Lib.spansFromP pB s s.size 0 none [] = Lib.spansFromP pB s (s.size - k) k st acc ∧ ∀ x ∈ pcs s acc, (!decide (bb x 0 = 35)) = true
theorem at_word (s : ByteArray) (k : Nat) (hk : k < s.size) (ha : bb s k < 128) (hp : pB (bb s k) = false) (st : Option Nat) (acc : List (Nat × Nat)) (h : At s k st acc) : At s (k + 1) (some (st.getD k)) acc := by
  refine ⟨?_, h.2⟩
  rw [h.1, show s.size - k = (s.size - (k + 1)) + 1 by omega, sfp_step s k hk ha, hp]
  cases st <;> rfl
theorem at_none (s : ByteArray) (k : Nat) (hk : k < s.size) (ha : bb s k < 128) (hp : pB (bb s k) = true) (acc : List (Nat × Nat)) (h : At s k none acc) : At s (k + 1) none acc := by
  refine ⟨?_, h.2⟩
  rw [h.1, show s.size - k = (s.size - (k + 1)) + 1 by omega, sfp_step s k hk ha, hp]
  rfl
theorem at_some (s : ByteArray) (k a : Nat) (hk : k < s.size) (ha : bb s k < 128) (hp : pB (bb s k) = true) (acc : List (Nat × Nat)) (h : At s k (some a) acc) (hq : (!decide (bb (s.extract a k) 0 = 35)) = true) : At s (k + 1) none (acc ++ [(a, k)]) := by
  refine ⟨?_, ?_⟩
  · rw [h.1, show s.size - k = (s.size - (k + 1)) + 1 by omega, sfp_step s k hk ha, hp]
    rfl
  · intro x hx
    rw [pcs_snoc] at hx
    rcases List.mem_append.1 hx with hx | hx
    · exact h.2 x hx
    · obtain rfl : x = s.extract a k := by simpa using hx
      exact hq
theorem tw_app {α : Type} (p : α → Bool) (l r : List α) (x : α) (h1 : ∀ y ∈ l, p y = true) (h2 : p x = false) : (l ++ x :: r).takeWhile p = l := by
  induction l with
  | nil => simp [h2]
  | cons a t ih =>
    rw [List.cons_append, List.takeWhile_cons, h1 a (by simp)]
    simp only [if_true]
    rw [ih (fun y hy => h1 y (by simp [hy]))]
theorem tw_id {α : Type} (p : α → Bool) (l : List α) (h1 : ∀ y ∈ l, p y = true) : l.takeWhile p = l := tw_all p l (fun j hj => h1 _ (List.getElem_mem hj))
/-- a remark begins: at a blank -/
theorem at_stop (s : ByteArray) (k a : Nat) (hk : k < s.size) (ha : bb s k < 128) (hp : pB (bb s k) = true) (acc : List (Nat × Nat)) (h : At s k (some a) acc) (hq : (!decide (bb (s.extract a k) 0 = 35)) = false) : wordsB s = pcs s acc := by
  have e : Lib.spansFromP pB s s.size 0 none [] = Lib.spansFromP pB s (s.size - (k + 1)) (k + 1) none (acc ++ [(a, k)]) := by
    rw [h.1, show s.size - k = (s.size - (k + 1)) + 1 by omega, sfp_step s k hk ha, hp]
    rfl
  obtain ⟨r, hr⟩ := sfp_pre s (s.size - (k + 1)) (k + 1) none (acc ++ [(a, k)])
  obtain ⟨r2, hr2⟩ := close_pre s (Lib.spansFromP pB s s.size 0 none [])
  unfold wordsB Lib.goFieldsP Lib.spansOfP
  rw [hr2, e, hr, List.append_assoc, List.append_assoc, List.map_append]
  exact tw_app _ _ _ _ h.2 hq
theorem at_end (s : ByteArray) (acc : List (Nat × Nat)) (h : At s s.size none acc) : wordsB s = pcs s acc := by
  unfold wordsB Lib.goFieldsP Lib.spansOfP
  rw [h.1, Nat.sub_self]
  exact tw_id _ _ h.2
theorem at_end_stop (s : ByteArray) (a : Nat) (acc : List (Nat × Nat)) (h : At s s.size (some a) acc) (hq : (!decide (bb (s.extract a s.size) 0 = 35)) = false) : wordsB s = pcs s acc := by
  unfold wordsB Lib.goFieldsP Lib.spansOfP
  rw [h.1, Nat.sub_self]
  show (pcs s (acc ++ [(a, s.size)])).takeWhile _ = _
  rw [pcs_snoc]
  exact tw_app _ _ [] _ h.2 hq
theorem at_end_some (s : ByteArray) (a : Nat) (acc : List (Nat × Nat)) (h : At s s.size (some a) acc) (hq : (!decide (bb (s.extract a s.size) 0 = 35)) = true) : wordsB s = pcs s (acc ++ [(a, s.size)]) := by
  unfold wordsB Lib.goFieldsP Lib.spansOfP
  rw [h.1, Nat.sub_self]
  show (pcs s (acc ++ [(a, s.size)])).takeWhile _ = _
  refine tw_id _ _ (fun x hx => ?_)
  rw [pcs_snoc] at hx
  rcases List.mem_append.1 hx with hx | hx
  · exact h.2 x hx
  · obtain rfl : x = s.extract a s.size := by simpa using hx
    exact hq
theorem ext_snoc (s : ByteArray) (a k : Nat) (h1 : a ≤ k) (h2 : k < s.size) : s.extract a k ++ s.extract k (k + 1) = s.extract a (k + 1) := by
  rw [ByteArray.extract_append_extract]
  congr 1 <;> omega
theorem ext_self (s : ByteArray) (k : Nat) : s.extract k k = ⟨#[]⟩ := size0 (by rw [ByteArray.size_extract]; omega)
theorem bb_ext (s : ByteArray) (a k : Nat) (h1 : a < k) (h2 : k ≤ s.size) : bb (s.extract a k) 0 = bb s a := by
  have hz : (s.extract a k).size = k - a := by rw [ByteArray.size_extract]; omega
  rw [bb_eq _ 0 (by omega), bb_eq s a (by omega)]
  simp [ByteArray.getElem_extract]
end Go.Proofs.YtapdiionikfgpaaGreatDoor.Li
namespace Go.Proofs.YtapdiionikfgpaaGreatDoor.Li
set_option linter.unusedVariables false
/-- a blank or a tab, as a byte -/
def bl (b : UInt8) : Bool := b == 32 || b == 9
/-- the fields of a list of bytes, the one at hand first -/
def wrd : List UInt8 → List UInt8 → List (List UInt8)
  | cur, [] => if cur = [] then [] else [cur]
  | cur, b :: t => if bl b then (if cur = [] then wrd [] t else cur :: wrd [] t) else wrd (cur ++ [b]) t
/-- begins no remark -/
def nh (l : List UInt8) : Bool := !(l.head? == some 35)
def mk (l : List UInt8) : ByteArray := ⟨l.toArray⟩
theorem mk_list (s : ByteArray) : mk s.data.toList = s := by unfold mk; simp
theorem list_mk (l : List UInt8) : (mk l).data.toList = l := by unfold mk; simp
theorem mk_nil_iff (l : List UInt8) : mk l = ⟨#[]⟩ ↔ l = [] := by
  unfold mk
  constructor
  · intro h
    have := congrArg (fun x : ByteArray => x.data.toList) h
    simpa using this
  · rintro rfl; rfl
def wordsL (l : List UInt8) : List (List UInt8) := (wrd [] l).takeWhile nh
/-- the lines of a list of bytes, the one at hand first -/
def lnL : List UInt8 → List UInt8 → List (List UInt8)
  | cur, [] => if cur = [] then [] else [cur]
  | cur, b :: t => if b = 10 then cur :: lnL [] t else lnL (cur ++ [b]) t
def pcL : List UInt8 → List UInt8 → List (List UInt8)
  | cur, [] => [cur]
  | cur, b :: t => if b = 10 then cur :: pcL [] t else pcL (cur ++ [b]) t
theorem pcL_ne : ∀ (l cur : List UInt8), pcL cur l ≠ []
  | [], _ => by simp [pcL]
  | b :: t, cur => by
    unfold pcL
    split
    · simp
    · exact pcL_ne t _
theorem pcL_none : ∀ (l cur : List UInt8), (∀ x ∈ l, x ≠ 10) → pcL cur l = [cur ++ l]
  | [], cur, _ => by simp [pcL]
  | b :: t, cur, h => by
    rw [pcL, if_neg (h b (by simp)), pcL_none t _ (fun x hx => h x (by simp [hx]))]
    simp
theorem pcL_hit : ∀ (a cur b : List UInt8), (∀ x ∈ a, x ≠ 10) → pcL cur (a ++ 10 :: b) = (cur ++ a) :: pcL [] b
  | [], cur, b, _ => by simp [pcL]
  | c :: t, cur, b, h => by
    rw [List.cons_append, pcL, if_neg (h c (by simp)), pcL_hit t _ b (fun x hx => h x (by simp [hx]))]
    simp
theorem lnL_pc : ∀ (l cur : List UInt8), lnL cur l = if (pcL cur l).getLast (pcL_ne l cur) = [] then (pcL cur l).dropLast else pcL cur l
  | [], cur => by
    simp only [lnL, pcL, List.getLast_singleton, List.dropLast_singleton]
  | b :: t, cur => by
    by_cases h : b = 10
    · have ih := lnL_pc t []
      have e : pcL cur (b :: t) = cur :: pcL [] t := by rw [pcL, if_pos h]
      simp only [e]
      rw [lnL, if_pos h, ih, List.getLast_cons (pcL_ne t []), List.dropLast_cons_of_ne_nil (pcL_ne t [])]
      split <;> rfl
    · have ih := lnL_pc t (cur ++ [b])
      have e : pcL cur (b :: t) = pcL (cur ++ [b]) t := by rw [pcL, if_neg h]
      simp only [e]
      rw [lnL, if_neg h, ih]
theorem occ10 (l : List UInt8) (j : Nat) : Lib.occAt l [10] j = true ↔ l[j]? = some 10 := by
  unfold Lib.occAt
  rw [← List.head?_drop]
  cases l.drop j with
  | nil => simp
  | cons a t => simp; exact eq_comm
theorem occ10_no (l : List UInt8) (j : Nat) (h : Lib.occAt l [10] j = false) : l[j]? ≠ some 10 := fun hh => by
  rw [(occ10 l j).mpr hh] at h; cases h
theorem split_pc : ∀ (n : Nat) (l : List UInt8), l.length ≤ n → Lib.splitK [10] 0 (Lib.count l [10]) l = pcL [] l := by
  intro n
  induction n with
  | zero =>
    intro l hl
    have : l = [] := List.length_eq_zero_iff.mp (by omega)
    subst this
    rfl
  | succ n ih =>
    intro l hl
    rcases Lib.index_spec l [10] with ⟨h1, h2⟩ | ⟨i, h1, h2, h3, h4⟩
    · have hno : ∀ x ∈ l, x ≠ 10 := by
        intro x hx h10
        obtain ⟨j, hj, rfl⟩ := List.getElem_of_mem hx
        have := occ10_no l j (h2 j (by omega))
        rw [List.getElem?_eq_getElem hj, h10] at this
        exact this rfl
      rw [Lib.count_miss h1, pcL_none l [] hno]
      rfl
    · have hi : l[i]? = some 10 := (occ10 l i).mp h3
      obtain ⟨hil, hie⟩ := List.getElem?_eq_some_iff.mp hi
      have hno : ∀ x ∈ l.take i, x ≠ 10 := by
        intro x hx h10
        obtain ⟨j, hj, rfl⟩ := List.getElem_of_mem hx
        have hj2 : j < i := by have := hj; simp at this; omega
        have := occ10_no l j (h4 j hj2)
        rw [List.getElem?_eq_getElem (by omega)] at this
        rw [List.getElem_take] at h10
        rw [h10] at this
        exact this rfl
      have hl2 : l = l.take i ++ 10 :: l.drop (i + 1) := by
        conv => lhs; rw [← List.take_append_drop i l]
        rw [List.drop_eq_getElem_cons hil, hie]
      have hc := Lib.count_hit (sub := [10]) (by decide) h1
      rw [hc, Nat.add_comm 1]
      have hm : ¬ (Lib.index l [10] == -1) = true := fun e => by have := beq_iff_eq.1 e; omega
      have e : (Lib.index l [10]).toNat = i := by omega
      rw [Lib.splitK, if_neg hm, e]
      have ihh := ih (l.drop (i + 1)) (by rw [List.length_drop]; omega)
      show l.take (i + 0) :: Lib.splitK [10] 0 (Lib.count (l.drop (i + 1)) [10]) (l.drop (i + 1)) = _
      rw [ihh]
      conv => rhs; rw [hl2]
      rw [pcL_hit _ _ _ hno]
      rfl
/-- lines that end -/
theorem lnL_hit : ∀ (a cur b : List UInt8), (∀ x ∈ a, x ≠ 10) → lnL cur (a ++ 10 :: b) = (cur ++ a) :: lnL [] b
  | [], cur, b, _ => by simp [lnL]
  | c :: t, cur, b, h => by
    rw [List.cons_append, lnL, if_neg (h c (by simp)), lnL_hit t _ b (fun x hx => h x (by simp [hx]))]
    simp
theorem lnL_none : ∀ (l cur : List UInt8), (∀ x ∈ l, x ≠ 10) → lnL cur l = if cur ++ l = [] then [] else [cur ++ l]
  | [], cur, _ => by simp [lnL]
  | b :: t, cur, h => by
    rw [lnL, if_neg (h b (by simp)), lnL_none t _ (fun x hx => h x (by simp [hx]))]
    simp
/-- words that end -/
theorem wrd_word : ∀ (a cur b : List UInt8), (∀ x ∈ a, bl x = false) → wrd cur (a ++ b) = wrd (cur ++ a) b
  | [], cur, b, _ => by simp
  | c :: t, cur, b, h => by
    rw [List.cons_append, wrd, h c (by simp)]
    simp only [Bool.false_eq_true, if_false]
    rw [wrd_word t _ b (fun x hx => h x (by simp [hx]))]
    simp
end Go.Proofs.YtapdiionikfgpaaGreatDoor.Li
namespace Go.Proofs.YtapdiionikfgpaaGreatDoor.Li
open Go.ChangeShapes Go.WideShapes Go.ChangeAt Go.RowKit
set_option linter.unusedVariables false
def asc (s : ByteArray) : Prop := ∀ i, i < s.size → bb s i < 128
theorem list_len (s : ByteArray) : s.data.toList.length = s.size := rfl
theorem bb_list (s : ByteArray) (k : Nat) (h : k < s.size) : (s.data.toList[k]'h).toNat = bb s k := by rw [bb_eq s k h]; rfl
theorem drop_at (s : ByteArray) (k : Nat) (h : k < s.size) : s.data.toList.drop k = s.data.toList[k]'h :: s.data.toList.drop (k + 1) := List.drop_eq_getElem_cons h
theorem bl_pB (b : UInt8) : bl b = pB b.toNat := by
  unfold bl pB
  rw [Bool.eq_iff_iff]
  simp
  constructor
  · rintro (h | h)
    · left; rw [h]; rfl
    · right; rw [h]; rfl
  · rintro (h | h)
    · left; exact UInt8.toNat_inj.1 h
    · right; exact UInt8.toNat_inj.1 h
theorem bl_at (s : ByteArray) (k : Nat) (h : k < s.size) : bl (s.data.toList[k]'h) = pB (bb s k) := by rw [bl_pB, bb_list s k h]
theorem ext_list (s : ByteArray) (a k : Nat) : (s.extract a k).data.toList = (s.data.toList.take k).drop a := by
  rw [Lib.extract_data]
  simp [List.drop_take]
theorem ext_list_snoc (s : ByteArray) (a k : Nat) (h1 : a ≤ k) (h2 : k < s.size) : (s.extract a (k + 1)).data.toList = (s.extract a k).data.toList ++ [s.data.toList[k]'h2] := by
  rw [ext_list, ext_list, List.take_succ_eq_append_getElem (by exact h2), List.drop_append_of_le_length (by rw [List.length_take, list_len]; omega)]
theorem ext_list_nil (s : ByteArray) (k : Nat) : (s.extract k k).data.toList = [] := by rw [ext_self]
theorem ext_list_ne (s : ByteArray) (a k : Nat) (h1 : a < k) (h2 : k ≤ s.size) : (s.extract a k).data.toList ≠ [] := fun h => by
  have : (s.extract a k).size = 0 := by rw [← list_len, h]; rfl
  rw [ByteArray.size_extract] at this
  omega
theorem nh_bb (t : ByteArray) : nh t.data.toList = !decide (bb t 0 = 35) := by
  unfold nh
  congr 1
  by_cases h : 0 < t.size
  · rw [List.head?_eq_getElem?, List.getElem?_eq_getElem (by exact h), Bool.eq_iff_iff]
    have e := bb_list t 0 h
    have e2 : (some (t.data.toList[0]'h) == some 35) = true ↔ t.data.toList[0]'h = 35 := by simp
    refine e2.trans ?_
    rw [decide_eq_true_iff, ← e]
    constructor
    · intro hh; rw [hh]; rfl
    · intro hh; exact UInt8.toNat_inj.1 hh
  · have : t.data.toList = [] := List.length_eq_zero_iff.mp (by rw [list_len]; omega)
    rw [this]
    have h0 : bb t 0 = 0 := by unfold bb; rw [dif_neg h]
    rw [h0]
    rfl
theorem nh_mk (l : List UInt8) : nh l = !decide (bb (mk l) 0 = 35) := by rw [← nh_bb, list_mk]
/-- what is still to come of a line, a word begun at a -/
def rem (s : ByteArray) (a k : Nat) : List ByteArray := ((wrd (s.extract a k).data.toList (s.data.toList.drop k)).takeWhile nh).map mk
theorem rem_word (s : ByteArray) (a k : Nat) (h1 : a ≤ k) (h : k < s.size) (hp : pB (bb s k) = false) : rem s a k = rem s a (k + 1) := by
  unfold rem
  rw [drop_at s k h, wrd, bl_at s k h, hp, ext_list_snoc s a k h1 h]
  rfl
theorem rem_skip (s : ByteArray) (k : Nat) (h : k < s.size) (hp : pB (bb s k) = true) : rem s k k = rem s (k + 1) (k + 1) := by
  unfold rem
  rw [drop_at s k h, wrd, bl_at s k h, hp, ext_list_nil, ext_list_nil]
  rfl
theorem rem_put (s : ByteArray) (a k : Nat) (h1 : a < k) (h : k < s.size) (hp : pB (bb s k) = true) (hq : bb s a ≠ 35) : rem s a k = s.extract a k :: rem s (k + 1) (k + 1) := by
  unfold rem
  rw [drop_at s k h, wrd, bl_at s k h, hp, ext_list_nil, if_pos rfl, if_neg (ext_list_ne s a k h1 (by omega)), List.takeWhile_cons, nh_bb, bb_ext s a k h1 (by omega), decide_eq_false hq]
  simp only [Bool.not_false, if_true, List.map_cons, mk_list]
theorem rem_stop (s : ByteArray) (a k : Nat) (h1 : a < k) (h : k < s.size) (hp : pB (bb s k) = true) (hq : bb s a = 35) : rem s a k = [] := by
  unfold rem
  rw [drop_at s k h, wrd, bl_at s k h, hp, if_pos rfl, if_neg (ext_list_ne s a k h1 (by omega)), List.takeWhile_cons, nh_bb, bb_ext s a k h1 (by omega), decide_eq_true hq]
  rfl
theorem drop_end (s : ByteArray) : s.data.toList.drop s.size = [] := List.drop_eq_nil_of_le (Nat.le_refl _)
theorem rem_end (s : ByteArray) : rem s s.size s.size = [] := by
  unfold rem
  rw [drop_end, ext_list_nil]
  rfl
theorem rem_end_put (s : ByteArray) (a : Nat) (h1 : a < s.size) (hq : bb s a ≠ 35) : rem s a s.size = [s.extract a s.size] := by
  unfold rem
  rw [drop_end, wrd, if_neg (ext_list_ne s a _ h1 (Nat.le_refl _)), List.takeWhile_cons, nh_bb, bb_ext s a _ h1 (Nat.le_refl _), decide_eq_false hq]
  simp only [Bool.not_false, if_true, List.takeWhile_nil, List.map_cons, List.map_nil, mk_list]
theorem rem_end_stop (s : ByteArray) (a : Nat) (h1 : a < s.size) (hq : bb s a = 35) : rem s a s.size = [] := by
  unfold rem
  rw [drop_end, wrd, if_neg (ext_list_ne s a _ h1 (Nat.le_refl _)), List.takeWhile_cons, nh_bb, bb_ext s a _ h1 (Nat.le_refl _), decide_eq_true hq]
  rfl
/-- the fields by lists -/
theorem spans_wrd (s : ByteArray) (ha : asc s) : ∀ (f k : Nat) (st : Option Nat) (acc : List (Nat × Nat)), k + f = s.size → (∀ a, st = some a → a < k) →
    pcs s (Lib.closeSpans s (Lib.spansFromP pB s f k st acc)) = pcs s acc ++ (wrd (match st with | none => [] | some a => (s.extract a k).data.toList) (s.data.toList.drop k)).map mk := by
  intro f
  induction f with
  | zero =>
    intro k st acc hk hst
    obtain rfl : k = s.size := by omega
    rw [drop_end]
    cases st with
    | none => simp [Lib.spansFromP, Lib.closeSpans, wrd]
    | some a =>
      have := hst a rfl
      simp only [Lib.spansFromP, Lib.closeSpans]
      rw [pcs_snoc, wrd, if_neg (ext_list_ne s a _ this (Nat.le_refl _))]
      simp only [List.map_cons, List.map_nil, mk_list]
  | succ f ih =>
    intro k st acc hk hst
    have hlt : k < s.size := by omega
    rw [sfp_step s k hlt (ha k hlt), drop_at s k hlt]
    conv => rhs; unfold wrd
    rw [bl_at s k hlt]
    cases hp : pB (bb s k) with
    | true =>
      cases st with
      | none =>
        simp only [if_true]
        rw [ih (k + 1) none acc (by omega) (fun a h => by cases h)]
      | some a =>
        have hak := hst a rfl
        simp only [if_true]
        rw [ih (k + 1) none _ (by omega) (fun a h => by cases h), pcs_snoc, if_neg (ext_list_ne s a k hak (by omega))]
        simp only [List.map_cons, mk_list, List.append_assoc, List.singleton_append]
    | false =>
      cases st with
      | none =>
        simp only [Bool.false_eq_true, if_false]
        rw [ih (k + 1) (some k) acc (by omega) (fun a h => by cases h; omega)]
        simp only
        rw [ext_list_snoc s k k (Nat.le_refl _) hlt, ext_list_nil]
      | some a =>
        have hak := hst a rfl
        simp only [Bool.false_eq_true, if_false]
        rw [ih (k + 1) (some a) acc (by omega) (fun b h => by cases h; omega)]
        simp only
        rw [ext_list_snoc s a k (by omega) hlt]
theorem words_list (s : ByteArray) (ha : asc s) : wordsB s = (wordsL s.data.toList).map mk := by
  unfold wordsB Lib.goFieldsP Lib.spansOfP wordsL
  have h := spans_wrd s ha s.size 0 none [] (by omega) (fun a h => by cases h)
  simp only [List.drop_zero] at h
  rw [show (List.map (fun x => s.extract x.fst x.snd) (Lib.closeSpans s (Lib.spansFromP pB s s.size 0 none []))) = pcs s (Lib.closeSpans s (Lib.spansFromP pB s s.size 0 none [])) from rfl, h]
  rw [show pcs s [] = [] from rfl, List.nil_append, List.takeWhile_map]
  congr 2
  funext l
  exact (nh_mk l).symm
theorem words_rem (s : ByteArray) (ha : asc s) : wordsB s = rem s 0 0 := by
  rw [words_list s ha]
  unfold rem wordsL
  rw [ext_list_nil, List.drop_zero]
/-- the lines by lists -/
theorem pieces_list (s : ByteArray) : piecesB s = (pcL [] s.data.toList).map mk := by
  have h := Lib.splitB_data ⟨#[10]⟩ 0 (Lib.countB s ⟨#[10]⟩) s
  rw [show (⟨#[10]⟩ : ByteArray).data.toList = [10] from rfl, show Lib.countB s ⟨#[10]⟩ = Lib.count s.data.toList [10] from rfl, split_pc _ _ (Nat.le_refl _)] at h
  have h2 := congrArg (List.map mk) h
  rw [List.map_map] at h2
  rw [← h2]
  show piecesB s = _
  unfold piecesB
  conv => lhs; rw [← List.map_id (Lib.splitB _ _ _ _)]
  congr 1
theorem lns_list (s : ByteArray) : lnsB s = (lnL [] s.data.toList).map mk := by
  unfold lnsB
  rw [lnL_pc]
  have hp := pieces_list s
  have hg : (piecesB s).getLast (piecesB_ne s) = mk ((pcL [] s.data.toList).getLast (pcL_ne _ _)) := by
    simp only [hp]
    rw [List.getLast_map]
  rw [hg]
  by_cases h : (pcL [] s.data.toList).getLast (pcL_ne _ _) = []
  · rw [if_pos h, if_pos ((mk_nil_iff _).mpr h), hp, List.map_dropLast]
  · rw [if_neg h, if_neg (fun hh => h ((mk_nil_iff _).mp hh)), hp]
/-- what is still to come of a text, a line begun at a -/
def remL (s : ByteArray) (a k : Nat) : List ByteArray := (lnL (s.extract a k).data.toList (s.data.toList.drop k)).map mk
theorem remL_in (s : ByteArray) (a k : Nat) (h1 : a ≤ k) (h : k < s.size) (hp : bb s k ≠ 10) : remL s a k = remL s a (k + 1) := by
  unfold remL
  rw [drop_at s k h, lnL, if_neg (fun hh => hp (by rw [← bb_list s k h, hh]; rfl)), ext_list_snoc s a k h1 h]
theorem remL_put (s : ByteArray) (a k : Nat) (h : k < s.size) (hp : bb s k = 10) : remL s a k = s.extract a k :: remL s (k + 1) (k + 1) := by
  unfold remL
  rw [drop_at s k h, lnL, if_pos (UInt8.toNat_inj.1 (by rw [bb_list s k h, hp]; rfl)), ext_list_nil]
  simp only [List.map_cons, mk_list]
theorem remL_end (s : ByteArray) : remL s s.size s.size = [] := by
  unfold remL
  rw [drop_end, ext_list_nil]
  rfl
theorem remL_end_put (s : ByteArray) (a : Nat) (h1 : a < s.size) : remL s a s.size = [s.extract a s.size] := by
  unfold remL
  rw [drop_end, lnL, if_neg (ext_list_ne s a _ h1 (Nat.le_refl _))]
  simp only [List.map_cons, List.map_nil, mk_list]
theorem lns_rem (s : ByteArray) : lnsB s = remL s 0 0 := by
  rw [lns_list s]
  unfold remL
  rw [ext_list_nil, List.drop_zero]
end Go.Proofs.YtapdiionikfgpaaGreatDoor.Li
namespace Go.Proofs.YtapdiionikfgpaaGreatDoor.Li
open Go.ChangeShapes Go.WideShapes Go.ChangeAt Go.RowKit
set_option linter.unusedVariables false
/-- no word begun -/
def St (s : ByteArray) (ws : List ByteArray) (k : Nat) (acc : List ByteArray) : Prop := (k ≤ s.size ∧ ws = acc ++ rem s k k) ∨ (k = s.size + 1 ∧ ws = acc)
/-- the reference's Words, so far -/
def R20 (s : ByteArray) (ws : List ByteArray) (w0 : World) (o wv i : Value) (wr : World) : Prop :=
  ∃ (k : Nat) (acc : List ByteArray), i = .int .i64 (k : Int) ∧ acc.length ≤ k ∧ wr.ownsRow w0.heap.size 9 1 o acc.length (acc.map Value.string) ∧ Below w0.heap.size w0 wr ∧ k ≤ s.size + 1 ∧
    ((∃ a, a < k ∧ k ≤ s.size ∧ ws = acc ++ rem s a k ∧ wv = .string (s.extract a k)) ∨ (St s ws k acc ∧ wv = .string ⟨#[]⟩))
theorem cl0 {s : ByteArray} {ws acc : List ByteArray} {k : Nat} (hk : k ≤ s.size) (hc : k < s.size → pB (bb s k) = true) (h : St s ws k acc) : St s ws (k + 1) acc := by
  rcases h with ⟨_, h⟩ | ⟨h, _⟩
  · by_cases hlt : k < s.size
    · left
      exact ⟨hlt, by rw [h, rem_skip s k hlt (hc hlt)]⟩
    · right
      have hks : k = s.size := by omega
      subst hks
      exact ⟨rfl, by rw [h, rem_end, List.append_nil]⟩
  · omega
theorem cl1 {s : ByteArray} {ws acc : List ByteArray} {a k : Nat} (hk : k ≤ s.size) (hc : k < s.size → pB (bb s k) = true) (ha : a < k) (hq : bb s a ≠ 35) (h : ws = acc ++ rem s a k) : St s ws (k + 1) (acc ++ [s.extract a k]) := by
  by_cases hlt : k < s.size
  · left
    exact ⟨hlt, by rw [h, rem_put s a k ha hlt (hc hlt) hq]; simp⟩
  · right
    have hks : k = s.size := by omega
    subst hks
    exact ⟨rfl, by rw [h, rem_end_put s a ha hq]⟩
theorem cl2 {s : ByteArray} {ws acc : List ByteArray} {a k : Nat} (hk : k ≤ s.size) (hc : k < s.size → pB (bb s k) = true) (ha : a < k) (hq : bb s a = 35) (h : ws = acc ++ rem s a k) : ws = acc := by
  by_cases hlt : k < s.size
  · rw [h, rem_stop s a k ha hlt (hc hlt) hq, List.append_nil]
  · have hks : k = s.size := by omega
    subst hks
    rw [h, rem_end_stop s a ha hq, List.append_nil]
theorem own_ret {w : World} {B e size : Nat} {v : Value} {acc ws : List ByteArray} (h : w.ownsRow B e size v acc.length (acc.map Value.string)) (hw : ws = acc) :
    ∃ A c, Ending.returned v = Ending.returned (.slice A ws.length c) ∧ w.ownsRow B e size (.slice A ws.length c) ws.length (ws.map Value.string) := by
  subst hw
  obtain ⟨A, c, rfl, _⟩ := own_slice h
  exact ⟨A, c, rfl, h⟩
theorem st_any {s : ByteArray} {ws acc : List ByteArray} {k : Nat} {wv : Value} (hk : k ≤ s.size) (h : (∃ a, a < k ∧ k ≤ s.size ∧ ws = acc ++ rem s a k ∧ wv = .string (s.extract a k)) ∨ (St s ws k acc ∧ wv = .string ⟨#[]⟩)) :
    ∃ a, a ≤ k ∧ ws = acc ++ rem s a k ∧ wv = .string (s.extract a k) := by
  rcases h with ⟨a, h1, h2, h3, h4⟩ | ⟨h | h, h4⟩
  · exact ⟨a, by omega, h3, h4⟩
  · exact ⟨k, Nat.le_refl _, h.2, by rw [h4, ext_self]⟩
  · omega
theorem st_empty {s : ByteArray} {ws acc : List ByteArray} {k : Nat} {wv : Value} (hk : ¬ k ≤ s.size) (h : (∃ a, a < k ∧ k ≤ s.size ∧ ws = acc ++ rem s a k ∧ wv = .string (s.extract a k)) ∨ (St s ws k acc ∧ wv = .string ⟨#[]⟩)) : wv = .string ⟨#[]⟩ := by
  rcases h with ⟨a, h1, h2, h3, h4⟩ | ⟨_, h4⟩
  · omega
  · exact h4
def P20 (ws : List ByteArray) (w : World) (e : Ending) (w' : World) : Prop :=
  ∃ A c, e = .returned (.slice A ws.length c) ∧ w'.ownsRow w.heap.size 9 1 (.slice A ws.length c) ws.length (ws.map Value.string) ∧ Below w.heap.size w w'
set_option maxRecDepth 100000 in
set_option maxHeartbeats 8000000 in
theorem c20 (s : ByteArray) (hs : s.size ≤ 16777215) (ha : asc s) (w : World) : Calls Tryz.prog 32 #[.string s] w fun e w' => P20 (wordsB s) w e w' := by
  obtain ⟨i0, hi, hz⟩ : ∃ i, Tryz.prog.info? 9 = some i ∧ (i.zero, i.size, i.bytes) = (some (.string ⟨#[]⟩), 1, 16) := by
    have h : (Tryz.prog.info? 9).map (fun i => (i.zero, i.size, i.bytes)) = some (some (.string ⟨#[]⟩), 1, 16) := by kernel_rfl
    cases hq : Tryz.prog.info? 9 with
    | none => rw [hq] at h; cases h
    | some i => rw [hq] at h; exact ⟨i, rfl, by simpa using h⟩
  simp only [Prod.mk.injEq] at hz
  obtain ⟨hz0, hz1, hz2⟩ := hz
  have HI := Lib.hid hi
  have HZ0 := Lib.hid hz0
  have HZ1 := Lib.hid hz1
  have HZ2 := Lib.hid hz2
  have H0 : Hid (St s (wordsB s) 0 []) := Lib.hid (Or.inl ⟨Nat.zero_le _, words_rem s ha⟩)
  clear hi hz0 hz1 hz2 ha
  generalize wordsB s = ws at *
  go_enter Tryz.func32, Tryz.ntmps32
  go_wp2_with fail
  go_loopw [3, 4, 5] (fun o wv i wr => R20 s ws w o wv i wr) (fun _ _ i _ => s.size + 1 - (intOf i).toNat)
  case atStart => exact ⟨0, [], rfl, Nat.le_refl _, World.ownsRow_nil _ _ _ _, Below.refl _ _, by omega, Or.inr ⟨H0.out, rfl⟩⟩
  case round =>
    obtain ⟨k, acc, rfl, hac, ho, hb, hk1, hst⟩ := hrel
    have HO := Lib.hid ho
    have HB := Lib.hid hb
    have HAC := Lib.hid hac
    have z1 := hb.size
    clear ho hb hac
    by_cases hks : k ≤ s.size
    · by_cases hnb : k < s.size ∧ pB (bb s k) = false
      · -- within a word
        obtain ⟨hlt, hp⟩ := hnb
        have he : (s[k]'hlt).toNat = bb s k := (bb_eq s k hlt).symm
        obtain ⟨a, hak, hws, rfl⟩ := st_any hks hst
        have HN : Hid (ws = acc ++ rem s a (k + 1)) := Lib.hid (by rw [hws, rem_word s a k hak hlt hp])
        have HX : Hid (s.extract a k ++ s.extract k (k + 1) = s.extract a (k + 1)) := Lib.hid (ext_snoc s a k hak hlt)
        have hxs : (s.extract a k).size ≤ 16777216 := by rw [ByteArray.size_extract]; omega
        have hys : (s.extract k (k + 1)).size ≤ 16777216 := by rw [ByteArray.size_extract]; omega
        have b1 : ((bb s k : Int) != 32) = true := by unfold pB at hp; simp at hp; simp; omega
        have b2 : ((bb s k : Int) != 9) = true := by unfold pB at hp; simp at hp; simp; omega
        have HLT := Lib.hid hlt
        have HAK := Lib.hid hak
        clear hst hws hp hak
        generalize s.extract a k = x at *
        generalize bb s k = v at *
        go_wp2_with fail
        go_roundw
        case rel => exact ⟨k + 1, acc, by go_num, Nat.le_succ_of_le HAC.out, HO.out, HB.out, by omega, Or.inl ⟨a, Nat.lt_succ_of_le HAK.out, HLT.out, HN.out, by rw [← HX.out]⟩⟩
        case measure => simp [intOf]; omega
      · have hcl : k < s.size → pB (bb s k) = true := fun h => by
          cases hq : pB (bb s k) with
          | true => rfl
          | false => exact absurd ⟨h, hq⟩ hnb
        have hT : (∃ (hlt : k < s.size) (v : Nat), (s[k]'hlt).toNat = v ∧ ((v : Int) != 32) = false) ∨ (∃ (hlt : k < s.size) (v : Nat), (s[k]'hlt).toNat = v ∧ ((v : Int) != 32) = true ∧ ((v : Int) != 9) = false) ∨ k = s.size := by
          by_cases hlt : k < s.size
          · have := hcl hlt
            unfold pB at this
            have := of_decide_eq_true this
            rcases this with h | h
            · exact Or.inl ⟨hlt, bb s k, (bb_eq s k hlt).symm, by simp; omega⟩
            · exact Or.inr (Or.inl ⟨hlt, bb s k, (bb_eq s k hlt).symm, by simp; omega, by simp; omega⟩)
          · exact Or.inr (Or.inr (by omega))
        clear hnb
        rcases hst with ⟨a, hak, -, hws, rfl⟩ | ⟨hSt, rfl⟩
        · have HC1 : Hid (bb s a ≠ 35 → St s ws (k + 1) (acc ++ [s.extract a k])) := Lib.hid fun h => cl1 hks hcl hak h hws
          have HC2 : Hid (bb s a = 35 → ws = acc) := Lib.hid fun h => cl2 hks hcl hak h hws
          have hpos : 0 < (s.extract a k).size := by rw [ByteArray.size_extract]; omega
          have he0 : (((s.extract a k)[0]'hpos).toNat) = bb s a := by rw [← bb_eq _ 0 hpos, bb_ext s a k hak hks]
          have hne : ((s.extract a k).toList == []) = false := by
            rw [emp_iff]
            exact decide_eq_false (fun h => by rw [h] at hpos; cases hpos)
          have hxs : (s.extract a k).size ≤ 16777216 := by rw [ByteArray.size_extract]; omega
          have HK := Lib.hid hks
          clear hws hcl hak hks
          generalize s.extract a k = x at *
          by_cases h35 : bb s a = 35
          · have b35 : ((bb s a : Int) == 35) = true := by rw [h35]; rfl
            have HW := Lib.hid (HC2.out h35)
            clear h35
            generalize bb s a = v at *
            rcases hT with ⟨hlt, v2, e0, e1⟩ | ⟨hlt, v2, e0, e1, e2⟩ | e1
            case' inr.inr => subst e1
            all_goals
              go_wp2_with fail
              go_ret
              obtain ⟨A, c, e, ho⟩ := own_ret HO.out HW.out
              exact ⟨A, c, e, ho, HB.out⟩
          · have b35 : ((bb s a : Int) == 35) = false := by simp; omega
            have HW := Lib.hid (HC1.out h35)
            clear h35
            generalize bb s a = v at *
            rcases hT with ⟨hlt, v2, e0, e1⟩ | ⟨hlt, v2, e0, e1, e2⟩ | e1
            case' inr.inr => subst e1
            all_goals
              go_wp2_with (at_builtin; refine wpList_append_own _ rfl _ _ 55 rfl w.heap.size 9 i0 (.string ⟨#[]⟩) 1 16 Tryz.underlying55 HI.out HZ0.out HZ1.out HZ2.out rfl (by decide) _ _ _ rfl (HO.out.alloc _) ⟨wr.heap.size, 0, none⟩ 1 1 [.string x] rfl rfl (one_cell _ _ _) (fun x hx => by simp at hx; subst hx; rfl) (by have := HAC.out; unfold maxLen; omega) (by have := HAC.out; omega) (by simp; omega) ?_; intro v' w5 hown5 hgrow5 hnil5)
              go_roundw
              case rel => exact ⟨_, acc ++ [x], by go_num, by have := HAC.out; simp; omega, by rw [List.map_append, List.length_append]; exact hown5, gr_below (HB.out.alloc HB.out.size _) (HO.out.alloc _) hgrow5 (by simp; omega), by have := HK.out; omega, Or.inr ⟨HW.out, rfl⟩⟩
              case measure => simp [intOf] <;> (have := HK.out; omega)
        · have HW := Lib.hid (cl0 hks hcl hSt)
          have HK := Lib.hid hks
          have HAC2 := HAC.out
          clear hSt hcl hks
          rcases hT with ⟨hlt, v2, e0, e1⟩ | ⟨hlt, v2, e0, e1, e2⟩ | e1
          case' inr.inr => subst e1
          all_goals
            go_wp2_with fail
            go_roundw
            case rel => exact ⟨_, acc, by go_num, by omega, HO.out, HB.out, by have := HK.out; omega, Or.inr ⟨HW.out, rfl⟩⟩
            case measure => simp [intOf] <;> (have := HK.out; omega)
    · have hk2 : k = s.size + 1 := by omega
      have HW : Hid (ws = acc) := Lib.hid (by
        rcases hst with ⟨a, _, h, _⟩ | ⟨⟨h, _⟩ | ⟨_, h⟩, _⟩
        · omega
        · omega
        · exact h)
      have hwv := st_empty hks hst
      subst hwv
      have hki : (s.size : Int) < (k : Int) := by omega
      clear hst hk2
      go_wp2_with fail
      go_ret
      obtain ⟨A, c, e, ho⟩ := own_ret HO.out HW.out
      exact ⟨A, c, e, ho, HB.out⟩
end Go.Proofs.YtapdiionikfgpaaGreatDoor.Li
namespace Go.Proofs.YtapdiionikfgpaaGreatDoor.Li
open Go.ChangeShapes Go.WideShapes Go.ChangeAt Go.RowKit
set_option linter.unusedVariables false
def LR (s : ByteArray) (w : World) (wr : World) : Prop := ∃ k : Nat, k ≤ s.size ∧ wr = w.iter s k ∧ ∀ i, i < k → okb (bb s i) = true
theorem okT_no (s : ByteArray) (k : Nat) (h : k < s.size) (hb : okb (bb s k) = false) : okT s = false := by
  unfold okT
  exact decide_eq_false (fun hh => by rw [hh k h] at hb; cases hb)
theorem okT_yes (s : ByteArray) (h : ∀ i, i < s.size → okb (bb s i) = true) : okT s = true := by unfold okT; exact decide_eq_true h
theorem rdE_form (s : ByteArray) (h : okT s = false) : rdE s = 5 := by unfold rdE; rw [if_pos h]
theorem rdE_many (s : ByteArray) (h : okT s = true) (hm : manyP s) : rdE s = 3 := by unfold rdE; rw [if_neg (by rw [h]; decide), if_pos hm]
theorem rdE_ok (s : ByteArray) (h : okT s = true) (hm : ¬ manyP s) : rdE s = 0 := by unfold rdE; rw [if_neg (by rw [h]; decide), if_neg hm]
theorem rdV_ok (s : ByteArray) (h : rdE s = 0) : rdV s = saidB 1 (lnsB s) := by unfold rdV; rw [if_pos h]
theorem rdV_no (s : ByteArray) (h : rdE s ≠ 0) : rdV s = [] := by unfold rdV; rw [if_neg h]
/-- the call's answer -/
def RdPost (s : ByteArray) (w : World) (e : Ending) (w' : World) : Prop := ∃ A n c, e = .returned (.tuple #[.slice A n c, .int .i64 (rdE s : Int)]) ∧ n = (rdV s).length ∧ RdOut w.heap.size (.slice A n c) (rdV s) w' ∧ Below w.heap.size w w'
theorem post_no (s : ByteArray) (w w' : World) (q : Nat) (hq : rdE s = q) (h0 : q ≠ 0) (hb : Below w.heap.size w w') : RdPost s w (.returned (.tuple #[.slice none 0 0, .int .i64 (q : Int)])) w' := by
  have hv : rdV s = [] := rdV_no s (by rw [hq]; exact h0)
  refine ⟨none, 0, 0, by rw [hq], by rw [hv]; rfl, ?_, hb⟩
  rw [hv]
  exact rd_nil _ _
/-- so many lines read -/
def RL (w1 : World) (B : Nat) (ls : List ByteArray) (l i : Value) (wr : World) : Prop :=
  ∃ k : Nat, k ≤ ls.length ∧ i = .int .i64 (k : Int) ∧ (∃ D : List (Nat × Value × List ByteArray), D.map (fun x => (x.1, x.2.2)) = saidB 1 (ls.take k) ∧ wr.ownsRow B 57 2 l D.length (D.flatMap fun x => [.int .i64 (x.1 : Int), x.2.1]) ∧ D.length ≤ k ∧ ∀ x ∈ D, wr.ownsRow B 9 1 x.2.1 x.2.2.length (x.2.2.map Value.string)) ∧
    Below w1.heap.size w1 wr ∧ ∀ j, (h : j < ls.length) → j < k → ¬ 100 < (ls[j]).size
theorem two_cells (w : World) (x y : Value) (t : TypeId) : ∀ (j : Nat) (u : Value), [x, y][j]? = some u → (w.alloc (.cells #[x, y] t)).cell? ((⟨w.heap.size, 0, none⟩ : Addr).add j) = some u := by
  intro j u h
  rw [addr_add]
  have hj : j < 2 := by
    by_cases hh : j < 2
    · exact hh
    · rw [List.getElem?_eq_none (by simp; omega)] at h; cases h
  rw [World.cell?_alloc_at _ _ _ _ (by simp)]
  simpa using h
theorem lns_take_all (ls : List ByteArray) : ls.take ls.length = ls := List.take_length ..
set_option maxRecDepth 100000 in
set_option maxHeartbeats 8000000 in
theorem c8 (s : ByteArray) (hs : s.size ≤ 16777215) (w : World) (hG : Gl w) :
    Calls Tryz.prog 18 #[.string s] w fun e w' => RdPost s w e w' := by
  obtain ⟨i0, hi, hz⟩ : ∃ i, Tryz.prog.info? 57 = some i ∧ (i.zero, i.size, i.bytes) = (some (.agg #[.int .i64 0, .slice none 0 0]), 2, 32) := by
    have h : (Tryz.prog.info? 57).map (fun i => (i.zero, i.size, i.bytes)) = some (some (.agg #[.int .i64 0, .slice none 0 0]), 2, 32) := by kernel_rfl
    cases hq : Tryz.prog.info? 57 with
    | none => rw [hq] at h; cases h
    | some i => rw [hq] at h; exact ⟨i, rfl, by simpa using h⟩
  simp only [Prod.mk.injEq] at hz
  obtain ⟨hz0, hz1, hz2⟩ := hz
  have HI := Lib.hid hi
  have HZ0 := Lib.hid hz0
  have HZ1 := Lib.hid hz1
  have HZ2 := Lib.hid hz2
  have HG := Lib.hid hG
  clear hi hz0 hz1 hz2 hG
  go_enter Tryz.func18, Tryz.ntmps18
  go_wp2
  go_loopw [5] (fun _ wr => LR s w wr) (fun _ wr => s.size - wr.iterPos w.heap.size)
  case atStart => exact ⟨0, by omega, rfl, fun i hi => absurd hi (by omega)⟩
  case round =>
    obtain ⟨k, hk, rfl, hin⟩ := hrel
    have HIN := Lib.hid hin
    clear hin
    by_cases hlt : k < s.size
    · by_cases ha : bb s k < 128
      · have hd := dec_bb s k hlt ha
        have hnx : ∀ ty, (Instr.next (.pointer (some ⟨w.heap.size, 0, none⟩)) true ty).run Tryz.prog (w.iter s k) = .ok (.tuple #[.bool true, .int .i64 k, .int .i32 (bb s k : Int)]) (w.iter s (k + 1)) := fun ty => by
          rw [run_next_any w s k ty hlt, hd]
        have K := Lib.hid (c17 (bb s k : Int))
        have hq : decide ((bb s k : Int) = 9 ∨ (bb s k : Int) = 10 ∨ (32 ≤ (bb s k : Int) ∧ (bb s k : Int) ≤ 126)) = okb (bb s k) := by unfold okb; rw [decide_eq_decide]; omega
        rw [hq] at K
        have HS : Hid (okb (bb s k) = true → LR s w (w.iter s (k + 1))) := Lib.hid fun hok => ⟨k + 1, hlt, rfl, fun i hi => by
          by_cases e : i = k
          · rw [e]; exact hok
          · exact HIN.out i (by omega)⟩
        have HN : Hid (okb (bb s k) = false → rdE s = 5) := Lib.hid fun h => rdE_form s (okT_no s k hlt h)
        obtain ⟨q, hqq⟩ : ∃ q, okb (bb s k) = q := ⟨_, rfl⟩
        rw [hqq] at K HS HN
        generalize bb s k = v at *
        clear hd hq hqq ha
        have HLT := Lib.hid hlt
        go_wp2_with fail
        refine (K.out _).mono ?_
        rintro _ _ ⟨rfl, rfl⟩
        cases q
        · have HW := Lib.hid (HN.out rfl)
          go_wp2_with fail
          go_ret2
          exact post_no s w _ 5 HW.out (by decide) (iter_below _ _ _)
        · have HS3 := Lib.hid (HS.out rfl)
          go_wp2_with fail
          go_roundw
          case rel => exact HS3.out
          case measure => simp; have := HLT.out; omega
      · obtain ⟨hd1, hd2⟩ := dec_hi s k hlt ha
        have hnx : ∀ ty, (Instr.next (.pointer (some ⟨w.heap.size, 0, none⟩)) true ty).run Tryz.prog (w.iter s k) = _ := fun ty => run_next_any w s k ty hlt
        have HW : Hid (rdE s = 5) := Lib.hid (rdE_form s (okT_no s k hlt (by unfold okb; exact decide_eq_false (by omega))))
        have K := Lib.hid (c17 ((Utf8.decode s k).1 : Int))
        generalize (Utf8.decode s k).1 = v at *
        generalize (Utf8.decode s k).2 = v2 at *
        have hq : decide ((v : Int) = 9 ∨ (v : Int) = 10 ∨ (32 ≤ (v : Int) ∧ (v : Int) ≤ 126)) = false := decide_eq_false (by omega)
        rw [hq] at K
        clear ha hd1 hq
        go_wp2_with fail
        refine (K.out _).mono ?_
        rintro _ _ ⟨rfl, rfl⟩
        go_wp2_with fail
        go_ret2
        exact post_no s w _ 5 HW.out (by decide) (iter_below _ _ _)
    · have hnx : ∀ ty, (Instr.next (.pointer (some ⟨w.heap.size, 0, none⟩)) true ty).run Tryz.prog (w.iter s k) = _ := fun ty => run_next_end w s k ty hlt
      have HT : Hid (okT s = true) := Lib.hid (okT_yes s (fun i hi => HIN.out i (by omega)))
      have HB0 : Hid (Below w.heap.size w (w.iter s k)) := Lib.hid (iter_below _ _ _)
      have K18 := Lib.hid (c18 s (by omega))
      have HM : Hid (manyP s ↔ (400 < (lnsB s).length ∨ ∃ x ∈ lnsB s, 100 < x.size)) := Lib.hid Iff.rfl
      have HV : Hid (¬ manyP s → rdV s = saidB 1 (lnsB s) ∧ rdE s = 0) := Lib.hid fun h => ⟨rdV_ok s (rdE_ok s HT.out h), rdE_ok s HT.out h⟩
      have HE : Hid (manyP s → rdE s = 3) := Lib.hid (rdE_many s HT.out)
      clear hlt
      generalize lnsB s = ls at *
      go_wp2_with fail
      refine (K18.out _ (HG.out.below (by first | exact iter_below _ _ _ | exact HB0.out))).mono ?_
      rintro _ w1 ⟨c, rfl, b1, hl1, hc1, hc2, hcell⟩
      have HB1 : Hid (Below w.heap.size w w1) := Lib.hid (HB0.out.trans (b1.mono HB0.out.size))
      have HC := Lib.hid hcell
      have HL1 := Lib.hid hl1
      clear hcell b1
      by_cases h4 : 400 < ls.length
      · have HW := Lib.hid (HE.out (HM.out.mpr (Or.inl h4)))
        have h4i : decide ((400 : Int) < (ls.length : Int)) = true := by simp; omega
        clear h4
        go_wp2_with fail
        go_ret2
        exact post_no s w _ 3 HW.out (by decide) HB1.out
      · have h4i : decide ((400 : Int) < (ls.length : Int)) = false := by simp; omega
        have H4 := Lib.hid h4
        clear h4
        go_wp2_with fail
        go_loopw [7, 26] (fun l i wr => RL w1 w1.heap.size ls l i wr) (fun _ i _ => ls.length - (intOf i).toNat)
        case atStart => exact ⟨0, by omega, rfl, ⟨[], rfl, World.ownsRow_nil _ _ _ _, by simp, fun x hx => by cases hx⟩, Below.refl _ _, fun j _ hj => absurd hj (by omega)⟩
        case round =>
          obtain ⟨k2, hk2, rfl, ⟨D, hD1, hD2, hD3, hD4⟩, hb2, hall⟩ := hrel
          have HD1 := Lib.hid hD1
          have HD2 := Lib.hid hD2
          have HD3 := Lib.hid hD3
          have HD4 := Lib.hid hD4
          have HB2 := Lib.hid hb2
          have HALL := Lib.hid hall
          clear hD1 hD2 hD3 hD4 hb2 hall
          by_cases hkn : k2 < ls.length
          · have hcell : wr.cell? ⟨(w.iter s k).heap.size, k2, none⟩ = some (.string ls[k2]) := by
              rw [HB2.out.cell (p := ⟨(w.iter s k).heap.size, k2, none⟩) HL1.out]
              exact HC.out k2 hkn
            have HLG : Hid (100 < (ls[k2]).size → rdE s = 3) := Lib.hid fun h => HE.out (HM.out.mpr (Or.inr ⟨_, List.getElem_mem hkn, h⟩))
            have HST : Hid (¬ 100 < (ls[k2]).size → ∀ j, (h : j < ls.length) → j < k2 + 1 → ¬ 100 < (ls[j]).size) := Lib.hid fun h j h1 h2 => by
              by_cases e : j = k2
              · subst e; exact h
              · exact HALL.out j h1 (by omega)
            have HSD : Hid (saidB 1 (ls.take (k2 + 1)) = saidB 1 (ls.take k2) ++ (if wordsB ls[k2] = [] then [] else [(1 + k2, wordsB ls[k2])])) := Lib.hid (by
              rw [take_snoc ls k2 hkn, saidB_snoc, List.length_take, Nat.min_eq_left hk2])
            generalize ls[k2] = x at *
            have HBB : Hid (Below w.heap.size w wr) := Lib.hid (HB1.out.trans (HB2.out.mono HB1.out.size))
            by_cases hlong : 100 < x.size
            · have HW := Lib.hid (HLG.out hlong)
              have hb : decide ((100 : Int) < (x.size : Int)) = true := by simp; omega
              clear hlong
              go_wp2_with fail
              go_ret2
              exact post_no s w _ 3 HW.out (by decide) HBB.out
            · have HS3 := Lib.hid (HST.out hlong)
              have hb : decide ((100 : Int) < (x.size : Int)) = false := by simp; omega
              have hx1 : x.size ≤ 100 := by omega
              have hwl := wordsB_len x
              have K19 := Lib.hid (c19s x (by omega))
              have hl1 : (wordsB x).length ≤ 101 := by omega
              clear hlong hwl
              by_cases hw0 : wordsB x = []
              · have HSD2 : Hid (saidB 1 (ls.take (k2 + 1)) = saidB 1 (ls.take k2)) := Lib.hid (by rw [HSD.out, if_pos hw0, List.append_nil])
                rw [hw0] at K19
                clear hw0 hl1
                go_wp2_with fail
                refine (K19.out _).mono ?_
                rintro _ w4 ⟨A4, c4, rfl, ho4, b4⟩
                have HB4 := Lib.hid b4
                clear b4 ho4
                go_wp2_with fail
                go_roundw
                case rel => exact ⟨k2 + 1, hkn, by go_num, ⟨D, by rw [HSD2.out]; exact HD1.out, own_below HD2.out HB4.out, Nat.le_succ_of_le HD3.out, fun x hx => own_below (HD4.out x hx) HB4.out⟩, HB2.out.trans (HB4.out.mono HB2.out.size), HS3.out⟩
                case measure => simp [intOf]; omega
              · have HSD2 : Hid (saidB 1 (ls.take (k2 + 1)) = saidB 1 (ls.take k2) ++ [(k2 + 1, wordsB x)]) := Lib.hid (by rw [HSD.out, if_neg hw0, Nat.add_comm])
                have hpos : 0 < (wordsB x).length := List.length_pos_iff.2 hw0
                clear hw0
                generalize wordsB x = ws at *
                obtain ⟨n4, hn4⟩ : ∃ n4, ws.length = n4 := ⟨_, rfl⟩
                have HN4 := Lib.hid hn4
                rw [hn4] at K19 hpos hl1
                have hbp := hpos
                clear hpos hn4
                have HL9 := Lib.hid hl1
                have HX9 := Lib.hid hx1
                have HKN := Lib.hid hkn
                have HBP := Lib.hid hbp
                clear hl1 hx1 hbp
                go_wp2_with fail
                refine (K19.out _).mono ?_
                rintro _ w4 ⟨A4, c4, rfl, ho4, b4⟩
                have HB4 := Lib.hid (HB2.out.trans (b4.mono HB2.out.size))
                have HO4 := Lib.hid (own_base ho4 HB2.out.size)
                rw [← HN4.out] at ho4
                have HO5 := Lib.hid (own_base ho4 HB2.out.size)
                have HD24 := Lib.hid (own_below HD2.out b4)
                have HD44 : Hid (∀ x ∈ D, w4.ownsRow w1.heap.size 9 1 x.2.1 x.2.2.length (x.2.2.map Value.string)) := Lib.hid (fun x hx => own_below (HD4.out x hx) b4)
                clear b4 ho4
                have z4 := HB4.out.size
                have hbp := HBP.out
                go_wp2_with (at_builtin; refine wpList_append_own _ rfl _ _ 37 rfl w1.heap.size 57 i0 (.agg #[.int .i64 0, .slice none 0 0]) 2 32 Tryz.underlying37 HI.out HZ0.out HZ1.out HZ2.out rfl (by decide) _ _ _ rfl (HD24.out.alloc _) ⟨w4.heap.size, 0, none⟩ 1 1 [.int .i64 ((k2 : Int) + 1), .slice A4 n4 c4] rfl rfl (two_cells _ _ _ _) (fun x hx => by simp at hx; rcases hx with rfl | rfl <;> rfl) (by have := HD3.out; have := H4.out; unfold maxLen; omega) (by have := HD3.out; have := H4.out; omega) (by simp; omega) ?_; intro v' w5 hown5 hgrow5 hnil5)
                go_roundw
                case rel =>
                  obtain ⟨D', e1, e2, e3⟩ := rd_snoc (j := k2 + 1) (l := ws) HD1.out (HD24.out.alloc _) (fun x hx => (HD44.out x hx).alloc _) (HO5.out.alloc _) (by rw [HN4.out]; exact hown5) hgrow5
                  have e4 : D'.length = D.length + 1 := by
                    have h1 := congrArg List.length e1
                    have h2 := congrArg List.length HD1.out
                    simp at h1 h2
                    omega
                  exact ⟨k2 + 1, hkn, by go_num, ⟨D', by rw [e1, HSD2.out], e2, by have := HD3.out; omega, e3⟩, gr_below (HB4.out.alloc HB4.out.size _) (HD24.out.alloc _) hgrow5 (by simp; omega), HS3.out⟩
                case measure => simp [intOf]; omega
          · have hkk : k2 = ls.length := by omega
            subst hkk
            have HNM : Hid (¬ manyP s) := Lib.hid fun h => by
              rcases HM.out.mp h with h | ⟨y, hy, h⟩
              · exact H4.out h
              · obtain ⟨i, hi, rfl⟩ := List.getElem_of_mem hy
                exact HALL.out i hi hi h
            have HVV := Lib.hid (HV.out HNM.out)
            obtain ⟨A6, c6, rfl, _⟩ := own_slice HD2.out
            go_wp2_with fail
            go_ret2
            have hr : saidB 1 (ls.take ls.length) = rdV s := by rw [lns_take_all, HVV.out.1]
            refine ⟨A6, D.length, c6, by rw [HVV.out.2]; rfl, ?_, ?_, HB1.out.trans (HB2.out.mono HB1.out.size)⟩
            · rw [← hr, ← HD1.out, List.length_map]
            · rw [← hr]
              exact rd_base ⟨D, HD1.out, HD2.out, HD4.out⟩ HB1.out.size
end Go.Proofs.YtapdiionikfgpaaGreatDoor.Li
namespace Go.Proofs.YtapdiionikfgpaaGreatDoor.Li
open Go.ChangeShapes Go.WideShapes Go.ChangeAt Go.RowKit
set_option linter.unusedVariables false
theorem okT_all {s : ByteArray} (h : okT s = true) : ∀ i, i < s.size → okb (bb s i) = true := by unfold okT at h; exact of_decide_eq_true h
theorem okb_lt {n : Nat} (h : okb n = true) : n < 128 := by unfold okb at h; simp at h; omega
theorem asc_ok {s : ByteArray} (h : okT s = true) : asc s := fun i hi => okb_lt (okT_all h i hi)
theorem bb_ext_any (s : ByteArray) (a k j : Nat) (h : j < (s.extract a k).size) : bb (s.extract a k) j = bb s (a + j) := by
  have hz : (s.extract a k).size = min k s.size - a := by rw [ByteArray.size_extract]
  rw [bb_eq _ j h, bb_eq s (a + j) (by omega)]
  simp [ByteArray.getElem_extract]
theorem asc_ext {s : ByteArray} (h : asc s) (a k : Nat) : asc (s.extract a k) := fun i hi => by
  rw [bb_ext_any s a k i hi]
  refine h _ ?_
  rw [ByteArray.size_extract] at hi
  omega
/-- the lines read so far -/
def Dn (w1 : World) (o : Value) (done : List ByteArray) (wr : World) : Prop :=
  ∃ D : List (Nat × Value × List ByteArray), D.map (fun x => (x.1, x.2.2)) = saidB 1 done ∧ wr.ownsRow w1.heap.size 57 2 o D.length (D.flatMap fun x => [.int .i64 (x.1 : Int), x.2.1]) ∧ D.length ≤ done.length ∧ ∀ x ∈ D, wr.ownsRow w1.heap.size 9 1 x.2.1 x.2.2.length (x.2.2.map Value.string)
theorem dn_nil (w1 wr : World) : Dn w1 (.slice none 0 0) [] wr := ⟨[], rfl, World.ownsRow_nil _ _ _ _, Nat.le_refl _, fun x hx => by cases hx⟩
def S9t (s : ByteArray) (ls : List ByteArray) (k a : Nat) (done : List ByteArray) : Prop := (k ≤ s.size ∧ ls = done ++ remL s a k) ∨ (k = s.size + 1 ∧ ls = done)
def R9 (s : ByteArray) (ls : List ByteArray) (w1 : World) (o li fr i : Value) (wr : World) : Prop :=
  ∃ (k a : Nat) (done : List ByteArray), i = .int .i64 (k : Int) ∧ fr = .int .i64 (a : Int) ∧ li = .int .i64 (done.length : Int) ∧ a ≤ k ∧ k ≤ s.size + 1 ∧ done.length ≤ 400 ∧ (∀ x ∈ done, ¬ 100 < x.size) ∧ Dn w1 o done wr ∧ Below w1.heap.size w1 wr ∧ S9t s ls k a done
theorem fin9 {s : ByteArray} {w wr : World} {o : Value} {done : List ByteArray} (hls : lnsB s = done) (ht : okT s = true) (h4 : done.length ≤ 400) (hs : ∀ x ∈ done, ¬ 100 < x.size) (hD : Dn w o done wr) (hb : Below w.heap.size w wr) :
    RdPost s w (.returned (.tuple #[o, .int .i64 0])) wr := by
  have hm : ¬ manyP s := by
    rintro (h | ⟨x, hx, h⟩)
    · rw [hls] at h; omega
    · rw [hls] at hx; exact hs x hx h
  have he := rdE_ok s ht hm
  have hv := rdV_ok s he
  obtain ⟨D, h1, h2, _, h3⟩ := hD
  obtain ⟨A, c, rfl, _⟩ := own_slice h2
  refine ⟨A, D.length, c, by rw [he]; rfl, ?_, ?_, hb⟩
  · rw [hv, hls, ← h1, List.length_map]
  · rw [hv, hls]
    exact ⟨D, h1, h2, h3⟩
theorem many9 {s : ByteArray} {done r : List ByteArray} {x : ByteArray} (ht : okT s = true) (hls : lnsB s = done ++ x :: r) (h : 400 < done.length + 1 ∨ 100 < x.size) : rdE s = 3 := by
  apply rdE_many s ht
  rcases h with h | h
  · left; rw [hls]; simp; omega
  · right; exact ⟨x, by rw [hls]; simp, h⟩
theorem close9 {s : ByteArray} {ls done : List ByteArray} {a k : Nat} (hk : k ≤ s.size) (hc : (∃ h : k < s.size, bb s k = 10) ∨ (k = s.size ∧ a < k)) (h : ls = done ++ remL s a k) : (∃ r, ls = done ++ s.extract a k :: r) ∧ S9t s ls (k + 1) (k + 1) (done ++ [s.extract a k]) := by
  rcases hc with ⟨hlt, h10⟩ | ⟨rfl, ha⟩
  · rw [remL_put s a k hlt h10] at h
    exact ⟨⟨_, h⟩, Or.inl ⟨hlt, by rw [h]; simp⟩⟩
  · rw [remL_end_put s a ha] at h
    exact ⟨⟨_, h⟩, Or.inr ⟨rfl, h⟩⟩
theorem dn_same {w1 wr w' : World} {o : Value} {done : List ByteArray} {y : ByteArray} (hs : saidB 1 (done ++ [y]) = saidB 1 done) (h : Dn w1 o done wr) (hb : Below wr.heap.size wr w') : Dn w1 o (done ++ [y]) w' := by
  obtain ⟨D, h1, h2, h3, h4⟩ := h
  exact ⟨D, by rw [hs]; exact h1, own_below h2 hb, by rw [List.length_append]; omega, fun x hx => own_below (h4 x hx) hb⟩
theorem dn_more {w1 w4 w5 : World} {o v' : Value} {done : List ByteArray} {x : ByteArray} {dn n4 c4 : Nat} {A4 : Option Addr} {ws : List ByteArray} {D : List (Nat × Value × List ByteArray)} {ob : Obj} (hdn : done.length = dn) (hs : saidB 1 (done ++ [x]) = saidB 1 done ++ [(dn + 1, ws)]) (hn4 : ws.length = n4)
    (h1 : D.map (fun x => (x.1, x.2.2)) = saidB 1 done) (h3 : D.length ≤ done.length) (h2 : w4.ownsRow w1.heap.size 57 2 o D.length (D.flatMap fun x => [.int .i64 (x.1 : Int), x.2.1])) (h4 : ∀ x ∈ D, w4.ownsRow w1.heap.size 9 1 x.2.1 x.2.2.length (x.2.2.map Value.string))
    (h5 : w4.ownsRow w1.heap.size 9 1 (.slice A4 ws.length c4) ws.length (ws.map Value.string))
    (ho : w5.ownsRow w1.heap.size 57 2 v' (D.length + 1) ((D.flatMap fun x => [.int .i64 (x.1 : Int), x.2.1]) ++ [.int .i64 ((dn : Int) + 1), .slice A4 n4 c4])) (hg : (w4.alloc ob).grownBy w5 o.ownBlock) : Dn w1 v' (done ++ [x]) w5 := by
  subst hn4
  obtain ⟨D', e1, e2, e3⟩ := rd_snoc (j := dn + 1) (l := ws) h1 (h2.alloc _) (fun x hx => (h4 x hx).alloc _) (h5.alloc _) ho hg
  have e4 : D'.length = D.length + 1 := by
    have g1 := congrArg List.length e1
    have g2 := congrArg List.length h1
    simp at g1 g2
    omega
  exact ⟨D', by rw [e1, hs], e2, by rw [List.length_append, e4]; simp; omega, e3⟩
def R9a (s : ByteArray) (w : World) (i : Value) (wr : World) : Prop := wr = w ∧ ∃ k : Nat, k ≤ s.size ∧ i = .int .i64 (k : Int) ∧ ∀ j, j < k → okb (bb s j) = true
set_option maxRecDepth 100000 in
set_option maxHeartbeats 16000000 in
theorem c9 (s : ByteArray) (hs : s.size ≤ 16777215) (w : World) : Calls Tryz.prog 16 #[.string s] w fun e w' => RdPost s w e w' := by
  obtain ⟨i0, hi, hz⟩ : ∃ i, Tryz.prog.info? 57 = some i ∧ (i.zero, i.size, i.bytes) = (some (.agg #[.int .i64 0, .slice none 0 0]), 2, 32) := by
    have h : (Tryz.prog.info? 57).map (fun i => (i.zero, i.size, i.bytes)) = some (some (.agg #[.int .i64 0, .slice none 0 0]), 2, 32) := by kernel_rfl
    cases hq : Tryz.prog.info? 57 with
    | none => rw [hq] at h; cases h
    | some i => rw [hq] at h; exact ⟨i, rfl, by simpa using h⟩
  simp only [Prod.mk.injEq] at hz
  obtain ⟨hz0, hz1, hz2⟩ := hz
  have HI := Lib.hid hi
  have HZ0 := Lib.hid hz0
  have HZ1 := Lib.hid hz1
  have HZ2 := Lib.hid hz2
  clear hi hz0 hz1 hz2
  go_enter Tryz.func16, Tryz.ntmps16
  go_wp2_with fail
  go_loopw [4] (fun i wr => R9a s w i wr) (fun i _ => s.size - (intOf i).toNat)
  case atStart => exact ⟨rfl, 0, by omega, rfl, fun i hi => absurd hi (by omega)⟩
  case round =>
    obtain ⟨rfl, k, hk, rfl, hin⟩ := hrel
    have HIN := Lib.hid hin
    clear hin
    by_cases hlt : k < s.size
    · have he : (s[k]'hlt).toNat = bb s k := (bb_eq s k hlt).symm
      have HLT := Lib.hid hlt
      by_cases hok : okb (bb s k) = true
      · have HS : Hid (∀ i, i < k + 1 → okb (bb s i) = true) := Lib.hid fun i hi => by
          by_cases e : i = k
          · rw [e]; exact hok
          · exact HIN.out i (by omega)
        have hT : bb s k = 9 ∨ bb s k = 10 ∨ (((bb s k : Int) != 9) = true ∧ ((bb s k : Int) != 10) = true ∧ decide ((bb s k : Int) < 32) = false ∧ decide ((126 : Int) < (bb s k : Int)) = false) := by
          unfold okb at hok
          have := of_decide_eq_true hok
          rcases this with h | h | h
          · exact Or.inl h
          · exact Or.inr (Or.inl h)
          · exact Or.inr (Or.inr ⟨by simp; omega, by simp; omega, by simp; omega, by simp; omega⟩)
        clear hok
        generalize bb s k = v at *
        rcases hT with rfl | rfl | ⟨b1, b2, b3, b4⟩
        all_goals
          go_wp2_with fail
          go_roundw
          case rel => exact ⟨rfl, k + 1, HLT.out, by go_num, HS.out⟩
          case measure => simp [intOf]; have := HLT.out; omega
      · have hok' : okb (bb s k) = false := by simpa using hok
        have HW : Hid (rdE s = 5) := Lib.hid (rdE_form s (okT_no s k hlt hok'))
        have hT : ((bb s k : Int) != 9) = true ∧ ((bb s k : Int) != 10) = true ∧ (decide ((bb s k : Int) < 32) = true ∨ (decide ((bb s k : Int) < 32) = false ∧ decide ((126 : Int) < (bb s k : Int)) = true)) := by
          unfold okb at hok'
          have := of_decide_eq_false hok'
          refine ⟨by simp; omega, by simp; omega, ?_⟩
          by_cases h : bb s k < 32
          · exact Or.inl (by simp; omega)
          · exact Or.inr ⟨by simp; omega, by simp; omega⟩
        clear hok hok'
        generalize bb s k = v at *
        obtain ⟨b1, b2, b3 | ⟨b3, b4⟩⟩ := hT
        all_goals
          go_wp2_with fail
          go_ret2
          exact post_no s wr _ 5 HW.out (by decide) (Below.refl _ _)
    · have HT : Hid (okT s = true) := Lib.hid (okT_yes s (fun i hi => HIN.out i (by omega)))
      have H0 : Hid (lnsB s = remL s 0 0) := Lib.hid (lns_rem s)
      obtain ⟨w0, hw0⟩ : ∃ w0 : World, w0 = wr := ⟨_, rfl⟩
      subst hw0
      clear hk
      go_wp2_with fail
      clear hlt
      generalize hls : lnsB s = ls at *
      have HLS := Lib.hid hls
      clear hls
      go_loopw [6, 7, 8, 9] (fun o li fr i wr => R9 s ls w0 o li fr i wr) (fun _ _ _ i _ => s.size + 1 - (intOf i).toNat)
      case atStart => exact ⟨0, 0, [], rfl, rfl, rfl, Nat.le_refl _, by omega, by simp, (fun x hx => by cases hx), dn_nil _ _, Below.refl _ _, Or.inl ⟨Nat.zero_le _, by rw [H0.out]; rfl⟩⟩
      case round =>
        obtain ⟨k, a, done, rfl, rfl, rfl, hak, hk1, h400, hsz, hD, hb, hst⟩ := hrel
        have HSZ := Lib.hid hsz
        have HD := Lib.hid hD
        have HB := Lib.hid hb
        have z1 := hb.size
        clear hsz hD hb
        by_cases hks : k ≤ s.size
        · have hls : ls = done ++ remL s a k := by
            rcases hst with ⟨_, h⟩ | ⟨h, _⟩
            · exact h
            · omega
          clear hst
          by_cases hin : k < s.size ∧ bb s k ≠ 10
          · obtain ⟨hlt, h10⟩ := hin
            have he : (s[k]'hlt).toNat = bb s k := (bb_eq s k hlt).symm
            have HN : Hid (ls = done ++ remL s a (k + 1)) := Lib.hid (by rw [hls, remL_in s a k hak hlt h10])
            have b1 : ((bb s k : Int) != 10) = true := by simp; omega
            have HLT := Lib.hid hlt
            have HAK := Lib.hid hak
            have H400 := Lib.hid h400
            clear hls h10 h400
            generalize bb s k = v at *
            go_wp2_with fail
            go_roundw
            case rel => exact ⟨k + 1, a, done, by go_num, rfl, rfl, Nat.le_succ_of_le HAK.out, by have := HLT.out; omega, H400.out, HSZ.out, HD.out, HB.out, Or.inl ⟨HLT.out, HN.out⟩⟩
            case measure => simp [intOf]; have := HLT.out; omega
          · by_cases hend : k = s.size ∧ a = k
            · obtain ⟨h1, h2⟩ := hend
              subst h2
              have HW : Hid (lnsB s = done) := Lib.hid (by rw [HLS.out, hls, h1, remL_end, List.append_nil])
              clear hls hin
              have c1 : decide ((a : Int) < (s.size : Int)) = false := by simp; omega
              have c2 : ((a : Int) == (s.size : Int)) = true := by rw [h1]; simp
              have H400 := Lib.hid h400
              clear h1 h400
              go_wp2_with fail
              go_ret2
              exact fin9 HW.out HT.out H400.out HSZ.out HD.out HB.out
            · have hcl : (∃ h : k < s.size, bb s k = 10) ∨ (k = s.size ∧ a < k) := by
                by_cases hlt : k < s.size
                · exact Or.inl ⟨hlt, Decidable.byContradiction fun h => hin ⟨hlt, h⟩⟩
                · have : k = s.size := by omega
                  exact Or.inr ⟨this, by omega⟩
              obtain ⟨⟨r, hr⟩, hnx⟩ := close9 hks hcl hls
              have HNX := Lib.hid hnx
              have HM : Hid (400 < done.length + 1 ∨ 100 < (s.extract a k).size → rdE s = 3) := Lib.hid (many9 HT.out (by rw [HLS.out]; exact hr))
              have hT : (∃ hlt : k < s.size, ((s[k]'hlt).toNat : Int) = 10 ∧ ((k : Int) == (s.size : Int)) = false ∧ decide ((k : Int) < (s.size : Int)) = true) ∨ (decide ((k : Int) < (s.size : Int)) = false ∧ ((k : Int) == (s.size : Int)) = true ∧ ((a : Int) == (k : Int)) = false) := by
                rcases hcl with ⟨h, h10⟩ | ⟨h, h2⟩
                · exact Or.inl ⟨h, by rw [← bb_eq s k h, h10]; rfl, by simp; omega, by simp; omega⟩
                · exact Or.inr ⟨by simp; omega, by simp; omega, by simp; omega⟩
              clear hnx hr hcl hin hend hls
              have hx : (s.extract a k).size = k - a := by rw [ByteArray.size_extract]; omega
              have HXA : Hid (asc (s.extract a k)) := Lib.hid (asc_ext (asc_ok HT.out) a k)
              obtain ⟨x, hxx⟩ : ∃ x, s.extract a k = x := ⟨_, rfl⟩
              rw [hxx] at HNX HM hx HXA
              have HX := Lib.hid hx
              have H400 := Lib.hid h400
              have HKS := Lib.hid hks
              by_cases h4 : 400 < done.length + 1
              · have b4 : decide ((400 : Int) < (done.length : Int) + 1) = true := by simp; omega
                have HW := Lib.hid (HM.out (Or.inl h4))
                clear hxx hx
                generalize done.length = dn at *
                rcases hT with ⟨hlt, e1, e2, e3⟩ | ⟨e1, e2, e3⟩
                all_goals
                  go_wp2_with fail
                  go_ret2
                  exact post_no s w0 _ 3 HW.out (by decide) HB.out
              · have b4 : decide ((400 : Int) < (done.length : Int) + 1) = false := by simp; omega
                have H4 := Lib.hid h4
                clear h4
                by_cases h5 : 100 < x.size
                · have b5 : decide ((100 : Int) < (k : Int) - (a : Int)) = true := by simp; omega
                  have HW := Lib.hid (HM.out (Or.inr h5))
                  clear hxx hx h5
                  generalize done.length = dn at *
                  rcases hT with ⟨hlt, e1, e2, e3⟩ | ⟨e1, e2, e3⟩
                  all_goals
                    go_wp2_with fail
                    go_ret2
                    exact post_no s w0 _ 3 HW.out (by decide) HB.out
                · have b5 : decide ((100 : Int) < (k : Int) - (a : Int)) = false := by simp; omega
                  have HSX : Hid (∀ y ∈ done ++ [x], ¬ 100 < y.size) := Lib.hid fun y hy => by
                    rcases List.mem_append.1 hy with h | h
                    · exact HSZ.out y h
                    · obtain rfl : y = x := by simpa using h
                      exact h5
                  have K20 := Lib.hid (c20 x (by omega) HXA.out)
                  have hl1 : (wordsB x).length ≤ 101 := by have := wordsB_len x; omega
                  have HSD : Hid (saidB 1 (done ++ [x]) = saidB 1 done ++ (if wordsB x = [] then [] else [(1 + done.length, wordsB x)])) := Lib.hid (saidB_snoc x done 1)
                  clear h5 hx
                  generalize wordsB x = ws at *
                  generalize hdn : done.length = dn at *
                  have HDN := Lib.hid hdn
                  clear hdn
                  by_cases hw0 : ws = []
                  · subst hw0
                    have HSD2 : Hid (saidB 1 (done ++ [x]) = saidB 1 done) := Lib.hid (by rw [HSD.out, if_pos rfl, List.append_nil])
                    have hxe := hxx
                    clear hxx
                    rcases hT with ⟨hlt, e1, e2, e3⟩ | ⟨e1, e2, e3⟩
                    all_goals
                      go_wp2_with fail
                      refine (K20.out _).mono ?_
                      rintro _ w4 ⟨A4, c4, rfl, ho4, b4⟩
                      have HB4 := Lib.hid b4
                      clear b4 ho4
                      go_wp2_with fail
                      go_roundw
                      case rel => exact ⟨k + 1, k + 1, done ++ [x], by go_num, by go_num, by rw [List.length_append, HDN.out]; go_num, Nat.le_refl _, by have := HKS.out; omega, by rw [List.length_append, HDN.out]; have := H4.out; simp; omega, HSX.out, dn_same HSD2.out HD.out HB4.out, HB.out.trans (HB4.out.mono HB.out.size), HNX.out⟩
                      case measure => simp [intOf]; have := HKS.out; omega
                  · have HSD2 : Hid (saidB 1 (done ++ [x]) = saidB 1 done ++ [(dn + 1, ws)]) := Lib.hid (by rw [HSD.out, if_neg hw0, Nat.add_comm])
                    have hpos : 0 < ws.length := List.length_pos_iff.2 hw0
                    have hxe := Lib.hid hxx
                    obtain ⟨n4, hn4⟩ : ∃ n4, ws.length = n4 := ⟨_, rfl⟩
                    have HN4 := Lib.hid hn4
                    unfold P20 at K20
                    rw [hn4] at K20 hpos
                    have hbp := hpos
                    clear hpos hn4 hw0 hl1
                    rcases hT with ⟨hlt, e1, e2, e3⟩ | ⟨e1, e2, e3⟩
                    all_goals
                      go_wp2_with fail
                      refine (K20.out _).mono ?_
                      rintro _ w4 ⟨A4, c4, rfl, ho4, b4⟩
                      have HB4 := Lib.hid (HB.out.trans (b4.mono HB.out.size))
                      have HO4 := Lib.hid (own_base ho4 HB.out.size)
                      rw [← HN4.out] at ho4
                      have HO5 := Lib.hid (own_base ho4 HB.out.size)
                      obtain ⟨D, hD1, hD2, hD3, hD4⟩ := HD.out
                      have HD1 := Lib.hid hD1
                      have HD3 := Lib.hid hD3
                      have HD24 := Lib.hid (own_below hD2 b4)
                      have HD44 : Hid (∀ x ∈ D, w4.ownsRow w0.heap.size 9 1 x.2.1 x.2.2.length (x.2.2.map Value.string)) := Lib.hid (fun x hx => own_below (hD4 x hx) b4)
                      clear b4 ho4 hD1 hD2 hD3 hD4
                      have z4 := HB4.out.size
                      go_wp2_with (at_builtin; refine wpList_append_own _ rfl _ _ 37 rfl w0.heap.size 57 i0 (.agg #[.int .i64 0, .slice none 0 0]) 2 32 Tryz.underlying37 HI.out HZ0.out HZ1.out HZ2.out rfl (by decide) _ _ _ rfl (HD24.out.alloc _) ⟨w4.heap.size, 0, none⟩ 1 1 [.int .i64 ((dn : Int) + 1), .slice A4 n4 c4] rfl rfl (two_cells _ _ _ _) (fun x hx => by simp at hx; rcases hx with rfl | rfl <;> rfl) (by have := HD3.out; have := H4.out; rw [HDN.out] at *; unfold maxLen; omega) (by have := HD3.out; have := H4.out; rw [HDN.out] at *; omega) (by simp; omega) ?_; intro v' w5 hown5 hgrow5 hnil5)
                      go_roundw
                      case rel => exact ⟨k + 1, k + 1, done ++ [x], by go_num, by go_num, by rw [List.length_append, HDN.out]; go_num, Nat.le_refl _, by have := HKS.out; omega, by rw [List.length_append, HDN.out]; have := H4.out; simp; omega, HSX.out, dn_more HDN.out HSD2.out HN4.out HD1.out HD3.out HD24.out HD44.out HO5.out hown5 hgrow5, gr_below (HB4.out.alloc HB4.out.size _) (HD24.out.alloc _) hgrow5 (by simp; omega), HNX.out⟩
                      case measure => simp [intOf]; have := HKS.out; omega
        · have HW : Hid (lnsB s = done) := Lib.hid (by
            rcases hst with ⟨h, _⟩ | ⟨_, h⟩
            · omega
            · rw [HLS.out]; exact h)
          have hki : (s.size : Int) < (k : Int) := by omega
          clear hst
          have H400 := Lib.hid h400
          clear h400
          go_wp2_with fail
          go_ret2
          exact fin9 HW.out HT.out H400.out HSZ.out HD.out HB.out
end Go.Proofs.YtapdiionikfgpaaGreatDoor.Li
namespace Go.Proofs.YtapdiionikfgpaaGreatDoor.Li
open Go.ChangeShapes Go.WideShapes Go.ChangeAt Go.RowKit
set_option linter.unusedVariables false
def DR (w : World) (n : Nat) (i : Value) (wr : World) : Prop := ∃ k : Nat, k ≤ n ∧ i = .int .i64 (k : Int) ∧ ∃ q, wr = w.drewN q
end Go.Proofs.YtapdiionikfgpaaGreatDoor.Li
namespace Go.Proofs.YtapdiionikfgpaaGreatDoor.Li
open Go.ChangeShapes Go.WideShapes Go.ChangeAt Go.RowKit
set_option linter.unusedVariables false
theorem noN_eq : noN = .tuple #[.int .u32 0, .bool false] := rfl
set_option maxRecDepth 100000 in
set_option maxHeartbeats 4000000 in
theorem c10_hex (s t : ByteArray) (ht : s.extract 2 s.size = t) (hp : px s = true) (htz : t.size ≤ 9223372036854775807) (hs : s.size ≤ 9223372036854775807) (w : World) :
    Calls Tryz.prog 120 #[.string s] w fun e w' => e = .returned (refV s) ∧ Below w.heap.size w w' := by
  have K21 := Lib.hid (c21 s hs w)
  rw [hp, if_pos rfl, ht] at K21
  have HA : Hid (8 < t.size ∨ dA 16 t = false → refV s = noN) := Lib.hid (by rw [← ht]; exact ref_a s hp)
  have HB : Hid (¬ 8 < t.size → dA 16 t = true → refV s = .tuple #[.int .u32 (numN 16 t t.size : Int), .bool true]) := Lib.hid (by rw [← ht]; exact ref_b s hp)
  have K22 := Lib.hid (c22_16 t htz)
  clear hp ht
  by_cases h8 : 8 < t.size
  · have HW := Lib.hid (HA.out (Or.inl h8))
    go_enter Tryz.func120, Tryz.ntmps120
    go_wp2_with fail
    refine (K21.out).mono ?_
    rintro _ _ ⟨rfl, rfl⟩
    go_wp2_with fail
    go_ret2
    exact ⟨by rw [HW.out, noN_eq]; rfl, Below.refl _ _⟩
  · obtain ⟨q, hq⟩ : ∃ q, dA 16 t = q := ⟨_, rfl⟩
    rw [hq] at HA HB K22
    have h8i : decide ((8 : Int) < (t.size : Int)) = false := by simp; omega
    cases q
    · have HW := Lib.hid (HA.out (Or.inr rfl))
      clear hq
      go_enter Tryz.func120, Tryz.ntmps120
      go_wp2_with fail
      refine (K21.out).mono ?_
      rintro _ _ ⟨rfl, rfl⟩
      go_wp2_with fail
      refine (K22.out _).mono ?_
      rintro _ w1 ⟨rfl, b1⟩
      have B1 := Lib.hid b1
      clear b1
      go_wp2_with fail
      go_ret2
      exact ⟨by rw [HW.out, noN_eq]; rfl, B1.out⟩
    · have HW := Lib.hid (HB.out h8 rfl)
      obtain ⟨h6, h7⟩ := dA_true 16 t hq
      have K23 := Lib.hid (c23_16 t (by omega) (by omega) h7)
      have hn := numN_16 t t.size (by omega) h7
      have BW := Lib.hid (fun w => bytesW_below w 5 t)
      clear hq h7
      generalize numN 16 t t.size = n at *
      have hni : (n : Int) ≤ 4294967295 := by omega
      clear hn
      go_enter Tryz.func120, Tryz.ntmps120
      go_wp2_with fail
      refine (K21.out).mono ?_
      rintro _ _ ⟨rfl, rfl⟩
      go_wp2_with fail
      refine (K22.out _).mono ?_
      rintro _ w1 ⟨rfl, b1⟩
      have B1 := Lib.hid b1
      clear b1
      go_wp2_with fail
      refine (K23.out _).mono ?_
      rintro _ w2 ⟨rfl, q2⟩
      have B2 : Hid (Below w1.heap.size w1 w2) := Lib.hid (by rw [q2]; exact BW.out w1)
      clear q2
      go_wp2_with fail
      go_ret2
      exact ⟨by rw [HW.out]; rfl, B1.out.trans (B2.out.mono B1.out.size)⟩
set_option maxRecDepth 100000 in
set_option maxHeartbeats 4000000 in
theorem c10_dec (s : ByteArray) (hp : px s = false) (hs : s.size ≤ 281474976710656) (w : World) (hG : Gl w) :
    Calls Tryz.prog 120 #[.string s] w fun e w' => e = .returned (refV s) ∧ Below w.heap.size w w' := by
  have K21 := Lib.hid (c21 s (by omega) w)
  rw [hp, if_neg (by decide)] at K21
  have HA := Lib.hid (ref_c s hp)
  have HB := Lib.hid (ref_d s hp)
  have HC := Lib.hid (ref_e s hp)
  have HG := Lib.hid hG
  have K22 := Lib.hid (c22_10 s (by omega))
  clear hp hG
  obtain ⟨q, hq⟩ : ∃ q, dA 10 s = q := ⟨_, rfl⟩
  rw [hq] at HA HB HC K22
  have hext : (ByteArray.extract ⟨#[48, 49, 50, 51, 52, 53, 54, 55, 56, 57, 97, 98, 99, 100, 101, 102]⟩ 0 10) = ⟨#[48, 49, 50, 51, 52, 53, 54, 55, 56, 57]⟩ := rfl
  cases q
  · have HW := Lib.hid (HA.out (Or.inl rfl))
    clear hq
    go_enter Tryz.func120, Tryz.ntmps120
    go_wp2_with fail
    refine (K21.out).mono ?_
    rintro _ _ ⟨rfl, rfl⟩
    go_wp2_with fail
    refine (K22.out _).mono ?_
    rintro _ w1 ⟨rfl, b1⟩
    have B1 := Lib.hid b1
    clear b1
    go_wp2_with fail
    go_ret2
    exact ⟨by rw [HW.out, noN_eq]; rfl, B1.out⟩
  · obtain ⟨h6, h7⟩ := dA_true 10 s hq
    have hpb := parseB s h6 h7
    have H7 := Lib.hid h7
    clear hq h7
    have he : ((s[0]'h6).toNat : Int) = (bb s 0 : Int) := by rw [bb_eq s 0 h6]
    by_cases hz : 1 < s.size ∧ bb s 0 = 48
    · have HW := Lib.hid (HA.out (Or.inr hz))
      obtain ⟨hz1, hz2⟩ := hz
      have hb0 : ((bb s 0 : Int) == 48) = true := by rw [hz2]; rfl
      clear hz2 hpb
      generalize bb s 0 = v at *
      go_enter Tryz.func120, Tryz.ntmps120
      go_wp2_with fail
      refine (K21.out).mono ?_
      rintro _ _ ⟨rfl, rfl⟩
      go_wp2_with fail
      refine (K22.out _).mono ?_
      rintro _ w1 ⟨rfl, b1⟩
      have B1 := Lib.hid b1
      clear b1
      go_wp2_with fail
      go_ret2
      exact ⟨by rw [HW.out, noN_eq]; rfl, B1.out⟩
    · have hzz : (bb s 0 ≠ 48) ∨ (bb s 0 = 48 ∧ s.size ≤ 1) := by omega
      have HO : Hid (∀ w, Gl w → ∃ v w2e, True) := Lib.hid fun w _ => ⟨0, w, trivial⟩
      have KF : Hid (∀ w1 : World, Gl w1 → Calls Tryz.prog 134 #[.string s, .int .i64 10, .int .i64 32] w1 fun e w2 => ∃ (n : Nat) (er : Value), e = .returned (.tuple #[.int .u64 (n : Int), er]) ∧ n ≤ 4294967295 ∧ Below w1.heap.size w1 w2 ∧ ((er = .nilIface ∧ refV s = .tuple #[.int .u32 (n : Int), .bool true]) ∨ ((∃ N, er = .iface 211 (.pointer (some ⟨N, 0, none⟩))) ∧ refV s = noN))) := Lib.hid (by
        intro w1 hg1
        by_cases hb : numN 10 s s.size ≤ 4294967295
        · rw [if_pos hb] at hpb
          refine (Tryz.strconv_ParseUint_10_at32_ok s (by omega) _ hpb w1).mono ?_
          rintro e w2 ⟨he, hw⟩
          refine ⟨_, _, he, hb, ?_, Or.inl ⟨rfl, HB.out rfl hz hb⟩⟩
          rcases hw with rfl | rfl
          · exact Below.refl _ _
          · exact bytesW_below _ _ _
        · rw [if_neg hb] at hpb
          obtain ⟨ev, m, g1, g2, g3, g4⟩ := hg1
          refine (Tryz.strconv_ParseUint_10_at32_range s hs hpb ev w1 g1 g2).mono ?_
          rintro e w2 ⟨N, he, h1, h2, h3⟩
          exact ⟨4294967295, _, he, by omega, h3, Or.inr ⟨⟨N, rfl⟩, HC.out rfl hb⟩⟩)
      clear hpb HO hz
      rcases hzz with hz | ⟨hz1, hz2⟩
      · have hb0 : ((bb s 0 : Int) == 48) = false := by simpa using (fun h3 => hz (by omega))
        generalize bb s 0 = v at *
        clear hz
        go_enter Tryz.func120, Tryz.ntmps120
        go_wp2_with fail
        refine (K21.out).mono ?_
        rintro _ _ ⟨rfl, rfl⟩
        go_wp2_with fail
        refine (K22.out _).mono ?_
        rintro _ w1 ⟨rfl, b1⟩
        have B1 := Lib.hid b1
        clear b1
        go_wp2_with fail
        refine (KF.out _ (HG.out.below B1.out)).mono ?_
        rintro _ w2 ⟨n, er, rfl, hn, b2, hor⟩
        have B2 := Lib.hid b2
        have hni : (n : Int) ≤ 4294967295 := by omega
        clear b2 hn
        rcases hor with ⟨rfl, hr⟩ | ⟨⟨N, rfl⟩, hr⟩
        · have HR := Lib.hid hr
          clear hr
          go_wp2_with fail
          go_ret2
          exact ⟨by rw [HR.out]; rfl, B1.out.trans (B2.out.mono B1.out.size)⟩
        · have HR := Lib.hid hr
          clear hr
          go_wp2_with fail
          go_ret2
          exact ⟨by rw [HR.out, noN_eq]; rfl, B1.out.trans (B2.out.mono B1.out.size)⟩
      · have hb0 : ((bb s 0 : Int) == 48) = true := by rw [hz1]; rfl
        have hsz : decide ((1 : Int) < (s.size : Int)) = false := by simp; omega
        generalize bb s 0 = v at *
        clear hz1
        go_enter Tryz.func120, Tryz.ntmps120
        go_wp2_with fail
        refine (K21.out).mono ?_
        rintro _ _ ⟨rfl, rfl⟩
        go_wp2_with fail
        refine (K22.out _).mono ?_
        rintro _ w1 ⟨rfl, b1⟩
        have B1 := Lib.hid b1
        clear b1
        go_wp2_with fail
        refine (KF.out _ (HG.out.below B1.out)).mono ?_
        rintro _ w2 ⟨n, er, rfl, hn, b2, hor⟩
        have B2 := Lib.hid b2
        have hni : (n : Int) ≤ 4294967295 := by omega
        clear b2 hn
        rcases hor with ⟨rfl, hr⟩ | ⟨⟨N, rfl⟩, hr⟩
        · have HR := Lib.hid hr
          clear hr
          go_wp2_with fail
          go_ret2
          exact ⟨by rw [HR.out]; rfl, B1.out.trans (B2.out.mono B1.out.size)⟩
        · have HR := Lib.hid hr
          clear hr
          go_wp2_with fail
          go_ret2
          exact ⟨by rw [HR.out, noN_eq]; rfl, B1.out.trans (B2.out.mono B1.out.size)⟩
/-- lines.Number -/
theorem c10 (s : ByteArray) (hs : s.size ≤ 281474976710656) (w : World) (hG : Gl w) :
    Calls Tryz.prog 120 #[.string s] w fun e w' => e = .returned (refV s) ∧ Below w.heap.size w w' := by
  obtain ⟨q, hq⟩ : ∃ q, px s = q := ⟨_, rfl⟩
  cases q
  · exact c10_dec s hq hs w hG
  · exact c10_hex s _ rfl hq (by have : (s.extract 2 s.size).size = s.size - 2 := by simp
                                 omega) (by omega) w
end Go.Proofs.YtapdiionikfgpaaGreatDoor.Li
namespace Go.Proofs.YtapdiionikfgpaaGreatDoor.Li
open Go.ChangeShapes Go.WideShapes Go.ChangeAt Go.RowKit
set_option linter.unusedVariables false
theorem fm_at {α : Type} (F G : α → Value) : ∀ (D : List α) (k : Nat) (h : k < D.length), (D.flatMap fun x => [F x, G x])[k * 2]? = some (F D[k]) ∧ (D.flatMap fun x => [F x, G x])[k * 2 + 1]? = some (G D[k])
  | [], k, h => absurd h (by simp)
  | a :: t, 0, h => by simp
  | a :: t, k + 1, h => by
    have ih := fm_at F G t k (by simpa using h)
    rw [List.flatMap_cons, show (k + 1) * 2 = k * 2 + 2 by omega]
    simpa using ih
/-- a row of texts, read -/
theorem own_ss {w : World} {B : Nat} {A : Option Addr} {n c : Nat} {l : List ByteArray} (h : w.ownsRow B 9 1 (.slice A n c) l.length (l.map Value.string)) (hs : ∀ y ∈ l, y.size ≤ 9223372036854775807) :
    n = l.length ∧ l.length ≤ c ∧ Ss w A l.length (fun j => (l[j]?).getD ⟨#[]⟩) := by
  have h0 := h
  obtain ⟨h1, h2⟩ := h
  rcases h2 with ⟨h2, h3⟩ | ⟨g, cap, cur, a, b, c', d, e⟩
  · simp at h2
    obtain ⟨rfl, rfl, rfl⟩ := h2
    refine ⟨h3.symm, by omega, fun hp => by omega⟩
  · simp at a
    obtain ⟨rfl, rfl, rfl⟩ := a
    refine ⟨rfl, d, fun _ => ⟨g, 0, rfl, (h0.lt g rfl).2, fun k hk => ?_⟩⟩
    have hc := h0.cells (g := g) rfl k (.string l[k]) (by rw [List.getElem?_map, List.getElem?_eq_getElem hk]; rfl)
    rw [addr_add] at hc
    simp only [Nat.zero_add, List.getElem?_eq_getElem hk, Option.getD_some]
    exact ⟨hc, hs _ (List.getElem_mem hk)⟩
/-- lines that read so -/
def Reads (g : Nat → Wl) (R : List (Nat × List ByteArray)) : Prop :=
  ∀ k, (h : k < R.length) → (g k).line = (R[k].1 : Int) ∧ (g k).n = R[k].2.length ∧ ∀ j, (g k).f j = (R[k].2[j]?).getD ⟨#[]⟩
def wlOf (x : Nat × Value × List ByteArray) : Wl := match x.2.1 with
  | .slice A _ c => ⟨x.1, A, x.2.2.length, c, fun j => (x.2.2[j]?).getD ⟨#[]⟩⟩
  | _ => ⟨0, none, 0, 0, fun _ => ⟨#[]⟩⟩
def smallR (R : List (Nat × List ByteArray)) : Prop := ∀ x ∈ R, x.2.length ≤ 9223372036854775807 ∧ ∀ y ∈ x.2, y.size ≤ 9223372036854775807
theorem rd_ws {w : World} {B : Nat} {A : Option Addr} {n c : Nat} {R : List (Nat × List ByteArray)} (h : RdOut B (.slice A n c) R w) (hs : smallR R) :
    n = R.length ∧ ∃ g : Nat → Wl, Ws w A R.length g ∧ Reads g R := by
  obtain ⟨D, h1, h2, h3⟩ := h
  have hlen : D.length = R.length := by rw [← h1, List.length_map]
  have hg : ∀ k (hk : k < R.length), ∃ A' n' c', (D[k]'(by omega)).2.1 = .slice A' n' c' ∧ (D[k]'(by omega)).1 = R[k].1 ∧ (D[k]'(by omega)).2.2 = R[k].2 := by
    intro k hk
    have hkD : k < D.length := by omega
    have e : R[k] = ((D[k]'hkD).1, (D[k]'hkD).2.2) := by
      have : R[k]? = some ((D[k]'hkD).1, (D[k]'hkD).2.2) := by rw [← h1, List.getElem?_map, List.getElem?_eq_getElem hkD]; rfl
      rw [List.getElem?_eq_getElem hk] at this
      exact Option.some.inj this
    obtain ⟨A', c', hv, _⟩ := own_slice (h3 _ (List.getElem_mem hkD))
    exact ⟨A', _, c', hv, by rw [e], by rw [e]⟩
  have hR : Reads (fun k => match D[k]? with | some x => wlOf x | none => ⟨0, none, 0, 0, fun _ => ⟨#[]⟩⟩) R := by
    intro k hk
    obtain ⟨A', n', c', hv, e1, e2⟩ := hg k hk
    have hkD : k < D.length := by omega
    simp only [List.getElem?_eq_getElem hkD]
    unfold wlOf
    rw [hv]
    simp only
    rw [e1, e2]
    exact ⟨rfl, rfl, fun j => rfl⟩
  have hn : n = R.length := by
    obtain ⟨q1, q2⟩ := h2
    rcases q2 with ⟨q2, q3⟩ | ⟨g, cap, cur, a, _⟩
    · simp at q2; omega
    · simp at a; omega
  refine ⟨hn, _, ?_, hR⟩
  intro h0
  have hA : ∃ g, A = some ⟨g, 0, none⟩ := by
    obtain ⟨q1, q2⟩ := h2
    rcases q2 with ⟨q2, q3⟩ | ⟨g, cap, cur, a, _⟩
    · simp at q2; omega
    · simp at a; exact ⟨g, a.1⟩
  obtain ⟨b, rfl⟩ := hA
  refine ⟨b, 0, rfl, (h2.lt b rfl).2, fun k hk => ?_⟩
  have hkD : k < D.length := by omega
  obtain ⟨A', n', c', hv, e1, e2⟩ := hg k hk
  obtain ⟨r1, r2, r3⟩ := hR k hk
  have hrow := h3 _ (List.getElem_mem hkD)
  rw [hv] at hrow
  have hmem := hs _ (List.getElem_mem hk)
  obtain ⟨s1, s2, s3⟩ := own_ss hrow (by rw [e2]; exact hmem.2)
  obtain ⟨f1, f2⟩ := fm_at (fun x : Nat × Value × List ByteArray => Value.int .i64 (x.1 : Int)) (fun x => x.2.1) D k hkD
  have c1 := h2.cells (g := b) rfl _ _ f1
  have c2 := h2.cells (g := b) rfl _ _ f2
  rw [addr_add] at c1 c2
  rw [Nat.zero_add]
  have hw : (match D[k]? with | some x => wlOf x | none => (⟨0, none, 0, 0, fun _ => ⟨#[]⟩⟩ : Wl)) = ⟨(D[k].1 : Int), A', D[k].2.2.length, c', fun j => (D[k].2.2[j]?).getD ⟨#[]⟩⟩ := by
    rw [List.getElem?_eq_getElem hkD]
    simp only
    unfold wlOf
    rw [hv]
  simp only [hw]
  refine ⟨c1, ?_, s3, ?_, s2⟩
  · rw [c2, hv, s1]
  · rw [e2]; exact hmem.1
theorem small_said : ∀ (l : List ByteArray) (j : Nat), (∀ x ∈ l, x.size ≤ 16777215) → smallR (saidB j l)
  | [], j, _ => fun x hx => by cases hx
  | y :: r, j, h => by
    have ih := small_said r (j + 1) (fun x hx => h x (by simp [hx]))
    rw [saidB]
    split
    · exact ih
    · intro x hx
      rcases List.mem_cons.1 hx with rfl | hx
      · refine ⟨?_, fun z hz => ?_⟩
        · have := wordsB_len y
          have := h y (by simp)
          simp only
          omega
        · have hz2 : z ∈ Lib.goFieldsP pB y := (List.takeWhile_sublist _).subset hz
          have := fields_sz pB y z hz2
          have := h y (by simp)
          omega
      · exact ih x hx
theorem mem_size {s : ByteArray} {x : ByteArray} (h : x ∈ lnsB s) (hm : ¬ manyP s) : x.size ≤ 100 := by
  by_cases hh : 100 < x.size
  · exact absurd (Or.inr ⟨x, h, hh⟩) hm
  · omega
theorem rdV_small (s : ByteArray) : smallR (rdV s) := by
  by_cases h : rdE s = 0
  · rw [rdV_ok s h]
    have hm : ¬ manyP s := fun hm => by
      unfold rdE at h
      rw [if_pos hm] at h
      split at h <;> cases h
    exact small_said _ _ (fun x hx => by have := mem_size hx hm; omega)
  · rw [rdV_no s h]
    exact fun x hx => by cases hx
theorem rdE_cases (s : ByteArray) : rdE s = 0 ∨ rdE s = 3 ∨ rdE s = 5 := by
  unfold rdE
  split
  · exact Or.inr (Or.inr rfl)
  · split
    · exact Or.inr (Or.inl rfl)
    · exact Or.inl rfl
/-- the call's answer, as lines -/
theorem post_ws {s : ByteArray} {w w' : World} {e : Ending} (h : RdPost s w e w') :
    ∃ A c g, e = .returned (.tuple #[.slice A (rdV s).length c, .int .i64 (rdE s : Int)]) ∧ Ws w' A (rdV s).length g ∧ Reads g (rdV s) ∧ RdOut w.heap.size (.slice A (rdV s).length c) (rdV s) w' ∧ Below w.heap.size w w' := by
  obtain ⟨A, n, c, he, hn, ho, hb⟩ := h
  subst hn
  obtain ⟨-, g, h1, h2⟩ := rd_ws ho (rdV_small s)
  exact ⟨A, c, g, he, h1, h2, ho, hb⟩
end Go.Proofs.YtapdiionikfgpaaGreatDoor.Li
