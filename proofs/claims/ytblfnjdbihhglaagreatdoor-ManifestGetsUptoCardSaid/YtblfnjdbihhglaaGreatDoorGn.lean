import Derived.Test.YtblfnjdbihhglaaGreatDoorLW
import Derived.Lib.FieldsP
import Derived.Lib.SplitLaws
import Derived.Lib.IndexMore
namespace Go.Proofs.YtblfnjdbihhglaaGreatDoor.Li
set_option linter.unusedVariables false
/-- a blank or a tab, as a byte -/
def bl (b : UInt8) : Bool := b == 32 || b == 9
/-- the fields of a list of bytes, the one at hand first -/
def wrd : List UInt8 → List UInt8 → List (List UInt8)
  | cur, [] => if cur = [] then [] else [cur]
  | cur, b :: t => if bl b then (if cur = [] then wrd [] t else cur :: wrd [] t) else wrd (cur ++ [b]) t
/-- begins no remark -/
def nh (l : List UInt8) : Bool := !(l.head? == some 35)
def mk (l : List UInt8) : ByteArray := ⟨l.toArray⟩
theorem mk_list (s : ByteArray) : mk s.data.toList = s := by unfold mk; simp
theorem list_mk (l : List UInt8) : (mk l).data.toList = l := by unfold mk; simp
theorem mk_nil_iff (l : List UInt8) : mk l = ⟨#[]⟩ ↔ l = [] := by
  unfold mk
  constructor
  · intro h
    have := congrArg (fun x : ByteArray => x.data.toList) h
    simpa using this
  · rintro rfl; rfl
def wordsL (l : List UInt8) : List (List UInt8) := (wrd [] l).takeWhile nh
/-- the lines of a list of bytes, the one at hand first -/
def lnL : List UInt8 → List UInt8 → List (List UInt8)
  | cur, [] => if cur = [] then [] else [cur]
  | cur, b :: t => if b = 10 then cur :: lnL [] t else lnL (cur ++ [b]) t
def pcL : List UInt8 → List UInt8 → List (List UInt8)
  | cur, [] => [cur]
  | cur, b :: t => if b = 10 then cur :: pcL [] t else pcL (cur ++ [b]) t
theorem pcL_ne : ∀ (l cur : List UInt8), pcL cur l ≠ []
  | [], _ => by simp [pcL]
  | b :: t, cur => by
    unfold pcL
    split
    · simp
    · exact pcL_ne t _
theorem pcL_none : ∀ (l cur : List UInt8), (∀ x ∈ l, x ≠ 10) → pcL cur l = [cur ++ l]
  | [], cur, _ => by simp [pcL]
  | b :: t, cur, h => by
    rw [pcL, if_neg (h b (by simp)), pcL_none t _ (fun x hx => h x (by simp [hx]))]
    simp
theorem pcL_hit : ∀ (a cur b : List UInt8), (∀ x ∈ a, x ≠ 10) → pcL cur (a ++ 10 :: b) = (cur ++ a) :: pcL [] b
  | [], cur, b, _ => by simp [pcL]
  | c :: t, cur, b, h => by
    rw [List.cons_append, pcL, if_neg (h c (by simp)), pcL_hit t _ b (fun x hx => h x (by simp [hx]))]
    simp
theorem lnL_pc : ∀ (l cur : List UInt8), lnL cur l = if (pcL cur l).getLast (pcL_ne l cur) = [] then (pcL cur l).dropLast else pcL cur l
  | [], cur => by
    simp only [lnL, pcL, List.getLast_singleton, List.dropLast_singleton]
  | b :: t, cur => by
    by_cases h : b = 10
    · have ih := lnL_pc t []
      have e : pcL cur (b :: t) = cur :: pcL [] t := by rw [pcL, if_pos h]
      simp only [e]
      rw [lnL, if_pos h, ih, List.getLast_cons (pcL_ne t []), List.dropLast_cons_of_ne_nil (pcL_ne t [])]
      split <;> rfl
    · have ih := lnL_pc t (cur ++ [b])
      have e : pcL cur (b :: t) = pcL (cur ++ [b]) t := by rw [pcL, if_neg h]
      simp only [e]
      rw [lnL, if_neg h, ih]
theorem occ10 (l : List UInt8) (j : Nat) : Lib.occAt l [10] j = true ↔ l[j]? = some 10 := by
  unfold Lib.occAt
  rw [← List.head?_drop]
  cases l.drop j with
  | nil => simp
  | cons a t => simp; exact eq_comm
theorem occ10_no (l : List UInt8) (j : Nat) (h : Lib.occAt l [10] j = false) : l[j]? ≠ some 10 := fun hh => by
  rw [(occ10 l j).mpr hh] at h; cases h
theorem split_pc : ∀ (n : Nat) (l : List UInt8), l.length ≤ n → Lib.splitK [10] 0 (Lib.count l [10]) l = pcL [] l := by
  intro n
  induction n with
  | zero =>
    intro l hl
    have : l = [] := List.length_eq_zero_iff.mp (by omega)
    subst this
    rfl
  | succ n ih =>
    intro l hl
    rcases Lib.index_spec l [10] with ⟨h1, h2⟩ | ⟨i, h1, h2, h3, h4⟩
    · have hno : ∀ x ∈ l, x ≠ 10 := by
        intro x hx h10
        obtain ⟨j, hj, rfl⟩ := List.getElem_of_mem hx
        have := occ10_no l j (h2 j (by omega))
        rw [List.getElem?_eq_getElem hj, h10] at this
        exact this rfl
      rw [Lib.count_miss h1, pcL_none l [] hno]
      rfl
    · have hi : l[i]? = some 10 := (occ10 l i).mp h3
      obtain ⟨hil, hie⟩ := List.getElem?_eq_some_iff.mp hi
      have hno : ∀ x ∈ l.take i, x ≠ 10 := by
        intro x hx h10
        obtain ⟨j, hj, rfl⟩ := List.getElem_of_mem hx
        have hj2 : j < i := by have := hj; simp at this; omega
        have := occ10_no l j (h4 j hj2)
        rw [List.getElem?_eq_getElem (by omega)] at this
        rw [List.getElem_take] at h10
        rw [h10] at this
        exact this rfl
      have hl2 : l = l.take i ++ 10 :: l.drop (i + 1) := by
        conv => lhs; rw [← List.take_append_drop i l]
        rw [List.drop_eq_getElem_cons hil, hie]
      have hc := Lib.count_hit (sub := [10]) (by decide) h1
      rw [hc, Nat.add_comm 1]
      have hm : ¬ (Lib.index l [10] == -1) = true := fun e => by have := beq_iff_eq.1 e; omega
      have e : (Lib.index l [10]).toNat = i := by omega
      rw [Lib.splitK, if_neg hm, e]
      have ihh := ih (l.drop (i + 1)) (by rw [List.length_drop]; omega)
      show l.take (i + 0) :: Lib.splitK [10] 0 (Lib.count (l.drop (i + 1)) [10]) (l.drop (i + 1)) = _
      rw [ihh]
      conv => rhs; rw [hl2]
      rw [pcL_hit _ _ _ hno]
      rfl
/-- lines that end -/
theorem lnL_hit : ∀ (a cur b : List UInt8), (∀ x ∈ a, x ≠ 10) → lnL cur (a ++ 10 :: b) = (cur ++ a) :: lnL [] b
  | [], cur, b, _ => by simp [lnL]
  | c :: t, cur, b, h => by
    rw [List.cons_append, lnL, if_neg (h c (by simp)), lnL_hit t _ b (fun x hx => h x (by simp [hx]))]
    simp
theorem lnL_none : ∀ (l cur : List UInt8), (∀ x ∈ l, x ≠ 10) → lnL cur l = if cur ++ l = [] then [] else [cur ++ l]
  | [], cur, _ => by simp [lnL]
  | b :: t, cur, h => by
    rw [lnL, if_neg (h b (by simp)), lnL_none t _ (fun x hx => h x (by simp [hx]))]
    simp
/-- words that end -/
theorem wrd_word : ∀ (a cur b : List UInt8), (∀ x ∈ a, bl x = false) → wrd cur (a ++ b) = wrd (cur ++ a) b
  | [], cur, b, _ => by simp
  | c :: t, cur, b, h => by
    rw [List.cons_append, wrd, h c (by simp)]
    simp only [Bool.false_eq_true, if_false]
    rw [wrd_word t _ b (fun x hx => h x (by simp [hx]))]
    simp
end Go.Proofs.YtblfnjdbihhglaaGreatDoor.Li
namespace Go.Proofs.YtblfnjdbihhglaaGreatDoor.Li
open Go.ChangeShapes Go.WideShapes Go.ChangeAt Go.RowKit
set_option linter.unusedVariables false
def asc (s : ByteArray) : Prop := ∀ i, i < s.size → bb s i < 128
theorem list_len (s : ByteArray) : s.data.toList.length = s.size := rfl
theorem bb_list (s : ByteArray) (k : Nat) (h : k < s.size) : (s.data.toList[k]'h).toNat = bb s k := by rw [bb_eq s k h]; rfl
theorem drop_at (s : ByteArray) (k : Nat) (h : k < s.size) : s.data.toList.drop k = s.data.toList[k]'h :: s.data.toList.drop (k + 1) := List.drop_eq_getElem_cons h
theorem bl_pB (b : UInt8) : bl b = pB b.toNat := by
  unfold bl pB
  rw [Bool.eq_iff_iff]
  simp
  constructor
  · rintro (h | h)
    · left; rw [h]; rfl
    · right; rw [h]; rfl
  · rintro (h | h)
    · left; exact UInt8.toNat_inj.1 h
    · right; exact UInt8.toNat_inj.1 h
theorem bl_at (s : ByteArray) (k : Nat) (h : k < s.size) : bl (s.data.toList[k]'h) = pB (bb s k) := by rw [bl_pB, bb_list s k h]
theorem ext_list (s : ByteArray) (a k : Nat) : (s.extract a k).data.toList = (s.data.toList.take k).drop a := by
  rw [Lib.extract_data]
  simp [List.drop_take]
theorem ext_list_snoc (s : ByteArray) (a k : Nat) (h1 : a ≤ k) (h2 : k < s.size) : (s.extract a (k + 1)).data.toList = (s.extract a k).data.toList ++ [s.data.toList[k]'h2] := by
  rw [ext_list, ext_list, List.take_succ_eq_append_getElem (by exact h2), List.drop_append_of_le_length (by rw [List.length_take, list_len]; omega)]
theorem ext_list_nil (s : ByteArray) (k : Nat) : (s.extract k k).data.toList = [] := by rw [ext_self]
theorem ext_list_ne (s : ByteArray) (a k : Nat) (h1 : a < k) (h2 : k ≤ s.size) : (s.extract a k).data.toList ≠ [] := fun h => by
  have : (s.extract a k).size = 0 := by rw [← list_len, h]; rfl
  rw [ByteArray.size_extract] at this
  omega
theorem nh_bb (t : ByteArray) : nh t.data.toList = !decide (bb t 0 = 35) := by
  unfold nh
  congr 1
  by_cases h : 0 < t.size
  · rw [List.head?_eq_getElem?, List.getElem?_eq_getElem (by exact h), Bool.eq_iff_iff]
    have e := bb_list t 0 h
    have e2 : (some (t.data.toList[0]'h) == some 35) = true ↔ t.data.toList[0]'h = 35 := by simp
    refine e2.trans ?_
    rw [decide_eq_true_iff, ← e]
    constructor
    · intro hh; rw [hh]; rfl
    · intro hh; exact UInt8.toNat_inj.1 hh
  · have : t.data.toList = [] := List.length_eq_zero_iff.mp (by rw [list_len]; omega)
    rw [this]
    have h0 : bb t 0 = 0 := by unfold bb; rw [dif_neg h]
    rw [h0]
    rfl
theorem nh_mk (l : List UInt8) : nh l = !decide (bb (mk l) 0 = 35) := by rw [← nh_bb, list_mk]
/-- what is still to come of a line, a word begun at a -/
def rem (s : ByteArray) (a k : Nat) : List ByteArray := ((wrd (s.extract a k).data.toList (s.data.toList.drop k)).takeWhile nh).map mk
theorem rem_word (s : ByteArray) (a k : Nat) (h1 : a ≤ k) (h : k < s.size) (hp : pB (bb s k) = false) : rem s a k = rem s a (k + 1) := by
  unfold rem
  rw [drop_at s k h, wrd, bl_at s k h, hp, ext_list_snoc s a k h1 h]
  rfl
theorem rem_skip (s : ByteArray) (k : Nat) (h : k < s.size) (hp : pB (bb s k) = true) : rem s k k = rem s (k + 1) (k + 1) := by
  unfold rem
  rw [drop_at s k h, wrd, bl_at s k h, hp, ext_list_nil, ext_list_nil]
  rfl
theorem rem_put (s : ByteArray) (a k : Nat) (h1 : a < k) (h : k < s.size) (hp : pB (bb s k) = true) (hq : bb s a ≠ 35) : rem s a k = s.extract a k :: rem s (k + 1) (k + 1) := by
  unfold rem
  rw [drop_at s k h, wrd, bl_at s k h, hp, ext_list_nil, if_pos rfl, if_neg (ext_list_ne s a k h1 (by omega)), List.takeWhile_cons, nh_bb, bb_ext s a k h1 (by omega), decide_eq_false hq]
  simp only [Bool.not_false, if_true, List.map_cons, mk_list]
theorem rem_stop (s : ByteArray) (a k : Nat) (h1 : a < k) (h : k < s.size) (hp : pB (bb s k) = true) (hq : bb s a = 35) : rem s a k = [] := by
  unfold rem
  rw [drop_at s k h, wrd, bl_at s k h, hp, if_pos rfl, if_neg (ext_list_ne s a k h1 (by omega)), List.takeWhile_cons, nh_bb, bb_ext s a k h1 (by omega), decide_eq_true hq]
  rfl
theorem drop_end (s : ByteArray) : s.data.toList.drop s.size = [] := List.drop_eq_nil_of_le (Nat.le_refl _)
theorem rem_end (s : ByteArray) : rem s s.size s.size = [] := by
  unfold rem
  rw [drop_end, ext_list_nil]
  rfl
theorem rem_end_put (s : ByteArray) (a : Nat) (h1 : a < s.size) (hq : bb s a ≠ 35) : rem s a s.size = [s.extract a s.size] := by
  unfold rem
  rw [drop_end, wrd, if_neg (ext_list_ne s a _ h1 (Nat.le_refl _)), List.takeWhile_cons, nh_bb, bb_ext s a _ h1 (Nat.le_refl _), decide_eq_false hq]
  simp only [Bool.not_false, if_true, List.takeWhile_nil, List.map_cons, List.map_nil, mk_list]
theorem rem_end_stop (s : ByteArray) (a : Nat) (h1 : a < s.size) (hq : bb s a = 35) : rem s a s.size = [] := by
  unfold rem
  rw [drop_end, wrd, if_neg (ext_list_ne s a _ h1 (Nat.le_refl _)), List.takeWhile_cons, nh_bb, bb_ext s a _ h1 (Nat.le_refl _), decide_eq_true hq]
  rfl
/-- the fields by lists -/
theorem spans_wrd (s : ByteArray) (ha : asc s) : ∀ (f k : Nat) (st : Option Nat) (acc : List (Nat × Nat)), k + f = s.size → (∀ a, st = some a → a < k) →
    pcs s (Lib.closeSpans s (Lib.spansFromP pB s f k st acc)) = pcs s acc ++ (wrd (match st with | none => [] | some a => (s.extract a k).data.toList) (s.data.toList.drop k)).map mk := by
  intro f
  induction f with
  | zero =>
    intro k st acc hk hst
    obtain rfl : k = s.size := by omega
    rw [drop_end]
    cases st with
    | none => simp [Lib.spansFromP, Lib.closeSpans, wrd]
    | some a =>
      have := hst a rfl
      simp only [Lib.spansFromP, Lib.closeSpans]
      rw [pcs_snoc, wrd, if_neg (ext_list_ne s a _ this (Nat.le_refl _))]
      simp only [List.map_cons, List.map_nil, mk_list]
  | succ f ih =>
    intro k st acc hk hst
    have hlt : k < s.size := by omega
    rw [sfp_step s k hlt (ha k hlt), drop_at s k hlt]
    conv => rhs; unfold wrd
    rw [bl_at s k hlt]
    cases hp : pB (bb s k) with
    | true =>
      cases st with
      | none =>
        simp only [if_true]
        rw [ih (k + 1) none acc (by omega) (fun a h => by cases h)]
      | some a =>
        have hak := hst a rfl
        simp only [if_true]
        rw [ih (k + 1) none _ (by omega) (fun a h => by cases h), pcs_snoc, if_neg (ext_list_ne s a k hak (by omega))]
        simp only [List.map_cons, mk_list, List.append_assoc, List.singleton_append]
    | false =>
      cases st with
      | none =>
        simp only [Bool.false_eq_true, if_false]
        rw [ih (k + 1) (some k) acc (by omega) (fun a h => by cases h; omega)]
        simp only
        rw [ext_list_snoc s k k (Nat.le_refl _) hlt, ext_list_nil]
      | some a =>
        have hak := hst a rfl
        simp only [Bool.false_eq_true, if_false]
        rw [ih (k + 1) (some a) acc (by omega) (fun b h => by cases h; omega)]
        simp only
        rw [ext_list_snoc s a k (by omega) hlt]
theorem words_list (s : ByteArray) (ha : asc s) : wordsB s = (wordsL s.data.toList).map mk := by
  unfold wordsB Lib.goFieldsP Lib.spansOfP wordsL
  have h := spans_wrd s ha s.size 0 none [] (by omega) (fun a h => by cases h)
  simp only [List.drop_zero] at h
  rw [show (List.map (fun x => s.extract x.fst x.snd) (Lib.closeSpans s (Lib.spansFromP pB s s.size 0 none []))) = pcs s (Lib.closeSpans s (Lib.spansFromP pB s s.size 0 none [])) from rfl, h]
  rw [show pcs s [] = [] from rfl, List.nil_append, List.takeWhile_map]
  congr 2
  funext l
  exact (nh_mk l).symm
theorem words_rem (s : ByteArray) (ha : asc s) : wordsB s = rem s 0 0 := by
  rw [words_list s ha]
  unfold rem wordsL
  rw [ext_list_nil, List.drop_zero]
/-- the lines by lists -/
theorem pieces_list (s : ByteArray) : piecesB s = (pcL [] s.data.toList).map mk := by
  have h := Lib.splitB_data ⟨#[10]⟩ 0 (Lib.countB s ⟨#[10]⟩) s
  rw [show (⟨#[10]⟩ : ByteArray).data.toList = [10] from rfl, show Lib.countB s ⟨#[10]⟩ = Lib.count s.data.toList [10] from rfl, split_pc _ _ (Nat.le_refl _)] at h
  have h2 := congrArg (List.map mk) h
  rw [List.map_map] at h2
  rw [← h2]
  show piecesB s = _
  unfold piecesB
  conv => lhs; rw [← List.map_id (Lib.splitB _ _ _ _)]
  congr 1
theorem lns_list (s : ByteArray) : lnsB s = (lnL [] s.data.toList).map mk := by
  unfold lnsB
  rw [lnL_pc]
  have hp := pieces_list s
  have hg : (piecesB s).getLast (piecesB_ne s) = mk ((pcL [] s.data.toList).getLast (pcL_ne _ _)) := by
    simp only [hp]
    rw [List.getLast_map]
  rw [hg]
  by_cases h : (pcL [] s.data.toList).getLast (pcL_ne _ _) = []
  · rw [if_pos h, if_pos ((mk_nil_iff _).mpr h), hp, List.map_dropLast]
  · rw [if_neg h, if_neg (fun hh => h ((mk_nil_iff _).mp hh)), hp]
/-- what is still to come of a text, a line begun at a -/
def remL (s : ByteArray) (a k : Nat) : List ByteArray := (lnL (s.extract a k).data.toList (s.data.toList.drop k)).map mk
theorem remL_in (s : ByteArray) (a k : Nat) (h1 : a ≤ k) (h : k < s.size) (hp : bb s k ≠ 10) : remL s a k = remL s a (k + 1) := by
  unfold remL
  rw [drop_at s k h, lnL, if_neg (fun hh => hp (by rw [← bb_list s k h, hh]; rfl)), ext_list_snoc s a k h1 h]
theorem remL_put (s : ByteArray) (a k : Nat) (h : k < s.size) (hp : bb s k = 10) : remL s a k = s.extract a k :: remL s (k + 1) (k + 1) := by
  unfold remL
  rw [drop_at s k h, lnL, if_pos (UInt8.toNat_inj.1 (by rw [bb_list s k h, hp]; rfl)), ext_list_nil]
  simp only [List.map_cons, mk_list]
theorem remL_end (s : ByteArray) : remL s s.size s.size = [] := by
  unfold remL
  rw [drop_end, ext_list_nil]
  rfl
theorem remL_end_put (s : ByteArray) (a : Nat) (h1 : a < s.size) : remL s a s.size = [s.extract a s.size] := by
  unfold remL
  rw [drop_end, lnL, if_neg (ext_list_ne s a _ h1 (Nat.le_refl _))]
  simp only [List.map_cons, List.map_nil, mk_list]
theorem lns_rem (s : ByteArray) : lnsB s = remL s 0 0 := by
  rw [lns_list s]
  unfold remL
  rw [ext_list_nil, List.drop_zero]
end Go.Proofs.YtblfnjdbihhglaaGreatDoor.Li
