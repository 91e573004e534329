import Derived.Test.YtblfnjdbihhglaaGreatDoorLU
import Derived.Laws.Concat
namespace Go.Proofs.YtblfnjdbihhglaaGreatDoor.Li
open Go.ChangeShapes Go.WideShapes Go.ChangeAt Go.RowKit
set_option linter.unusedVariables false
theorem sfp_step (s : ByteArray) (k : Nat) (hk : k < s.size) (ha : bb s k < 128) (f : Nat) (st : Option Nat) (acc : List (Nat × Nat)) :
    Lib.spansFromP pB s (f + 1) k st acc = if pB (bb s k) then (match st with
      | some a => Lib.spansFromP pB s f (k + 1) none (acc ++ [(a, k)])
      | none => Lib.spansFromP pB s f (k + 1) none acc) else (match st with
      | some a => Lib.spansFromP pB s f (k + 1) (some a) acc
      | none => Lib.spansFromP pB s f (k + 1) (some k) acc) := by
  conv => lhs; unfold Lib.spansFromP
  rw [if_pos hk, dec_bb s k hk ha]
  cases st <;> rfl
/-- what was found stays ahead -/
theorem sfp_pre (s : ByteArray) : ∀ (f pos : Nat) (st : Option Nat) (acc : List (Nat × Nat)), ∃ r, (Lib.spansFromP pB s f pos st acc).1 = acc ++ r
  | 0, _, _, acc => ⟨[], by simp [Lib.spansFromP]⟩
  | f + 1, pos, st, acc => by
    unfold Lib.spansFromP
    split
    · split
      · split
        · obtain ⟨r, hr⟩ := sfp_pre s f (pos + (Utf8.decode s pos).2) none (acc ++ [(_, pos)])
          exact ⟨_, hr.trans (by rw [List.append_assoc])⟩
        · exact sfp_pre s f _ _ _
      · split
        · exact sfp_pre s f _ _ _
        · exact sfp_pre s f _ _ _
    · exact ⟨[], by simp⟩
theorem close_pre (s : ByteArray) (x : List (Nat × Nat) × Option Nat) : ∃ r, Lib.closeSpans s x = x.1 ++ r := by
  unfold Lib.closeSpans
  split
  · exact ⟨_, rfl⟩
  · exact ⟨[], by simp⟩
def pcs (s : ByteArray) (acc : List (Nat × Nat)) : List ByteArray := acc.map fun x => s.extract x.1 x.2
theorem pcs_snoc (s : ByteArray) (acc : List (Nat × Nat)) (a k : Nat) : pcs s (acc ++ [(a, k)]) = pcs s acc ++ [s.extract a k] := by simp [pcs]
/-- the state of the walk over a line -/
def At (s : ByteArray) (k : Nat) (st : Option Nat) (acc : List (Nat × Nat)) : Prop :=
  Lib.spansFromP pB s s.size 0 none [] = Lib.spansFromP pB s (s.size - k) k st acc ∧ ∀ x ∈ pcs s acc, (!decide (bb x 0 = 35)) = true
theorem at_word (s : ByteArray) (k : Nat) (hk : k < s.size) (ha : bb s k < 128) (hp : pB (bb s k) = false) (st : Option Nat) (acc : List (Nat × Nat)) (h : At s k st acc) : At s (k + 1) (some (st.getD k)) acc := by
  refine ⟨?_, h.2⟩
  rw [h.1, show s.size - k = (s.size - (k + 1)) + 1 by omega, sfp_step s k hk ha, hp]
  cases st <;> rfl
theorem at_none (s : ByteArray) (k : Nat) (hk : k < s.size) (ha : bb s k < 128) (hp : pB (bb s k) = true) (acc : List (Nat × Nat)) (h : At s k none acc) : At s (k + 1) none acc := by
  refine ⟨?_, h.2⟩
  rw [h.1, show s.size - k = (s.size - (k + 1)) + 1 by omega, sfp_step s k hk ha, hp]
  rfl
theorem at_some (s : ByteArray) (k a : Nat) (hk : k < s.size) (ha : bb s k < 128) (hp : pB (bb s k) = true) (acc : List (Nat × Nat)) (h : At s k (some a) acc) (hq : (!decide (bb (s.extract a k) 0 = 35)) = true) : At s (k + 1) none (acc ++ [(a, k)]) := by
  refine ⟨?_, ?_⟩
  · rw [h.1, show s.size - k = (s.size - (k + 1)) + 1 by omega, sfp_step s k hk ha, hp]
    rfl
  · intro x hx
    rw [pcs_snoc] at hx
    rcases List.mem_append.1 hx with hx | hx
    · exact h.2 x hx
    · obtain rfl : x = s.extract a k := by simpa using hx
      exact hq
theorem tw_app {α : Type} (p : α → Bool) (l r : List α) (x : α) (h1 : ∀ y ∈ l, p y = true) (h2 : p x = false) : (l ++ x :: r).takeWhile p = l := by
  induction l with
  | nil => simp [h2]
  | cons a t ih =>
    rw [List.cons_append, List.takeWhile_cons, h1 a (by simp)]
    simp only [if_true]
    rw [ih (fun y hy => h1 y (by simp [hy]))]
theorem tw_id {α : Type} (p : α → Bool) (l : List α) (h1 : ∀ y ∈ l, p y = true) : l.takeWhile p = l := tw_all p l (fun j hj => h1 _ (List.getElem_mem hj))
/-- a remark begins: at a blank -/
theorem at_stop (s : ByteArray) (k a : Nat) (hk : k < s.size) (ha : bb s k < 128) (hp : pB (bb s k) = true) (acc : List (Nat × Nat)) (h : At s k (some a) acc) (hq : (!decide (bb (s.extract a k) 0 = 35)) = false) : wordsB s = pcs s acc := by
  have e : Lib.spansFromP pB s s.size 0 none [] = Lib.spansFromP pB s (s.size - (k + 1)) (k + 1) none (acc ++ [(a, k)]) := by
    rw [h.1, show s.size - k = (s.size - (k + 1)) + 1 by omega, sfp_step s k hk ha, hp]
    rfl
  obtain ⟨r, hr⟩ := sfp_pre s (s.size - (k + 1)) (k + 1) none (acc ++ [(a, k)])
  obtain ⟨r2, hr2⟩ := close_pre s (Lib.spansFromP pB s s.size 0 none [])
  unfold wordsB Lib.goFieldsP Lib.spansOfP
  rw [hr2, e, hr, List.append_assoc, List.append_assoc, List.map_append]
  exact tw_app _ _ _ _ h.2 hq
theorem at_end (s : ByteArray) (acc : List (Nat × Nat)) (h : At s s.size none acc) : wordsB s = pcs s acc := by
  unfold wordsB Lib.goFieldsP Lib.spansOfP
  rw [h.1, Nat.sub_self]
  exact tw_id _ _ h.2
theorem at_end_stop (s : ByteArray) (a : Nat) (acc : List (Nat × Nat)) (h : At s s.size (some a) acc) (hq : (!decide (bb (s.extract a s.size) 0 = 35)) = false) : wordsB s = pcs s acc := by
  unfold wordsB Lib.goFieldsP Lib.spansOfP
  rw [h.1, Nat.sub_self]
  show (pcs s (acc ++ [(a, s.size)])).takeWhile _ = _
  rw [pcs_snoc]
  exact tw_app _ _ [] _ h.2 hq
theorem at_end_some (s : ByteArray) (a : Nat) (acc : List (Nat × Nat)) (h : At s s.size (some a) acc) (hq : (!decide (bb (s.extract a s.size) 0 = 35)) = true) : wordsB s = pcs s (acc ++ [(a, s.size)]) := by
  unfold wordsB Lib.goFieldsP Lib.spansOfP
  rw [h.1, Nat.sub_self]
  show (pcs s (acc ++ [(a, s.size)])).takeWhile _ = _
  refine tw_id _ _ (fun x hx => ?_)
  rw [pcs_snoc] at hx
  rcases List.mem_append.1 hx with hx | hx
  · exact h.2 x hx
  · obtain rfl : x = s.extract a s.size := by simpa using hx
    exact hq
theorem ext_snoc (s : ByteArray) (a k : Nat) (h1 : a ≤ k) (h2 : k < s.size) : s.extract a k ++ s.extract k (k + 1) = s.extract a (k + 1) := by
  rw [ByteArray.extract_append_extract]
  congr 1 <;> omega
theorem ext_self (s : ByteArray) (k : Nat) : s.extract k k = ⟨#[]⟩ := size0 (by rw [ByteArray.size_extract]; omega)
theorem bb_ext (s : ByteArray) (a k : Nat) (h1 : a < k) (h2 : k ≤ s.size) : bb (s.extract a k) 0 = bb s a := by
  have hz : (s.extract a k).size = k - a := by rw [ByteArray.size_extract]; omega
  rw [bb_eq _ 0 (by omega), bb_eq s a (by omega)]
  simp [ByteArray.getElem_extract]
end Go.Proofs.YtblfnjdbihhglaaGreatDoor.Li
