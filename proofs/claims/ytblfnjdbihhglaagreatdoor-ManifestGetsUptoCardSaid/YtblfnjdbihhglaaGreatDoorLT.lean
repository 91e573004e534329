import Derived.Test.YtblfnjdbihhglaaGreatDoorLS
import Derived.Test.YtblfnjdbihhglaaGreatDoorLQ
namespace Go.Proofs.YtblfnjdbihhglaaGreatDoor.Li
open Go.ChangeShapes Go.WideShapes Go.ChangeAt Go.RowKit
set_option linter.unusedVariables false
/-- the pieces between the ends -/
def piecesB (s : ByteArray) : List ByteArray := Lib.splitB ⟨#[10]⟩ 0 (Lib.countB s ⟨#[10]⟩) s
theorem piecesB_len (s : ByteArray) : (piecesB s).length = Lib.countB s ⟨#[10]⟩ + 1 := Lib.splitB_all ⟨#[10]⟩ (by decide) 0 _ s rfl
theorem piecesB_ne (s : ByteArray) : piecesB s ≠ [] := fun h => by have := piecesB_len s; rw [h] at this; simp at this
/-- the lines -/
def lnsB (s : ByteArray) : List ByteArray := if (piecesB s).getLast (piecesB_ne s) = ⟨#[]⟩ then (piecesB s).dropLast else piecesB s
theorem emp_iff (s : ByteArray) : (s.toList == []) = decide (s = ⟨#[]⟩) := by
  rw [ByteArray.toList_eq, Bool.eq_iff_iff]
  obtain ⟨⟨l⟩⟩ := s
  simp
theorem c18_core (s : ByteArray) (ls ps : List ByteArray) (n : Nat) (hn0 : n ≤ 16777216) (hne : ps ≠ []) (hL : ps.length = n + 1) (HD : Hid (ls = if ps.getLast hne = ⟨#[]⟩ then ps.dropLast else ps)) (w : World)
    (K : Hid (Calls Tryz.prog 64 #[.string s, .string ⟨#[10]⟩] w fun e w' => e = .returned (.slice (some ⟨w.heap.size, 0, none⟩) (n + 1) (n + 1)) ∧ w' = w.alloc (.cells (ps.map Value.string).toArray 9))) :
    Calls Tryz.prog 40 #[.string s] w fun e w' => ∃ c, e = .returned (.slice (some ⟨w.heap.size, 0, none⟩) ls.length c) ∧ Below w.heap.size w w' ∧ w.heap.size < w'.heap.size ∧ ls.length ≤ c ∧ c ≤ 16777217 ∧
      ∀ k, (h : k < ls.length) → w'.cell? ⟨w.heap.size, k, none⟩ = some (.string ls[k]) := by
  have hn : n < ps.length := by omega
  have hlast : ps.getLast hne = ps[n] := by rw [List.getLast_eq_getElem]; congr 1; omega
  have HC : Hid (∀ k, (h : k < ps.length) → (w.alloc (.cells (ps.map Value.string).toArray 9)).cell? ⟨w.heap.size, k, none⟩ = some (.string ps[k])) := Lib.hid fun k h => by
    rw [World.cell?_alloc_at _ _ _ _ (by simp)]
    simp
  have hcell := HC.out n hn
  have HW : Hid (w.heap.size < (w.alloc (.cells (ps.map Value.string).toArray 9)).heap.size ∧ Below w.heap.size w (w.alloc (.cells (ps.map Value.string).toArray 9))) := Lib.hid ⟨by simp, (Below.refl _ _).alloc (Nat.le_refl _) _⟩
  have HLL := Lib.hid hL
  rw [hlast] at HD
  generalize ps[n] = x at *
  clear hL hlast hn
  obtain ⟨W1, hW1⟩ : ∃ W1, w.alloc (.cells (ps.map Value.string).toArray 9) = W1 := ⟨_, rfl⟩
  rw [hW1] at HC HW K hcell
  clear hW1
  have hn2 := hn0
  by_cases hx : x = ⟨#[]⟩
  · have hb : (x.toList == []) = true := by rw [emp_iff, decide_eq_true hx]
    have HD2 : Hid (ls = ps.dropLast) := Lib.hid (by rw [HD.out, if_pos hx])
    clear hx
    go_enter Tryz.func40, Tryz.ntmps40
    go_wp2_with fail
    refine (K.out).mono ?_
    rintro _ w1 ⟨rfl, rfl⟩
    go_wp2_with fail
    go_ret
    have hl : ps.dropLast.length = n := by rw [List.length_dropLast, HLL.out]; omega
    rw [HD2.out]
    refine ⟨n + 1, ?_, HW.out.2, HW.out.1, by omega, by omega, fun k h => ?_⟩
    · rw [hl]; first | rfl | go_num
    · rw [HC.out k (by rw [HLL.out]; omega)]
      simp
  · have hb : (x.toList == []) = false := by rw [emp_iff, decide_eq_false hx]
    have HD2 : Hid (ls = ps) := Lib.hid (by rw [HD.out, if_neg hx])
    clear hx
    go_enter Tryz.func40, Tryz.ntmps40
    go_wp2_with fail
    refine (K.out).mono ?_
    rintro _ w1 ⟨rfl, rfl⟩
    go_wp2_with fail
    go_ret
    rw [HD2.out]
    refine ⟨n + 1, ?_, HW.out.2, HW.out.1, by rw [HLL.out]; omega, by omega, fun k h => HC.out k h⟩
    rw [HLL.out]; rfl
theorem c18 (s : ByteArray) (hs : s.size ≤ 16777216) (w : World) (hG : Gl w) :
    Calls Tryz.prog 40 #[.string s] w fun e w' => ∃ c, e = .returned (.slice (some ⟨w.heap.size, 0, none⟩) (lnsB s).length c) ∧ Below w.heap.size w w' ∧ w.heap.size < w'.heap.size ∧ (lnsB s).length ≤ c ∧ c ≤ 16777217 ∧
      ∀ k, (h : k < (lnsB s).length) → w'.cell? ⟨w.heap.size, k, none⟩ = some (.string (lnsB s)[k]) := by
  obtain ⟨ev, m, g1, g2, g3, g4⟩ := hG
  have hc : Lib.countB s ⟨#[10]⟩ ≤ s.size := Lib.countB_le ⟨#[10]⟩ (by decide) s.size s (Nat.le_refl _)
  exact c18_core s (lnsB s) (piecesB s) (Lib.countB s ⟨#[10]⟩) (by omega) (piecesB_ne s) (piecesB_len s) (Lib.hid rfl) w (Lib.hid (Tryz.strings_Split s ⟨#[10]⟩ m w (by omega) g3 (by decide)))
end Go.Proofs.YtblfnjdbihhglaaGreatDoor.Li
