import Derived.Test.YtblfnjdbihhglaaGreatDoorLD
import Derived.Test.YtblfnjdbihhglaaGreatDoorLSh
namespace Go.Proofs.YtblfnjdbihhglaaGreatDoor.Li
open Go.ChangeShapes Go.WideShapes Go.ChangeAt Go.RowKit
set_option linter.unusedVariables false
theorem join_snoc (l : List (List UInt8)) (y sep : List UInt8) : Lib.join (l ++ [y]) sep = (if l = [] then y else Lib.join l sep ++ sep ++ y) := by
  cases l with
  | nil => simp [Lib.join_one]
  | cons x r => simp [Lib.join_cons, Lib.joinTail]
theorem jn_list (x : Wl) : ∀ n, (jn x n).data.toList = Lib.join (((List.range n).map x.f).map (·.data.toList)) [32] := by
  intro n
  induction n with
  | zero => rfl
  | succ k ih =>
    rw [List.range_succ, List.map_append, List.map_append, List.map_cons, List.map_nil, List.map_cons, List.map_nil, join_snoc, ← ih]
    by_cases h : k = 0
    · subst h; simp [jn, ByteArray.data_append]
    · have h2 : ¬ (List.map (fun x => x.data.toList) (List.map x.f (List.range k)) = []) := by simpa using h
      rw [if_neg h2, jn, if_neg h]
      simp [ByteArray.data_append]
theorem c26 (x : Wl) (w : World) (h : Ss w x.A x.n x.f) (hn : 0 < x.n) (hc : x.n ≤ x.c) (hN : x.n ≤ 16777216) (hs : (jn x x.n).size ≤ 16777216) :
    Calls Tryz.prog 33 #[.slice x.A x.n x.c, .string ⟨#[32]⟩] w fun e w' => e = .returned (.string (jn x x.n)) ∧ Below w.heap.size w w' := by
  obtain ⟨b, o, e, hl, hcell⟩ := h hn
  have hlen : ((List.range x.n).map x.f).length = x.n := by simp
  have hj := jn_list x x.n
  have hsz : (Lib.join (((List.range x.n).map x.f).map (·.data.toList)) [32]).length = (jn x x.n).size := by rw [← hj]; rfl
  have K := Tryz.strings_Join b o x.c ((List.range x.n).map x.f) ⟨#[32]⟩ w (fun j y hy => by
    obtain ⟨hj1, hj2⟩ := List.getElem?_eq_some_iff.mp hy
    rw [hlen] at hj1
    have : y = x.f j := by rw [← hj2]; simp
    rw [this]; exact (hcell j hj1).1) hl (by rw [hlen]; omega) (by rw [hlen]; exact hc) (by
      show (Lib.join (((List.range x.n).map x.f).map (·.data.toList)) [32]).length ≤ _
      rw [hsz]; omega)
  rw [hlen] at K
  rw [e]
  refine K.mono ?_
  rintro e' w' ⟨rfl, hb⟩
  refine ⟨?_, hb⟩
  have : (⟨(Lib.join (((List.range x.n).map x.f).map (·.data.toList)) [32]).toArray⟩ : ByteArray) = jn x x.n := by
    rw [← hj]
  rw [← this]
end Go.Proofs.YtblfnjdbihhglaaGreatDoor.Li
