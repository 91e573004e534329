import Derived.Sort.OwnSorted
import Derived.Test.YtoiiiobamanclaaD
namespace Go.Proofs.Ytoiiiobamanclaa
open Go.ChangeShapes Go.WideShapes Go.ChangeAt Go.RowKit Go.Shelf Go.Sort
set_option linter.unusedVariables false
theorem Nm.len (n : Nm) : n.c.length = 12 := rfl
theorem fm_len : ∀ L : List Nm, (L.flatMap Nm.c).length = L.length * 12
  | [] => rfl
  | n :: L => by rw [List.flatMap_cons, List.length_append, fm_len L, Nm.len, List.length_cons]; omega
theorem fm_get : ∀ (L : List Nm) (k j : Nat) (n : Nm), L[k]? = some n → j < 12 → (L.flatMap Nm.c)[k * 12 + j]? = n.c[j]?
  | [], k, j, n, h, _ => by cases h
  | m :: L, 0, j, n, h, hj => by
    rw [List.getElem?_cons_zero] at h
    cases h
    rw [List.flatMap_cons, Nat.zero_mul, Nat.zero_add, List.getElem?_append_left (by rw [Nm.len]; exact hj)]
  | m :: L, k + 1, j, n, h, hj => by
    rw [List.getElem?_cons_succ] at h
    rw [List.flatMap_cons, List.getElem?_append_right (by rw [Nm.len]; omega), Nm.len, ← fm_get L k j n h hj]
    congr 1
    omega
theorem fm_of {L : List Nm} {X : List Value} (hl : X.length = L.length * 12) (h : ∀ k j n, L[k]? = some n → j < 12 → X[k * 12 + j]? = n.c[j]?) : X = L.flatMap Nm.c := by
  apply List.ext_getElem?
  intro t
  by_cases ht : t < L.length * 12
  · have hk : t / 12 < L.length := by omega
    have h1 := h (t / 12) (t % 12) L[t / 12] (List.getElem?_eq_getElem hk) (by omega)
    have h2 := fm_get L (t / 12) (t % 12) L[t / 12] (List.getElem?_eq_getElem hk) (by omega)
    rw [show t / 12 * 12 + t % 12 = t by omega] at h1 h2
    rw [h1, h2]
  · rw [List.getElem?_eq_none (by omega), List.getElem?_eq_none (by rw [fm_len]; omega)]
/-- names of the call's own -/
def NmR (w : World) (base : Nat) (v : Value) (L : List Nm) : Prop := w.ownsRow base 57 12 v L.length (L.flatMap Nm.c)
/-- they are laid open -/
theorem NmR.form {w : World} {base : Nat} {v : Value} {L : List Nm} (h : NmR w base v L) : (v = .slice none 0 0 ∧ L = []) ∨ ∃ g cap cur, v = .slice (some ⟨g, 0, none⟩) L.length cap ∧ base ≤ g ∧ Blk w g 57 cur ∧ L.length ≤ cap ∧ cap ≤ maxLen ∧ cur.size = cap * 12 ∧ ∀ k n, L[k]? = some n → At cur (k * 12) n.c := by
  obtain ⟨_, h⟩ := h
  rcases h with ⟨rfl, h0⟩ | ⟨g, cap, cur, rfl, hb, hg, hn, hm, hs, ht⟩
  · exact .inl ⟨rfl, List.length_eq_zero_iff.1 h0⟩
  · refine .inr ⟨g, cap, cur, rfl, hb, hg, hn, hm, hs, fun k n hk => ?_⟩
    have hkl := (List.getElem?_eq_some_iff.1 hk).1
    have hle : k * 12 + 12 ≤ cap * 12 := by omega
    refine ⟨by rw [Nm.len, hs]; omega, fun j u hu => ?_⟩
    have hj : j < 12 := by have := (List.getElem?_eq_some_iff.1 hu).1; rw [Nm.len] at this; exact this
    have h1 := fm_get L k j n hk hj
    rw [← ht, List.getElem?_take_of_lt (by omega), Array.getElem?_toList] at h1
    rw [h1]
    exact hu
theorem NmR.mk {w : World} {base g cap : Nat} {cur : Array Value} {L : List Nm} (hb : base ≤ g) (hg : Blk w g 57 cur) (hn : L.length ≤ cap) (hm : cap ≤ maxLen) (hs : cur.size = cap * 12) (ht : ∀ k n, L[k]? = some n → At cur (k * 12) n.c) : NmR w base (.slice (some ⟨g, 0, none⟩) L.length cap) L := by
  refine ⟨fm_len L, .inr ⟨g, cap, cur, rfl, hb, hg, hn, hm, hs, fm_of ?_ ?_⟩⟩
  · rw [List.length_take]
    have h1 : cur.toList.length = cap * 12 := hs
    omega
  · intro k j n hk hj
    have hkl := (List.getElem?_eq_some_iff.1 hk).1
    rw [List.getElem?_take_of_lt (by omega), Array.getElem?_toList]
    have := (ht k n hk).2 j n.c[j] (List.getElem?_eq_getElem (by rw [Nm.len]; exact hj))
    rw [this]
    exact (List.getElem?_eq_getElem (by rw [Nm.len]; exact hj)).symm
/-- one of them is another -/
theorem NmR.set {w w' : World} {base g cap : Nat} {cur : Array Value} {L : List Nm} (hb : base ≤ g) (hn : L.length ≤ cap) (hm : cap ≤ maxLen) (hs : cur.size = cap * 12) (ht : ∀ k n, L[k]? = some n → At cur (k * 12) n.c) (k : Nat) (n : Nm) (hk : k < L.length) (hg : Blk w' g 57 (putA cur (k * 12) n.c)) : NmR w' base (.slice (some ⟨g, 0, none⟩) L.length cap) (L.set k n) := by
  have hle : k * 12 + n.c.length ≤ cur.size := by rw [Nm.len, hs]; omega
  have := NmR.mk (L := L.set k n) hb hg (by rw [List.length_set]; exact hn) hm (by rw [putA_size hle]; exact hs) ?_
  · rwa [List.length_set] at this
  · intro i m hi
    by_cases h : k = i
    · subst h
      rw [List.getElem?_set_self hk] at hi
      cases hi
      exact putA_at hle
    · rw [List.getElem?_set_ne h] at hi
      obtain ⟨a, b⟩ := ht i m hi
      refine ⟨by rw [putA_size hle]; exact a, fun j u hu => ?_⟩
      have hj : j < 12 := by have := (List.getElem?_eq_some_iff.1 hu).1; rw [Nm.len] at this; exact this
      rw [putA_get hle, if_neg (by rw [Nm.len]; omega)]
      exact b j u hu
/-- behind the sort -/
theorem NmR.sort {w : World} {base g cap : Nat} {cur : Array Value} {L : List Nm} (hb : base ≤ g) (hg : Blk w g 57 cur) (hn : L.length ≤ cap) (hm : cap ≤ maxLen) (hs : cur.size = cap * 12) (d' : Array Nm) (hd : d'.size = L.length) (n : Nat) (os : Array Obj) :
    NmR (sortWorldK Nm.c 12 w g 0 n d' os) base (.slice (some ⟨g, 0, none⟩) L.length cap) d'.toList ∧ w.grownBy (sortWorldK Nm.c 12 w g 0 n d' os) (some g) := by
  have hlt := hg.lt
  have hB : Blk (sortWorldK Nm.c 12 w g 0 n d' os) g 57 (putCells id 0 (flatK Nm.c 12 d') cur) := by
    unfold Blk sortWorldK putRowK
    rw [heap_grow_old _ _ (by simpa using hlt)]
    unfold Blk at hg
    simp [putRow, mapBlock, Sort.ahead, Array.getElem?_modify, hg, onCells]
  refine ⟨?_, ⟨rfl, rfl, rfl, by unfold sortWorldK putRowK; simp, fun k hk hne => ?_⟩⟩
  · have := NmR.mk (L := d'.toList) hb hB (by rw [Array.length_toList, hd]; exact hn) hm (by simp [putCells, hs]) ?_
    · rwa [Array.length_toList, hd] at this
    · intro k m hk
      rw [Array.getElem?_toList] at hk
      obtain ⟨hkl, hke⟩ := Array.getElem?_eq_some_iff.1 hk
      have hcs : (putCells id 0 (flatK Nm.c 12 d') cur).size = cap * 12 := by simp [putCells, hs]
      refine ⟨by rw [Nm.len, hcs]; omega, fun j u hu => ?_⟩
      have hj : j < 12 := by have := (List.getElem?_eq_some_iff.1 hu).1; rw [Nm.len] at this; exact this
      have hlt2 : k * 12 + j < d'.size * 12 := by omega
      have hlt3 : k * 12 + j < cur.size := by rw [hs]; omega
      unfold putCells
      rw [Array.getElem?_mapIdx, Array.getElem?_eq_getElem hlt3]
      simp only [Option.map_some, Nat.zero_add, size_flatK, Nat.sub_zero]
      rw [if_pos ⟨Nat.zero_le _, hlt2⟩, get_flatK _ _ _ _ hlt2, show (k * 12 + j) / 12 = k by omega, show (k * 12 + j) % 12 = j by omega, getElem!_pos d' k hkl, hke]
      rw [List.getElem!_eq_getElem?_getD, hu]
      rfl
  · unfold sortWorldK putRowK
    rw [heap_grow_old _ _ (by simpa using hk)]
    have : g ≠ k := fun e => hne (by rw [e])
    simp [putRow, mapBlock, Sort.ahead, Array.getElem?_modify, this]
theorem NmR.holds {w : World} {g cap : Nat} {cur : Array Value} {L : List Nm} (hg : Blk w g 57 cur) (ht : ∀ k n, L[k]? = some n → At cur (k * 12) n.c) : HoldsK Nm.c 12 w g 0 L.toArray := by
  intro t ht2
  rw [size_flatK] at ht2
  have hsz : L.toArray.size = L.length := rfl
  rw [hsz] at ht2
  have hk : t / 12 < L.length := by omega
  have h1 := (ht (t / 12) L[t / 12] (List.getElem?_eq_getElem hk)).2 (t % 12) _ (List.getElem?_eq_getElem (by rw [Nm.len]; omega))
  rw [show t / 12 * 12 + t % 12 = t by omega] at h1
  refine ⟨?_, hg.frozen _⟩
  rw [Nat.zero_add, hg.cell, h1, get_flatK _ _ _ _ (by rw [hsz]; exact ht2)]
  have e1 : L.toArray[t / 12]! = L[t / 12] := by rw [getElem!_pos L.toArray (t / 12) (by rw [hsz]; exact hk)]; rfl
  rw [e1, getElem!_pos L[t / 12].c (t % 12) (by rw [Nm.len]; omega)]
  rfl
end Go.Proofs.Ytoiiiobamanclaa
