import Derived.Test.YtblfnjdbihhglaaGreatDoorLXez
import Derived.Test.YtblfnjdbihhglaaGreatDoorLXb
import Derived.Test.YtblfnjdbihhglaaGreatDoorLR
namespace Go.Proofs.YtblfnjdbihhglaaGreatDoor.Li
open Go.ChangeShapes Go.WideShapes Go.ChangeAt Go.RowKit
set_option linter.unusedVariables false
theorem fm_at {α : Type} (F G : α → Value) : ∀ (D : List α) (k : Nat) (h : k < D.length), (D.flatMap fun x => [F x, G x])[k * 2]? = some (F D[k]) ∧ (D.flatMap fun x => [F x, G x])[k * 2 + 1]? = some (G D[k])
  | [], k, h => absurd h (by simp)
  | a :: t, 0, h => by simp
  | a :: t, k + 1, h => by
    have ih := fm_at F G t k (by simpa using h)
    rw [List.flatMap_cons, show (k + 1) * 2 = k * 2 + 2 by omega]
    simpa using ih
/-- a row of texts, read -/
theorem own_ss {w : World} {B : Nat} {A : Option Addr} {n c : Nat} {l : List ByteArray} (h : w.ownsRow B 9 1 (.slice A n c) l.length (l.map Value.string)) (hs : ∀ y ∈ l, y.size ≤ 9223372036854775807) :
    n = l.length ∧ l.length ≤ c ∧ Ss w A l.length (fun j => (l[j]?).getD ⟨#[]⟩) := by
  have h0 := h
  obtain ⟨h1, h2⟩ := h
  rcases h2 with ⟨h2, h3⟩ | ⟨g, cap, cur, a, b, c', d, e⟩
  · simp at h2
    obtain ⟨rfl, rfl, rfl⟩ := h2
    refine ⟨h3.symm, by omega, fun hp => by omega⟩
  · simp at a
    obtain ⟨rfl, rfl, rfl⟩ := a
    refine ⟨rfl, d, fun _ => ⟨g, 0, rfl, (h0.lt g rfl).2, fun k hk => ?_⟩⟩
    have hc := h0.cells (g := g) rfl k (.string l[k]) (by rw [List.getElem?_map, List.getElem?_eq_getElem hk]; rfl)
    rw [addr_add] at hc
    simp only [Nat.zero_add, List.getElem?_eq_getElem hk, Option.getD_some]
    exact ⟨hc, hs _ (List.getElem_mem hk)⟩
/-- lines that read so -/
def Reads (g : Nat → Wl) (R : List (Nat × List ByteArray)) : Prop :=
  ∀ k, (h : k < R.length) → (g k).line = (R[k].1 : Int) ∧ (g k).n = R[k].2.length ∧ ∀ j, (g k).f j = (R[k].2[j]?).getD ⟨#[]⟩
def wlOf (x : Nat × Value × List ByteArray) : Wl := match x.2.1 with
  | .slice A _ c => ⟨x.1, A, x.2.2.length, c, fun j => (x.2.2[j]?).getD ⟨#[]⟩⟩
  | _ => ⟨0, none, 0, 0, fun _ => ⟨#[]⟩⟩
def smallR (R : List (Nat × List ByteArray)) : Prop := ∀ x ∈ R, x.2.length ≤ 9223372036854775807 ∧ ∀ y ∈ x.2, y.size ≤ 9223372036854775807
theorem rd_ws {w : World} {B : Nat} {A : Option Addr} {n c : Nat} {R : List (Nat × List ByteArray)} (h : RdOut B (.slice A n c) R w) (hs : smallR R) :
    n = R.length ∧ ∃ g : Nat → Wl, Ws w A R.length g ∧ Reads g R := by
  obtain ⟨D, h1, h2, h3⟩ := h
  have hlen : D.length = R.length := by rw [← h1, List.length_map]
  have hg : ∀ k (hk : k < R.length), ∃ A' n' c', (D[k]'(by omega)).2.1 = .slice A' n' c' ∧ (D[k]'(by omega)).1 = R[k].1 ∧ (D[k]'(by omega)).2.2 = R[k].2 := by
    intro k hk
    have hkD : k < D.length := by omega
    have e : R[k] = ((D[k]'hkD).1, (D[k]'hkD).2.2) := by
      have : R[k]? = some ((D[k]'hkD).1, (D[k]'hkD).2.2) := by rw [← h1, List.getElem?_map, List.getElem?_eq_getElem hkD]; rfl
      rw [List.getElem?_eq_getElem hk] at this
      exact Option.some.inj this
    obtain ⟨A', c', hv, _⟩ := own_slice (h3 _ (List.getElem_mem hkD))
    exact ⟨A', _, c', hv, by rw [e], by rw [e]⟩
  have hR : Reads (fun k => match D[k]? with | some x => wlOf x | none => ⟨0, none, 0, 0, fun _ => ⟨#[]⟩⟩) R := by
    intro k hk
    obtain ⟨A', n', c', hv, e1, e2⟩ := hg k hk
    have hkD : k < D.length := by omega
    simp only [List.getElem?_eq_getElem hkD]
    unfold wlOf
    rw [hv]
    simp only
    rw [e1, e2]
    exact ⟨rfl, rfl, fun j => rfl⟩
  have hn : n = R.length := by
    obtain ⟨q1, q2⟩ := h2
    rcases q2 with ⟨q2, q3⟩ | ⟨g, cap, cur, a, _⟩
    · simp at q2; omega
    · simp at a; omega
  refine ⟨hn, _, ?_, hR⟩
  intro h0
  have hA : ∃ g, A = some ⟨g, 0, none⟩ := by
    obtain ⟨q1, q2⟩ := h2
    rcases q2 with ⟨q2, q3⟩ | ⟨g, cap, cur, a, _⟩
    · simp at q2; omega
    · simp at a; exact ⟨g, a.1⟩
  obtain ⟨b, rfl⟩ := hA
  refine ⟨b, 0, rfl, (h2.lt b rfl).2, fun k hk => ?_⟩
  have hkD : k < D.length := by omega
  obtain ⟨A', n', c', hv, e1, e2⟩ := hg k hk
  obtain ⟨r1, r2, r3⟩ := hR k hk
  have hrow := h3 _ (List.getElem_mem hkD)
  rw [hv] at hrow
  have hmem := hs _ (List.getElem_mem hk)
  obtain ⟨s1, s2, s3⟩ := own_ss hrow (by rw [e2]; exact hmem.2)
  obtain ⟨f1, f2⟩ := fm_at (fun x : Nat × Value × List ByteArray => Value.int .i64 (x.1 : Int)) (fun x => x.2.1) D k hkD
  have c1 := h2.cells (g := b) rfl _ _ f1
  have c2 := h2.cells (g := b) rfl _ _ f2
  rw [addr_add] at c1 c2
  rw [Nat.zero_add]
  have hw : (match D[k]? with | some x => wlOf x | none => (⟨0, none, 0, 0, fun _ => ⟨#[]⟩⟩ : Wl)) = ⟨(D[k].1 : Int), A', D[k].2.2.length, c', fun j => (D[k].2.2[j]?).getD ⟨#[]⟩⟩ := by
    rw [List.getElem?_eq_getElem hkD]
    simp only
    unfold wlOf
    rw [hv]
  simp only [hw]
  refine ⟨c1, ?_, s3, ?_, s2⟩
  · rw [c2, hv, s1]
  · rw [e2]; exact hmem.1
theorem small_said : ∀ (l : List ByteArray) (j : Nat), (∀ x ∈ l, x.size ≤ 16777215) → smallR (saidB j l)
  | [], j, _ => fun x hx => by cases hx
  | y :: r, j, h => by
    have ih := small_said r (j + 1) (fun x hx => h x (by simp [hx]))
    rw [saidB]
    split
    · exact ih
    · intro x hx
      rcases List.mem_cons.1 hx with rfl | hx
      · refine ⟨?_, fun z hz => ?_⟩
        · have := wordsB_len y
          have := h y (by simp)
          simp only
          omega
        · have hz2 : z ∈ Lib.goFieldsP pB y := (List.takeWhile_sublist _).subset hz
          have := fields_sz pB y z hz2
          have := h y (by simp)
          omega
      · exact ih x hx
theorem mem_size {s : ByteArray} {x : ByteArray} (h : x ∈ lnsB s) (hm : ¬ manyP s) : x.size ≤ 100 := by
  by_cases hh : 100 < x.size
  · exact absurd (Or.inr ⟨x, h, hh⟩) hm
  · omega
theorem rdV_small (s : ByteArray) : smallR (rdV s) := by
  by_cases h : rdE s = 0
  · rw [rdV_ok s h]
    have hm : ¬ manyP s := fun hm => by
      unfold rdE at h
      rw [if_pos hm] at h
      split at h <;> cases h
    exact small_said _ _ (fun x hx => by have := mem_size hx hm; omega)
  · rw [rdV_no s h]
    exact fun x hx => by cases hx
theorem rdE_cases (s : ByteArray) : rdE s = 0 ∨ rdE s = 3 ∨ rdE s = 5 := by
  unfold rdE
  split
  · exact Or.inr (Or.inr rfl)
  · split
    · exact Or.inr (Or.inl rfl)
    · exact Or.inl rfl
/-- the call's answer, as lines -/
theorem post_ws {s : ByteArray} {w w' : World} {e : Ending} (h : RdPost s w e w') :
    ∃ A c g, e = .returned (.tuple #[.slice A (rdV s).length c, .int .i64 (rdE s : Int)]) ∧ Ws w' A (rdV s).length g ∧ Reads g (rdV s) ∧ RdOut w.heap.size (.slice A (rdV s).length c) (rdV s) w' ∧ Below w.heap.size w w' := by
  obtain ⟨A, n, c, he, hn, ho, hb⟩ := h
  subst hn
  obtain ⟨-, g, h1, h2⟩ := rd_ws ho (rdV_small s)
  exact ⟨A, c, g, he, h1, h2, ho, hb⟩
end Go.Proofs.YtblfnjdbihhglaaGreatDoor.Li
