import Derived.Test.YtgmifaadlaigdaaGreatDoorQj
namespace Go.Proofs.YtgmifaadlaigdaaGreatDoor
open Go.ChangeShapes Go.WideShapes Go.ChangeAt Go.RowKit
set_option linter.unusedVariables false
/-- a piece of the text -/
noncomputable def pcS (s : ByteArray) (i : Nat) : Pc := ⟨s.extract (atN (bb s) i) (atN (bb s) i + 16), atN (bb s) i, s.extract (atN (bb s) i + 60) (atN (bb s) i + 60 + (szF (bb s) (atN (bb s) i)).1)⟩
open Classical in
/-- has it an index? -/
noncomputable def ix1 (s : ByteArray) (k : Nat) : Nat := if 0 < k ∧ trS (pcS s 0).nm = ⟨#[47]⟩ then 1 else 0
/-- is the index as it should be? -/
def IdxGood (t : ByteArray) (P : Nat → Nat) (n : Nat) : Prop := (Cnt (bb t) t.size ∧ IdxOk (bb t) t.size P n (bigN (bb t) 0)) ∧ np (bb t) t.size (bigN (bb t) 0) = t.size
def GoodR (s : ByteArray) (k : Nat) : Prop := AllS (fun i => pcS s (i + ix1 s k)) (k - ix1 s k) ∧ (ix1 s k = 1 → IdxGood (pcS s 0).body (fun i => (pcS s (i + 1)).at') (k - 1))
/-- what is wrong with an archive -/
def ReadErr (s : ByteArray) (er : Nat) : Prop :=
  (65536 < s.size ∧ er = 3) ∨ (s.size ≤ 65536 ∧ ((s.size < 8 ∧ er = 4) ∨ (8 ≤ s.size ∧ ((strN (bb s) 8 ≠ magicB ∧ er = 5) ∨ (strN (bb s) 8 = magicB ∧ ∃ k, (Parts (bb s) s.size k false ∧ er = erP (bb s) s.size k) ∨ (Parts (bb s) s.size k true ∧ ¬ GoodR s k ∧ er = 5))))))
def ReadGood (s : ByteArray) (k : Nat) : Prop := s.size ≤ 65536 ∧ 8 ≤ s.size ∧ strN (bb s) 8 = magicB ∧ Parts (bb s) s.size k true ∧ GoodR s k
/-- the members of the pieces -/
def MemS (p : Nat → Pc) (n : Nat) (g : Nat → Mem) : Prop := ∀ i, i < n → (g i).nm = nmS (p i).nm ∧ (g i).n = (p i).body.size ∧ (∀ j, j < (g i).n → (g i).f j = bb (p i).body j) ∧ (g i).A ≠ none
/-- the entries of the index -/
def IxS (t : ByteArray) (P : Nat → Nat) (n m : Nat) (x : Nat → Ix) : Prop := ∀ i, i < m → (x i).nm = t.extract (np (bb t) t.size i) (zN (bb t) t.size (np (bb t) t.size i)) ∧ ∃ j : Nat, (x i).m = (j : Int) ∧ j < n ∧ P j = bigN (bb t) (4 + 4 * i)
/-- how many entries -/
noncomputable def cntR (s : ByteArray) (k : Nat) : Nat := if ix1 s k = 1 then bigN (bb (pcS s 0).body) 0 else 0
/-- what Read answers -/
def ReadOut (s : ByteArray) (w : World) (e : Ending) (w' : World) : Prop :=
  (∃ er : Nat, ReadErr s er ∧ e = .returned (.tuple #[.slice none 0 0, .slice none 0 0, .int .i64 (er : Int)]) ∧ Below w.heap.size w w') ∨
  (∃ k, ReadGood s k ∧ ∃ A c B d g x, e = .returned (.tuple #[.slice A (k - ix1 s k) c, .slice B (cntR s k) d, .int .i64 0]) ∧ Ms w' A (k - ix1 s k) g ∧ MemS (fun i => pcS s (i + ix1 s k)) (k - ix1 s k) g ∧ Is w' B (cntR s k) x ∧ (ix1 s k = 1 → IxS (pcS s 0).body (fun i => (pcS s (i + 1)).at') (k - 1) (cntR s k) x) ∧ Below w.heap.size w w')
theorem mcC_at (g : Nat → Pc) (sl : Nat → Value) : ∀ n k, k < n → (mcC g sl n)[k * 2]? = some (.string (nmS (g k).nm)) ∧ (mcC g sl n)[k * 2 + 1]? = some (sl k)
  | 0, k, h => by omega
  | n + 1, k, h => by
    have hl : ∀ n, (mcC g sl n).length = n * 2 := by
      intro n
      induction n with
      | zero => rfl
      | succ n ih => rw [mcC, List.length_append, ih]; simp; omega
    rw [mcC]
    by_cases e : k = n
    · subst e
      rw [List.getElem?_append_right (by rw [hl]; omega), List.getElem?_append_right (by rw [hl]; omega), hl]
      have e1 : k * 2 - k * 2 = 0 := by omega
      have e2 : k * 2 + 1 - k * 2 = 1 := by omega
      rw [e1, e2]
      exact ⟨rfl, rfl⟩
    · rw [List.getElem?_append_left (by rw [hl]; omega), List.getElem?_append_left (by rw [hl]; omega)]
      exact mcC_at g sl n k (by omega)
theorem icC_at (s : ByteArray) (mf : Nat → Nat) : ∀ n k, k < n → (icC s mf n)[k * 2]? = some (.string (s.extract (np (bb s) s.size k) (zN (bb s) s.size (np (bb s) s.size k)))) ∧ (icC s mf n)[k * 2 + 1]? = some (.int .i64 (mf k : Int))
  | 0, k, h => by omega
  | n + 1, k, h => by
    have hl : ∀ n, (icC s mf n).length = n * 2 := by
      intro n
      induction n with
      | zero => rfl
      | succ n ih => rw [icC, List.length_append, ih]; simp; omega
    rw [icC]
    by_cases e : k = n
    · subst e
      rw [List.getElem?_append_right (by rw [hl]; omega), List.getElem?_append_right (by rw [hl]; omega), hl]
      have e1 : k * 2 - k * 2 = 0 := by omega
      have e2 : k * 2 + 1 - k * 2 = 1 := by omega
      rw [e1, e2]
      exact ⟨rfl, rfl⟩
    · rw [List.getElem?_append_left (by rw [hl]; omega), List.getElem?_append_left (by rw [hl]; omega)]
      exact icC_at s mf n k (by omega)
theorem pcC_at (s : ByteArray) : ∀ n k, k < n → (pcC s n)[k * 3]? = some (.string (pcS s k).nm) ∧ (pcC s n)[k * 3 + 1]? = some (.int .i64 ((pcS s k).at' : Int)) ∧ (pcC s n)[k * 3 + 2]? = some (.string (pcS s k).body)
  | 0, k, h => by omega
  | n + 1, k, h => by
    have hl : ∀ n, (pcC s n).length = n * 3 := by
      intro n
      induction n with
      | zero => rfl
      | succ n ih => rw [pcC, List.length_append, ih]; simp; omega
    rw [pcC]
    by_cases e : k = n
    · subst e
      rw [List.getElem?_append_right (by rw [hl]; omega), List.getElem?_append_right (by rw [hl]; omega), List.getElem?_append_right (by rw [hl]; omega), hl]
      have e1 : k * 3 - k * 3 = 0 := by omega
      have e2 : k * 3 + 1 - k * 3 = 1 := by omega
      have e3 : k * 3 + 2 - k * 3 = 2 := by omega
      rw [e1, e2, e3]
      exact ⟨rfl, rfl, rfl⟩
    · rw [List.getElem?_append_left (by rw [hl]; omega), List.getElem?_append_left (by rw [hl]; omega), List.getElem?_append_left (by rw [hl]; omega)]
      exact pcC_at s n k (by omega)
/-- a row of the call's own, opened -/
theorem row_open {w : World} {B e size n : Nat} {v : Value} {xs : List Value} (h : w.ownsRow B e size v n xs) : ∃ A c, v = .slice A n c ∧ (0 < n → ∃ b, A = some ⟨b, 0, none⟩ ∧ b < w.heap.size ∧ B ≤ b ∧ n ≤ c ∧ ∀ j u, xs[j]? = some u → w.cell? ⟨b, j, none⟩ = some u) := by
  rcases h.2 with ⟨hv, h0⟩ | ⟨g, cap, cur, hv, hb, hg, hnc, _⟩
  · exact ⟨none, 0, by rw [hv, h0], fun h1 => by omega⟩
  · refine ⟨_, cap, hv, fun _ => ⟨g, rfl, lt_of hg, hb, hnc, fun j u hu => ?_⟩⟩
    have := h.cells (g := g) (by rw [hv]; rfl) j u hu
    rw [← this]
    congr 1
    unfold Addr.add
    split <;> simp_all
end Go.Proofs.YtgmifaadlaigdaaGreatDoor
