import Derived.Test.YtgmifaadlaigdaaGreatDoorQh
import Derived.Test.YtgmifaadlaigdaaGreatDoorN
namespace Go.Proofs.YtgmifaadlaigdaaGreatDoor
open Go.ChangeShapes Go.WideShapes Go.ChangeAt Go.RowKit
set_option linter.unusedVariables false
def zF (f : Nat → Nat) (a : Nat) : Nat → Nat
  | 0 => a
  | d + 1 => if f a = 0 then a else zF f (a + 1) d
/-- the first byte 0 from there on, or the end -/
def zN (f : Nat → Nat) (N a : Nat) : Nat := zF f a (N - a)
theorem zF_spec (f : Nat → Nat) : ∀ d a, a ≤ zF f a d ∧ zF f a d ≤ a + d ∧ (∀ p, a ≤ p → p < zF f a d → f p ≠ 0) ∧ (zF f a d < a + d → f (zF f a d) = 0)
  | 0, a => ⟨Nat.le_refl _, Nat.le_refl _, fun p h1 h2 => by rw [zF] at h2; omega, fun h => by rw [zF] at h; omega⟩
  | d + 1, a => by
    rw [zF]
    by_cases h : f a = 0
    · rw [if_pos h]
      exact ⟨Nat.le_refl _, by omega, fun p h1 h2 => by omega, fun _ => h⟩
    · rw [if_neg h]
      obtain ⟨h1, h2, h3, h4⟩ := zF_spec f d (a + 1)
      refine ⟨by omega, by omega, fun p q1 q2 => ?_, fun q => h4 (by omega)⟩
      by_cases e : p = a
      · rw [e]; exact h
      · exact h3 p (by omega) q2
theorem zN_spec (f : Nat → Nat) (N a : Nat) (h : a ≤ N) : a ≤ zN f N a ∧ zN f N a ≤ N ∧ (∀ p, a ≤ p → p < zN f N a → f p ≠ 0) ∧ (zN f N a < N → f (zN f N a) = 0) := by
  obtain ⟨h1, h2, h3, h4⟩ := zF_spec f (N - a) a
  exact ⟨h1, by unfold zN; omega, h3, fun q => h4 (by unfold zN at q; omega)⟩
theorem zN_eq {f : Nat → Nat} {N a z : Nat} (ha : a ≤ z) (hz : z ≤ N) (h1 : ∀ p, a ≤ p → p < z → f p ≠ 0) (h2 : z < N → f z = 0) : zN f N a = z := by
  obtain ⟨k1, k2, k3, k4⟩ := zN_spec f N a (by omega)
  rcases Nat.lt_trichotomy (zN f N a) z with q | q | q
  · exact absurd (k4 (by omega)) (h1 _ k1 q)
  · exact q
  · exact absurd (h2 (by omega)) (k3 z ha q)
/-- where a name of the index begins -/
def np (f : Nat → Nat) (N : Nat) : Nat → Nat
  | 0 => 4 + 4 * bigN f 0
  | i + 1 => zN f N (np f N i) + 1
/-- are the entries as they should be? -/
def IdxOk (f : Nat → Nat) (N : Nat) (P : Nat → Nat) (n k : Nat) : Prop := ∀ i, i < k → (np f N i < zN f N (np f N i) ∧ zN f N (np f N i) < N) ∧ ∃ j, j < n ∧ P j = bigN f (4 + 4 * i)
theorem idx_step {f : Nat → Nat} {N : Nat} {P : Nat → Nat} {n k : Nat} : IdxOk f N P n (k + 1) ↔ IdxOk f N P n k ∧ (np f N k < zN f N (np f N k) ∧ zN f N (np f N k) < N) ∧ ∃ j, j < n ∧ P j = bigN f (4 + 4 * k) :=
  ⟨fun h => ⟨fun i hi => h i (by omega), h k (by omega)⟩, fun ⟨h1, h2⟩ i hi => by
    by_cases e : i = k
    · subst e; exact h2
    · exact h1 i (by omega)⟩
/-- is the index long enough for its own number? -/
def Cnt (f : Nat → Nat) (N : Nat) : Prop := 4 ≤ N ∧ bigN f 0 * 4 ≤ N - 4
theorem np_le {f : Nat → Nat} {N : Nat} {P : Nat → Nat} {n : Nat} (hc : Cnt f N) : ∀ k, IdxOk f N P n k → np f N k ≤ N
  | 0, _ => by unfold Cnt at hc; rw [np]; omega
  | k + 1, h => by have := (idx_step.mp h).2.1; rw [np]; omega
theorem bigN_ext (s : ByteArray) (a : Nat) (h : a + 4 ≤ s.size) : bigN (bb (s.extract a s.size)) 0 = bigN (bb s) a := by
  unfold bigN
  rw [bb_ext s a s.size 0 (Nat.le_refl _) (by omega), bb_ext s a s.size (0 + 1) (Nat.le_refl _) (by omega), bb_ext s a s.size (0 + 2) (Nat.le_refl _) (by omega), bb_ext s a s.size (0 + 3) (Nat.le_refl _) (by omega)]
  rfl
theorem ext_tail (s : ByteArray) (a c : Nat) (h : a + c ≤ s.size) : (s.extract a s.size).extract c (s.extract a s.size).size = s.extract (a + c) s.size := by
  rw [ext_size s a s.size (Nat.le_refl _), ext_ext _ _ _ _ _ (by omega)]
  congr 1
  omega
/-- the entries' cells -/
def icC (s : ByteArray) (mf : Nat → Nat) : Nat → List Value
  | 0 => []
  | k + 1 => icC s mf k ++ [.string (s.extract (np (bb s) s.size k) (zN (bb s) s.size (np (bb s) s.size k))), .int .i64 (mf k : Int)]
theorem icC_congr {s : ByteArray} {a b : Nat → Nat} : ∀ {k : Nat}, (∀ j, j < k → a j = b j) → icC s a k = icC s b k
  | 0, _ => rfl
  | k + 1, h => by rw [icC, icC, icC_congr (fun j hj => h j (by omega)), h k (by omega)]
/-- what rows answers -/
def RowsOut (s : ByteArray) (P : Nat → Nat) (n : Nat) (w : World) (e : Ending) (w' : World) : Prop :=
  (¬ (Cnt (bb s) s.size ∧ IdxOk (bb s) s.size P n (bigN (bb s) 0)) ∧ e = .returned (.tuple #[.slice none 0 0, .bool false]) ∧ Below w.heap.size w w') ∨
  ((Cnt (bb s) s.size ∧ IdxOk (bb s) s.size P n (bigN (bb s) 0)) ∧ ∃ v mf, e = .returned (.tuple #[v, .bool (decide (np (bb s) s.size (bigN (bb s) 0) = s.size))]) ∧ w'.ownsRow w.heap.size 58 2 v (bigN (bb s) 0) (icC s mf (bigN (bb s) 0)) ∧ (∀ i, i < bigN (bb s) 0 → mf i < n ∧ P (mf i) = bigN (bb s) (4 + 4 * i)) ∧ Below w.heap.size w w')
/-- the first byte 0 of the names that are left -/
theorem cut_z (s : ByteArray) (a o : Nat) (ha : a ≤ s.size) (hf : Fst (s.extract a s.size) 0 o) : zN (bb s) s.size a = a + o := by
  have hz := ext_size s a s.size (Nat.le_refl _)
  have h1 := hf.1
  refine zN_eq (by omega) (by omega) (fun p q1 q2 => ?_) (fun _ => ?_)
  · have := hf.2.2 (p - a) (by omega)
    rw [bb_ext s a s.size (p - a) (Nat.le_refl _) (by omega)] at this
    have e : a + (p - a) = p := by omega
    rw [e] at this
    exact this
  · have := hf.2.1
    rw [bb_ext s a s.size o (Nat.le_refl _) (by omega)] at this
    exact this
theorem cut_no (s : ByteArray) (a : Nat) (ha : a ≤ s.size) (hf : hasB (s.extract a s.size) 0 = false) : zN (bb s) s.size a = s.size := by
  have hz := ext_size s a s.size (Nat.le_refl _)
  refine zN_eq ha (Nat.le_refl _) (fun p q1 q2 => ?_) (fun h => absurd h (by omega))
  have := has_no hf (p - a) (by omega)
  rw [bb_ext s a s.size (p - a) (Nat.le_refl _) (by omega)] at this
  have e : a + (p - a) = p := by omega
  rw [e] at this
  exact this
end Go.Proofs.YtgmifaadlaigdaaGreatDoor
