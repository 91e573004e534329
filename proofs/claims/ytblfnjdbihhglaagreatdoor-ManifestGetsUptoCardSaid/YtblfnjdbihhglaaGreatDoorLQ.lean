import Derived.Test.YtblfnjdbihhglaaGreatDoorLO
import Derived.Test.YtblfnjdbihhglaaGreatDoorLK
namespace Go.Proofs.YtblfnjdbihhglaaGreatDoor.Li
open Go.ChangeShapes Go.WideShapes Go.ChangeAt Go.RowKit
set_option linter.unusedVariables false
theorem numN_mono (base : Nat) (h1 : 1 ≤ base) (s : ByteArray) : ∀ m k, numN base s k ≤ numN base s (k + m)
  | 0, k => Nat.le_refl _
  | m + 1, k => by
    have ih := numN_mono base h1 s m k
    rw [← Nat.add_assoc, numN]
    have : 1 * numN base s (k + m) ≤ base * numN base s (k + m) := Nat.mul_le_mul_right _ h1
    omega
theorem dg10 (b : Nat) (h : dg b < 10) : 48 ≤ b ∧ b ≤ 57 ∧ dg b = b - 48 := by
  rcases dg16 b (by omega) with h1 | h1
  · exact h1
  · omega
theorem parseU (s : ByteArray) (hd : ∀ i, i < s.size → dg (bb s i) < 10) : ∀ m k, k + m = s.size → numN 10 s k ≤ 4294967295 →
    Lib.parseUintM 4294967295 (numN 10 s k) (s.data.toList.drop k) = if numN 10 s s.size ≤ 4294967295 then .ok (numN 10 s s.size) else .range
  | 0, k, h, hle => by
    obtain rfl : k = s.size := by omega
    rw [List.drop_eq_nil_of_le (by show s.data.toList.length ≤ s.data.size; simp), if_pos hle]
    rfl
  | m + 1, k, h, hle => by
    have hk : k < s.data.toList.length := by show k < s.data.toList.length; have : s.data.toList.length = s.size := rfl; omega
    rw [List.drop_eq_getElem_cons hk]
    have hb : (s.data.toList[k]).toNat = bb s k := by rw [bb_eq s k (by omega)]; rfl
    obtain ⟨h1, h2, h3⟩ := dg10 (bb s k) (hd k (by omega))
    have hn : numN 10 s (k + 1) = numN 10 s k * 10 + (bb s k - 48) := by rw [numN, h3]; omega
    unfold Lib.parseUintM
    rw [hb, if_pos ⟨h1, h2⟩, if_neg (by omega), ← hn]
    by_cases hov : 4294967295 < numN 10 s (k + 1)
    · rw [if_pos hov, if_neg]
      have := numN_mono 10 (by decide) s m (k + 1)
      rw [show k + 1 + m = s.size by omega] at this
      omega
    · rw [if_neg hov]
      exact parseU s hd m (k + 1) (by omega) (by omega)
theorem parseB (s : ByteArray) (h0 : 0 < s.size) (hd : ∀ i, i < s.size → dg (bb s i) < 10) :
    Lib.parseUintB 32 s.data.toList = if numN 10 s s.size ≤ 4294967295 then .ok (numN 10 s s.size) else .range := by
  unfold Lib.parseUintB
  rw [if_neg (fun h => by
    have : s.size = 0 := by show s.data.toList.length = 0; rw [h]; rfl
    omega)]
  have h := parseU s hd s.size 0 (by omega) (by simp [numN])
  rw [List.drop_zero, show numN 10 s 0 = 0 from rfl] at h
  rw [show (2 : Nat) ^ 32 - 1 = 4294967295 by decide, h]
/-- what a call of Number reads of the package's variables -/
def Gl (w : World) : Prop := ∃ ev m, w.cell? ⟨7, 0, none⟩ = some ev ∧ (ev = .nilIface ∨ ∃ te pe, ev = .iface te pe) ∧ w.cell? ⟨1, 0, none⟩ = some (.int .i64 m) ∧ 7 < w.heap.size
theorem Gl.below {w w' : World} (h : Gl w) (hb : Below w.heap.size w w') : Gl w' := by
  obtain ⟨ev, m, h1, h2, h3, h4⟩ := h
  exact ⟨ev, m, by rw [hb.cell (p := ⟨7, 0, none⟩) h4]; exact h1, h2, by rw [hb.cell (p := ⟨1, 0, none⟩) (by show 1 < _; omega)]; exact h3, Nat.lt_of_lt_of_le h4 hb.size⟩
theorem bytesW_below (w : World) (t : TypeId) (s : ByteArray) : Below w.heap.size w (Lib.bytesWorld w t s) := Lib.bytesWorld_below _ _ _
theorem dA_false (base : Nat) (s : ByteArray) (h : dA base s = false) (h0 : 0 < s.size) : ∃ i, i < s.size ∧ base ≤ dg (bb s i) := by
  classical
  by_cases hh : ∃ i, i < s.size ∧ base ≤ dg (bb s i)
  · exact hh
  · exfalso
    unfold dA at h
    have := of_decide_eq_false h
    apply this
    refine ⟨h0, fun i hi => ?_⟩
    by_cases hd : dg (bb s i) < base
    · exact hd
    · exact absurd ⟨i, hi, by omega⟩ hh
theorem dA_true (base : Nat) (s : ByteArray) (h : dA base s = true) : 0 < s.size ∧ ∀ i, i < s.size → dg (bb s i) < base := by
  unfold dA at h
  exact of_decide_eq_true h
theorem px_iff (s : ByteArray) : px s = true ↔ 2 ≤ s.size ∧ bb s 0 = 48 ∧ bb s 1 = 120 := by unfold px; simp
/-- in sixteens, refused -/
theorem ref_a (s : ByteArray) (hp : px s = true) (h : 8 < (s.extract 2 s.size).size ∨ dA 16 (s.extract 2 s.size) = false) : refV s = noN := by
  obtain ⟨h1, h2, h3⟩ := (px_iff s).mp hp
  have hz : (s.extract 2 s.size).size = s.size - 2 := by simp
  unfold refV
  by_cases hx : hexP s
  · rw [if_pos hx]
    split
    · rfl
    · rename_i h4
      apply fin_no
      rcases h with h | h
      · omega
      · right; left
        exact dA_false 16 _ h (by have := hx.1; omega)
  · rw [if_neg hx, if_pos]
    left
    exact ⟨by omega, h2⟩
theorem ref_b (s : ByteArray) (hp : px s = true) (h1 : ¬ 8 < (s.extract 2 s.size).size) (h2 : dA 16 (s.extract 2 s.size) = true) : refV s = .tuple #[.int .u32 (numN 16 (s.extract 2 s.size) (s.extract 2 s.size).size : Int), .bool true] := by
  obtain ⟨h3, h4, h5⟩ := (px_iff s).mp hp
  obtain ⟨h6, h7⟩ := dA_true 16 _ h2
  have hz : (s.extract 2 s.size).size = s.size - 2 := by simp
  unfold refV
  rw [if_pos ⟨by omega, h4, h5⟩, if_neg (by omega)]
  apply fin_yes
  rintro (h | ⟨i, hi, hd⟩ | h)
  · omega
  · have := h7 i hi; omega
  · have := numN_16 (s.extract 2 s.size) _ (by omega) h7
    omega
theorem not_hex (s : ByteArray) (hp : px s = false) : ¬ hexP s := fun h => by
  have : px s = true := (px_iff s).mpr ⟨by have := h.1; omega, h.2.1, h.2.2⟩
  rw [hp] at this; cases this
theorem ref_c (s : ByteArray) (hp : px s = false) (h : dA 10 s = false ∨ (1 < s.size ∧ bb s 0 = 48)) : refV s = noN := by
  unfold refV
  rw [if_neg (not_hex s hp)]
  split
  · rfl
  · rename_i h2
    rcases h with h | h
    · apply fin_no
      by_cases h0 : s.size = 0
      · exact Or.inl h0
      · exact Or.inr (Or.inl (dA_false 10 s h (by omega)))
    · exact absurd (Or.inl h) h2
theorem numN_big (s : ByteArray) (hd : ∀ i, i < s.size → dg (bb s i) < 10) (h48 : bb s 0 ≠ 48) (hl : 10 < s.size) : 4294967295 < numN 10 s s.size := by
  have h1 : ∀ k, 1 ≤ k → k ≤ s.size → 10 ^ (k - 1) ≤ numN 10 s k := by
    intro k
    induction k with
    | zero => intro h; omega
    | succ k ih =>
      intro _ hk
      by_cases h0 : k = 0
      · subst h0
        obtain ⟨a, b, c⟩ := dg10 (bb s 0) (hd 0 (by omega))
        simp [numN]
        omega
      · have := ih (by omega) (by omega)
        rw [numN, show k + 1 - 1 = (k - 1) + 1 by omega, Nat.pow_succ]
        omega
  have h2 := h1 s.size (by omega) (Nat.le_refl _)
  have h3 : 10 ^ 10 ≤ 10 ^ (s.size - 1) := Nat.pow_le_pow_right (by decide) (by omega)
  omega
theorem ref_d (s : ByteArray) (hp : px s = false) (h : dA 10 s = true) (hz : ¬ (1 < s.size ∧ bb s 0 = 48)) (hb : numN 10 s s.size ≤ 4294967295) : refV s = .tuple #[.int .u32 (numN 10 s s.size : Int), .bool true] := by
  obtain ⟨h6, h7⟩ := dA_true 10 _ h
  unfold refV
  rw [if_neg (not_hex s hp), if_neg]
  · apply fin_yes
    rintro (h | ⟨i, hi, hd⟩ | h)
    · omega
    · have := h7 i hi; omega
    · omega
  · rintro (h1 | h1)
    · exact hz h1
    · have := numN_big s h7 (fun h48 => hz ⟨by omega, h48⟩) h1
      omega
theorem ref_e (s : ByteArray) (hp : px s = false) (h : dA 10 s = true) (hb : ¬ numN 10 s s.size ≤ 4294967295) : refV s = noN := by
  unfold refV
  rw [if_neg (not_hex s hp)]
  split
  · rfl
  · exact fin_no 10 s (Or.inr (Or.inr (by omega)))
end Go.Proofs.YtblfnjdbihhglaaGreatDoor.Li
