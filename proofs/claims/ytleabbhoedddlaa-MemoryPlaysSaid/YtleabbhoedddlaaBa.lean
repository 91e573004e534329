import Derived.Test.YtleabbhoedddlaaY
namespace Go.Proofs.Ytleabbhoedddlaa
open Go.ChangeShapes Go.WideShapes Go.ChangeAt Go.RowKit
set_option linter.unusedVariables false
/-- a block whose first bytes are these -/
def Bk (w : World) (g : Nat) (f : Nat → Nat) : Prop := ∃ cur, Blk w g 5 cur ∧ 65536 ≤ cur.size ∧ ∀ j, j < 65536 → cur[j]? = some (.int .u8 (f j : Int))
theorem Bk.lt {w : World} {g : Nat} {f : Nat → Nat} (h : Bk w g f) : g < w.heap.size := by obtain ⟨c, h1, _⟩ := h; exact h1.lt
theorem Bk.below {w w' : World} {g K : Nat} {f : Nat → Nat} (h : Bk w g f) (hb : Below K w w') (hk : g < K) : Bk w' g f := by obtain ⟨c, h1, h2⟩ := h; exact ⟨c, h1.below hb hk, h2⟩
theorem Bk.far {w w' : World} {g m : Nat} {f : Nat → Nat} (h : Bk w g f) (ho : Only m w w') (hk : g ≠ m) : Bk w' g f := by obtain ⟨c, h1, h2⟩ := h; exact ⟨c, ho.blk hk h1, h2⟩
theorem Bk.drew {w : World} {g : Nat} {f : Nat → Nat} (h : Bk w g f) : Bk w.drew g f := by obtain ⟨c, h1, h2⟩ := h; exact ⟨c, h1.drew, h2⟩
theorem Bk.rd {w : World} {g : Nat} {f : Nat → Nat} (h : Bk w g f) : Pt.Rd w (some ⟨g, 0, none⟩) 65536 f := fun _ => by
  obtain ⟨c, h1, h2, h3⟩ := h
  exact ⟨g, 0, rfl, h1.lt, fun j hj => by rw [h1.cell, Nat.zero_add]; exact h3 j hj⟩
theorem Bk.cell {w : World} {g : Nat} {f : Nat → Nat} (h : Bk w g f) (j : Nat) (hj : j < 65536) : w.cell? ⟨g, j, none⟩ = some (.int .u8 (f j : Int)) ∧ w.frozen? ⟨g, j, none⟩ = false := by
  obtain ⟨c, h1, h2, h3⟩ := h
  exact ⟨by rw [h1.cell]; exact h3 j hj, h1.frozen j⟩
theorem Bk.set_ {w : World} {g : Nat} {f : Nat → Nat} (h : Bk w g f) (j : Nat) (hj : j < 65536) (x : Nat) : Bk (w.setCell ⟨g, j, none⟩ (.int .u8 (x : Int))) g (fun i => if i = j then x else f i) := by
  obtain ⟨c, h1, h2, h3⟩ := h
  refine ⟨c.setIfInBounds j (.int .u8 (x : Int)), h1.set_ _ _, by rw [Array.size_setIfInBounds]; exact h2, fun i hi => ?_⟩
  show (c.setIfInBounds j (.int .u8 (x : Int)))[i]? = some (Value.int .u8 (((if i = j then x else f i) : Nat) : Int))
  by_cases e : i = j
  · subst e
    rw [Array.getElem?_setIfInBounds_self_of_lt (by omega), if_pos rfl]
  · rw [Array.getElem?_setIfInBounds_ne (by omega), if_neg e]
    exact h3 i hi
theorem Bk.farSet {w : World} {g g2 : Nat} {f : Nat → Nat} (h : Bk w g f) (hne : g ≠ g2) (j : Nat) (v : Value) : Bk (w.setCell ⟨g2, j, none⟩ v) g f := by
  obtain ⟨c, h1, h2⟩ := h
  exact ⟨c, h1.far hne _, h2⟩
/-- all bytes of a memory -/
theorem bytesAll (b : Nat) (B : Nat → Nat) (T : Nat → Bool) (w : World) (hm : Mem w b B T) :
    Calls Try.prog 14 #[.pointer (some ⟨b, 0, none⟩), .int .i64 0, .int .i64 65536] w fun e w' => ∃ g c, e = .returned (.tuple #[.slice (some ⟨g, 0, none⟩) 65536 c, .int .i64 0]) ∧ Below w.heap.size w w' ∧ w.heap.size ≤ g ∧ Bk w' g B ∧ 65536 ≤ c ∧ c ≤ 9223372036854775807 := by
  refine (mBytes b 0 65536 B T w hm (by omega)).mono ?_
  rintro _ w' ⟨v, rfl, h1, hl, h2⟩
  rcases h2 with ⟨_, h0⟩ | ⟨g, cap, cur, rfl, hg, hh, hc1, hc2, hs, ht⟩
  · omega
  · refine ⟨g, cap, rfl, h1, hg, ⟨cur, hh, by omega, fun j hj => ?_⟩, hc1, by unfold maxLen at hc2; exact hc2⟩
    have h3 := Pt.rowL_get (fun j => B (0 + j)) 65536 j hj
    rw [← ht, Nat.mul_one, List.getElem?_take_of_lt hj] at h3
    rw [← Array.getElem?_toList, h3, Nat.zero_add]
theorem tagsAll (b : Nat) (B : Nat → Nat) (T : Nat → Bool) (w : World) (hm : Mem w b B T) :
    Calls Try.prog 15 #[.pointer (some ⟨b, 0, none⟩), .int .i64 0, .int .i64 65536] w fun e w' => e = .returned (.tuple #[.int .i64 (cntT T 0 8192 : Int), .int .i64 0]) ∧ w = w' := by
  have h := mTags b 0 65536 B T w hm (by omega)
  unfold tagsN at h
  rw [if_neg (by omega)] at h
  exact h
theorem cnt_off (T : Nat → Bool) (q : Nat) : ∀ k, k ≤ q → cntT (fun i => if i = q then false else T i) 0 k = cntT T 0 k
  | 0, _ => rfl
  | k + 1, h => by
    unfold cntT
    rw [cnt_off T q k (by omega), if_neg (by omega : ¬ 0 + k = q)]
theorem cnt_on (T : Nat → Bool) (q : Nat) : ∀ k, q < k → cntT (fun i => if i = q then false else T i) 0 k + (if T q then 1 else 0) = cntT T 0 k
  | 0, h => by omega
  | k + 1, h => by
    unfold cntT
    by_cases e : k = q
    · subst e
      rw [cnt_off T k k (Nat.le_refl _), if_pos (by omega : 0 + k = k), Nat.zero_add]
      simp
    · have := cnt_on T q k (by omega)
      rw [if_neg (by omega : ¬ 0 + k = q)]
      omega
theorem cnt_st (T : Nat → Bool) (a : Nat) (ha : a < 65536) : cntT (stT T a false) 0 8192 = cntT T 0 8192 ∨ ((cntT (stT T a false) 0 8192 : Int) = (cntT T 0 8192 : Int) - 1) := by
  have h := cnt_on T (a / 8) 8192 (by omega)
  have e : stT T a false = fun i => if i = a / 8 then false else T i := rfl
  rw [e]
  split at h <;> omega
theorem tag_here (T : Nat → Bool) (a s : Nat) (hs : s = 1 ∨ s = 2 ∨ s = 4) (h : a % s = 0) : tagsN (stT T a false) a s = 0 := by
  unfold tagsN
  rw [if_neg (by omega)]
  have e : (a + s - 1) / 8 + 1 - a / 8 = 1 := by
    rcases hs with rfl | rfl | rfl <;> omega
  rw [e]
  show 0 + (if stT T a false (a / 8 + 0) then 1 else 0) = 0
  unfold stT
  simp
end Go.Proofs.Ytleabbhoedddlaa
