import Derived.Test.YtgmifaadlaigdaaGreatDoorT
namespace Go.Proofs.YtgmifaadlaigdaaGreatDoor
open Go.ChangeShapes Go.WideShapes Go.ChangeAt Go.RowKit
set_option linter.unusedVariables false
/-- a byte of two texts in one -/
theorem bb_out (s : ByteArray) (j : Nat) (h : s.size ≤ j) : bb s j = 0 := by unfold bb; rw [dif_neg (by omega)]
theorem bb_app (a b : ByteArray) (j : Nat) : bb (a ++ b) j = if j < a.size then bb a j else bb b (j - a.size) := by
  by_cases h : j < a.size
  · rw [if_pos h, bb_eq _ j (by rw [ByteArray.size_append]; omega), bb_eq a j h]
    congr 1
    exact ByteArray.getElem_append_left h
  · rw [if_neg h]
    by_cases h2 : j - a.size < b.size
    · rw [bb_eq _ j (by rw [ByteArray.size_append]; omega), bb_eq b _ h2]
      congr 1
      exact ByteArray.getElem_append_right (by omega)
    · rw [bb_out _ j (by rw [ByteArray.size_append]; omega), bb_out b _ (by omega)]
/-- a text stands in another one -/
def Sits (r s : ByteArray) (a : Nat) : Prop := a + s.size ≤ r.size ∧ ∀ j, j < s.size → bb r (a + j) = bb s j
theorem sits_l (s t : ByteArray) : Sits (s ++ t) s 0 := ⟨by rw [ByteArray.size_append]; omega, fun j hj => by rw [Nat.zero_add, bb_app, if_pos hj]⟩
theorem sits_r (s t : ByteArray) : Sits (s ++ t) t s.size := ⟨by rw [ByteArray.size_append]; omega, fun j hj => by
  rw [bb_app, if_neg (by omega)]
  congr 1
  omega⟩
theorem sits_self (s : ByteArray) : Sits s s 0 := ⟨by omega, fun j _ => by rw [Nat.zero_add]⟩
theorem Sits.trans {r s t : ByteArray} {a b : Nat} (h : Sits r s a) (k : Sits s t b) : Sits r t (a + b) := ⟨by have := h.1; have := k.1; omega, fun j hj => by
  rw [Nat.add_assoc, h.2 (b + j) (by have := k.1; omega), k.2 j hj]⟩
theorem Sits.left {r s t : ByteArray} {a : Nat} (h : Sits r (s ++ t) a) : Sits r s a := h.trans (sits_l s t)
theorem Sits.right {r s t : ByteArray} {a b : Nat} (h : Sits r (s ++ t) a) (hb : b = a + s.size) : Sits r t b := by subst hb; exact h.trans (sits_r s t)
theorem Sits.at' {r s : ByteArray} {a b : Nat} (h : Sits r s a) (e : a = b) : Sits r s b := e ▸ h
theorem Sits.ext {r s : ByteArray} {a n : Nat} (h : Sits r s a) (hn : s.size = n) : r.extract a (a + n) = s := by
  subst hn
  rw [ext_str r a s.size h.1, strN_congr h.2, strN_bb]
theorem bb_blk (s : ByteArray) (j : Nat) : ∀ k, j < s.size + k → bb (blk s k) j = if j < s.size then bb s j else 32
  | 0, h => by rw [blk, if_pos (by omega)]
  | k + 1, h => by
    rw [blk, bb_app, blk_size]
    by_cases h1 : j < s.size + k
    · rw [if_pos h1, bb_blk s j k h1]
    · rw [if_neg h1, if_neg (by omega)]
      have : j - (s.size + k) = 0 := by omega
      rw [this]
      rfl
theorem bb_wide (s : ByteArray) (n j : Nat) (hs : s.size ≤ n) (hj : j < n) : bb (wideB s n) j = if j < s.size then bb s j else 32 := bb_blk s j _ (by omega)
theorem one_bb (v : Nat) (hv : v < 256) : bb ⟨#[UInt8.ofNat v]⟩ 0 = v := by
  rw [bb_eq (⟨#[UInt8.ofNat v]⟩ : ByteArray) 0 Nat.one_pos]
  show (UInt8.ofNat v).toNat = v
  rw [UInt8.toNat_ofNat']
  omega
/-- the digits of a number are its own -/
theorem tens_spec (n : Nat) : digs (bb (tens n)) (tens n).size ∧ decN (bb (tens n)) (tens n).size = n ∧ (1 < (tens n).size → bb (tens n) 0 ≠ 48) := by
  induction n using Nat.strongRecOn with
  | _ n ih =>
    have h1 := one_bb (48 + n % 10) (by omega)
    by_cases h : n < 10
    · rw [tens_lt h, one_size]
      refine ⟨fun i hi => ?_, ?_, fun q => absurd q (by omega)⟩
      · obtain rfl : i = 0 := by omega
        rw [h1]; omega
      · rw [decN, decN, h1]; omega
    · obtain ⟨i1, i2, i3⟩ := ih (n / 10) (by omega)
      have hs := (tens_size (n / 10)).1
      have hl : ∀ j, j < (tens (n / 10)).size → bb (tens n) j = bb (tens (n / 10)) j := fun j hj => by rw [tens_ge h, bb_app, if_pos hj]
      have hr : bb (tens n) (tens (n / 10)).size = 48 + n % 10 := by rw [tens_ge h, bb_app, if_neg (by omega), Nat.sub_self, h1]
      have hz : (tens n).size = (tens (n / 10)).size + 1 := by rw [tens_ge h, ByteArray.size_append, one_size]
      rw [hz]
      refine ⟨fun i hi => ?_, ?_, fun q => ?_⟩
      · by_cases e : i = (tens (n / 10)).size
        · rw [e, hr]; omega
        · rw [hl i (by omega)]; exact i1 i (by omega)
      · rw [decN, decN_congr hl, i2, hr]; omega
      · rw [hl 0 (by omega)]
        by_cases e : 1 < (tens (n / 10)).size
        · exact i3 e
        · have e1 : (tens (n / 10)).size = 1 := by omega
          rw [e1, decN, decN] at i2
          intro q
          rw [q] at i2
          omega
/-- what a head tells -/
theorem head_tells (r s : ByteArray) (n a : Nat) (hs : s.size ≤ 16) (hn : n < 10000000000) (h : Sits r (headB s n) a) :
    a + 60 ≤ r.size ∧ szF (bb r) a = (n, true) ∧ bb r (a + 58) = 96 ∧ bb r (a + 59) = 10 ∧ r.extract a (a + 16) = wideB s 16 := by
  have h60 := headB_size s n hs hn
  have ht := tens_ten n hn
  obtain ⟨t1, t2, t3⟩ := tens_spec n
  have ht1 := (tens_size n).1
  have hle := h.1
  rw [h60] at hle
  have e1 : (⟨#[48]⟩ : ByteArray).size = 1 := rfl
  have w1 : (wideB s 16).size = 16 := by rw [wideB_size]; omega
  have w2 : (wideB ⟨#[48]⟩ 12).size = 12 := by rw [wideB_size]; omega
  have w3 : (wideB ⟨#[48]⟩ 6).size = 6 := by rw [wideB_size]; omega
  have w4 : (wideB ⟨#[48]⟩ 8).size = 8 := by rw [wideB_size]; omega
  have w5 : (wideB (tens n) 10).size = 10 := by rw [wideB_size]; omega
  unfold headB at h
  have hend := h.right (b := a + 58) (by simp only [ByteArray.size_append, w1, w2, w3, w4, w5])
  have hten := h.left.right (b := a + 48) (by simp only [ByteArray.size_append, w1, w2, w3, w4])
  have hnm := h.left.left.left.left.left.left
  refine ⟨hle, ?_, ?_, ?_, hnm.ext w1⟩
  · have hw : ∀ j, j < 10 → bb r (a + 48 + j) = if j < (tens n).size then bb (tens n) j else 32 := fun j hj => by
      rw [hten.2 j (by omega), bb_wide _ _ _ ht hj]
    have htr : trimN (fun j => bb r (a + 48 + j)) 10 = (tens n).size := trimN_eq ht (fun j h1 h2 => by
        show bb r (a + 48 + j) = 32
        rw [hw j h2, if_neg (by omega)]) (fun h0 => by
        show bb r (a + 48 + ((tens n).size - 1)) ≠ 32
        rw [hw _ (by omega), if_pos (by omega)]
        have := t1 ((tens n).size - 1) (by omega)
        omega)
    unfold szF
    rw [htr, szV_congr (g := bb (tens n)) (fun k hk => by
      show bb r (a + 48 + k) = _
      rw [hw k (by omega), if_pos hk]), szV_yes ⟨⟨ht1, fun q => t3 q.1 q.2⟩, t1⟩, t2]
  · have := hend.2 0 (show 0 < 2 by decide)
    exact this
  · have := hend.2 1 (show 1 < 2 by decide)
    exact this
/-- a name with its stroke, and blanks behind it -/
theorem wide_nm (s : ByteArray) (hs : nmB s = true) : nmS (wideB (s ++ ⟨#[47]⟩) 16) = s ∧ gdS (wideB (s ++ ⟨#[47]⟩) 16) ∧ trS (wideB (s ++ ⟨#[47]⟩) 16) ≠ ⟨#[47]⟩ := by
  have hs2 := hs
  unfold nmB at hs2
  obtain ⟨⟨h1, h15⟩, hall⟩ := of_decide_eq_true hs2
  have hz1 : (s ++ ⟨#[47]⟩).size = s.size + 1 := by rw [ByteArray.size_append, one_size]
  have hz : (wideB (s ++ ⟨#[47]⟩) 16).size = 16 := by rw [wideB_size]; omega
  have hb : ∀ j, j < 16 → bb (wideB (s ++ ⟨#[47]⟩) 16) j = if j < s.size then bb s j else if j = s.size then 47 else 32 := fun j hj => by
    rw [bb_wide _ _ _ (by omega) hj, hz1, bb_app]
    by_cases e1 : j < s.size
    · rw [if_pos (by omega), if_pos e1, if_pos e1]
    · rw [if_neg e1]
      by_cases e2 : j = s.size
      · rw [if_pos (by omega), if_neg e1, if_pos e2]
        have : j - s.size = 0 := by omega
        rw [this]
        rfl
      · rw [if_neg (by omega), if_neg e1, if_neg e2]
  have htr : trimN (bb (wideB (s ++ ⟨#[47]⟩) 16)) (wideB (s ++ ⟨#[47]⟩) 16).size = s.size + 1 := by
    rw [hz]
    exact trimN_eq (by omega) (fun j q1 q2 => by rw [hb j q2, if_neg (by omega), if_neg (by omega)]) (fun _ => by rw [Nat.add_sub_cancel, hb _ (by omega), if_neg (by omega), if_pos rfl]; decide)
  have hn : strN (bb (wideB (s ++ ⟨#[47]⟩) 16)) s.size = s := by
    rw [strN_congr (g := bb s) (fun k hk => by rw [hb k (by omega), if_pos hk]), strN_bb]
  refine ⟨?_, ?_, fun q => ?_⟩
  · unfold nmS
    rw [htr, Nat.add_sub_cancel, hn]
  · unfold gdS
    rw [htr, Nat.add_sub_cancel, hn]
    refine ⟨by omega, ?_, hs⟩
    rw [hb _ (by omega), if_neg (by omega), if_pos rfl]
  · have q2 := congrArg ByteArray.size q
    unfold trS at q2
    rw [htr, strN_size, one_size] at q2
    omega
theorem wide_stroke : trS (wideB ⟨#[47]⟩ 16) = ⟨#[47]⟩ := by kernel_rfl
/-- four bytes, read -/
theorem big_four (r : ByteArray) (v a : Nat) (h : Sits r (fourB v) a) (hv : v < 4294967296) : bigN (bb r) a = v := by
  have h4 : ∀ j, j < 4 → bb r (a + j) = bb (fourB v) j := fun j hj => h.2 j hj
  have q0 : bb (fourB v) 0 = v / 16777216 := by
    rw [bb_eq (fourB v) 0 (show 0 < 4 by decide)]
    show (UInt8.ofNat (v / 16777216)).toNat = _
    rw [UInt8.toNat_ofNat']; omega
  have q1 : bb (fourB v) 1 = v / 65536 % 256 := by
    rw [bb_eq (fourB v) 1 (show 1 < 4 by decide)]
    show (UInt8.ofNat (v / 65536 % 256)).toNat = _
    rw [UInt8.toNat_ofNat']; omega
  have q2 : bb (fourB v) 2 = v / 256 % 256 := by
    rw [bb_eq (fourB v) 2 (show 2 < 4 by decide)]
    show (UInt8.ofNat (v / 256 % 256)).toNat = _
    rw [UInt8.toNat_ofNat']; omega
  have q3 : bb (fourB v) 3 = v % 256 := by
    rw [bb_eq (fourB v) 3 (show 3 < 4 by decide)]
    show (UInt8.ofNat (v % 256)).toNat = _
    rw [UInt8.toNat_ofNat']; omega
  have p0 := h4 0 (by omega)
  have p1 := h4 1 (by omega)
  have p2 := h4 2 (by omega)
  have p3 := h4 3 (by omega)
  rw [Nat.add_zero] at p0
  unfold bigN
  rw [p0, p1, p2, p3, q0, q1, q2, q3]
  omega
end Go.Proofs.YtgmifaadlaigdaaGreatDoor
