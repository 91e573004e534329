import Derived.Test.YtgmifaadlaigdaaGreatDoorOk
import Derived.Lib.TrimByte
import Derived.Lib.ParseIntB
namespace Go.Proofs.YtgmifaadlaigdaaGreatDoor
open Go.ChangeShapes Go.WideShapes Go.ChangeAt Go.RowKit
set_option linter.unusedVariables false
theorem strN_data (f : Nat → Nat) (n : Nat) : (strN f n).data.toList = (List.range n).map fun k => UInt8.ofNat (f k) := rfl
theorem strN_snoc (f : Nat → Nat) (n : Nat) : strN f (n + 1) = strN f n ++ ⟨#[UInt8.ofNat (f n)]⟩ := by
  apply ba_eq
  rw [strN_data, ByteArray.data_append, Array.toList_append, strN_data, List.range_succ, List.map_append]
  rfl
theorem strN_congr {f g : Nat → Nat} {n : Nat} (h : ∀ k, k < n → f k = g k) : strN f n = strN g n := by
  apply ba_eq
  rw [strN_data, strN_data]
  exact List.map_congr_left fun k hk => by rw [h k (List.mem_range.mp hk)]
/-- the trimmed text -/
theorem trimN_spec (f : Nat → Nat) : ∀ n, (∀ j, trimN f n ≤ j → j < n → f j = 32) ∧ (0 < trimN f n → f (trimN f n - 1) ≠ 32)
  | 0 => ⟨fun j _ h => absurd h (by omega), fun h => absurd h (by simp [trimN])⟩
  | n + 1 => by
    obtain ⟨h1, h2⟩ := trimN_spec f n
    rw [trimN]
    by_cases h : f n = 32
    · rw [if_pos h]
      refine ⟨fun j hj hn => ?_, h2⟩
      by_cases e : j = n
      · rw [e]; exact h
      · exact h1 j hj (by omega)
    · rw [if_neg h]
      exact ⟨fun j hj hn => by omega, fun _ => by rw [Nat.add_sub_cancel]; exact h⟩
theorem trim_list (s : ByteArray) : (⟨(Lib.trimRightB s.data.toList 32).toArray⟩ : ByteArray) = strN (bb s) (trimN (bb s) s.size) := by
  have hl : s.data.toList.length = s.size := Array.length_toList
  have hle := trimN_le (bb s) s.size
  obtain ⟨h1, h2⟩ := trimN_spec (bb s) s.size
  have e := Lib.trimRightB_take s.data.toList 32 (trimN (bb s) s.size) (by rw [hl]; exact hle) (fun j b hj hb => by
      obtain ⟨hj2, _⟩ := List.getElem?_eq_some_iff.mp hb
      rw [hl] at hj2
      have h3 := h1 j hj hj2
      rw [bb_list s j hj2] at hb
      rw [bb_eq s j hj2] at h3
      have h4 := Option.some.inj hb
      rw [← h4]
      exact UInt8.toNat_inj.mp (by rw [h3]; rfl)) (fun b h0 hb => by
      have hj2 : trimN (bb s) s.size - 1 < s.size := by omega
      have h3 := h2 h0
      rw [bb_list s _ hj2] at hb
      rw [bb_eq s _ hj2] at h3
      have h4 := Option.some.inj hb
      intro e
      exact h3 (by rw [h4, e]; rfl))
  rw [e]
  apply ba_eq
  rw [strN_data]
  apply List.ext_getElem?
  intro k
  by_cases hk : k < trimN (bb s) s.size
  · have hk2 : k < s.size := by omega
    rw [List.getElem?_take, if_pos hk, bb_list s k hk2]
    simp only [List.getElem?_map, List.getElem?_range hk, Option.map_some]
    rw [bb_eq s k hk2]
    simp
  · rw [List.getElem?_take, if_neg hk]
    symm
    simp only [List.getElem?_map, Option.map_eq_none_iff]
    exact List.getElem?_eq_none (by simp; omega)
theorem dec_small (f : Nat → Nat) (m : Nat) (h : digs f m) (hm : m ≤ 12) : decN f m < 1000000000000 := by
  have h1 := decN_lt f m h
  have h2 : 10 ^ m ≤ 10 ^ 12 := Nat.pow_le_pow_right (by decide) hm
  have h3 : (10 : Nat) ^ 12 = 1000000000000 := by decide
  omega
/-- the number of tens that ParseUint reads -/
theorem parse_ok (f : Nat → Nat) : ∀ m, m ≤ 12 → digs f m → ∀ l, Lib.parseUintM 18446744073709551615 0 ((List.range m).map (fun k => UInt8.ofNat (f k)) ++ l) = Lib.parseUintM 18446744073709551615 (decN f m) l
  | 0, _, _, l => rfl
  | m + 1, hm, h, l => by
    have hd := h m (by omega)
    have h0 : digs f m := fun i hi => h i (by omega)
    have h1 := dec_small f m h0 (by omega)
    rw [List.range_succ, List.map_append, List.append_assoc, parse_ok f m (by omega) h0]
    have e : (UInt8.ofNat (f m)).toNat = f m := by rw [UInt8.toNat_ofNat']; omega
    rw [decN]
    simp only [List.map_cons, List.map_nil, List.cons_append, List.nil_append, Lib.parseUintM, e]
    rw [if_pos hd, if_neg (by omega), if_neg (by omega), Nat.mul_comm]
theorem parse_bad (f : Nat → Nat) (m k : Nat) (hm : m ≤ 12) (hk : k < m) (hf : f k < 256) (h : digs f k) (hb : ¬ (48 ≤ f k ∧ f k ≤ 57)) : Lib.parseUintM 18446744073709551615 0 ((List.range m).map (fun k => UInt8.ofNat (f k))) = Lib.parseUintB 64 [] := by
  obtain ⟨d, rfl⟩ := Nat.exists_eq_add_of_le (show k + 1 ≤ m from hk)
  have e : (List.range (k + 1 + d)).map (fun k => UInt8.ofNat (f k)) = (List.range k).map (fun k => UInt8.ofNat (f k)) ++ (UInt8.ofNat (f k) :: (List.range d).map (fun j => UInt8.ofNat (f (k + 1 + j)))) := by
    rw [List.range_add, List.map_append, List.range_succ, List.map_append, List.append_assoc]
    simp [Function.comp_def]
  rw [e, parse_ok f k (by omega) h]
  have e2 : (UInt8.ofNat (f k)).toNat = f k := by rw [UInt8.toNat_ofNat']; omega
  simp only [Lib.parseUintM, e2]
  rw [if_neg hb]
  rfl
theorem digs_find (f : Nat → Nat) : ∀ m, ¬ digs f m → ∃ k, k < m ∧ digs f k ∧ ¬ (48 ≤ f k ∧ f k ≤ 57)
  | 0, h => absurd (fun i hi => absurd hi (by omega)) h
  | m + 1, h => by
    by_cases h0 : digs f m
    · exact ⟨m, by omega, h0, fun hd => h (fun i hi => by
        by_cases e : i = m
        · rw [e]; exact hd
        · exact h0 i (by omega))⟩
    · obtain ⟨k, h1, h2, h3⟩ := digs_find f m h0
      exact ⟨k, by omega, h2, h3⟩
/-- ParseUint of so many bytes, at most twelve -/
theorem parse_yes (f : Nat → Nat) (m : Nat) (hm : m ≤ 12) (h0 : 1 ≤ m) (h : digs f m) : Lib.parseUintB 64 (strN f m).data.toList = .ok (decN f m) := by
  unfold Lib.parseUintB
  rw [strN_data, if_neg (by simp; omega)]
  have := parse_ok f m hm h []
  rw [List.append_nil] at this
  exact this
theorem parse_no (f : Nat → Nat) (m : Nat) (hm : m ≤ 12) (hf : ∀ i, i < m → f i < 256) (h : ¬ (1 ≤ m ∧ digs f m)) : Lib.parseUintB 64 (strN f m).data.toList = Lib.parseUintB 64 [] := by
  show (if (strN f m).data.toList = [] then Lib.parseUintB 64 [] else Lib.parseUintM 18446744073709551615 0 (strN f m).data.toList) = Lib.parseUintB 64 []
  rw [strN_data]
  by_cases h0 : 1 ≤ m
  · rw [if_neg (by simp; omega)]
    obtain ⟨k, h1, h2, h3⟩ := digs_find f m (fun q => h ⟨h0, q⟩)
    exact parse_bad f m k hm h1 (hf k h1) h2 h3
  · obtain rfl : m = 0 := by omega
    rfl
/-- a number's digits are the ones that it was read of, but for a needless nought -/
theorem tens_dec (f : Nat → Nat) : ∀ m, digs f (m + 1) → ¬ (1 < m + 1 ∧ f 0 = 48) → tens (decN f (m + 1)) = strN f (m + 1)
  | 0, h, _ => by
    have hd := h 0 (by omega)
    have e : decN f 1 = f 0 - 48 := by simp [decN]
    rw [Nat.zero_add, e, tens_lt (by omega), strN_snoc]
    have e2 : 48 + (f 0 - 48) % 10 = f 0 := by omega
    rw [e2]
    rfl
  | m + 1, h, hn => by
    have hd := h (m + 1) (by omega)
    have ih := tens_dec f m (fun i hi => h i (by omega)) (fun ⟨_, q⟩ => hn ⟨by omega, q⟩)
    have h0 : 1 ≤ decN f (m + 1) := by
      have h00 := h 0 (by omega)
      have key : ∀ k, 1 ≤ decN f (k + 1) := by
        intro k
        induction k with
        | zero =>
          have e : decN f (0 + 1) = f 0 - 48 := by simp [decN]
          rw [e]
          have : f 0 ≠ 48 := fun q => hn ⟨by omega, q⟩
          omega
        | succ k ih => rw [decN]; omega
      exact key m
    rw [decN, tens_ge (by omega), strN_snoc, ← ih]
    have e1 : (10 * decN f (m + 1) + (f (m + 1) - 48)) / 10 = decN f (m + 1) := by omega
    have e2 : 48 + (10 * decN f (m + 1) + (f (m + 1) - 48)) % 10 = f (m + 1) := by omega
    rw [e1, e2]
theorem dec_lead (f : Nat → Nat) (h0 : f 0 = 48) : ∀ m, digs f (m + 1) → decN f (m + 1) < 10 ^ m
  | 0, _ => by simp [decN, h0]
  | m + 1, h => by
    have ih := dec_lead f h0 m (fun i hi => h i (by omega))
    have hd := h (m + 1) (by omega)
    rw [decN, Nat.pow_succ]
    omega
theorem tens_short : ∀ k n, n < 10 ^ (k + 1) → (tens n).size ≤ k + 1 := by
  intro k
  induction k with
  | zero => intro n h; rw [tens_lt (by omega), one_size]; omega
  | succ k ih =>
    intro n h
    by_cases h10 : n < 10
    · rw [tens_lt h10, one_size]; omega
    · rw [tens_ge h10, ByteArray.size_append, one_size]
      have := ih (n / 10) (by rw [Nat.pow_succ] at h; omega)
      omega
theorem tens_lead (f : Nat → Nat) (m : Nat) (h : digs f (m + 2)) (h0 : f 0 = 48) : tens (decN f (m + 2)) ≠ strN f (m + 2) := by
  intro e
  have h1 := dec_lead f h0 (m + 1) h
  have h2 : (tens (decN f (m + 2))).size ≤ m + 1 := tens_short m _ h1
  have h3 : (tens (decN f (m + 2))).size = m + 2 := by rw [e, strN_size]
  omega
end Go.Proofs.YtgmifaadlaigdaaGreatDoor
