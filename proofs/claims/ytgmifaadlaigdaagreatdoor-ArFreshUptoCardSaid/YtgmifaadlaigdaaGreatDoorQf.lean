import Derived.Test.YtgmifaadlaigdaaGreatDoorQe
import Derived.Test.YtgmifaadlaigdaaGreatDoorOg
namespace Go.Proofs.YtgmifaadlaigdaaGreatDoor
open Go.ChangeShapes Go.WideShapes Go.ChangeAt Go.RowKit
set_option linter.unusedVariables false
/-- the first such byte -/
def Fst (h : ByteArray) (c : UInt8) (o : Nat) : Prop := o < h.size ∧ bb h o = c.toNat ∧ ∀ k, k < o → bb h k ≠ c.toNat
theorem idx_some {h : ByteArray} {c : UInt8} (hh : hasB h c = true) : ∃ o : Nat, Lib.indexByte h.data.toList c = (o : Int) ∧ Fst h c o := by
  have h2 : 0 ≤ Lib.indexByte h.data.toList c := of_decide_eq_true hh
  obtain ⟨o, ho⟩ := Int.eq_ofNat_of_zero_le h2
  have h3 := Lib.indexByte_some ho
  have h4 : o < h.size := by
    obtain ⟨h5, _⟩ := List.getElem?_eq_some_iff.mp h3.1
    simpa using h5
  refine ⟨o, ho, h4, ?_, fun k hk e => ?_⟩
  · have := h3.1
    rw [bb_list h o h4] at this
    rw [bb_eq h o h4, Option.some.inj this]
  · have := h3.2 k hk
    rw [bb_list h k (by omega)] at this
    rw [bb_eq h k (by omega)] at e
    exact this (by rw [UInt8.toNat_inj.mp e])
theorem idx_none {h : ByteArray} {c : UInt8} (hh : hasB h c = false) : Lib.indexByte h.data.toList c = -1 := by
  have := Lib.indexByte_ge h.data.toList c
  have h2 : ¬ 0 ≤ Lib.indexByte h.data.toList c := of_decide_eq_false hh
  omega
theorem fst_uniq {h : ByteArray} {c : UInt8} {o p : Nat} (a : Fst h c o) (b : Fst h c p) : o = p := by
  rcases Nat.lt_trichotomy o p with q | q | q
  · exact absurd a.2.1 (b.2.2 o q)
  · exact q
  · exact absurd b.2.1 (a.2.2 p q)
theorem trimN_eq {f : Nat → Nat} {n m : Nat} (hm : m ≤ n) (h1 : ∀ j, m ≤ j → j < n → f j = 32) (h2 : 0 < m → f (m - 1) ≠ 32) : trimN f n = m := by
  obtain ⟨k1, k2⟩ := trimN_spec f n
  have k3 := trimN_le f n
  rcases Nat.lt_trichotomy (trimN f n) m with q | q | q
  · exact absurd (k1 (m - 1) (by omega) (by omega)) (h2 (by omega))
  · exact q
  · exact absurd (h1 (trimN f n - 1) (by omega) (by omega)) (k2 (by omega))
/-- may the head's name be a member's? -/
def gdS (h : ByteArray) : Prop := 1 ≤ trimN (bb h) h.size ∧ bb h (trimN (bb h) h.size - 1) = 47 ∧ nmB (strN (bb h) (trimN (bb h) h.size - 1)) = true
/-- the member's name -/
def nmS (h : ByteArray) : ByteArray := strN (bb h) (trimN (bb h) h.size - 1)
theorem ext0 (h : ByteArray) (o : Nat) (ho : o ≤ h.size) : h.extract 0 o = strN (bb h) o := by
  have := ext_str h 0 o (by omega)
  rw [Nat.zero_add] at this
  rw [this]
  exact strN_congr fun k _ => by rw [Nat.zero_add]
theorem gd_of {h : ByteArray} {o : Nat} (hf : Fst h 47 o) (hb : ∀ j, o < j → j < h.size → bb h j = 32) : trimN (bb h) h.size = o + 1 :=
  trimN_eq (by have := hf.1; omega) (fun j h1 h2 => hb j (by omega) h2) (fun _ => by rw [Nat.add_sub_cancel, hf.2.1]; decide)
theorem gd_nm {h : ByteArray} {o : Nat} (hf : Fst h 47 o) (hb : ∀ j, o < j → j < h.size → bb h j = 32) : nmS h = h.extract 0 o := by
  unfold nmS
  rw [gd_of hf hb, Nat.add_sub_cancel, ext0 h o (by have := hf.1; omega)]
theorem gd_yes {h : ByteArray} {o : Nat} (hf : Fst h 47 o) (hb : ∀ j, o < j → j < h.size → bb h j = 32) : gdS h ↔ nmB (h.extract 0 o) = true := by
  unfold gdS
  rw [gd_of hf hb, Nat.add_sub_cancel, ext0 h o (by have := hf.1; omega)]
  exact ⟨fun q => q.2.2, fun q => ⟨by omega, hf.2.1, q⟩⟩
theorem gd_fst {h : ByteArray} (hg : gdS h) : ∃ o, Fst h 47 o ∧ ∀ j, o < j → j < h.size → bb h j = 32 := by
  obtain ⟨h1, h2, h3⟩ := hg
  have hle := trimN_le (bb h) h.size
  obtain ⟨k1, _⟩ := trimN_spec (bb h) h.size
  refine ⟨trimN (bb h) h.size - 1, ⟨by omega, h2, fun k hk e => ?_⟩, fun j hj hj2 => k1 j (by omega) hj2⟩
  unfold nmB at h3
  have h4 := (of_decide_eq_true h3).2 k (by rw [strN_size]; exact hk)
  rw [bb_strN _ _ k hk (bb_lt h k), e] at h4
  exact absurd h4 (by decide)
theorem gd_no {h : ByteArray} (hh : hasB h 47 = false) : ¬ gdS h := fun hg => by
  obtain ⟨o, ho, _⟩ := gd_fst hg
  exact has_no hh o ho.1 ho.2.1
theorem dw_nil (p : UInt8 → Bool) : ∀ l : List UInt8, l.dropWhile p = [] ↔ ∀ b ∈ l, p b = true
  | [] => by simp
  | a :: r => by
    rw [List.dropWhile_cons]
    by_cases h : p a = true
    · rw [if_pos h, dw_nil p r]
      simp [h]
    · rw [if_neg h]
      simp [h]
theorem dw_mem (p : UInt8 → Bool) (x : UInt8) (hx : x ∈ ([] : List UInt8) ∨ p x = false) : ∀ l : List UInt8, x ∈ l → x ∈ l.dropWhile p
  | [], h => h
  | a :: r, h => by
    rw [List.dropWhile_cons]
    by_cases ha : p a = true
    · rw [if_pos ha]
      rcases List.mem_cons.mp h with e | e
      · rcases hx with h1 | h1
        · cases h1
        · rw [e, ha] at h1; cases h1
      · exact dw_mem p x hx r e
    · rw [if_neg ha]; exact h
theorem dw_sub (p : UInt8 → Bool) (x : UInt8) : ∀ l : List UInt8, x ∈ l.dropWhile p → x ∈ l
  | [], h => h
  | a :: r, h => by
    rw [List.dropWhile_cons] at h
    by_cases ha : p a = true
    · rw [if_pos ha] at h
      exact List.mem_cons_of_mem _ (dw_sub p x r h)
    · rw [if_neg ha] at h; exact h
theorem trim_nil (l : List UInt8) (c : UInt8) : (Lib.trimB l c = []) ↔ ∀ b ∈ l, b = c := by
  unfold Lib.trimB Lib.trimLeftB Lib.trimRightB
  rw [dw_nil]
  constructor
  · intro h b hb
    by_cases e : b = c
    · exact e
    · have h1 : b ∈ l.reverse.dropWhile (· == c) := dw_mem _ b (Or.inr (by simpa using e)) _ (by simpa using hb)
      simpa using h b (by simpa using h1)
  · intro h b hb
    have h1 : b ∈ l.reverse.dropWhile (· == c) := by simpa using hb
    have h2 := dw_sub _ b _ h1
    simpa using h b (by simpa using h2)
theorem blank_iff (h : ByteArray) (o : Nat) (ho : o < h.size) : ((⟨(Lib.trimB (h.extract (o + 1) h.size).data.toList 32).toArray⟩ : ByteArray).toList == []) = true ↔ ∀ j, o < j → j < h.size → bb h j = 32 := by
  rw [ByteArray.toList_eq, beq_iff_eq]
  show (Lib.trimB (h.extract (o + 1) h.size).data.toList 32).toArray.toList = [] ↔ _
  rw [List.toList_toArray, trim_nil]
  have hz := ext_size h (o + 1) h.size (Nat.le_refl _)
  constructor
  · intro q j h1 h2
    have h3 := bb_list (h.extract (o + 1) h.size) (j - (o + 1)) (by omega)
    have h4 := q _ (List.mem_of_getElem? h3)
    have h5 := bb_ext h (o + 1) h.size (j - (o + 1)) (Nat.le_refl _) (by omega)
    have e : o + 1 + (j - (o + 1)) = j := by omega
    rw [e] at h5
    rw [← h5, bb_eq _ _ (by omega), h4]
    rfl
  · intro q b hb
    obtain ⟨k, hk⟩ := List.mem_iff_getElem?.mp hb
    have hk2 : k < (h.extract (o + 1) h.size).size := by
      obtain ⟨h5, _⟩ := List.getElem?_eq_some_iff.mp hk
      simpa using h5
    rw [bb_list _ k hk2] at hk
    have h3 := q (o + 1 + k) (by omega) (by omega)
    rw [← bb_ext h (o + 1) h.size k (Nat.le_refl _) (by omega), bb_eq _ k hk2] at h3
    rw [← Option.some.inj hk]
    exact UInt8.toNat_inj.mp (by rw [h3]; rfl)
set_option maxHeartbeats 2000000 in
theorem c53_yes (h : ByteArray) (c : UInt8) (o : Nat) (hs : h.size ≤ 16777216) (hi : Lib.indexByte h.data.toList c = (o : Int)) (hf : Fst h c o) (w : World) :
    Calls Tryz.prog 53 #[.string h, .string ⟨#[c]⟩] w fun e w' => e = .returned (.tuple #[.string (h.extract 0 o), .string (h.extract (o + 1) h.size), .bool true]) ∧ ∃ q, w' = w.drewN q := by
  have K86 : Hid (∀ w, Calls Tryz.prog 86 #[.string h, .string ⟨#[c]⟩] w fun e w' => e = .returned (.int .i64 (o : Int)) ∧ w = w') := Lib.hid (fun w => (Tryz.stringslite_Index_one h c w).mono fun _ _ ⟨h1, h2⟩ => ⟨by rw [h1, hi], h2.symm⟩)
  have ho := hf.1
  have K71 : Hid (∀ w, Calls Tryz.prog 71 #[.string h, .string ⟨#[c]⟩] w fun e w' => e = .returned (.tuple #[.string (h.extract 0 o), .string (h.extract (o + 1) h.size), .bool true]) ∧ ∃ q, w' = w.drewN q) := Lib.hid (fun w => by
    have hs1 : ∀ W, (Instr.slice 9 (.string h) none (some (.int .i64 (o : Int))) none).run Tryz.prog W = .ok (.string (h.extract 0 o)) W := fun W => by
      rw [run_slice_string_to_if W 9 h .i64 (o : Int) Tryz.underlying9, if_pos (by omega)]
      rfl
    have hs2 : ∀ W, (Instr.slice 9 (.string h) (some (.int .i64 ((o : Int) + 1))) none none).run Tryz.prog W = .ok (.string (h.extract (o + 1) h.size)) W := fun W => by
      rw [run_slice_string_from_if W 9 h .i64 ((o : Int) + 1) Tryz.underlying9, if_pos (by omega)]
      rfl
    have h1 : (⟨#[c]⟩ : ByteArray).size = 1 := rfl
    go_enter Tryz.func71, Tryz.ntmps71
    go_wp2_with fail
    refine (K86.out _).mono ?_
    rintro _ _ ⟨rfl, rfl⟩
    go_wp2_with fail
    go_region
    all_goals
      go_wp2_with fail
      go_ret3
      exact ⟨rfl, _, rfl⟩)
  go_enter Tryz.func53, Tryz.ntmps53
  go_wp2_with fail
  refine (K71.out _).mono ?_
  rintro _ _ ⟨rfl, q, rfl⟩
  go_wp2_with fail
  go_ret3
  exact ⟨rfl, q, rfl⟩
end Go.Proofs.YtgmifaadlaigdaaGreatDoor
