import Derived.Test.YtblfnjdbihhglaaGreatDoorLH
import Derived.Test.YtblfnjdbihhglaaGreatDoorLB
namespace Go.Proofs.YtblfnjdbihhglaaGreatDoor.Li
open Go.ChangeShapes Go.WideShapes Go.ChangeAt Go.RowKit
set_option linter.unusedVariables false
/-- no number -/
def noN : Value := .tuple #[.int .u32 0, .bool false]
/-- the number of digits of a base, if it is one -/
def badN (base : Nat) (s : ByteArray) : Prop := s.size = 0 ∨ (∃ i, i < s.size ∧ base ≤ dg (bb s i)) ∨ 4294967296 ≤ numN base s s.size
open Classical in
noncomputable def finV (base : Nat) (s : ByteArray) : Value := if badN base s then noN else .tuple #[.int .u32 (numN base s s.size : Int), .bool true]
theorem fin_no (base : Nat) (s : ByteArray) (h : badN base s) : finV base s = noN := by unfold finV; rw [if_pos h]
theorem fin_yes (base : Nat) (s : ByteArray) (h : ¬ badN base s) : finV base s = .tuple #[.int .u32 (numN base s s.size : Int), .bool true] := by unfold finV; rw [if_neg h]
theorem numN_lt (base : Nat) (s : ByteArray) : ∀ k, (∀ j, j < k → dg (bb s j) < base) → numN base s k < base ^ k := by
  intro k
  induction k with
  | zero => intro _; simp [numN]
  | succ k ih =>
    intro h
    have h1 := ih (fun j hj => h j (by omega))
    have h2 := h k (by omega)
    rw [numN, Nat.pow_succ, Nat.mul_comm (base ^ k)]
    have h3 : base * (numN base s k + 1) ≤ base * base ^ k := Nat.mul_le_mul_left _ h1
    rw [Nat.mul_add] at h3
    omega
theorem numN_10 (s : ByteArray) (k : Nat) (hk : k ≤ 10) (h : ∀ j, j < k → dg (bb s j) < 10) : numN 10 s k < 10000000000 := by
  have h1 := numN_lt 10 s k h
  have h2 : 10 ^ k ≤ 10 ^ 10 := Nat.pow_le_pow_right (by decide) hk
  omega
set_option maxRecDepth 100000 in
set_option maxHeartbeats 4000000 in
theorem c11_10 (s : ByteArray) (hs : s.size ≤ 10) (hz : 1 < s.size → bb s 0 ≠ 48) (w : World) : Calls Tryz.prog 71 #[.string s] w fun e w' => e = .returned (finV 10 s) ∧ w = w' := by
  have HS := Lib.hid hs
  have d1 : ∀ h : 0 < s.size, ((s[0]'h).toNat : Int) = (bb s 0 : Int) := fun h => by rw [bb_eq s 0 h]
  have hcase : s.size ≤ 1 ∨ (s.size = 2 ∧ bb s 0 ≠ 48) ∨ (2 < s.size ∧ bb s 0 ≠ 48) := by
    by_cases h : 1 < s.size
    · by_cases h2 : s.size = 2
      · exact Or.inr (Or.inl ⟨h2, hz h⟩)
      · exact Or.inr (Or.inr ⟨by omega, hz h⟩)
    · exact Or.inl (by omega)
  have HE : Hid ((∀ j, j < s.size → dg (bb s j) < 10) → numN 10 s s.size < 4294967296 → s.size ≠ 0 → finV 10 s = .tuple #[.int .u32 (numN 10 s s.size : Int), .bool true]) := Lib.hid fun h1 h2 h3 => fin_yes 10 s (by
    rintro (h | ⟨i, hi, hd⟩ | h)
    · exact h3 h
    · have := h1 i hi; omega
    · omega)
  have HN : Hid (badN 10 s → finV 10 s = noN) := Lib.hid (fin_no 10 s)
  clear hz
  have e2 : ∀ h : bb s 0 ≠ 48, ((bb s 0 : Int) == 48) = false := fun h => by simpa using (fun h3 => h (by omega))
  rcases hcase with h1 | ⟨h1, h2⟩ | ⟨h1, h2⟩
  case' inr.inl => have e1 := e2 h2
  case' inr.inr => have e1 := e2 h2
  all_goals
    clear e2
    go_enter Tryz.func71, Tryz.ntmps71
    go_wp2_with fail
    go_loopw [5, 6] (fun n i wr => wr = w ∧ ∃ k : Nat, k ≤ s.size ∧ i = .int .i64 (k : Int) ∧ n = .int .u64 (numN 10 s k : Int) ∧ ∀ j, j < k → dg (bb s j) < 10) (fun _ i _ => s.size - (intOf i).toNat)
    case atStart => exact ⟨rfl, 0, by omega, rfl, rfl, fun i hi => absurd hi (by omega)⟩
    case round =>
      obtain ⟨rfl, k, hk, rfl, rfl, hin⟩ := hrel
      have HIN := Lib.hid hin
      have hlt10 := numN_10 s k (by have := HS.out; omega) hin
      clear hin
      by_cases hlt : k < s.size
      · have he : (s[k]'hlt).toNat = bb s k := (bb_eq s k hlt).symm
        have K := Lib.hid (c24 (bb s k) (bb_lt s k) wr)
        have HST : Hid (dg (bb s k) < 10 → ∀ j, j < k + 1 → dg (bb s j) < 10) := Lib.hid fun hl j hj => by
          by_cases e : j = k
          · rw [e]; exact hl
          · exact HIN.out j (by omega)
        have HBD : Hid (10 ≤ dg (bb s k) → finV 10 s = noN) := Lib.hid fun h => HN.out (Or.inr (Or.inl ⟨k, hlt, h⟩))
        obtain ⟨m', hm'⟩ : ∃ m', numN 10 s (k + 1) = m' := ⟨_, rfl⟩
        have HNN : Hid (m' = 10 * numN 10 s k + dg (bb s k)) := Lib.hid (by rw [← hm']; rfl)
        have HM := Lib.hid hm'
        clear hm'
        have hd := dg_le (bb s k)
        generalize numN 10 s k = m at *
        generalize dg (bb s k) = d at *
        go_wp2_with fail
        refine (K.out).mono ?_
        rintro _ w4 ⟨rfl, rfl⟩
        by_cases hdd : d < 10
        · have HS3 := Lib.hid (HST.out hdd)
          go_wp2_with fail
          go_roundw
          case rel => exact ⟨trivial, k + 1, hlt, by go_num, by rw [HM.out, HNN.out]; first | go_num | (congr 1; omega), HS3.out⟩
          case measure => simp [intOf]; omega
        · have HW := Lib.hid (HBD.out (by omega))
          go_wp2_with fail
          go_ret2
          exact ⟨by rw [HW.out]; rfl, rfl⟩
      · have hks : k = s.size := by omega
        subst hks
        by_cases h0 : s.size = 0
        · have HW := Lib.hid (HN.out (Or.inl h0))
          have hne : (s.toList == []) = true := by rw [size0 h0, ByteArray.toList_eq]; rfl
          go_wp2_with fail
          go_ret2
          exact ⟨by rw [HW.out]; rfl, rfl⟩
        · have hne : (s.toList == []) = false := by
            rw [ByteArray.toList_eq]
            obtain ⟨⟨l⟩⟩ := s
            cases l with
            | nil => exact absurd rfl h0
            | cons c t => rfl
          by_cases hbig : 4294967296 ≤ numN 10 s s.size
          · have HW := Lib.hid (HN.out (Or.inr (Or.inr hbig)))
            generalize numN 10 s s.size = m at *
            have hbi : (4294967296 : Int) ≤ (m : Int) := by omega
            have hbd : decide ((4294967296 : Int) ≤ (m : Int)) = true := decide_eq_true hbi
            clear hbig
            go_wp2_with fail
            go_ret2
            exact ⟨by rw [HW.out]; rfl, rfl⟩
          · have HW := Lib.hid (HE.out HIN.out (by omega) h0)
            generalize numN 10 s s.size = m at *
            have hbi : (m : Int) < 4294967296 := by omega
            have hbd : decide ((4294967296 : Int) ≤ (m : Int)) = false := decide_eq_false (by omega)
            clear hbig
            go_wp2_with fail
            go_ret2
            exact ⟨by rw [HW.out]; first | rfl | go_num, rfl⟩
end Go.Proofs.YtblfnjdbihhglaaGreatDoor.Li
