import Derived.Test.YtgmifaadlaigdaaGreatDoorProg
import Derived.WalkKit
import Derived.ProofKit
import Derived.OpenShut
import Derived.Below
import Derived.WalkSmall
import Derived.BigQuiet
import Derived.Deep.QuietTactic
import Derived.Deep.RegionHeld3
import Derived.LoopTactic
import Derived.Lib.Hide
import Derived.Laws.BitsAllLaws
import Derived.Laws.Strings
import Derived.Laws.Strings2
import Derived.Laws.Strings3
import Derived.Laws.Concat
import Derived.Lib.Split
namespace Go.Proofs.YtgmifaadlaigdaaGreatDoor
open Go.ChangeShapes Go.WideShapes Go.ChangeAt Go.RowKit
set_option linter.unusedVariables false
/-- a byte of a text -/
def bb (s : ByteArray) (i : Nat) : Nat := if h : i < s.size then (s[i]'h).toNat else 0
theorem bb_lt (s : ByteArray) (i : Nat) : bb s i < 256 := by
  unfold bb
  split
  · exact UInt8.toNat_lt _
  · omega
theorem bb_eq (s : ByteArray) (k : Nat) (h : k < s.size) : bb s k = (s[k]'h).toNat := by unfold bb; rw [dif_pos h]
/-- is a byte one of a member's name? -/
def inN (n : Nat) : Bool := decide (33 ≤ n) && decide (n ≤ 126) && !decide (n = 47)
open Classical in
/-- may it be a member's name? -/
noncomputable def nmB (s : ByteArray) : Bool := decide ((1 ≤ s.size ∧ s.size ≤ 15) ∧ ∀ i, i < s.size → inN (bb s i) = true)
open Classical in
/-- has it a byte 0? -/
noncomputable def zeB (s : ByteArray) : Bool := decide (∃ i, i < s.size ∧ bb s i = 0)
set_option maxHeartbeats 4000000 in
theorem c27 (s : ByteArray) (hs : s.size ≤ 9223372036854775807) (w : World) : Calls Tryz.prog 27 #[.string s] w fun e w' => e = .returned (.bool (nmB s)) ∧ w = w' := by
  go_enter Tryz.func27, Tryz.ntmps27
  go_wp2_with fail
  go_loopw [3] (fun i wr => wr = w ∧ ∃ k : Nat, k ≤ s.size ∧ i = .int .i64 (k : Int) ∧ ∀ j, j < k → inN (bb s j) = true) (fun i _ => s.size - (intOf i).toNat)
  case atStart => exact ⟨rfl, 0, by omega, rfl, fun i hi => absurd hi (by omega)⟩
  case round =>
    obtain ⟨rfl, k, hk, rfl, hin⟩ := hrel
    have HIN := Lib.hid hin
    clear hin
    by_cases hlt : k < s.size
    · have he : (s[k]'hlt).toNat = bb s k := (bb_eq s k hlt).symm
      by_cases hok : inN (bb s k) = true
      · have HS : Hid (∀ i, i < k + 1 → inN (bb s i) = true) := Lib.hid fun i hi => by
          by_cases e : i = k
          · rw [e]; exact hok
          · exact HIN.out i (by omega)
        have b1 : decide ((bb s k : Int) < 33) = false := by unfold inN at hok; simp at hok; simp; omega
        have b2 : decide ((126 : Int) < (bb s k : Int)) = false := by unfold inN at hok; simp at hok; simp; omega
        have b3 : ((bb s k : Int) == 47) = false := by unfold inN at hok; simp at hok; simp; omega
        generalize bb s k = v at *
        clear hok
        go_wp2_with fail
        go_roundw
        case rel => exact ⟨trivial, k + 1, hlt, by go_num, HS.out⟩
        case measure => simp [intOf]; omega
      · have hwd : nmB s = false := by unfold nmB; exact decide_eq_false (fun h => hok (h.2 k hlt))
        have HW := Lib.hid hwd
        have hb : decide ((bb s k : Int) < 33) = true ∨ (decide ((bb s k : Int) < 33) = false ∧ decide ((126 : Int) < (bb s k : Int)) = true) ∨ (decide ((bb s k : Int) < 33) = false ∧ decide ((126 : Int) < (bb s k : Int)) = false ∧ ((bb s k : Int) == 47) = true) := by
          unfold inN at hok; simp at hok
          by_cases h : bb s k < 33
          · exact Or.inl (by simp; omega)
          · by_cases h2 : 126 < bb s k
            · exact Or.inr (Or.inl ⟨by simp; omega, by simp; omega⟩)
            · exact Or.inr (Or.inr ⟨by simp; omega, by simp; omega, by simp; omega⟩)
        generalize bb s k = v at *
        clear hok hwd
        rcases hb with b1 | ⟨b0, b1⟩ | ⟨b0, b1, b2⟩
        all_goals
          go_wp2_with fail
          go_ret
          exact ⟨by rw [HW.out]; rfl, rfl⟩
    · have hks : k = s.size := by omega
      have hw : nmB s = (decide (1 ≤ s.size) && decide (s.size ≤ 15)) := by
        unfold nmB
        by_cases h : 1 ≤ s.size ∧ s.size ≤ 15
        · rw [decide_eq_true (⟨h, fun i hi => HIN.out i (by omega)⟩), decide_eq_true h.1, decide_eq_true h.2]; rfl
        · rw [decide_eq_false (fun q => h q.1)]
          by_cases h1 : 1 ≤ s.size
          · rw [decide_eq_false (fun q => h ⟨h1, q⟩), Bool.and_false]
          · rw [decide_eq_false h1, Bool.false_and]
      have HW := Lib.hid hw
      clear hw hks
      have HZ : Hid ((1 ≤ s.size ∧ decide ((1 : Int) ≤ (s.size : Int)) = true ∧ (decide ((s.size : Int) ≤ 15) = decide (s.size ≤ 15))) ∨ (¬ 1 ≤ s.size ∧ decide ((1 : Int) ≤ (s.size : Int)) = false)) := Lib.hid (by
        by_cases h1 : 1 ≤ s.size
        · exact Or.inl ⟨h1, by rw [decide_eq_true]; omega, by rw [decide_eq_decide]; omega⟩
        · exact Or.inr ⟨h1, by rw [decide_eq_false]; omega⟩)
      rcases HZ.out with ⟨h1, b1, b2⟩ | ⟨h1, b1⟩
      · have HB2 := Lib.hid b2
        have H1 := Lib.hid h1
        clear h1 b2 HZ
        go_wp2_with fail
        go_ret
        exact ⟨by rw [HW.out, decide_eq_true H1.out, ← HB2.out]; rfl, rfl⟩
      · have H1 := Lib.hid h1
        clear h1 HZ
        go_wp2_with fail
        go_ret
        exact ⟨by rw [HW.out, decide_eq_false H1.out]; rfl, rfl⟩
set_option maxHeartbeats 4000000 in
theorem c28 (s : ByteArray) (hs : s.size ≤ 9223372036854775807) (w : World) : Calls Tryz.prog 28 #[.string s] w fun e w' => e = .returned (.bool (zeB s)) ∧ w = w' := by
  go_enter Tryz.func28, Tryz.ntmps28
  go_wp2_with fail
  go_loopw [3] (fun i wr => wr = w ∧ ∃ k : Nat, k ≤ s.size ∧ i = .int .i64 (k : Int) ∧ ∀ j, j < k → bb s j ≠ 0) (fun i _ => s.size - (intOf i).toNat)
  case atStart => exact ⟨rfl, 0, by omega, rfl, fun i hi => absurd hi (by omega)⟩
  case round =>
    obtain ⟨rfl, k, hk, rfl, hin⟩ := hrel
    have HIN := Lib.hid hin
    clear hin
    by_cases hlt : k < s.size
    · have he : (s[k]'hlt).toNat = bb s k := (bb_eq s k hlt).symm
      by_cases hok : bb s k ≠ 0
      · have HS : Hid (∀ i, i < k + 1 → bb s i ≠ 0) := Lib.hid fun i hi => by
          by_cases e : i = k
          · rw [e]; exact hok
          · exact HIN.out i (by omega)
        have b1 : ((bb s k : Int) == 0) = false := by simp; omega
        generalize bb s k = v at *
        clear hok
        go_wp2_with fail
        go_roundw
        case rel => exact ⟨trivial, k + 1, hlt, by go_num, HS.out⟩
        case measure => simp [intOf]; omega
      · have HW : Hid (zeB s = true) := Lib.hid (by unfold zeB; exact decide_eq_true ⟨k, hlt, by omega⟩)
        have b1 : ((bb s k : Int) == 0) = true := by simp; omega
        generalize bb s k = v at *
        clear hok
        go_wp2_with fail
        go_ret
        exact ⟨by rw [HW.out]; rfl, rfl⟩
    · have HW : Hid (zeB s = false) := Lib.hid (by unfold zeB; exact decide_eq_false (fun ⟨i, hi, h⟩ => HIN.out i (by omega) h))
      go_wp2_with fail
      go_ret
      exact ⟨by rw [HW.out]; rfl, rfl⟩
end Go.Proofs.YtgmifaadlaigdaaGreatDoor
