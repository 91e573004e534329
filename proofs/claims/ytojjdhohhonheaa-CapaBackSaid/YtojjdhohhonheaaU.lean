import Derived.Test.YtojjdhohhonheaaR
import Derived.Test.YtojjdhohhonheaaJ
namespace Go.Proofs.Ytojjdhohhonheaa
open Go.ChangeShapes Go.WideShapes Go.ChangeAt Go.RowKit
set_option linter.unusedVariables false
theorem has_iff (c p : Nat) (hp : p < 256) : (c &&& p = p ↔ (∀ j, j < 8 → ¬ (p / 2 ^ j % 2 = 1 ∧ c / 2 ^ j % 2 = 0))) := by
  constructor
  · intro h j hj ⟨h1, h2⟩
    have h3 := congrArg (fun x => Nat.testBit x j) h
    simp only [Nat.testBit_and] at h3
    simp only [Nat.testBit_eq_decide_div_mod_eq] at h3
    rw [h1, h2] at h3
    simp at h3
  · intro h
    apply Nat.eq_of_testBit_eq
    intro j
    rw [Nat.testBit_and]
    by_cases hj : j < 8
    · have h1 := h j hj
      simp only [Nat.testBit_eq_decide_div_mod_eq]
      by_cases a : p / 2 ^ j % 2 = 1
      · have b : c / 2 ^ j % 2 = 1 := by omega
        rw [decide_eq_true a, decide_eq_true b]; rfl
      · rw [decide_eq_false a, Bool.and_false]
    · have : p.testBit j = false := Nat.testBit_lt_two_pow (Nat.lt_of_lt_of_le hp (Nat.pow_le_pow_right (n := 2) (by omega) (by omega : 8 ≤ j)))
      rw [this, Bool.and_false]
theorem nexth {P : Nat → Prop} {k : Nat} (h : ∀ j, j < k → P j) (hk : P k) : Hid (∀ j, j < k + 1 → P j) := fun j hj => by
  rcases Nat.lt_succ_iff_lt_or_eq.1 hj with h1 | rfl
  · exact h j h1
  · exact hk
def pw : Nat → Nat
  | 8 => 0
  | k => 2 ^ k
set_option maxHeartbeats 4000000 in
theorem has55 (c p : Nat) (hc : c < 256) (hp : p < 256) (w : World) :
    Calls Try.prog 55 #[.int .u8 (c : Int), .int .u8 (p : Int)] w fun en w' => en = .returned (.bool (decide (c &&& p = p))) ∧ w = w' := by
  have hiff := has_iff c p hp
  have HI := Lib.hid hiff
  clear hiff
  go_enter Try.func55, Try.ntmps55
  go_wp2
  go_loop [5] (fun v => ∃ k : Nat, k ≤ 8 ∧ v = .int .u8 (pw k : Int) ∧ Hid (∀ j, j < k → ¬ (p / 2 ^ j % 2 = 1 ∧ c / 2 ^ j % 2 = 0))) (fun v => if intOf v = 0 then 0 else 256 - (intOf v).toNat)
  case atStart => exact ⟨0, by omega, rfl, fun j hj => by omega⟩
  case round =>
    obtain ⟨k, hk, rfl, hall⟩ := hrel
    have hk' : k = 8 ∨ k = 0 ∨ k = 1 ∨ k = 2 ∨ k = 3 ∨ k = 4 ∨ k = 5 ∨ k = 6 ∨ k = 7 := by omega
    rcases hk' with rfl | rfl | rfl | rfl | rfl | rfl | rfl | rfl | rfl
    · rw [show ((pw 8 : Nat) : Int) = 0 from rfl]
      go_wp2
      go_ret
      exact ⟨retb (by symm; exact decide_eq_true (HI.out.2 hall.out)), rfl⟩
    · rw [show ((pw 0 : Nat) : Int) = 1 from rfl]
      by_cases h1 : p / 2 ^ 0 % 2 = 1
      · have f1 : (((p : Int) % 2 == 1)) = true := by simp at h1 ⊢; omega
        by_cases h2 : c / 2 ^ 0 % 2 = 0
        · have f2 : (((c : Int) % 2 == 0)) = true := by simp at h2 ⊢; omega
          have hno : ¬ (c &&& p = p) := fun h => HI.out.1 h 0 (by omega) ⟨h1, h2⟩
          have HN := Lib.hid hno
          clear hno h1 h2
          go_wp2
          go_ret
          exact ⟨retb (by symm; exact decide_eq_false HN.out), rfl⟩
        · have f2 : (((c : Int) % 2 == 0)) = false := by simp at h2 ⊢; omega
          have hnew : Hid (∀ j, j < 1 → ¬ (p / 2 ^ j % 2 = 1 ∧ c / 2 ^ j % 2 = 0)) := nexth hall.out (fun h => h2 h.2)
          clear h1 h2
          go_wp2
          go_round
          case rel => exact ⟨1, by omega, rfl, hnew⟩
          case measure => simp [intOf]
      · have f1 : (((p : Int) % 2 == 1)) = false := by simp at h1 ⊢; omega
        have hnew : Hid (∀ j, j < 1 → ¬ (p / 2 ^ j % 2 = 1 ∧ c / 2 ^ j % 2 = 0)) := nexth hall.out (fun h => h1 h.1)
        clear h1
        go_wp2
        go_round
        case rel => exact ⟨1, by omega, rfl, hnew⟩
        case measure => simp [intOf]
    · rw [show ((pw 1 : Nat) : Int) = 2 from rfl]
      by_cases h1 : p / 2 ^ 1 % 2 = 1
      · have f1 : (((p : Int) / 2 % 2 == 1)) = true := by simp at h1 ⊢; omega
        by_cases h2 : c / 2 ^ 1 % 2 = 0
        · have f2 : (((c : Int) / 2 % 2 == 0)) = true := by simp at h2 ⊢; omega
          have hno : ¬ (c &&& p = p) := fun h => HI.out.1 h 1 (by omega) ⟨h1, h2⟩
          have HN := Lib.hid hno
          clear hno h1 h2
          go_wp2
          go_ret
          exact ⟨retb (by symm; exact decide_eq_false HN.out), rfl⟩
        · have f2 : (((c : Int) / 2 % 2 == 0)) = false := by simp at h2 ⊢; omega
          have hnew : Hid (∀ j, j < 2 → ¬ (p / 2 ^ j % 2 = 1 ∧ c / 2 ^ j % 2 = 0)) := nexth hall.out (fun h => h2 h.2)
          clear h1 h2
          go_wp2
          go_round
          case rel => exact ⟨2, by omega, rfl, hnew⟩
          case measure => simp [intOf]
      · have f1 : (((p : Int) / 2 % 2 == 1)) = false := by simp at h1 ⊢; omega
        have hnew : Hid (∀ j, j < 2 → ¬ (p / 2 ^ j % 2 = 1 ∧ c / 2 ^ j % 2 = 0)) := nexth hall.out (fun h => h1 h.1)
        clear h1
        go_wp2
        go_round
        case rel => exact ⟨2, by omega, rfl, hnew⟩
        case measure => simp [intOf]
    · rw [show ((pw 2 : Nat) : Int) = 4 from rfl]
      by_cases h1 : p / 2 ^ 2 % 2 = 1
      · have f1 : (((p : Int) / 4 % 2 == 1)) = true := by simp at h1 ⊢; omega
        by_cases h2 : c / 2 ^ 2 % 2 = 0
        · have f2 : (((c : Int) / 4 % 2 == 0)) = true := by simp at h2 ⊢; omega
          have hno : ¬ (c &&& p = p) := fun h => HI.out.1 h 2 (by omega) ⟨h1, h2⟩
          have HN := Lib.hid hno
          clear hno h1 h2
          go_wp2
          go_ret
          exact ⟨retb (by symm; exact decide_eq_false HN.out), rfl⟩
        · have f2 : (((c : Int) / 4 % 2 == 0)) = false := by simp at h2 ⊢; omega
          have hnew : Hid (∀ j, j < 3 → ¬ (p / 2 ^ j % 2 = 1 ∧ c / 2 ^ j % 2 = 0)) := nexth hall.out (fun h => h2 h.2)
          clear h1 h2
          go_wp2
          go_round
          case rel => exact ⟨3, by omega, rfl, hnew⟩
          case measure => simp [intOf]
      · have f1 : (((p : Int) / 4 % 2 == 1)) = false := by simp at h1 ⊢; omega
        have hnew : Hid (∀ j, j < 3 → ¬ (p / 2 ^ j % 2 = 1 ∧ c / 2 ^ j % 2 = 0)) := nexth hall.out (fun h => h1 h.1)
        clear h1
        go_wp2
        go_round
        case rel => exact ⟨3, by omega, rfl, hnew⟩
        case measure => simp [intOf]
    · rw [show ((pw 3 : Nat) : Int) = 8 from rfl]
      by_cases h1 : p / 2 ^ 3 % 2 = 1
      · have f1 : (((p : Int) / 8 % 2 == 1)) = true := by simp at h1 ⊢; omega
        by_cases h2 : c / 2 ^ 3 % 2 = 0
        · have f2 : (((c : Int) / 8 % 2 == 0)) = true := by simp at h2 ⊢; omega
          have hno : ¬ (c &&& p = p) := fun h => HI.out.1 h 3 (by omega) ⟨h1, h2⟩
          have HN := Lib.hid hno
          clear hno h1 h2
          go_wp2
          go_ret
          exact ⟨retb (by symm; exact decide_eq_false HN.out), rfl⟩
        · have f2 : (((c : Int) / 8 % 2 == 0)) = false := by simp at h2 ⊢; omega
          have hnew : Hid (∀ j, j < 4 → ¬ (p / 2 ^ j % 2 = 1 ∧ c / 2 ^ j % 2 = 0)) := nexth hall.out (fun h => h2 h.2)
          clear h1 h2
          go_wp2
          go_round
          case rel => exact ⟨4, by omega, rfl, hnew⟩
          case measure => simp [intOf]
      · have f1 : (((p : Int) / 8 % 2 == 1)) = false := by simp at h1 ⊢; omega
        have hnew : Hid (∀ j, j < 4 → ¬ (p / 2 ^ j % 2 = 1 ∧ c / 2 ^ j % 2 = 0)) := nexth hall.out (fun h => h1 h.1)
        clear h1
        go_wp2
        go_round
        case rel => exact ⟨4, by omega, rfl, hnew⟩
        case measure => simp [intOf]
    · rw [show ((pw 4 : Nat) : Int) = 16 from rfl]
      by_cases h1 : p / 2 ^ 4 % 2 = 1
      · have f1 : (((p : Int) / 16 % 2 == 1)) = true := by simp at h1 ⊢; omega
        by_cases h2 : c / 2 ^ 4 % 2 = 0
        · have f2 : (((c : Int) / 16 % 2 == 0)) = true := by simp at h2 ⊢; omega
          have hno : ¬ (c &&& p = p) := fun h => HI.out.1 h 4 (by omega) ⟨h1, h2⟩
          have HN := Lib.hid hno
          clear hno h1 h2
          go_wp2
          go_ret
          exact ⟨retb (by symm; exact decide_eq_false HN.out), rfl⟩
        · have f2 : (((c : Int) / 16 % 2 == 0)) = false := by simp at h2 ⊢; omega
          have hnew : Hid (∀ j, j < 5 → ¬ (p / 2 ^ j % 2 = 1 ∧ c / 2 ^ j % 2 = 0)) := nexth hall.out (fun h => h2 h.2)
          clear h1 h2
          go_wp2
          go_round
          case rel => exact ⟨5, by omega, rfl, hnew⟩
          case measure => simp [intOf]
      · have f1 : (((p : Int) / 16 % 2 == 1)) = false := by simp at h1 ⊢; omega
        have hnew : Hid (∀ j, j < 5 → ¬ (p / 2 ^ j % 2 = 1 ∧ c / 2 ^ j % 2 = 0)) := nexth hall.out (fun h => h1 h.1)
        clear h1
        go_wp2
        go_round
        case rel => exact ⟨5, by omega, rfl, hnew⟩
        case measure => simp [intOf]
    · rw [show ((pw 5 : Nat) : Int) = 32 from rfl]
      by_cases h1 : p / 2 ^ 5 % 2 = 1
      · have f1 : (((p : Int) / 32 % 2 == 1)) = true := by simp at h1 ⊢; omega
        by_cases h2 : c / 2 ^ 5 % 2 = 0
        · have f2 : (((c : Int) / 32 % 2 == 0)) = true := by simp at h2 ⊢; omega
          have hno : ¬ (c &&& p = p) := fun h => HI.out.1 h 5 (by omega) ⟨h1, h2⟩
          have HN := Lib.hid hno
          clear hno h1 h2
          go_wp2
          go_ret
          exact ⟨retb (by symm; exact decide_eq_false HN.out), rfl⟩
        · have f2 : (((c : Int) / 32 % 2 == 0)) = false := by simp at h2 ⊢; omega
          have hnew : Hid (∀ j, j < 6 → ¬ (p / 2 ^ j % 2 = 1 ∧ c / 2 ^ j % 2 = 0)) := nexth hall.out (fun h => h2 h.2)
          clear h1 h2
          go_wp2
          go_round
          case rel => exact ⟨6, by omega, rfl, hnew⟩
          case measure => simp [intOf]
      · have f1 : (((p : Int) / 32 % 2 == 1)) = false := by simp at h1 ⊢; omega
        have hnew : Hid (∀ j, j < 6 → ¬ (p / 2 ^ j % 2 = 1 ∧ c / 2 ^ j % 2 = 0)) := nexth hall.out (fun h => h1 h.1)
        clear h1
        go_wp2
        go_round
        case rel => exact ⟨6, by omega, rfl, hnew⟩
        case measure => simp [intOf]
    · rw [show ((pw 6 : Nat) : Int) = 64 from rfl]
      by_cases h1 : p / 2 ^ 6 % 2 = 1
      · have f1 : (((p : Int) / 64 % 2 == 1)) = true := by simp at h1 ⊢; omega
        by_cases h2 : c / 2 ^ 6 % 2 = 0
        · have f2 : (((c : Int) / 64 % 2 == 0)) = true := by simp at h2 ⊢; omega
          have hno : ¬ (c &&& p = p) := fun h => HI.out.1 h 6 (by omega) ⟨h1, h2⟩
          have HN := Lib.hid hno
          clear hno h1 h2
          go_wp2
          go_ret
          exact ⟨retb (by symm; exact decide_eq_false HN.out), rfl⟩
        · have f2 : (((c : Int) / 64 % 2 == 0)) = false := by simp at h2 ⊢; omega
          have hnew : Hid (∀ j, j < 7 → ¬ (p / 2 ^ j % 2 = 1 ∧ c / 2 ^ j % 2 = 0)) := nexth hall.out (fun h => h2 h.2)
          clear h1 h2
          go_wp2
          go_round
          case rel => exact ⟨7, by omega, rfl, hnew⟩
          case measure => simp [intOf]
      · have f1 : (((p : Int) / 64 % 2 == 1)) = false := by simp at h1 ⊢; omega
        have hnew : Hid (∀ j, j < 7 → ¬ (p / 2 ^ j % 2 = 1 ∧ c / 2 ^ j % 2 = 0)) := nexth hall.out (fun h => h1 h.1)
        clear h1
        go_wp2
        go_round
        case rel => exact ⟨7, by omega, rfl, hnew⟩
        case measure => simp [intOf]
    · rw [show ((pw 7 : Nat) : Int) = 128 from rfl]
      by_cases h1 : p / 2 ^ 7 % 2 = 1
      · have f1 : (((p : Int) / 128 % 2 == 1)) = true := by simp at h1 ⊢; omega
        by_cases h2 : c / 2 ^ 7 % 2 = 0
        · have f2 : (((c : Int) / 128 % 2 == 0)) = true := by simp at h2 ⊢; omega
          have hno : ¬ (c &&& p = p) := fun h => HI.out.1 h 7 (by omega) ⟨h1, h2⟩
          have HN := Lib.hid hno
          clear hno h1 h2
          go_wp2
          go_ret
          exact ⟨retb (by symm; exact decide_eq_false HN.out), rfl⟩
        · have f2 : (((c : Int) / 128 % 2 == 0)) = false := by simp at h2 ⊢; omega
          have hnew : Hid (∀ j, j < 8 → ¬ (p / 2 ^ j % 2 = 1 ∧ c / 2 ^ j % 2 = 0)) := nexth hall.out (fun h => h2 h.2)
          clear h1 h2
          go_wp2
          go_round
          case rel => exact ⟨8, by omega, rfl, hnew⟩
          case measure => simp [intOf]
      · have f1 : (((p : Int) / 128 % 2 == 1)) = false := by simp at h1 ⊢; omega
        have hnew : Hid (∀ j, j < 8 → ¬ (p / 2 ^ j % 2 = 1 ∧ c / 2 ^ j % 2 = 0)) := nexth hall.out (fun h => h1 h.1)
        clear h1
        go_wp2
        go_round
        case rel => exact ⟨8, by omega, rfl, hnew⟩
        case measure => simp [intOf]
end Go.Proofs.Ytojjdhohhonheaa
