import Derived.Test.YtleabbhoedddlaaXC
namespace Go.Proofs.Ytleabbhoedddlaa.Pt
open Go.ChangeShapes Go.WideShapes Go.ChangeAt Go.RowKit
set_option linter.unusedVariables false
def getE (n at' s : Int) : Int := if isSz s = false ∨ at' < 0 ∨ n < at' then 2 else 4
theorem c14x (A : Option Addr) (n c : Nat) (at' s : Int) (w : World) (hn : n ≤ c) (hc : c ≤ 9223372036854775807) (hp : ¬ (isSz s = true ∧ 0 ≤ at' ∧ at' + s ≤ n)) :
    Calls Try.prog 39 #[.slice A n c, .int .i64 at', .int .i64 s] w fun e w' => e = .returned (.tuple #[.int .u64 0, .int .i64 (getE n at' s)]) ∧ w = w' := by
  have k25 := c25 s
  cases h : isSz s with
  | false =>
    have e : getE n at' s = 2 := by unfold getE; rw [if_pos (.inl h)]
    rw [h] at k25
    rw [e]
    have K25 := Lib.hid k25
    clear k25 e hp h
    go_enter Try.func39, Try.ntmps39
    go_wp2_with (go_at_call 41; refine (K25.out _).mono ?_; rintro _ _ ⟨rfl, rfl⟩)
    go_ret2
    exact ⟨rfl, rfl⟩
  | true =>
    have hs : 0 ≤ s := by unfold isSz at h; simp at h; omega
    have k28 := c28x A n c at' s w hn hc (fun hh => hp ⟨h, hh.1, hh.2.2⟩)
    have e : getE n at' s = cutE n at' s := by
      unfold getE cutE
      by_cases h1 : at' < 0
      · rw [if_pos (.inr (.inl h1)), if_pos (.inl h1)]
      by_cases h2 : (n : Int) < at'
      · rw [if_pos (.inr (.inr h2)), if_pos (.inr (.inl h2))]
      rw [if_neg (by simp [h, h1, h2]), if_neg (by omega)]
    have e2 : cutE n at' s = 2 ∨ cutE n at' s = 4 := by unfold cutE; split <;> simp
    rw [h] at k25
    rw [e]
    clear e hp h
    have K25 := Lib.hid k25
    clear k25
    rcases e2 with e2 | e2
    all_goals
      rw [e2] at k28 ⊢
      have K28 := Lib.hid k28
      clear k28 e2
      go_enter Try.func39, Try.ntmps39
      go_wp2_with (first | (go_at_call 41; refine (K25.out _).mono ?_; rintro _ _ ⟨rfl, rfl⟩) | (go_at_call 38; refine K28.out.mono ?_; rintro _ _ ⟨rfl, rfl⟩))
      go_ret2
      exact ⟨rfl, rfl⟩
def RGetR (w : World) (f : Nat → Nat) (s : Nat) (i v : Value) (wr : World) : Prop := ∃ (k m : Nat) (z : Int), k ≤ s ∧ z = (k : Int) - 1 ∧ i = .int .i64 z ∧ v = .int .u64 (m : Int) ∧ m * 256 ^ k + nm f k = nm f s ∧ wr = w
theorem rget_step {f : Nat → Nat} {s k m : Nat} (h : m * 256 ^ (k + 1) + nm f (k + 1) = nm f s) : (256 * m + f k) * 256 ^ k + nm f k = nm f s := by
  rw [← h]
  show _ = m * 256 ^ (k + 1) + (nm f k + f k * 256 ^ k)
  rw [Nat.add_mul, Nat.pow_succ, Nat.mul_comm 256 m, Nat.mul_assoc, Nat.mul_comm 256 (256 ^ k)]
  omega
theorem rget_lt {f : Nat → Nat} (hf : ∀ j, f j < 256) {s k m : Nat} (hs : s ≤ 8) (h : m * 256 ^ k + nm f k = nm f s) : m < 18446744073709551616 := by
  have h1 := nm_lt f hf s
  have h2 : (256 : Nat) ^ s ≤ 256 ^ 8 := Nat.pow_le_pow_right (by omega) hs
  have h3 : m ≤ m * 256 ^ k := Nat.le_mul_of_pos_right _ (Nat.pow_pos (by omega))
  have h4 : (256 : Nat) ^ 8 = 18446744073709551616 := rfl
  omega
end Go.Proofs.Ytleabbhoedddlaa.Pt
