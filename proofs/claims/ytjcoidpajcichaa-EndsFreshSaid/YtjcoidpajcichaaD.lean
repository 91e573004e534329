import Derived.Test.YtjcoidpajcichaaC
namespace Go.Proofs.Ytjcoidpajcichaa
open Go.ChangeShapes Go.WideShapes Go.ChangeAt Go.RowKit
set_option linter.unusedVariables false
def getE (n at' s : Int) : Int := if isSz s = false ∨ at' < 0 ∨ n < at' then 2 else 4
theorem c14x (A : Option Addr) (n c : Nat) (at' s : Int) (w : World) (hn : n ≤ c) (hc : c ≤ 9223372036854775807) (hp : ¬ (isSz s = true ∧ 0 ≤ at' ∧ at' + s ≤ n)) :
    Calls Try.prog 14 #[.slice A n c, .int .i64 at', .int .i64 s] w fun e w' => e = .returned (.tuple #[.int .u64 0, .int .i64 (getE n at' s)]) ∧ w = w' := by
  have k25 := c25 s
  cases h : isSz s with
  | false =>
    have e : getE n at' s = 2 := by unfold getE; rw [if_pos (.inl h)]
    rw [h] at k25
    rw [e]
    have K25 := Lib.hid k25
    clear k25 e hp h
    go_enter Try.func14, Try.ntmps14
    go_wp2_with (go_at_call 25; refine (K25.out _).mono ?_; rintro _ _ ⟨rfl, rfl⟩)
    go_ret2
    exact ⟨rfl, rfl⟩
  | true =>
    have hs : 0 ≤ s := by unfold isSz at h; simp at h; omega
    have k28 := c28x A n c at' s w hn hc (fun hh => hp ⟨h, hh.1, hh.2.2⟩)
    have e : getE n at' s = cutE n at' s := by
      unfold getE cutE
      by_cases h1 : at' < 0
      · rw [if_pos (.inr (.inl h1)), if_pos (.inl h1)]
      by_cases h2 : (n : Int) < at'
      · rw [if_pos (.inr (.inr h2)), if_pos (.inr (.inl h2))]
      rw [if_neg (by simp [h, h1, h2]), if_neg (by omega)]
    have e2 : cutE n at' s = 2 ∨ cutE n at' s = 4 := by unfold cutE; split <;> simp
    rw [h] at k25
    rw [e]
    clear e hp h
    have K25 := Lib.hid k25
    clear k25
    rcases e2 with e2 | e2
    all_goals
      rw [e2] at k28 ⊢
      have K28 := Lib.hid k28
      clear k28 e2
      go_enter Try.func14, Try.ntmps14
      go_wp2_with (first | (go_at_call 25; refine (K25.out _).mono ?_; rintro _ _ ⟨rfl, rfl⟩) | (go_at_call 28; refine K28.out.mono ?_; rintro _ _ ⟨rfl, rfl⟩))
      go_ret2
      exact ⟨rfl, rfl⟩
theorem c15x (A : Option Addr) (n c : Nat) (at' s : Int) (w : World) (hn : n ≤ c) (hc : c ≤ 9223372036854775807) (hp : ¬ (isSz s = true ∧ 0 ≤ at' ∧ at' + s ≤ n)) :
    Calls Try.prog 15 #[.slice A n c, .int .i64 at', .int .i64 s] w fun e w' => e = .returned (.tuple #[.int .u64 0, .int .i64 (getE n at' s)]) ∧ w = w' := by
  have k27 := c27 s
  cases h : isSz s with
  | false =>
    have e : getE n at' s = 2 := by unfold getE; rw [if_pos (.inl h)]
    rw [h] at k27
    rw [e]
    have K27 := Lib.hid k27
    clear k27 e hp h
    go_enter Try.func15, Try.ntmps15
    go_wp2_with (go_at_call 27; refine (K27.out _).mono ?_; rintro _ _ ⟨rfl, rfl⟩)
    go_ret2
    exact ⟨rfl, rfl⟩
  | true =>
    rw [h] at k27
    have K27 := Lib.hid k27
    have hs : 0 ≤ s ∧ s ≤ 8 := by unfold isSz at h; simp at h; omega
    clear k27
    by_cases h1 : at' < 0
    · have e : getE n at' s = 2 := by unfold getE; rw [if_pos (.inr (.inl h1))]
      have q1 : decide (at' < 0) = true := by simpa using h1
      rw [e]
      clear e hp h
      go_enter Try.func15, Try.ntmps15
      go_wp2_with (go_at_call 27; refine (K27.out _).mono ?_; rintro _ _ ⟨rfl, rfl⟩)
      go_ret2
      exact ⟨rfl, rfl⟩
    obtain ⟨p, rfl⟩ := Int.eq_ofNat_of_zero_le (Int.not_lt.1 h1)
    have q1 : decide ((p : Int) < 0) = false := by simp
    by_cases h2 : n < p
    · have e : getE n p s = 2 := by unfold getE; rw [if_pos (.inr (.inr (by omega)))]
      have q2 : decide (n < p) = true := by simpa using h2
      rw [e]
      clear e hp h
      go_enter Try.func15, Try.ntmps15
      go_wp2_with (go_at_call 27; refine (K27.out _).mono ?_; rintro _ _ ⟨rfl, rfl⟩)
      go_ret2
      exact ⟨rfl, rfl⟩
    have e : getE n p s = 4 := by unfold getE; rw [if_neg (by simp [h]; omega)]
    have q2 : decide (n < p) = false := by simpa using h2
    have h3 : (n : Int) < p + s := by
      rcases Int.lt_or_le (n : Int) (p + s) with h3 | h3
      · exact h3
      · exact absurd ⟨h, by omega, h3⟩ hp
    have q4 : decide ((n : Int) - (p : Int) < s) = true := by simp; omega
    have q7 : (p : Int) ≤ (n : Int) := by omega
    have q8 : p ≤ n := by omega
    rw [e]
    clear e hp h h3
    go_enter Try.func15, Try.ntmps15
    go_wp2_with (go_at_call 27; refine (K27.out _).mono ?_; rintro _ _ ⟨rfl, rfl⟩)
    go_ret2
    exact ⟨rfl, rfl⟩
def RGetR (w : World) (f : Nat → Nat) (s : Nat) (i v : Value) (wr : World) : Prop := ∃ (k m : Nat) (z : Int), k ≤ s ∧ z = (k : Int) - 1 ∧ i = .int .i64 z ∧ v = .int .u64 (m : Int) ∧ m * 256 ^ k + nm f k = nm f s ∧ wr = w
theorem rget_step {f : Nat → Nat} {s k m : Nat} (h : m * 256 ^ (k + 1) + nm f (k + 1) = nm f s) : (256 * m + f k) * 256 ^ k + nm f k = nm f s := by
  rw [← h]
  show _ = m * 256 ^ (k + 1) + (nm f k + f k * 256 ^ k)
  rw [Nat.add_mul, Nat.pow_succ, Nat.mul_comm 256 m, Nat.mul_assoc, Nat.mul_comm 256 (256 ^ k)]
  omega
theorem rget_lt {f : Nat → Nat} (hf : ∀ j, f j < 256) {s k m : Nat} (hs : s ≤ 8) (h : m * 256 ^ k + nm f k = nm f s) : m < 18446744073709551616 := by
  have h1 := nm_lt f hf s
  have h2 : (256 : Nat) ^ s ≤ 256 ^ 8 := Nat.pow_le_pow_right (by omega) hs
  have h3 : m ≤ m * 256 ^ k := Nat.le_mul_of_pos_right _ (Nat.pow_pos (by omega))
  have h4 : (256 : Nat) ^ 8 = 18446744073709551616 := rfl
  omega
set_option maxHeartbeats 2000000 in
theorem c15 (A : Option Addr) (n c p s : Nat) (f : Nat → Nat) (w : World) (hf : ∀ j, f j < 256) (hn : n ≤ c) (hc : c ≤ 9223372036854775807) (hA : Rd w A n f) (hs : s = 1 ∨ s = 2 ∨ s = 4 ∨ s = 8) (hp : p + s ≤ n) :
    Calls Try.prog 15 #[.slice A n c, .int .i64 (p : Int), .int .i64 (s : Int)] w fun e w' => e = .returned (.tuple #[.int .u64 (nm (fun j => f (p + j)) s : Int), .int .i64 0]) ∧ w = w' := by
  have k27 := c27 s
  rw [show isSz (s : Int) = true from by unfold isSz; rcases hs with rfl | rfl | rfl | rfl <;> rfl] at k27
  have K27 := Lib.hid k27
  have hs8 : s ≤ 8 ∧ 0 < s := by omega
  have hf' : ∀ j, (fun j => f (p + j)) j < 256 := fun j => hf _
  have q1 : decide ((p : Int) < 0) = false := by simp
  have q2 : decide (n < p) = false := by simp; omega
  have q4 : decide ((n : Int) - (p : Int) < (s : Int)) = false := by simp; omega
  obtain ⟨b, o, rfl, hb, hcell⟩ := hA (by omega)
  have hcell : ∀ j, j < s → w.cell? ⟨b, o + (p + j), none⟩ = some (.int .u8 (((fun j => f (p + j)) j : Nat) : Int)) := fun j hj => hcell (p + j) (by omega)
  obtain ⟨g, hg⟩ : ∃ g, g = fun j => f (p + j) := ⟨_, rfl⟩
  rw [← hg] at hf' hcell ⊢
  have HC := Lib.hid hcell
  have hp2 : p ≤ n := by omega
  have HF := Lib.hid hf'
  clear hs k27 hA hg hf hf' hcell
  go_enter Try.func15, Try.ntmps15
  go_wp2_with (go_at_call 27; refine (K27.out _).mono ?_; rintro _ _ ⟨rfl, rfl⟩)
  go_loopw [9, 8] (RGetR w g s) (fun i _ _ => (intOf i + 1).toNat)
  case atStart => exact ⟨s, 0, _, Nat.le_refl _, rfl, by go_num, rfl, by simp, rfl⟩
  case round =>
    obtain ⟨k, m, z, hk, hz, rfl, rfl, he, rfl⟩ := hrel
    rcases k with _ | k
    · obtain rfl : z = -1 := by omega
      have he' : nm g s = m := by simpa [nm] using he.symm
      have HE := Lib.hid he'
      clear he he' hz K27
      go_wp2
      go_ret2
      exact ⟨by rw [HE.out]; rfl, rfl⟩
    · obtain rfl : z = (k : Int) := by omega
      have hc0 := HC.out k (by omega)
      have hx := HF.out k
      have hst := rget_step he
      have hlt := rget_lt HF.out hs8.1 hst
      have HST := Lib.hid hst
      clear he hst hz K27
      generalize hgk : g k = x at hc0 hx hlt
      have HX := Lib.hid hgk
      clear hgk
      have w1 : (256 : Int) * (m : Int) + (x : Int) < 18446744073709551616 := by omega
      have w2 : (m : Int) ≤ 72057594037927935 := by omega
      go_wp2
      go_roundw
      case rel => exact ⟨k, 256 * m + x, _, by omega, rfl, rfl, by go_num, by rw [← HX.out]; exact HST.out, rfl⟩
      case measure => simp [intOf]
end Go.Proofs.Ytjcoidpajcichaa
