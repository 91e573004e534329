import Derived.Test.YtleabbhoedddlaaXB
namespace Go.Proofs.Ytleabbhoedddlaa.Pt
open Go.ChangeShapes Go.WideShapes Go.ChangeAt Go.RowKit
set_option linter.unusedVariables false
def nm (f : Nat → Nat) : Nat → Nat
  | 0 => 0
  | k + 1 => nm f k + f k * 256 ^ k
theorem nm_lt (f : Nat → Nat) (hf : ∀ j, f j < 256) : ∀ k, nm f k < 256 ^ k
  | 0 => by simp [nm]
  | k + 1 => by
    have h1 := nm_lt f hf k
    have h2 := Nat.mul_le_mul_right (256 ^ k) (Nat.le_of_lt_succ (hf k))
    have h3 : (256 : Nat) ^ (k + 1) = 256 ^ k * 256 := Nat.pow_succ ..
    show nm f k + f k * 256 ^ k < _
    rw [h3]
    omega
theorem orb (m x k : Nat) (hk : k ≤ 7) (hm : m < 256 ^ k) (hx : x < 256) (hlt : x * 256 ^ k < 18446744073709551616) (P : Int) (hP : P = ((256 ^ k : Nat) : Int)) :
    bits .or .u64 (m : Int) ((x : Int) * P) = ((m + x * 256 ^ k : Nat) : Int) := by
  subst hP
  have h2 : (x : Int) * ((256 ^ k : Nat) : Int) = ((x * 256 ^ k : Nat) : Int) := (Int.natCast_mul ..).symm
  have hp : (256 : Nat) ^ k ≤ 256 ^ 7 := Nat.pow_le_pow_right (by omega) hk
  rw [h2, u64_or_nat m (x * 256 ^ k) (by omega) hlt]
  congr 1
  have e : (256 : Nat) ^ k = 2 ^ (8 * k) := by rw [Nat.pow_mul]
  rw [e] at hm ⊢
  have := Nat.two_pow_add_eq_or_of_lt hm x
  rw [Nat.or_comm, Nat.mul_comm x, ← this, Nat.add_comm]
theorem orb0 (m x : Nat) (hm : m < 256 ^ 0) (hx : x < 256) : bits .or .u64 (m : Int) (x : Int) = ((m + x * 256 ^ 0 : Nat) : Int) := by
  have := orb m x 0 (by omega) hm hx (by omega) 1 rfl
  rwa [Int.mul_one] at this
theorem orb1 (m x : Nat) (hm : m < 256 ^ 1) (hx : x < 256) : bits .or .u64 (m : Int) ((x : Int) * 256) = ((m + x * 256 ^ 1 : Nat) : Int) :=
  orb m x 1 (by omega) hm hx (by simp only [Nat.reducePow]; omega) 256 (by simp only [Nat.reducePow]; rfl)
theorem orb2 (m x : Nat) (hm : m < 256 ^ 2) (hx : x < 256) : bits .or .u64 (m : Int) ((x : Int) * 65536) = ((m + x * 256 ^ 2 : Nat) : Int) :=
  orb m x 2 (by omega) hm hx (by simp only [Nat.reducePow]; omega) 65536 (by simp only [Nat.reducePow]; rfl)
theorem orb3 (m x : Nat) (hm : m < 256 ^ 3) (hx : x < 256) : bits .or .u64 (m : Int) ((x : Int) * 16777216) = ((m + x * 256 ^ 3 : Nat) : Int) :=
  orb m x 3 (by omega) hm hx (by simp only [Nat.reducePow]; omega) 16777216 (by simp only [Nat.reducePow]; rfl)
theorem orb4 (m x : Nat) (hm : m < 256 ^ 4) (hx : x < 256) : bits .or .u64 (m : Int) ((x : Int) * 4294967296) = ((m + x * 256 ^ 4 : Nat) : Int) :=
  orb m x 4 (by omega) hm hx (by simp only [Nat.reducePow]; omega) 4294967296 (by simp only [Nat.reducePow]; rfl)
theorem orb5 (m x : Nat) (hm : m < 256 ^ 5) (hx : x < 256) : bits .or .u64 (m : Int) ((x : Int) * 1099511627776) = ((m + x * 256 ^ 5 : Nat) : Int) :=
  orb m x 5 (by omega) hm hx (by simp only [Nat.reducePow]; omega) 1099511627776 (by simp only [Nat.reducePow]; rfl)
theorem orb6 (m x : Nat) (hm : m < 256 ^ 6) (hx : x < 256) : bits .or .u64 (m : Int) ((x : Int) * 281474976710656) = ((m + x * 256 ^ 6 : Nat) : Int) :=
  orb m x 6 (by omega) hm hx (by simp only [Nat.reducePow]; omega) 281474976710656 (by simp only [Nat.reducePow]; rfl)
theorem orb7 (m x : Nat) (hm : m < 256 ^ 7) (hx : x < 256) : bits .or .u64 (m : Int) ((x : Int) * 72057594037927936) = ((m + x * 256 ^ 7 : Nat) : Int) :=
  orb m x 7 (by omega) hm hx (by simp only [Nat.reducePow]; omega) 72057594037927936 (by simp only [Nat.reducePow]; rfl)
def GetR (w : World) (f : Nat → Nat) (s : Nat) (i v : Value) (wr : World) : Prop := ∃ k : Nat, k ≤ s ∧ i = .int .i64 (k : Int) ∧ v = .int .u64 (nm f k : Int) ∧ wr = w
set_option maxHeartbeats 2000000 in
theorem c14 (A : Option Addr) (n c p s : Nat) (f : Nat → Nat) (w : World) (hf : ∀ j, f j < 256) (hn : n ≤ c) (hc : c ≤ 9223372036854775807) (hA : Rd w A n f) (hA0 : A = none → c = 0) (hs : s = 1 ∨ s = 2 ∨ s = 4 ∨ s = 8) (hp : p + s ≤ n) :
    Calls Try.prog 39 #[.slice A n c, .int .i64 (p : Int), .int .i64 (s : Int)] w fun e w' => e = .returned (.tuple #[.int .u64 (nm (fun j => f (p + j)) s : Int), .int .i64 0]) ∧ w = w' := by
  have k25 := c25 s
  rw [show isSz (s : Int) = true from by unfold isSz; rcases hs with rfl | rfl | rfl | rfl <;> rfl] at k25
  have k28 := c28 A n c p s f w hn hc hA hA0 hp
  have K25 := Lib.hid k25
  have K28 := Lib.hid k28
  have hs8 : s ≤ 8 ∧ 0 < s := by omega
  have hf' : ∀ j, (fun j => f (p + j)) j < 256 := fun j => hf _
  clear hs k25 k28 hA hA0 hp
  obtain ⟨g, hg⟩ : ∃ g, g = fun j => f (p + j) := ⟨_, rfl⟩
  rw [← hg] at hf' ⊢
  have HG := Lib.hid hg
  clear hf hg
  go_enter Try.func39, Try.ntmps39
  go_wp2_with fail
  refine (K25.out _).mono ?_
  rintro _ _ ⟨rfl, rfl⟩
  go_wp2_with fail
  refine K28.out.mono ?_
  rintro _ _ ⟨A', rfl, rfl, hR⟩
  rw [← HG.out] at hR
  obtain ⟨b, o, rfl, hb, hcell⟩ := hR hs8.2
  clear HG hR
  clear K25 K28
  have HC := Lib.hid hcell
  clear hcell
  go_wp2_with fail
  go_loopw [28, 10] (GetR w g s) (fun i _ _ => s - (intOf i).toNat)
  case atStart => exact ⟨0, Nat.zero_le _, rfl, rfl, rfl⟩
  case round =>
    obtain ⟨k, hk, rfl, rfl, rfl⟩ := hrel
    by_cases hlt : k < s
    · have hc0 := HC.out k hlt
      have hx := hf' k
      have hm := nm_lt g hf' k
      have hsucc : nm g (k + 1) = nm g k + g k * 256 ^ k := rfl
      clear HC hf'
      generalize nm g k = m at *
      generalize g k = x at *
      have HS := Lib.hid hsucc
      clear hsucc
      have h8 : k = 0 ∨ k = 1 ∨ k = 2 ∨ k = 3 ∨ k = 4 ∨ k = 5 ∨ k = 6 ∨ k = 7 := by omega
      rcases h8 with rfl | rfl | rfl | rfl | rfl | rfl | rfl | rfl
      all_goals
        try simp only [Nat.add_zero] at hc0
        go_wp2
        go_roundw
        case rel => exact ⟨_, hlt, rfl, by rw [HS.out]; exact congrArg (Value.int .u64) (by with_reducible first | exact orb0 m x hm hx | exact orb1 m x hm hx | exact orb2 m x hm hx | exact orb3 m x hm hx | exact orb4 m x hm hx | exact orb5 m x hm hx | exact orb6 m x hm hx | exact orb7 m x hm hx), rfl⟩
        case measure => simp [intOf]; omega
    · obtain rfl : k = s := by omega
      go_wp2
      go_ret2
      exact ⟨rfl, rfl⟩
end Go.Proofs.Ytleabbhoedddlaa.Pt
