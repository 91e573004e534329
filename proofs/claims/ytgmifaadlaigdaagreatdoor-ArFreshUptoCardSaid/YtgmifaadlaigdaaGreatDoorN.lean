import Derived.Test.YtgmifaadlaigdaaGreatDoorM
namespace Go.Proofs.YtgmifaadlaigdaaGreatDoor
open Go.ChangeShapes Go.WideShapes Go.ChangeAt Go.RowKit
set_option linter.unusedVariables false
theorem or32 (m x k : Nat) (hm : m < 2 ^ k) (h : m + x * 2 ^ k < 4294967296) (P : Int) (hP : P = ((2 ^ k : Nat) : Int)) : bits .or .u32 (m : Int) ((x : Int) * P) = ((m + x * 2 ^ k : Nat) : Int) := by
  subst hP
  have h2 : (x : Int) * ((2 ^ k : Nat) : Int) = ((x * 2 ^ k : Nat) : Int) := (Int.natCast_mul ..).symm
  rw [h2, u32_or_nat m (x * 2 ^ k) (by omega) (by omega)]
  congr 1
  have := Nat.two_pow_add_eq_or_of_lt hm x
  rw [Nat.or_comm, Nat.mul_comm x, ← this, Nat.add_comm]
/-- bits that don't meet: the higher ones first -/
theorem or32' (x m k : Nat) (hm : m < 2 ^ k) (h : m + x * 2 ^ k < 4294967296) : bits .or .u32 ((x * 2 ^ k : Nat) : Int) (m : Int) = ((m + x * 2 ^ k : Nat) : Int) := by
  have hp : 0 < 2 ^ k := Nat.pos_of_ne_zero (by simp)
  rw [u32_or_nat (x * 2 ^ k) m (by omega) (by omega)]
  congr 1
  have := Nat.two_pow_add_eq_or_of_lt hm x
  rw [Nat.mul_comm x, ← this, Nat.add_comm]
theorem big_or (a b c d : Nat) (ha : a < 256) (hb : b < 256) (hc : c < 256) (hd : d < 256) :
    bits .or .u32 (bits .or .u32 (bits .or .u32 ((a : Int) % 4294967296 * 16777216 % 4294967296) ((b : Int) % 4294967296 * 65536 % 4294967296)) ((c : Int) % 4294967296 * 256 % 4294967296)) ((d : Int) % 4294967296) = ((((a * 256 + b) * 256 + c) * 256 + d : Nat) : Int) := by
  have e1 : (a : Int) % 4294967296 * 16777216 % 4294967296 = ((a * 256 * 2 ^ 16 : Nat) : Int) := by simp only [Nat.reducePow]; omega
  have e2 : (b : Int) % 4294967296 * 65536 % 4294967296 = ((b * 65536 : Nat) : Int) := by omega
  have e3 : (c : Int) % 4294967296 * 256 % 4294967296 = ((c * 256 : Nat) : Int) := by omega
  have e4 : (d : Int) % 4294967296 = (d : Int) := by omega
  have o1 := or32' a (b * 65536) 24 (by omega) (by omega)
  have o2 := or32' (a * 256 + b) (c * 256) 16 (by omega) (by omega)
  have o3 := or32' ((a * 256 + b) * 256 + c) d 8 (by omega) (by omega)
  have f1 : ((a * 256 * 2 ^ 16 : Nat) : Int) = ((a * 2 ^ 24 : Nat) : Int) := by simp only [Nat.reducePow]; omega
  have f2 : ((b * 65536 + a * 2 ^ 24 : Nat) : Int) = (((a * 256 + b) * 2 ^ 16 : Nat) : Int) := congrArg Nat.cast (show b * 65536 + a * 2 ^ 24 = (a * 256 + b) * 2 ^ 16 by omega)
  have f3 : ((c * 256 + (a * 256 + b) * 2 ^ 16 : Nat) : Int) = ((((a * 256 + b) * 256 + c) * 2 ^ 8 : Nat) : Int) := congrArg Nat.cast (show c * 256 + (a * 256 + b) * 2 ^ 16 = ((a * 256 + b) * 256 + c) * 2 ^ 8 by omega)
  rw [e1, e2, e3, e4, f1, o1, f2, o2, f3, o3]
  simp only [Nat.reducePow]
  omega
set_option maxRecDepth 100000 in
set_option maxHeartbeats 4000000 in
theorem c56_no (s : ByteArray) (h : s.size < 4) (w : World) : Calls Tryz.prog 56 #[.string s] w fun e w' => e = .returned (.tuple #[.int .u32 0, .string ⟨#[]⟩, .bool false]) ∧ w = w' := by
  have b0 : decide ((s.size : Int) < 4) = true := by rw [decide_eq_true]; omega
  go_enter Tryz.func56, Tryz.ntmps56
  go_wp2_with fail
  go_ret3
  exact ⟨rfl, rfl⟩
set_option maxRecDepth 100000 in
set_option maxHeartbeats 4000000 in
theorem c56_yes (s : ByteArray) (h : 4 ≤ s.size) (hs : s.size ≤ 16777216) (w : World) : Calls Tryz.prog 56 #[.string s] w fun e w' => e = .returned (.tuple #[.int .u32 (bigN (bb s) 0 : Int), .string (s.extract 4 s.size), .bool true]) ∧ ∃ q, w' = w.drewN q := by
  have b0 : decide ((s.size : Int) < 4) = false := by rw [decide_eq_false]; omega
  have g0 : (s[0]'(by omega)).toNat = bb s 0 := (bb_eq s 0 (by omega)).symm
  have g1 : (s[1]'(by omega)).toNat = bb s 1 := (bb_eq s 1 (by omega)).symm
  have g2 : (s[2]'(by omega)).toNat = bb s 2 := (bb_eq s 2 (by omega)).symm
  have g3 : (s[3]'(by omega)).toNat = bb s 3 := (bb_eq s 3 (by omega)).symm
  go_enter Tryz.func56, Tryz.ntmps56
  go_wp2_with fail
  go_quiet (fail)
  go_wp2
  go_ret3
  refine ⟨?_, _, rfl⟩
  have h0 := big_or (bb s 0) (bb s 1) (bb s 2) (bb s 3) (bb_lt _ _) (bb_lt _ _) (bb_lt _ _) (bb_lt _ _)
  have h1 : (bigN (bb s) 0 : Int) = ((((bb s 0 * 256 + bb s 1) * 256 + bb s 2) * 256 + bb s 3 : Nat) : Int) := rfl
  rw [h1, ← h0]
  rfl
end Go.Proofs.YtgmifaadlaigdaaGreatDoor
