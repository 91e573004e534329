import Derived.Test.YtmanoheofloimaaGreatDoorProg
import Derived.WalkKit
import Derived.ProofKit
import Derived.OpenShut
import Derived.Below
import Derived.WalkSmall
import Derived.BigQuiet
import Derived.Deep.QuietTactic
import Derived.Deep.RegionHeld3
import Derived.LoopTactic
import Derived.Lib.Hide
import Derived.Laws.BitsAllLaws
import Derived.Deep.Draws
namespace Go.Proofs.YtmanoheofloimaaGreatDoor.In
open Go.ChangeShapes Go.WideShapes Go.ChangeAt Go.RowKit
set_option linter.unusedVariables false
set_option maxRecDepth 100000
theorem ret1 {k : IntKind} {a b : Int} (h : a = b) : Ending.returned (.int k a) = .returned (.int k b) := by rw [h]
theorem retb {a b : Bool} (h : a = b) : Ending.returned (.bool a) = .returned (.bool b) := by rw [h]
/-- bits laid into a place that is free -/
theorem or_field (x m i k : Nat) (hx : x / 2 ^ i % 2 ^ k = 0) (hm : m < 2 ^ k) : x ||| m * 2 ^ i = x + m * 2 ^ i := by
  have h1 := Nat.div_add_mod x (2 ^ i)
  have h2 := Nat.mod_lt x (show 0 < 2 ^ i from Nat.two_pow_pos i)
  have h3 := Nat.div_add_mod (x / 2 ^ i) (2 ^ k)
  generalize x % 2 ^ i = l at *
  generalize x / 2 ^ i / 2 ^ k = h at *
  rw [hx, Nat.add_zero] at h3
  have e1 : x = (2 ^ k * h) * 2 ^ i + l := by rw [← h3, Nat.mul_comm (2 ^ i)] at h1; omega
  have j1 : (2 ^ k * h) * 2 ^ i ||| l = (2 ^ k * h) * 2 ^ i + l := nat_join i _ l (Nat.mul_mod_left _ _) h2
  have j2 : m * 2 ^ i ||| l = m * 2 ^ i + l := nat_join i _ l (Nat.mul_mod_left _ _) h2
  have j3 : 2 ^ k * h ||| m = 2 ^ k * h + m := nat_join k _ m (Nat.mul_mod_right _ _) hm
  have j4 : (2 ^ k * h + m) * 2 ^ i ||| l = (2 ^ k * h + m) * 2 ^ i + l := nat_join i _ l (Nat.mul_mod_left _ _) h2
  have j5 : (2 ^ k * h) * 2 ^ i ||| m * 2 ^ i = (2 ^ k * h + m) * 2 ^ i := by
    rw [← Nat.shiftLeft_eq, ← Nat.shiftLeft_eq, ← Nat.shiftLeft_eq, ← j3]
    exact (Nat.shiftLeft_or_distrib ..).symm
  rw [e1, ← j1, Nat.or_assoc, Nat.or_comm l, ← Nat.or_assoc, j5, j4, j1, Nat.add_mul]
  omega
theorem or32 (x m i k : Nat) (hx : x / 2 ^ i % 2 ^ k = 0) (hm : m < 2 ^ k) (hs : x + m * 2 ^ i < 4294967296) (M : Int) (hM : M = ((m * 2 ^ i : Nat) : Int)) :
    bits .or .u32 (x : Int) M = ((x + m * 2 ^ i : Nat) : Int) := by
  rw [hM, u32_or_nat _ _ (by omega) (by omega), or_field x m i k hx hm]
theorem and32 (x k : Nat) (hx : x < 4294967296) (hk : k ≤ 32) (M : Int) (hM : M = ((2 ^ k - 1 : Nat) : Int)) : bits .and .u32 (x : Int) M = ((x % 2 ^ k : Nat) : Int) := by
  have h : (2 : Nat) ^ k ≤ 2 ^ 32 := Nat.pow_le_pow_right (by omega) hk
  rw [hM, u32_and_nat _ _ hx (by omega), Nat.and_two_pow_sub_one_eq_mod]
theorem andNot (n : Nat) (hn : n < 4294967296) : bits .andNot .u32 (n : Int) 4095 = ((n / 4096 * 4096 : Nat) : Int) := by
  have h := u32_andNot_nat n 4095 hn (by omega)
  rw [show ((4095 : Nat) : Int) = 4095 from rfl] at h
  rw [h]
  congr 1
  have e : n = n / 4096 * 2 ^ 12 + n % 4096 := by omega
  have h2 : n % 4096 < 2 ^ 12 := by omega
  have h1 : n / 4096 < 2 ^ 20 := by omega
  generalize n / 4096 = a at *
  generalize n % 4096 = b at *
  subst e
  have j : a * 2 ^ 12 ||| b = a * 2 ^ 12 + b := nat_join 12 _ b (Nat.mul_mod_left _ _) h2
  rw [← j]
  apply Nat.eq_of_testBit_eq
  intro i
  have c : (4294967295 - 4095 : Nat) = (2 ^ 20 - 1) <<< 12 := by decide
  rw [c, ← Nat.shiftLeft_eq, Nat.testBit_and, Nat.testBit_or, Nat.testBit_shiftLeft, Nat.testBit_shiftLeft, Nat.testBit_two_pow_sub_one]
  by_cases hi : 12 ≤ i
  · have hb : b.testBit i = false := Nat.testBit_lt_two_pow (Nat.lt_of_lt_of_le h2 (Nat.pow_le_pow_right (by omega) hi))
    rw [hb]
    by_cases hj : i - 12 < 20
    · simp [hi, hj]
    · have ha : a.testBit (i - 12) = false := Nat.testBit_lt_two_pow (Nat.lt_of_lt_of_le h1 (Nat.pow_le_pow_right (by omega) (by omega)))
      simp [ha]
  · simp [hi]
theorem ofInt_neg20 : (BitVec.ofInt 32 (-1048576)).toNat = 4293918720 := by decide
theorem ofInt_neg12 : (BitVec.ofInt 32 (-4096)).toNat = 4294963200 := by decide
theorem i32wrap (n : Int) : IntKind.i32.wrap n = wrap32 n := by simp [IntKind.wrap, IntKind.bits, IntKind.signed, wrap32]; omega
theorem or_neg20 (b : Nat) (hb : b < 1048576) : bits .or .i32 (-1048576) (b : Int) = (b : Int) - 1048576 := by
  show IntKind.i32.wrap ((BitVec.ofInt 32 (-1048576) ||| BitVec.ofInt 32 (b : Int)).toNat : Int) = _
  rw [BitVec.toNat_or, ofInt_neg20, ofInt_u32 b (by omega), i32wrap, nat_join 20 4293918720 b (by decide) hb]
  unfold wrap32; omega
theorem or_neg12 (b : Nat) (hb : b < 4096) : bits .or .i32 (-4096) (b : Int) = (b : Int) - 4096 := by
  show IntKind.i32.wrap ((BitVec.ofInt 32 (-4096) ||| BitVec.ofInt 32 (b : Int)).toNat : Int) = _
  rw [BitVec.toNat_or, ofInt_neg12, ofInt_u32 b (by omega), i32wrap, nat_join 12 4294963200 b (by decide) hb]
  unfold wrap32; omega
theorem or_i0 (b : Nat) (hb : b < 1048576) : bits .or .i32 0 (b : Int) = (b : Int) := by
  show IntKind.i32.wrap ((BitVec.ofInt 32 0 ||| BitVec.ofInt 32 (b : Int)).toNat : Int) = _
  rw [BitVec.toNat_or, show (BitVec.ofInt 32 0).toNat = 0 by decide, ofInt_u32 b (by omega), i32wrap, Nat.zero_or]
  unfold wrap32; omega
end Go.Proofs.YtmanoheofloimaaGreatDoor.In

