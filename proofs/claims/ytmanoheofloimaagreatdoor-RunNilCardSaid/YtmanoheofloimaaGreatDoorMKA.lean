import Derived.Test.YtmanoheofloimaaGreatDoorProg
import Derived.WalkKit
import Derived.ProofKit
import Derived.OpenShut
import Derived.Below
import Derived.WalkSmall
import Derived.BigQuiet
import Derived.Deep.QuietTactic
import Derived.Deep.RegionHeld3
import Derived.LoopTactic
import Derived.Lib.Hide
import Derived.Laws.BitsAllLaws
namespace Go.Proofs.YtmanoheofloimaaGreatDoor.Cp
open Go.ChangeShapes Go.WideShapes Go.ChangeAt Go.RowKit
set_option linter.unusedVariables false
abbrev bnd (e b t : Nat) : Value := .agg #[.int .u8 (e : Int), .int .u16 (b : Int), .int .u16 (t : Int)]

def bs (x y a : Nat) : Nat := (if a / 2 ^ x % 512 < y then (if a / 2 ^ (x + 9) = 0 then 2 ^ (23 - x) else a / 2 ^ (x + 9)) - 1 else a / 2 ^ (x + 9)) * 2 ^ (x + 9) + y * 2 ^ x
def ln (x y z : Nat) : Nat := (z + 512 - y) % 512 * 2 ^ x
def wi (x y z a at' n : Nat) : Bool := decide (at' ≤ 1099511627776 ∧ n ≤ 1099511627776 ∧ bs x y a ≤ at' ∧ at' + n ≤ bs x y a + ln x y z)

theorem sixteen {P : Nat → Prop} (x : Nat) (hx : x < 16) (h0 : P 0) (h1 : P 1) (h2 : P 2) (h3 : P 3) (h4 : P 4) (h5 : P 5) (h6 : P 6) (h7 : P 7) (h8 : P 8) (h9 : P 9) (h10 : P 10) (h11 : P 11) (h12 : P 12) (h13 : P 13) (h14 : P 14) (h15 : P 15) : P x := by
  have : x = 0 ∨ x = 1 ∨ x = 2 ∨ x = 3 ∨ x = 4 ∨ x = 5 ∨ x = 6 ∨ x = 7 ∨ x = 8 ∨ x = 9 ∨ x = 10 ∨ x = 11 ∨ x = 12 ∨ x = 13 ∨ x = 14 ∨ x = 15 := by omega
  rcases this with rfl | rfl | rfl | rfl | rfl | rfl | rfl | rfl | rfl | rfl | rfl | rfl | rfl | rfl | rfl | rfl <;> assumption

theorem bs_lt (x y a : Nat) (hx : x < 16) (hy : y < 512) (ha : a < 4294967296) : bs x y a < 4294967296 := by
  unfold bs
  apply sixteen (P := fun x => (if a / 2 ^ x % 512 < y then (if a / 2 ^ (x + 9) = 0 then 2 ^ (23 - x) else a / 2 ^ (x + 9)) - 1 else a / 2 ^ (x + 9)) * 2 ^ (x + 9) + y * 2 ^ x < 4294967296) x hx <;> simp <;> (split <;> (try split) <;> omega)
theorem ln_le (x y z : Nat) (hx : x < 16) : ln x y z ≤ 16744448 := by
  unfold ln
  have h : (z + 512 - y) % 512 ≤ 511 := by omega
  generalize (z + 512 - y) % 512 = d at h
  apply sixteen (P := fun x => d * 2 ^ x ≤ 16744448) x hx <;> simp <;> omega

theorem base_no (a x y : Nat) (hx : x < 16) (hy : y < 512) (ha : a < 4294967296) (h : ¬ a / 2 ^ x % 512 < y) :
    IntKind.u64.wrap (IntKind.u64.wrap (IntKind.u64.wrap ((a : Int) / 2 ^ (x + 9)) * 2 ^ (x + 9)) + IntKind.u64.wrap ((y : Int) * 2 ^ x)) = ((bs x y a : Nat) : Int) := by
  unfold bs
  rw [if_neg h]
  clear h
  simp only [IntKind.wrap_u64]
  apply sixteen (P := fun x => ((a : Int) / 2 ^ (x + 9) % 18446744073709551616 * 2 ^ (x + 9) % 18446744073709551616 + (y : Int) * 2 ^ x % 18446744073709551616) % 18446744073709551616 = ((a / 2 ^ (x + 9) * 2 ^ (x + 9) + y * 2 ^ x : Nat) : Int)) x hx <;> simp <;> omega

theorem mask_sub (n k : Nat) (hk : k ≤ 32) (hn : n < 4294967296) : bits .and .u32 (n : Int) (((2 ^ k - 1 : Nat)) : Int) = ((n % 2 ^ k : Nat) : Int) := by
  have h2 : (2 : Nat) ^ k ≤ 2 ^ 32 := Nat.pow_le_pow_right (by omega) hk
  rw [u32_and_nat n (2 ^ k - 1) hn (by omega), Nat.and_two_pow_sub_one_eq_mod]

theorem base_yes (a x y : Nat) (hx : x < 16) (hy : y < 512) (ha : a < 4294967296) (h : a / 2 ^ x % 512 < y) :
    IntKind.u64.wrap (IntKind.u64.wrap (IntKind.u64.wrap (bits .and .u32 (((a : Int) / 2 ^ (x + 9) - 1) % 4294967296) ((2 ^ (23 - x) - 1) % 4294967296)) * 2 ^ (x + 9)) + IntKind.u64.wrap ((y : Int) * 2 ^ x)) = ((bs x y a : Nat) : Int) := by
  have e1 : ((2 ^ (23 - x) - 1 : Int) % 4294967296) = ((2 ^ (23 - x) - 1 : Nat) : Int) := by
    apply sixteen (P := fun x => ((2 ^ (23 - x) - 1 : Int) % 4294967296) = ((2 ^ (23 - x) - 1 : Nat) : Int)) x hx <;> simp
  have e2 : (((a : Int) / 2 ^ (x + 9) - 1) % 4294967296) = (((if a / 2 ^ (x + 9) = 0 then 4294967296 else a / 2 ^ (x + 9)) - 1 : Nat) : Int) := by
    apply sixteen (P := fun x => (((a : Int) / 2 ^ (x + 9) - 1) % 4294967296) = (((if a / 2 ^ (x + 9) = 0 then 4294967296 else a / 2 ^ (x + 9)) - 1 : Nat) : Int)) x hx <;> simp <;> (split <;> omega)
  rw [e1, e2, mask_sub _ _ (by omega) (by split <;> (try (have := Nat.div_le_self a (2 ^ (x + 9)); omega)) <;> omega)]
  unfold bs
  rw [if_pos h]
  clear h e1 e2
  simp only [IntKind.wrap_u64]
  apply sixteen (P := fun x => ((((((if a / 2 ^ (x + 9) = 0 then 4294967296 else a / 2 ^ (x + 9)) - 1) % 2 ^ (23 - x) : Nat) : Int) % 18446744073709551616 * 2 ^ (x + 9) % 18446744073709551616 + (y : Int) * 2 ^ x % 18446744073709551616) % 18446744073709551616 = (((if a / 2 ^ (x + 9) = 0 then 2 ^ (23 - x) else a / 2 ^ (x + 9)) - 1) * 2 ^ (x + 9) + y * 2 ^ x : Nat) )) x hx <;> simp <;> (split <;> omega)

theorem and511_16 (b : Nat) (hb : b < 65536) : bits .and .u16 (b : Int) 511 = ((b % 512 : Nat) : Int) := by
  have h := u16_and_nat b 511 hb (by omega)
  rw [nat_mask9] at h; exact h
theorem and511_32 (b : Nat) (hb : b < 4294967296) : bits .and .u32 (b : Int) 511 = ((b % 512 : Nat) : Int) := by
  have h := u32_and_nat b 511 hb (by omega)
  rw [nat_mask9] at h; exact h
theorem ret1 {k : IntKind} {a b : Int} (h : a = b) : Ending.returned (.int k a) = .returned (.int k b) := by rw [h]
end Go.Proofs.YtmanoheofloimaaGreatDoor.Cp

