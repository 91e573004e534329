import Derived.Test.YtnkoknfihhdelaaGreatDoorProg
import Derived.WalkKit
import Derived.ProofKit
import Derived.OpenShut
import Derived.Below
import Derived.WalkSmall
import Derived.BigQuiet
import Derived.Deep.QuietTactic
import Derived.Deep.RegionHeld3
import Derived.LoopTactic
import Derived.Lib.Hide
import Derived.Laws.BitsAllLaws
namespace Go.Proofs.YtnkoknfihhdelaaGreatDoor.Ca
open Go.ChangeShapes Go.WideShapes Go.ChangeAt Go.RowKit
set_option linter.unusedVariables false
set_option maxRecDepth 100000
abbrev bnd (e b t : Nat) : Value := .agg #[.int .u8 (e : Int), .int .u16 (b : Int), .int .u16 (t : Int)]

def bs (x y a : Nat) : Nat := (if a / 2 ^ x % 512 < y then (if a / 2 ^ (x + 9) = 0 then 2 ^ (23 - x) else a / 2 ^ (x + 9)) - 1 else a / 2 ^ (x + 9)) * 2 ^ (x + 9) + y * 2 ^ x
def ln (x y z : Nat) : Nat := (z + 512 - y) % 512 * 2 ^ x
def wi (x y z a at' n : Nat) : Bool := decide (at' ≤ 1099511627776 ∧ n ≤ 1099511627776 ∧ bs x y a ≤ at' ∧ at' + n ≤ bs x y a + ln x y z)

theorem sixteen {P : Nat → Prop} (x : Nat) (hx : x < 16) (h0 : P 0) (h1 : P 1) (h2 : P 2) (h3 : P 3) (h4 : P 4) (h5 : P 5) (h6 : P 6) (h7 : P 7) (h8 : P 8) (h9 : P 9) (h10 : P 10) (h11 : P 11) (h12 : P 12) (h13 : P 13) (h14 : P 14) (h15 : P 15) : P x := by
  have : x = 0 ∨ x = 1 ∨ x = 2 ∨ x = 3 ∨ x = 4 ∨ x = 5 ∨ x = 6 ∨ x = 7 ∨ x = 8 ∨ x = 9 ∨ x = 10 ∨ x = 11 ∨ x = 12 ∨ x = 13 ∨ x = 14 ∨ x = 15 := by omega
  rcases this with rfl | rfl | rfl | rfl | rfl | rfl | rfl | rfl | rfl | rfl | rfl | rfl | rfl | rfl | rfl | rfl <;> assumption

theorem bs_lt (x y a : Nat) (hx : x < 16) (hy : y < 512) (ha : a < 4294967296) : bs x y a < 4294967296 := by
  unfold bs
  apply sixteen (P := fun x => (if a / 2 ^ x % 512 < y then (if a / 2 ^ (x + 9) = 0 then 2 ^ (23 - x) else a / 2 ^ (x + 9)) - 1 else a / 2 ^ (x + 9)) * 2 ^ (x + 9) + y * 2 ^ x < 4294967296) x hx <;> simp <;> (split <;> (try split) <;> omega)
theorem ln_le (x y z : Nat) (hx : x < 16) : ln x y z ≤ 16744448 := by
  unfold ln
  have h : (z + 512 - y) % 512 ≤ 511 := by omega
  generalize (z + 512 - y) % 512 = d at h
  apply sixteen (P := fun x => d * 2 ^ x ≤ 16744448) x hx <;> simp <;> omega

theorem base_no (a x y : Nat) (hx : x < 16) (hy : y < 512) (ha : a < 4294967296) (h : ¬ a / 2 ^ x % 512 < y) :
    IntKind.u64.wrap (IntKind.u64.wrap (IntKind.u64.wrap ((a : Int) / 2 ^ (x + 9)) * 2 ^ (x + 9)) + IntKind.u64.wrap ((y : Int) * 2 ^ x)) = ((bs x y a : Nat) : Int) := by
  unfold bs
  rw [if_neg h]
  clear h
  simp only [IntKind.wrap_u64]
  apply sixteen (P := fun x => ((a : Int) / 2 ^ (x + 9) % 18446744073709551616 * 2 ^ (x + 9) % 18446744073709551616 + (y : Int) * 2 ^ x % 18446744073709551616) % 18446744073709551616 = ((a / 2 ^ (x + 9) * 2 ^ (x + 9) + y * 2 ^ x : Nat) : Int)) x hx <;> simp <;> omega

theorem mask_sub (n k : Nat) (hk : k ≤ 32) (hn : n < 4294967296) : bits .and .u32 (n : Int) (((2 ^ k - 1 : Nat)) : Int) = ((n % 2 ^ k : Nat) : Int) := by
  have h2 : (2 : Nat) ^ k ≤ 2 ^ 32 := Nat.pow_le_pow_right (by omega) hk
  rw [u32_and_nat n (2 ^ k - 1) hn (by omega), Nat.and_two_pow_sub_one_eq_mod]

theorem base_yes (a x y : Nat) (hx : x < 16) (hy : y < 512) (ha : a < 4294967296) (h : a / 2 ^ x % 512 < y) :
    IntKind.u64.wrap (IntKind.u64.wrap (IntKind.u64.wrap (bits .and .u32 (((a : Int) / 2 ^ (x + 9) - 1) % 4294967296) ((2 ^ (23 - x) - 1) % 4294967296)) * 2 ^ (x + 9)) + IntKind.u64.wrap ((y : Int) * 2 ^ x)) = ((bs x y a : Nat) : Int) := by
  have e1 : ((2 ^ (23 - x) - 1 : Int) % 4294967296) = ((2 ^ (23 - x) - 1 : Nat) : Int) := by
    apply sixteen (P := fun x => ((2 ^ (23 - x) - 1 : Int) % 4294967296) = ((2 ^ (23 - x) - 1 : Nat) : Int)) x hx <;> simp
  have e2 : (((a : Int) / 2 ^ (x + 9) - 1) % 4294967296) = (((if a / 2 ^ (x + 9) = 0 then 4294967296 else a / 2 ^ (x + 9)) - 1 : Nat) : Int) := by
    apply sixteen (P := fun x => (((a : Int) / 2 ^ (x + 9) - 1) % 4294967296) = (((if a / 2 ^ (x + 9) = 0 then 4294967296 else a / 2 ^ (x + 9)) - 1 : Nat) : Int)) x hx <;> simp <;> (split <;> omega)
  rw [e1, e2, mask_sub _ _ (by omega) (by split <;> (try (have := Nat.div_le_self a (2 ^ (x + 9)); omega)) <;> omega)]
  unfold bs
  rw [if_pos h]
  clear h e1 e2
  simp only [IntKind.wrap_u64]
  apply sixteen (P := fun x => ((((((if a / 2 ^ (x + 9) = 0 then 4294967296 else a / 2 ^ (x + 9)) - 1) % 2 ^ (23 - x) : Nat) : Int) % 18446744073709551616 * 2 ^ (x + 9) % 18446744073709551616 + (y : Int) * 2 ^ x % 18446744073709551616) % 18446744073709551616 = (((if a / 2 ^ (x + 9) = 0 then 2 ^ (23 - x) else a / 2 ^ (x + 9)) - 1) * 2 ^ (x + 9) + y * 2 ^ x : Nat) )) x hx <;> simp <;> (split <;> omega)

theorem and511_16 (b : Nat) (hb : b < 65536) : bits .and .u16 (b : Int) 511 = ((b % 512 : Nat) : Int) := by
  have h := u16_and_nat b 511 hb (by omega)
  rw [nat_mask9] at h; exact h
theorem and511_32 (b : Nat) (hb : b < 4294967296) : bits .and .u32 (b : Int) 511 = ((b % 512 : Nat) : Int) := by
  have h := u32_and_nat b 511 hb (by omega)
  rw [nat_mask9] at h; exact h
theorem ret1 {k : IntKind} {a b : Int} (h : a = b) : Ending.returned (.int k a) = .returned (.int k b) := by rw [h]
theorem c20 (e b t : Nat) (he : e < 256) (hb : b < 65536) (ht : t < 65536) (w : World) :
    Calls Tryz.prog 173 #[bnd e b t] w fun en w' => en = .returned (.tuple #[.int .u64 ((e % 16 : Nat) : Int), .int .u32 ((b % 512 : Nat) : Int), .int .u32 ((t % 512 : Nat) : Int)]) ∧ Below w.heap.size w w' := by
  have k1 := and511_16 b hb
  have k2 := and511_16 t ht
  go_enter Tryz.func173, Tryz.ntmps173
  go_wp2
  go_quiet (fail)
  go_wp2
  go_ret3
  exact ⟨by simp, below_drewN ((Below.refl _ _).alloc (Nat.le_refl _) _) _⟩
theorem c9 (e b t a : Nat) (he : e < 256) (hb : b < 65536) (ht : t < 65536) (ha : a < 4294967296) (w : World) :
    Calls Tryz.prog 151 #[bnd e b t, .int .u32 (a : Int)] w fun en w' => en = .returned (.int .u64 ((bs (e % 16) (b % 512) a : Nat) : Int)) ∧ Below w.heap.size w w' := by
  go_enter Tryz.func151, Tryz.ntmps151
  go_wp2_with fail
  refine (c20 e b t he hb ht _).mono ?_
  rintro en w1 ⟨rfl, hb1⟩
  have h16 : e % 16 < 16 := Nat.mod_lt _ (by omega)
  generalize hx : e % 16 = x at *
  have Hx := Lib.hid hx
  clear hx
  have h512 : b % 512 < 512 := Nat.mod_lt _ (by omega)
  generalize hy : b % 512 = y at *
  have Hy := Lib.hid hy
  clear hy
  have hB : Below w.heap.size w w1 := ((Below.refl _ _).alloc (Nat.le_refl _) _).trans (hb1.mono (by simp))
  clear hb1
  have kk : bits BinOp.and IntKind.u32 ((a : Int) / 2 ^ x) 511 = ((a / 2 ^ x % 512 : Nat) : Int) := by
    have h := and511_32 (a / 2 ^ x) (by have := Nat.div_le_self a (2 ^ x); omega)
    rw [← h]; simp
  by_cases hlt : a / 2 ^ x % 512 < y
  · have hl : bits BinOp.and IntKind.u32 ((a : Int) / 2 ^ x) 511 < (y : Int) := by rw [kk]; omega
    clear kk
    have fin := base_yes a x y h16 h512 ha hlt
    have Fin := Lib.hid fin
    clear fin
    go_wp2
    go_ret
    exact ⟨by rw [Hx.out, Hy.out]; exact ret1 Fin.out, hB⟩
  · have hl : (y : Int) ≤ bits BinOp.and IntKind.u32 ((a : Int) / 2 ^ x) 511 := by rw [kk]; omega
    clear kk
    have fin := base_no a x y h16 h512 ha hlt
    have Fin := Lib.hid fin
    clear fin
    go_wp2
    go_ret
    exact ⟨by rw [Hx.out, Hy.out]; exact ret1 Fin.out, hB⟩
theorem c21 (e : Nat) (he : e ≤ 40) (w : World) :
    Calls Tryz.prog 121 #[.int .i64 (e : Int)] w fun en w' => en = .returned (.int .u64 ((2 ^ e : Nat) : Int)) ∧ w = w' := by
  go_enter Tryz.func121, Tryz.ntmps121
  go_wp2
  go_loop [3, 4] (fun n i => ∃ k : Nat, k ≤ e ∧ i = .int .i64 k ∧ n = .int .u64 ((2 ^ k : Nat) : Int)) (fun _ i => e - (intOf i).toNat)
  case atStart => exact ⟨0, by omega, rfl, rfl⟩
  case round =>
    obtain ⟨k, hk, rfl, rfl⟩ := hrel
    have hp : (2 : Nat) ^ k ≤ 2 ^ 40 := Nat.pow_le_pow_right (by omega) (by omega)
    have hd : ((2 ^ (k + 1) : Nat) : Int) = 2 * ((2 ^ k : Nat) : Int) := by rw [Nat.pow_succ]; omega
    have Hd := Lib.hid hd
    clear hd
    generalize hpk : (2 : Nat) ^ k = p at *
    have Hp := Lib.hid hpk
    clear hpk
    by_cases hlt : k < e
    · go_wp2
      go_round
      case rel => exact ⟨k + 1, by omega, by go_num, by rw [Hd.out]⟩
      case measure => simp [intOf]; omega
    · have : k = e := by omega
      subst this
      go_wp2
      go_ret
      exact ⟨ret1 (by rw [← Hp.out]; simp), rfl⟩

theorem cref (a x y : Nat) (hx : x < 16) (hy : y < 512) (ha : a < 4294967296) : (if a / 2 ^ x % 512 < y then (if a / (512 * 2 ^ x) = 0 then 2 ^ (23 - x) else a / (512 * 2 ^ x)) - 1 else a / (512 * 2 ^ x)) * 512 * 2 ^ x + y * 2 ^ x = bs x y a := by
  unfold bs
  have e : (2 : Nat) ^ (x + 9) = 512 * 2 ^ x := by rw [Nat.pow_add, Nat.mul_comm]
  rw [e, Nat.mul_assoc]
theorem p40 (x : Nat) (hx : x < 16) : 1 ≤ 2 ^ x ∧ 2 ^ x ≤ 32768 := ⟨Nat.one_le_two_pow, Nat.le_trans (Nat.pow_le_pow_right (by omega) (by omega : x ≤ 15)) (by omega)⟩

theorem wdiv (a p : Nat) (ha : a < 4294967296) : IntKind.u64.wrap ((a : Int) / (p : Int)) = ((a / p : Nat) : Int) := by
  have h := Nat.div_le_self a p
  rw [IntKind.wrap_u64, show (a : Int) / (p : Int) = ((a / p : Nat) : Int) from rfl]
  generalize a / p = q at *
  omega
theorem wdiv2 (a p : Nat) (ha : a < 4294967296) : IntKind.u64.wrap ((a : Int) / (512 * (p : Int))) = ((a / (512 * p) : Nat) : Int) := by
  have := wdiv a (512 * p) ha
  simpa using this
theorem finA (u p y : Nat) (hu : u * 512 * p ≤ 4294967296) (hp : 1 ≤ p) (hp2 : p ≤ 32768) (hy : y < 512) :
    IntKind.u64.wrap (IntKind.u64.wrap ((u : Int) * 512 * (p : Int)) + IntKind.u64.wrap ((y : Int) * (p : Int))) = ((u * 512 * p + y * p : Nat) : Int) := by
  have h : y * p ≤ 512 * 32768 := Nat.mul_le_mul (by omega) hp2
  rw [show ((u : Int) * 512 * (p : Int)) = ((u * 512 * p : Nat) : Int) by simp, show (y : Int) * (p : Int) = ((y * p : Nat) : Int) by simp]
  generalize u * 512 * p = A at *
  generalize y * p = B at *
  simp only [IntKind.wrap_u64]
  omega
theorem c10 (e b t a : Nat) (he : e < 256) (hb : b < 65536) (ht : t < 65536) (ha : a < 4294967296) (w : World) :
    Calls Tryz.prog 85 #[bnd e b t, .int .u32 (a : Int)] w fun en w' => en = .returned (.int .u64 ((bs (e % 16) (b % 512) a : Nat) : Int)) ∧ Below w.heap.size w w' := by
  obtain ⟨x, hx⟩ : ∃ x, e % 16 = x := ⟨_, rfl⟩
  obtain ⟨y, hy⟩ : ∃ y, b % 512 = y := ⟨_, rfl⟩
  have h16 : x < 16 := by omega
  have h512 : y < 512 := by omega
  rw [hx, hy]
  have rx : (e : Int) % 16 = (x : Int) := by omega
  have ry : (b : Int) % 512 = (y : Int) := by omega
  clear hx hy
  have cr := cref a x y h16 h512 ha
  have hP := c21 x (by omega)
  have hP2 := c21 (23 - x) (by omega)
  have ⟨p1, p2⟩ := p40 x h16
  have p3 : 1 ≤ 2 ^ (23 - x) ∧ 2 ^ (23 - x) * 2 ^ x ≤ 8388608 := ⟨Nat.one_le_two_pow, by rw [← Nat.pow_add, show 23 - x + x = 23 by omega]; omega⟩
  generalize (2 : Nat) ^ (23 - x) = P at *
  generalize (2 : Nat) ^ x = p at *
  have rq := wdiv a p ha
  have rr := wdiv2 a p ha
  have lq := Nat.div_le_self a p
  have rb : a / (512 * p) * (512 * p) ≤ a := Nat.div_mul_le_self _ _
  have lr := Nat.div_le_self a (512 * p)
  generalize a / p = q at *
  generalize a / (512 * p) = r at *
  have rm : (q : Int) % 512 = ((q % 512 : Nat) : Int) := rfl
  have lm : q % 512 < 512 := by omega
  have rm' : (q : Int).tmod 512 = ((q % 512 : Nat) : Int) := rfl
  generalize q % 512 = m at *
  have HP := Lib.hid hP
  have HP2 := Lib.hid hP2
  clear hP hP2 rm
  by_cases hlt : m < y
  · by_cases h0 : r = 0
    · subst h0
      rw [if_pos hlt, if_pos rfl] at cr
      have l2 : (P - 1) * 512 * p ≤ 4294967296 := by
        have : (P - 1) * 512 * p ≤ P * 512 * p := Nat.mul_le_mul_right _ (by omega)
        have h3 : P * 512 * p = 512 * (P * p) := by rw [Nat.mul_comm P 512, Nat.mul_assoc]
        omega
      have l3 : (P - 1) * 512 ≤ 4294967296 := Nat.le_trans (Nat.le_mul_of_pos_right _ (by omega)) l2
      have rP : (P : Int) - 1 = ((P - 1 : Nat) : Int) := by omega
      generalize P - 1 = U at *
      have fin := finA U p y l2 p1 p2 h512
      rw [cr] at fin
      have Fin := Lib.hid fin
      clear fin cr
      have e23 : (23 : Int) - (x : Int) = ((23 - x : Nat) : Int) := by omega
      have E23 := Lib.hid e23
      clear e23
      go_enter Tryz.func85, Tryz.ntmps85
      go_wp2_with fail
      refine (HP.out _).mono ?_
      rintro en w1 ⟨rfl, rfl⟩
      go_wp2_with fail
      rw [E23.out]
      refine (HP2.out _).mono ?_
      rintro en w1 ⟨rfl, rfl⟩
      go_wp2_with fail
      go_ret
      exact ⟨ret1 Fin.out, (Below.refl _ _).alloc (Nat.le_refl _) _⟩
    · rw [if_pos hlt, if_neg h0] at cr
      have l2 : (r - 1) * 512 * p ≤ 4294967296 := by
        have : (r - 1) * 512 * p ≤ r * 512 * p := Nat.mul_le_mul_right _ (by omega)
        have h3 : r * 512 * p = r * (512 * p) := by rw [Nat.mul_assoc]
        omega
      have rr0 : ((r : Int) == 0) = false := by simp; omega
      have rP : (r : Int) - 1 = ((r - 1 : Nat) : Int) := by omega
      have r1 : (0 : Int) ≤ (r : Int) - 1 := by omega
      generalize r - 1 = U at *
      have fin := finA U p y l2 p1 p2 h512
      rw [cr] at fin
      have Fin := Lib.hid fin
      clear fin cr
      go_enter Tryz.func85, Tryz.ntmps85
      go_wp2_with fail
      refine (HP.out _).mono ?_
      rintro en w1 ⟨rfl, rfl⟩
      go_wp2_with fail
      go_ret
      exact ⟨ret1 Fin.out, (Below.refl _ _).alloc (Nat.le_refl _) _⟩
  · rw [if_neg hlt] at cr
    have l2 : r * 512 * p ≤ 4294967296 := by rw [Nat.mul_assoc]; omega
    have fin := finA r p y l2 p1 p2 h512
    rw [cr] at fin
    have Fin := Lib.hid fin
    clear fin cr
    go_enter Tryz.func85, Tryz.ntmps85
    go_wp2_with fail
    refine (HP.out _).mono ?_
    rintro en w1 ⟨rfl, rfl⟩
    go_wp2_with fail
    go_ret
    exact ⟨ret1 Fin.out, (Below.refl _ _).alloc (Nat.le_refl _) _⟩
end Go.Proofs.YtnkoknfihhdelaaGreatDoor.Ca
