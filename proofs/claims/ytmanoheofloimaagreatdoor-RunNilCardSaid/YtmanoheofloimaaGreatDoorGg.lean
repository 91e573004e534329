import Derived.Test.YtmanoheofloimaaGreatDoorProg
import Derived.WalkKit
import Derived.ProofKit
import Derived.OpenShut
import Derived.Below
import Derived.WalkSmall
import Derived.BigQuiet
import Derived.Deep.QuietTactic
import Derived.Deep.RegionHeld3
import Derived.LoopTactic
import Derived.Lib.Hide
import Derived.Laws.BitsAllLaws
import Derived.Laws.StructEq
namespace Go.Proofs.YtmanoheofloimaaGreatDoor.Ca
open Go.ChangeShapes Go.WideShapes Go.ChangeAt Go.RowKit
set_option linter.unusedVariables false
set_option maxRecDepth 100000
abbrev bnd (e b t : Nat) : Value := .agg #[.int .u8 (e : Int), .int .u16 (b : Int), .int .u16 (t : Int)]

def bs (x y a : Nat) : Nat := (if a / 2 ^ x % 512 < y then (if a / 2 ^ (x + 9) = 0 then 2 ^ (23 - x) else a / 2 ^ (x + 9)) - 1 else a / 2 ^ (x + 9)) * 2 ^ (x + 9) + y * 2 ^ x
def ln (x y z : Nat) : Nat := (z + 512 - y) % 512 * 2 ^ x
def wi (x y z a at' n : Nat) : Bool := decide (at' ≤ 1099511627776 ∧ n ≤ 1099511627776 ∧ bs x y a ≤ at' ∧ at' + n ≤ bs x y a + ln x y z)

theorem sixteen {P : Nat → Prop} (x : Nat) (hx : x < 16) (h0 : P 0) (h1 : P 1) (h2 : P 2) (h3 : P 3) (h4 : P 4) (h5 : P 5) (h6 : P 6) (h7 : P 7) (h8 : P 8) (h9 : P 9) (h10 : P 10) (h11 : P 11) (h12 : P 12) (h13 : P 13) (h14 : P 14) (h15 : P 15) : P x := by
  have : x = 0 ∨ x = 1 ∨ x = 2 ∨ x = 3 ∨ x = 4 ∨ x = 5 ∨ x = 6 ∨ x = 7 ∨ x = 8 ∨ x = 9 ∨ x = 10 ∨ x = 11 ∨ x = 12 ∨ x = 13 ∨ x = 14 ∨ x = 15 := by omega
  rcases this with rfl | rfl | rfl | rfl | rfl | rfl | rfl | rfl | rfl | rfl | rfl | rfl | rfl | rfl | rfl | rfl <;> assumption

theorem bs_lt (x y a : Nat) (hx : x < 16) (hy : y < 512) (ha : a < 4294967296) : bs x y a < 4294967296 := by
  unfold bs
  apply sixteen (P := fun x => (if a / 2 ^ x % 512 < y then (if a / 2 ^ (x + 9) = 0 then 2 ^ (23 - x) else a / 2 ^ (x + 9)) - 1 else a / 2 ^ (x + 9)) * 2 ^ (x + 9) + y * 2 ^ x < 4294967296) x hx <;> simp <;> (split <;> (try split) <;> omega)
theorem ln_le (x y z : Nat) (hx : x < 16) : ln x y z ≤ 16744448 := by
  unfold ln
  have h : (z + 512 - y) % 512 ≤ 511 := by omega
  generalize (z + 512 - y) % 512 = d at h
  apply sixteen (P := fun x => d * 2 ^ x ≤ 16744448) x hx <;> simp <;> omega

theorem base_no (a x y : Nat) (hx : x < 16) (hy : y < 512) (ha : a < 4294967296) (h : ¬ a / 2 ^ x % 512 < y) :
    IntKind.u64.wrap (IntKind.u64.wrap (IntKind.u64.wrap ((a : Int) / 2 ^ (x + 9)) * 2 ^ (x + 9)) + IntKind.u64.wrap ((y : Int) * 2 ^ x)) = ((bs x y a : Nat) : Int) := by
  unfold bs
  rw [if_neg h]
  clear h
  simp only [IntKind.wrap_u64]
  apply sixteen (P := fun x => ((a : Int) / 2 ^ (x + 9) % 18446744073709551616 * 2 ^ (x + 9) % 18446744073709551616 + (y : Int) * 2 ^ x % 18446744073709551616) % 18446744073709551616 = ((a / 2 ^ (x + 9) * 2 ^ (x + 9) + y * 2 ^ x : Nat) : Int)) x hx <;> simp <;> omega

theorem mask_sub (n k : Nat) (hk : k ≤ 32) (hn : n < 4294967296) : bits .and .u32 (n : Int) (((2 ^ k - 1 : Nat)) : Int) = ((n % 2 ^ k : Nat) : Int) := by
  have h2 : (2 : Nat) ^ k ≤ 2 ^ 32 := Nat.pow_le_pow_right (by omega) hk
  rw [u32_and_nat n (2 ^ k - 1) hn (by omega), Nat.and_two_pow_sub_one_eq_mod]

theorem base_yes (a x y : Nat) (hx : x < 16) (hy : y < 512) (ha : a < 4294967296) (h : a / 2 ^ x % 512 < y) :
    IntKind.u64.wrap (IntKind.u64.wrap (IntKind.u64.wrap (bits .and .u32 (((a : Int) / 2 ^ (x + 9) - 1) % 4294967296) ((2 ^ (23 - x) - 1) % 4294967296)) * 2 ^ (x + 9)) + IntKind.u64.wrap ((y : Int) * 2 ^ x)) = ((bs x y a : Nat) : Int) := by
  have e1 : ((2 ^ (23 - x) - 1 : Int) % 4294967296) = ((2 ^ (23 - x) - 1 : Nat) : Int) := by
    apply sixteen (P := fun x => ((2 ^ (23 - x) - 1 : Int) % 4294967296) = ((2 ^ (23 - x) - 1 : Nat) : Int)) x hx <;> simp
  have e2 : (((a : Int) / 2 ^ (x + 9) - 1) % 4294967296) = (((if a / 2 ^ (x + 9) = 0 then 4294967296 else a / 2 ^ (x + 9)) - 1 : Nat) : Int) := by
    apply sixteen (P := fun x => (((a : Int) / 2 ^ (x + 9) - 1) % 4294967296) = (((if a / 2 ^ (x + 9) = 0 then 4294967296 else a / 2 ^ (x + 9)) - 1 : Nat) : Int)) x hx <;> simp <;> (split <;> omega)
  rw [e1, e2, mask_sub _ _ (by omega) (by split <;> (try (have := Nat.div_le_self a (2 ^ (x + 9)); omega)) <;> omega)]
  unfold bs
  rw [if_pos h]
  clear h e1 e2
  simp only [IntKind.wrap_u64]
  apply sixteen (P := fun x => ((((((if a / 2 ^ (x + 9) = 0 then 4294967296 else a / 2 ^ (x + 9)) - 1) % 2 ^ (23 - x) : Nat) : Int) % 18446744073709551616 * 2 ^ (x + 9) % 18446744073709551616 + (y : Int) * 2 ^ x % 18446744073709551616) % 18446744073709551616 = (((if a / 2 ^ (x + 9) = 0 then 2 ^ (23 - x) else a / 2 ^ (x + 9)) - 1) * 2 ^ (x + 9) + y * 2 ^ x : Nat) )) x hx <;> simp <;> (split <;> omega)

theorem and511_16 (b : Nat) (hb : b < 65536) : bits .and .u16 (b : Int) 511 = ((b % 512 : Nat) : Int) := by
  have h := u16_and_nat b 511 hb (by omega)
  rw [nat_mask9] at h; exact h
theorem and511_32 (b : Nat) (hb : b < 4294967296) : bits .and .u32 (b : Int) 511 = ((b % 512 : Nat) : Int) := by
  have h := u32_and_nat b 511 hb (by omega)
  rw [nat_mask9] at h; exact h
theorem ret1 {k : IntKind} {a b : Int} (h : a = b) : Ending.returned (.int k a) = .returned (.int k b) := by rw [h]
theorem c20 (e b t : Nat) (he : e < 256) (hb : b < 65536) (ht : t < 65536) (w : World) :
    Calls Tryz.prog 107 #[bnd e b t] w fun en w' => en = .returned (.tuple #[.int .u64 ((e % 16 : Nat) : Int), .int .u32 ((b % 512 : Nat) : Int), .int .u32 ((t % 512 : Nat) : Int)]) ∧ Below w.heap.size w w' := by
  have k1 := and511_16 b hb
  have k2 := and511_16 t ht
  go_enter Tryz.func107, Tryz.ntmps107
  go_wp2
  go_quiet (fail)
  go_wp2
  go_ret3
  exact ⟨by simp, below_drewN ((Below.refl _ _).alloc (Nat.le_refl _) _) _⟩
theorem c9 (e b t a : Nat) (he : e < 256) (hb : b < 65536) (ht : t < 65536) (ha : a < 4294967296) (w : World) :
    Calls Tryz.prog 82 #[bnd e b t, .int .u32 (a : Int)] w fun en w' => en = .returned (.int .u64 ((bs (e % 16) (b % 512) a : Nat) : Int)) ∧ Below w.heap.size w w' := by
  go_enter Tryz.func82, Tryz.ntmps82
  go_wp2_with fail
  refine (c20 e b t he hb ht _).mono ?_
  rintro en w1 ⟨rfl, hb1⟩
  have h16 : e % 16 < 16 := Nat.mod_lt _ (by omega)
  generalize hx : e % 16 = x at *
  have Hx := Lib.hid hx
  clear hx
  have h512 : b % 512 < 512 := Nat.mod_lt _ (by omega)
  generalize hy : b % 512 = y at *
  have Hy := Lib.hid hy
  clear hy
  have hB : Below w.heap.size w w1 := ((Below.refl _ _).alloc (Nat.le_refl _) _).trans (hb1.mono (by simp))
  clear hb1
  have kk : bits BinOp.and IntKind.u32 ((a : Int) / 2 ^ x) 511 = ((a / 2 ^ x % 512 : Nat) : Int) := by
    have h := and511_32 (a / 2 ^ x) (by have := Nat.div_le_self a (2 ^ x); omega)
    rw [← h]; simp
  by_cases hlt : a / 2 ^ x % 512 < y
  · have hl : bits BinOp.and IntKind.u32 ((a : Int) / 2 ^ x) 511 < (y : Int) := by rw [kk]; omega
    clear kk
    have fin := base_yes a x y h16 h512 ha hlt
    have Fin := Lib.hid fin
    clear fin
    go_wp2
    go_ret
    exact ⟨by rw [Hx.out, Hy.out]; exact ret1 Fin.out, hB⟩
  · have hl : (y : Int) ≤ bits BinOp.and IntKind.u32 ((a : Int) / 2 ^ x) 511 := by rw [kk]; omega
    clear kk
    have fin := base_no a x y h16 h512 ha hlt
    have Fin := Lib.hid fin
    clear fin
    go_wp2
    go_ret
    exact ⟨by rw [Hx.out, Hy.out]; exact ret1 Fin.out, hB⟩
end Go.Proofs.YtmanoheofloimaaGreatDoor.Ca
namespace Go.Proofs.YtmanoheofloimaaGreatDoor.Ca
open Go.ChangeShapes Go.WideShapes Go.ChangeAt Go.RowKit
set_option linter.unusedVariables false
set_option maxRecDepth 100000
theorem c11 (e b t : Nat) (he : e < 256) (hb : b < 65536) (ht : t < 65536) (w : World) :
    Calls Tryz.prog 83 #[bnd e b t] w fun en w' => en = .returned (.int .u64 ((ln (e % 16) (b % 512) (t % 512) : Nat) : Int)) ∧ Below w.heap.size w w' := by
  obtain ⟨x, hx⟩ : ∃ x, e % 16 = x := ⟨_, rfl⟩
  obtain ⟨y, hy⟩ : ∃ y, b % 512 = y := ⟨_, rfl⟩
  obtain ⟨z, hz⟩ : ∃ z, t % 512 = z := ⟨_, rfl⟩
  have h16 : x < 16 := by omega
  have h512 : y < 512 := by omega
  have h513 : z < 512 := by omega
  have hc := c20 e b t he hb ht
  rw [hx, hy, hz] at hc
  rw [hx, hy, hz]
  clear hx hy hz
  have HC := Lib.hid hc
  clear hc
  have k1 : bits BinOp.and IntKind.u32 (((z : Int) - (y : Int)) % 4294967296) 511 = (((z + 512 - y) % 512 : Nat) : Int) := by
    rw [show (((z : Int) - (y : Int)) % 4294967296) = (((z + 4294967296 - y) % 4294967296 : Nat) : Int) by omega, and511_32 _ (by omega)]; omega
  have l1 : (z + 512 - y) % 512 < 512 := by omega
  have fin : IntKind.u64.wrap ((((z + 512 - y) % 512 : Nat) : Int) * 2 ^ x) = ((ln x y z : Nat) : Int) := by
    have h := ln_le x y z h16
    rw [IntKind.wrap_u64]
    unfold ln at *
    rw [show (((z + 512 - y) % 512 : Nat) : Int) * 2 ^ x = (((z + 512 - y) % 512 * 2 ^ x : Nat) : Int) by simp]
    generalize (z + 512 - y) % 512 * 2 ^ x = q at *
    omega
  generalize (z + 512 - y) % 512 = d at *
  have Fin := Lib.hid fin
  clear fin
  go_enter Tryz.func83, Tryz.ntmps83
  go_wp2_with fail
  refine (HC.out _).mono ?_
  rintro en w1 ⟨rfl, hb1⟩
  have hB : Below w.heap.size w w1 := ((Below.refl _ _).alloc (Nat.le_refl _) _).trans (hb1.mono (by simp))
  clear hb1
  go_wp2_with fail
  go_ret
  exact ⟨ret1 Fin.out, hB⟩
theorem bcell {W w1 : World} (hb : Below W.heap.size W w1) : (∀ b o, b < W.heap.size → w1.cell? ⟨b, o, none⟩ = W.cell? ⟨b, o, none⟩) ∧ (∀ b o, b < W.heap.size → w1.frozen? ⟨b, o, none⟩ = W.frozen? ⟨b, o, none⟩) :=
  ⟨fun b o h => hb.cell (p := ⟨b, o, none⟩) h, fun b o h => hb.frozen (p := ⟨b, o, none⟩) h⟩
theorem retb {a b : Bool} (h : a = b) : Ending.returned (.bool a) = .returned (.bool b) := by rw [h]
theorem keep3 {w0 wp w1 : World} {k : Nat} {v0 v1 v2 : Value} (h : Below w0.heap.size w0 wp ∧ k < wp.heap.size ∧ wp.cell? ⟨k, 0, none⟩ = some v0 ∧ wp.cell? ⟨k, 1, none⟩ = some v1 ∧ wp.cell? ⟨k, 2, none⟩ = some v2) (hb : Below wp.heap.size wp w1) :
    Below w0.heap.size w0 w1 ∧ k < w1.heap.size ∧ w1.cell? ⟨k, 0, none⟩ = some v0 ∧ w1.cell? ⟨k, 1, none⟩ = some v1 ∧ w1.cell? ⟨k, 2, none⟩ = some v2 := by
  obtain ⟨h1, h2, h3, h4, h5⟩ := h
  refine ⟨h1.trans (hb.mono h1.size), Nat.lt_of_lt_of_le h2 hb.size, ?_, ?_, ?_⟩
  · rw [hb.cell (p := ⟨k, 0, none⟩) h2]; exact h3
  · rw [hb.cell (p := ⟨k, 1, none⟩) h2]; exact h4
  · rw [hb.cell (p := ⟨k, 2, none⟩) h2]; exact h5
theorem init3 {w w1 : World} {v0 v1 v2 : Value} {T : TypeId} (hb : Below (w.alloc (.cells #[v0, v1, v2] T)).heap.size (w.alloc (.cells #[v0, v1, v2] T)) w1) :
    Below w.heap.size w w1 ∧ w.heap.size < w1.heap.size ∧ w1.cell? ⟨w.heap.size, 0, none⟩ = some v0 ∧ w1.cell? ⟨w.heap.size, 1, none⟩ = some v1 ∧ w1.cell? ⟨w.heap.size, 2, none⟩ = some v2 :=
  keep3 ⟨(Below.refl _ _).alloc (Nat.le_refl _) _, by simp, by simp, by simp, by simp⟩ hb
theorem wi_no1 {x y z a at' n : Nat} (h : 1099511627776 < at') : wi x y z a at' n = false := by unfold wi; simp; omega
theorem wi_no2 {x y z a at' n : Nat} (h : 1099511627776 < n) : wi x y z a at' n = false := by unfold wi; simp; omega
set_option maxHeartbeats 1000000 in
theorem c15 (e b t a at' n : Nat) (he : e < 256) (hb : b < 65536) (ht : t < 65536) (ha : a < 4294967296) (h1 : at' < 18446744073709551616) (h2 : n < 18446744073709551616) (w : World) :
    Calls Tryz.prog 54 #[bnd e b t, .int .u32 (a : Int), .int .u64 (at' : Int), .int .u64 (n : Int)] w fun en w' => en = .returned (.bool (wi (e % 16) (b % 512) (t % 512) a at' n)) ∧ Below w.heap.size w w' := by
  by_cases g1 : 1099511627776 < at'
  · rw [wi_no1 g1]
    go_enter Tryz.func54, Tryz.ntmps54
    go_wp2
    go_ret
    exact ⟨rfl, (Below.refl _ _).alloc (Nat.le_refl _) _⟩
  by_cases g2 : 1099511627776 < n
  · rw [wi_no2 g2]
    go_enter Tryz.func54, Tryz.ntmps54
    go_wp2
    go_ret
    exact ⟨rfl, (Below.refl _ _).alloc (Nat.le_refl _) _⟩
  have hA := bs_lt (e % 16) (b % 512) a (by omega) (by omega) ha
  have hL := ln_le (e % 16) (b % 512) (t % 512) (by omega)
  have k1 := c9 e b t a he hb ht ha
  have k2 := c11 e b t he hb ht
  have kw : wi (e % 16) (b % 512) (t % 512) a at' n = decide (bs (e % 16) (b % 512) a ≤ at' ∧ at' + n ≤ bs (e % 16) (b % 512) a + ln (e % 16) (b % 512) (t % 512)) := by unfold wi; exact decide_eq_decide.2 (by omega)
  rw [kw]
  clear kw
  generalize bs (e % 16) (b % 512) a = A at *
  generalize ln (e % 16) (b % 512) (t % 512) = L at *
  have K1 := Lib.hid k1
  have K2 := Lib.hid k2
  clear k1 k2
  by_cases g3 : A ≤ at'
  · go_enter Tryz.func54, Tryz.ntmps54
    go_wp2_with fail
    refine (K1.out _).mono ?_
    rintro en w1 ⟨rfl, hb1⟩
    obtain ⟨hB, hz, c0, c1, c2⟩ := init3 hb1
    clear hb1
    go_wp2_with fail
    refine (K2.out _).mono ?_
    rintro en w2 ⟨rfl, hb2⟩
    have hB2 := hB.trans (hb2.mono hB.size)
    clear hb2
    go_wp2
    go_ret
    exact ⟨retb (by rw [Bool.eq_iff_iff]; simp; omega), hB2⟩
  · go_enter Tryz.func54, Tryz.ntmps54
    go_wp2_with fail
    refine (K1.out _).mono ?_
    rintro en w1 ⟨rfl, hb1⟩
    obtain ⟨hB, hz, c0, c1, c2⟩ := init3 hb1
    clear hb1
    go_wp2_with fail
    go_ret
    exact ⟨retb (by rw [Bool.eq_iff_iff]; simp; omega), hB⟩
end Go.Proofs.YtmanoheofloimaaGreatDoor.Ca
namespace Go.Proofs.YtmanoheofloimaaGreatDoor.Ca
open Go.ChangeShapes Go.WideShapes Go.ChangeAt Go.RowKit
set_option linter.unusedVariables false
set_option maxRecDepth 100000
def ok (b t e : Nat) : Bool := decide (b % 2 ^ e = 0 ∧ t % 2 ^ e = 0 ∧ t - b ≤ 511 * 2 ^ e)
end Go.Proofs.YtmanoheofloimaaGreatDoor.Ca
namespace Go.Proofs.YtmanoheofloimaaGreatDoor.Ca
open Go.ChangeShapes Go.WideShapes Go.ChangeAt Go.RowKit
set_option linter.unusedVariables false
set_option maxRecDepth 100000
abbrev cp (g : Bool) (a p y e b t : Nat) : Value := .agg #[.bool g, .int .u32 (a : Int), .int .u8 (p : Int), .int .u8 (y : Int), .int .u8 (e : Int), .int .u16 (b : Int), .int .u16 (t : Int)]
theorem c47 (g : Bool) (a p y e b t : Nat) (hy : y < 256) (w : World) : Calls Tryz.prog 53 #[cp g a p y e b t] w fun en w' => en = .returned (.bool (decide (y = 0))) ∧ Below w.heap.size w w' := by
  go_enter Tryz.func53, Tryz.ntmps53
  go_wp2
  go_ret
  exact ⟨retb (by rw [Bool.eq_iff_iff]; simp), (Below.refl _ _).alloc (Nat.le_refl _) _⟩
end Go.Proofs.YtmanoheofloimaaGreatDoor.Ca
namespace Go.Proofs.YtmanoheofloimaaGreatDoor.Ca
open Go.ChangeShapes Go.WideShapes Go.ChangeAt Go.RowKit
set_option linter.unusedVariables false
set_option maxRecDepth 100000
theorem keep7 {w0 wp w1 : World} {k : Nat} {v0 v1 v2 v3 v4 v5 v6 : Value} (h : Below w0.heap.size w0 wp ∧ k < wp.heap.size ∧ wp.cell? ⟨k, 0, none⟩ = some v0 ∧ wp.cell? ⟨k, 1, none⟩ = some v1 ∧ wp.cell? ⟨k, 2, none⟩ = some v2 ∧ wp.cell? ⟨k, 3, none⟩ = some v3 ∧ wp.cell? ⟨k, 4, none⟩ = some v4 ∧ wp.cell? ⟨k, 5, none⟩ = some v5 ∧ wp.cell? ⟨k, 6, none⟩ = some v6) (hb : Below wp.heap.size wp w1) :
    Below w0.heap.size w0 w1 ∧ k < w1.heap.size ∧ w1.cell? ⟨k, 0, none⟩ = some v0 ∧ w1.cell? ⟨k, 1, none⟩ = some v1 ∧ w1.cell? ⟨k, 2, none⟩ = some v2 ∧ w1.cell? ⟨k, 3, none⟩ = some v3 ∧ w1.cell? ⟨k, 4, none⟩ = some v4 ∧ w1.cell? ⟨k, 5, none⟩ = some v5 ∧ w1.cell? ⟨k, 6, none⟩ = some v6 := by
  obtain ⟨h1, h2, q0, q1, q2, q3, q4, q5, q6⟩ := h
  have hc : ∀ o, w1.cell? ⟨k, o, none⟩ = wp.cell? ⟨k, o, none⟩ := fun o => hb.cell (p := ⟨k, o, none⟩) h2
  exact ⟨h1.trans (hb.mono h1.size), Nat.lt_of_lt_of_le h2 hb.size, by rw [hc]; exact q0, by rw [hc]; exact q1, by rw [hc]; exact q2, by rw [hc]; exact q3, by rw [hc]; exact q4, by rw [hc]; exact q5, by rw [hc]; exact q6⟩
theorem start7 (w : World) (v0 v1 v2 v3 v4 v5 v6 : Value) (T : TypeId) :
    Below w.heap.size w (w.alloc (.cells #[v0, v1, v2, v3, v4, v5, v6] T)) ∧ w.heap.size < (w.alloc (.cells #[v0, v1, v2, v3, v4, v5, v6] T)).heap.size ∧ (w.alloc (.cells #[v0, v1, v2, v3, v4, v5, v6] T)).cell? ⟨w.heap.size, 0, none⟩ = some v0 ∧ (w.alloc (.cells #[v0, v1, v2, v3, v4, v5, v6] T)).cell? ⟨w.heap.size, 1, none⟩ = some v1 ∧ (w.alloc (.cells #[v0, v1, v2, v3, v4, v5, v6] T)).cell? ⟨w.heap.size, 2, none⟩ = some v2 ∧ (w.alloc (.cells #[v0, v1, v2, v3, v4, v5, v6] T)).cell? ⟨w.heap.size, 3, none⟩ = some v3 ∧ (w.alloc (.cells #[v0, v1, v2, v3, v4, v5, v6] T)).cell? ⟨w.heap.size, 4, none⟩ = some v4 ∧ (w.alloc (.cells #[v0, v1, v2, v3, v4, v5, v6] T)).cell? ⟨w.heap.size, 5, none⟩ = some v5 ∧ (w.alloc (.cells #[v0, v1, v2, v3, v4, v5, v6] T)).cell? ⟨w.heap.size, 6, none⟩ = some v6 := by
  refine ⟨(Below.refl _ _).alloc (Nat.le_refl _) _, by simp, by simp, by simp, by simp, by simp, by simp, by simp, by simp⟩
end Go.Proofs.YtmanoheofloimaaGreatDoor.Ca
namespace Go.Proofs.YtmanoheofloimaaGreatDoor.Ca
open Go.ChangeShapes Go.WideShapes Go.ChangeAt Go.RowKit
set_option linter.unusedVariables false
set_option maxRecDepth 100000
def may (g : Bool) (a p y e b t q x n : Nat) : Bool := g && (decide (y = 0) && (decide (p &&& q = q) && wi (e % 16) (b % 512) (t % 512) a x n))
theorem init7 {w w1 : World} {v0 v1 v2 v3 v4 v5 v6 : Value} {T : TypeId} (hb : Below (w.alloc (.cells #[v0, v1, v2, v3, v4, v5, v6] T)).heap.size (w.alloc (.cells #[v0, v1, v2, v3, v4, v5, v6] T)) w1) :
    Below w.heap.size w w1 ∧ w.heap.size < w1.heap.size ∧ w1.cell? ⟨w.heap.size, 0, none⟩ = some v0 ∧ w1.cell? ⟨w.heap.size, 1, none⟩ = some v1 ∧ w1.cell? ⟨w.heap.size, 2, none⟩ = some v2 ∧ w1.cell? ⟨w.heap.size, 3, none⟩ = some v3 ∧ w1.cell? ⟨w.heap.size, 4, none⟩ = some v4 ∧ w1.cell? ⟨w.heap.size, 5, none⟩ = some v5 ∧ w1.cell? ⟨w.heap.size, 6, none⟩ = some v6 :=
  keep7 (start7 w v0 v1 v2 v3 v4 v5 v6 T) hb
set_option maxHeartbeats 1000000 in
theorem c36 (g : Bool) (a p y e b t q x n : Nat) (ha : a < 4294967296) (hp : p < 256) (hy : y < 256) (he : e < 256) (hb : b < 65536) (ht : t < 65536) (hq : q < 256) (hx : x < 18446744073709551616) (hn : n < 18446744073709551616) (w : World) :
    Calls Tryz.prog 34 #[cp g a p y e b t, .int .u8 (q : Int), .int .u64 (x : Int), .int .u64 (n : Int)] w fun en w' => en = .returned (.bool (may g a p y e b t q x n)) ∧ Below w.heap.size w w' := by
  unfold may
  have k1 := c47 g a p y e b t hy
  have k2 := c15 e b t a x n he hb ht ha hx hn
  generalize wi (e % 16) (b % 512) (t % 512) a x n = W at *
  generalize decide (y = 0) = r at *
  have ka := u8_and_nat p q hp hq
  have hm : p &&& q < 256 := Nat.and_lt_two_pow (n := 8) _ hq
  generalize p &&& q = m at *
  have K1 := Lib.hid k1
  have K2 := Lib.hid k2
  clear k1 k2
  cases g
  · go_enter Tryz.func34, Tryz.ntmps34
    go_wp2_with fail
    go_ret
    exact ⟨rfl, (Below.refl _ _).alloc (Nat.le_refl _) _⟩
  cases r
  · go_enter Tryz.func34, Tryz.ntmps34
    go_wp2_with fail
    refine (K1.out _).mono ?_
    rintro en w1 ⟨rfl, hb1⟩
    obtain ⟨hB, hz, q0, q1, q2, q3, q4, q5, q6⟩ := init7 hb1
    clear hb1
    go_wp2_with fail
    go_ret
    exact ⟨rfl, hB⟩
  by_cases hmq : m = q
  · have hmb : ((m : Int) == (q : Int)) = true := by simp; omega
    rw [decide_eq_true hmq]
    clear hmq
    go_enter Tryz.func34, Tryz.ntmps34
    go_wp2_with fail
    refine (K1.out _).mono ?_
    rintro en w1 ⟨rfl, hb1⟩
    obtain ⟨hB, hz, q0, q1, q2, q3, q4, q5, q6⟩ := init7 hb1
    clear hb1
    go_wp2_with fail
    refine (K2.out _).mono ?_
    rintro en w2 ⟨rfl, hb2⟩
    have hB2 := hB.trans (hb2.mono hB.size)
    clear hb2
    go_wp2_with fail
    go_ret
    exact ⟨rfl, hB2⟩
  · have hmb : ((m : Int) == (q : Int)) = false := by simp; omega
    rw [decide_eq_false hmq]
    clear hmq
    go_enter Tryz.func34, Tryz.ntmps34
    go_wp2_with fail
    refine (K1.out _).mono ?_
    rintro en w1 ⟨rfl, hb1⟩
    obtain ⟨hB, hz, q0, q1, q2, q3, q4, q5, q6⟩ := init7 hb1
    clear hb1
    go_wp2_with fail
    go_ret
    exact ⟨rfl, hB⟩
theorem c46 (w : World) : Calls Tryz.prog 16 #[] w fun en w' => en = .returned (.agg #[.bool false, .int .u32 0, .int .u8 0, .int .u8 0, .int .u8 0, .int .u16 0, .int .u16 0]) ∧ Below w.heap.size w w' := by
  go_enter Tryz.func16, Tryz.ntmps16
  go_wp2
  exact bodyPost_ret (v := .agg #[.bool false, .int .u32 0, .int .u8 0, .int .u8 0, .int .u8 0, .int .u16 0, .int .u16 0]) (by simp [results, Tryz.results16, go_sem]) rfl ⟨rfl, (Below.refl _ _).alloc (Nat.le_refl _) _⟩
end Go.Proofs.YtmanoheofloimaaGreatDoor.Ca
