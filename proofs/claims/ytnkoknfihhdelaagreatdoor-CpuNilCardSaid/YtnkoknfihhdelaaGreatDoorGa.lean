import Derived.Test.YtnkoknfihhdelaaGreatDoorMKA
import Derived.Laws.StructEq
import Derived.ShutString
import Derived.ChangeOld
import Derived.Lib.SmallJoins
import Derived.Test.YtnkoknfihhdelaaGreatDoorProg
import Derived.WalkKit
import Derived.ProofKit
import Derived.OpenShut
import Derived.Below
import Derived.WalkSmall
import Derived.BigQuiet
import Derived.Deep.QuietTactic
import Derived.LoopTactic
import Derived.Lib.Hide
import Derived.Deep.OwnRows
import Derived.Laws.MakeOwn
import Derived.Laws.AppendOwn
import Derived.IntWalk
import Derived.Laws.OwnMore
import Derived.OwnWalk
import Derived.WalkLawsBesides
import Derived.WalkSpells
import Derived.Laws.BitsAllLaws
import Derived.Deep.Draws
import Derived.Deep.DeepCutAuto
import Derived.Deep.CutBlock
import Derived.Laws.Rows
import Derived.Laws.CopyOwn
import Derived.Deep.AppendLies
import Derived.ChangeKeysEq
namespace Go.Proofs.YtnkoknfihhdelaaGreatDoor.Cp
open Go.ChangeShapes Go.WideShapes Go.ChangeAt Go.RowKit
set_option linter.unusedVariables false
theorem bcell {W w1 : World} (hb : Below W.heap.size W w1) : (∀ b o, b < W.heap.size → w1.cell? ⟨b, o, none⟩ = W.cell? ⟨b, o, none⟩) ∧ (∀ b o, b < W.heap.size → w1.frozen? ⟨b, o, none⟩ = W.frozen? ⟨b, o, none⟩) :=
  ⟨fun b o h => hb.cell (p := ⟨b, o, none⟩) h, fun b o h => hb.frozen (p := ⟨b, o, none⟩) h⟩
def At3 (w : World) (k : Nat) (e b t : Nat) : Prop := w.cell? ⟨k, 0, none⟩ = some (.int .u8 (e : Int)) ∧ w.cell? ⟨k, 1, none⟩ = some (.int .u16 (b : Int)) ∧ w.cell? ⟨k, 2, none⟩ = some (.int .u16 (t : Int))
theorem retb {a b : Bool} (h : a = b) : Ending.returned (.bool a) = .returned (.bool b) := by rw [h]
theorem ofbool {A C : Nat} : ((A : Int) == (C : Int)) = decide (A = C) := by
  rw [Bool.eq_iff_iff]; simp; omega
theorem keep3 {w0 wp w1 : World} {k : Nat} {v0 v1 v2 : Value} (h : Below w0.heap.size w0 wp ∧ k < wp.heap.size ∧ wp.cell? ⟨k, 0, none⟩ = some v0 ∧ wp.cell? ⟨k, 1, none⟩ = some v1 ∧ wp.cell? ⟨k, 2, none⟩ = some v2) (hb : Below wp.heap.size wp w1) :
    Below w0.heap.size w0 w1 ∧ k < w1.heap.size ∧ w1.cell? ⟨k, 0, none⟩ = some v0 ∧ w1.cell? ⟨k, 1, none⟩ = some v1 ∧ w1.cell? ⟨k, 2, none⟩ = some v2 := by
  obtain ⟨h1, h2, h3, h4, h5⟩ := h
  refine ⟨h1.trans (hb.mono h1.size), Nat.lt_of_lt_of_le h2 hb.size, ?_, ?_, ?_⟩
  · rw [hb.cell (p := ⟨k, 0, none⟩) h2]; exact h3
  · rw [hb.cell (p := ⟨k, 1, none⟩) h2]; exact h4
  · rw [hb.cell (p := ⟨k, 2, none⟩) h2]; exact h5
theorem init3 {w w1 : World} {v0 v1 v2 : Value} {T : TypeId} (hb : Below (w.alloc (.cells #[v0, v1, v2] T)).heap.size (w.alloc (.cells #[v0, v1, v2] T)) w1) :
    Below w.heap.size w w1 ∧ w.heap.size < w1.heap.size ∧ w1.cell? ⟨w.heap.size, 0, none⟩ = some v0 ∧ w1.cell? ⟨w.heap.size, 1, none⟩ = some v1 ∧ w1.cell? ⟨w.heap.size, 2, none⟩ = some v2 :=
  keep3 ⟨(Below.refl _ _).alloc (Nat.le_refl _) _, by simp, by simp, by simp, by simp⟩ hb
theorem wi_no1 {x y z a at' n : Nat} (h : 1099511627776 < at') : wi x y z a at' n = false := by unfold wi; simp; omega
theorem wi_no2 {x y z a at' n : Nat} (h : 1099511627776 < n) : wi x y z a at' n = false := by unfold wi; simp; omega
end Go.Proofs.YtnkoknfihhdelaaGreatDoor.Cp
namespace Go.Proofs.YtnkoknfihhdelaaGreatDoor.Cp
open Go.ChangeShapes Go.WideShapes Go.ChangeAt Go.RowKit
set_option linter.unusedVariables false
def ok (b t e : Nat) : Bool := decide (b % 2 ^ e = 0 ∧ t % 2 ^ e = 0 ∧ t - b ≤ 511 * 2 ^ e)
def exL (b t : Nat) : Nat → Nat × Nat × Nat × Nat
  | 0 => (0, 0, 0, 5)
  | k + 1 => if ok b t (8 - k) = true then (8 - k, b / 2 ^ (8 - k) % 512, t / 2 ^ (8 - k) % 512, 0) else exL b t k
def ex (b t : Nat) : Nat × Nat × Nat × Nat := if t < b ∨ 65536 < t then (0, 0, 0, 2) else exL b t 9
def exV (r : Nat × Nat × Nat × Nat) : Value := .tuple #[.agg #[.int .u8 (r.1 : Int), .int .u16 (r.2.1 : Int), .int .u16 (r.2.2.1 : Int)], .int .i64 (r.2.2.2 : Int)]
theorem and511_64 (b : Nat) (hb : b < 18446744073709551616) : bits .and .u64 (b : Int) 511 = ((b % 512 : Nat) : Int) := by
  have h := u64_and_nat b 511 hb (by omega)
  rw [nat_mask9] at h; exact h
theorem ok_code2 (b t e : Nat) (hb : b < 18446744073709551616) (ht : t < 18446744073709551616) (he : e ≤ 8) (hbt : b ≤ t) :
    ∃ M : Nat, bits .and .u64 (bits .or .u64 (b : Int) (t : Int)) (2 ^ e - 1) = (M : Int) ∧ ok b t e = (decide (M = 0) && decide ((t : Int) - (b : Int) ≤ 511 * ((2 ^ e : Nat) : Int))) := by
  have hor : b ||| t < 18446744073709551616 := Nat.or_lt_two_pow (n := 64) hb ht
  have h8 : (2 : Nat) ^ e ≤ 2 ^ 8 := Nat.pow_le_pow_right (by omega) he
  have h1 : 1 ≤ (2 : Nat) ^ e := Nat.one_le_two_pow
  have e1 : (2 ^ e - 1 : Int) = ((2 ^ e - 1 : Nat) : Int) := by rw [Int.ofNat_sub h1]; simp
  refine ⟨(b % 2 ^ e ||| t % 2 ^ e), ?_, ?_⟩
  · rw [u64_or_nat b t hb ht, e1, u64_and_nat _ _ hor (by omega), Nat.and_two_pow_sub_one_eq_mod, Nat.or_mod_two_pow]
  · unfold ok
    rw [Bool.eq_iff_iff, Bool.and_eq_true, decide_eq_true_eq, decide_eq_true_eq, decide_eq_true_eq, Nat.or_eq_zero_iff]
    omega
theorem okR (b t P : Nat) (h : 1 ≤ P) : (b % P = 0 ∧ t % P = 0 ∧ t - b ≤ 511 * P) ↔ (b % P = 0 ∧ t % P = 0 ∧ (t - b) / P ≤ 511) := by
  refine and_congr_right fun h1 => and_congr_right fun h2 => ?_
  have hd : P ∣ t - b := Nat.dvd_sub (Nat.dvd_of_mod_eq_zero h2) (Nat.dvd_of_mod_eq_zero h1)
  obtain ⟨q, hq⟩ := hd
  rw [hq, Nat.mul_div_cancel_left _ (by omega), Nat.mul_comm 511 P]
  exact Nat.mul_le_mul_left_iff (by omega)
set_option maxHeartbeats 1000000 in
theorem c19 (b t : Nat) (hb : b < 18446744073709551616) (ht : t < 18446744073709551616) (w : World) :
    Calls Tryz.prog 79 #[.int .u64 (b : Int), .int .u64 (t : Int)] w fun en w' => en = .returned (exV (ex b t)) ∧ Below w.heap.size w w' := by
  by_cases g1 : t < b
  · have E : ex b t = (0, 0, 0, 2) := by unfold ex; rw [if_pos (Or.inl g1)]
    rw [E]
    go_enter Tryz.func79, Tryz.ntmps79
    go_wp2
    exact bodyPost_ret (v := exV (0, 0, 0, 2)) (by simp [exV, results, Tryz.results79, go_sem]) rfl ⟨rfl, (Below.refl _ _).alloc (Nat.le_refl _) _⟩
  by_cases g2 : 65536 < t
  · have E : ex b t = (0, 0, 0, 2) := by unfold ex; rw [if_pos (Or.inr g2)]
    rw [E]
    go_enter Tryz.func79, Tryz.ntmps79
    go_wp2
    exact bodyPost_ret (v := exV (0, 0, 0, 2)) (by simp [exV, results, Tryz.results79, go_sem]) rfl ⟨rfl, (Below.refl _ _).alloc (Nat.le_refl _) _⟩
  have E : ex b t = exL b t 9 := by unfold ex; rw [if_neg (by omega)]
  rw [E]
  clear E
  have g2' : decide ((65536 : Int) < (t : Int)) = false := by simp; omega
  go_enter Tryz.func79, Tryz.ntmps79
  go_wp2
  go_loop [6, 7] (fun v _ => ∃ k : Nat, k ≤ 9 ∧ v = .int .i64 k ∧ Hid (exL b t (9 - k) = exL b t 9)) (fun v _ => 9 - (intOf v).toNat)
  case atStart => exact ⟨0, by omega, rfl, rfl⟩
  case round =>
    obtain ⟨k, hk, rfl, hx⟩ := hrel
    by_cases hlt : k ≤ 8
    · have hs : exL b t (9 - k) = if ok b t k = true then (k, b / 2 ^ k % 512, t / 2 ^ k % 512, 0) else exL b t (9 - (k + 1)) := by
        rw [show 9 - k = (8 - k) + 1 by omega, exL, show 8 - (8 - k) = k by omega, show 9 - (k + 1) = 8 - k by omega]
      rw [hs] at hx
      clear hs
      have hok : ok b t k = true ↔ (b % 2 ^ k = 0 ∧ t % 2 ^ k = 0 ∧ (t - b) / 2 ^ k ≤ 511) := by unfold ok; rw [decide_eq_true_eq]; exact okR b t (2 ^ k) Nat.one_le_two_pow
      have p8 : (2 : Nat) ^ k ≤ 2 ^ 8 := Nat.pow_le_pow_right (by omega) hlt
      have p1 : 1 ≤ (2 : Nat) ^ k := Nat.one_le_two_pow
      have hP := c21 k (by omega)
      generalize (2 : Nat) ^ k = P at *
      have HP := Lib.hid hP
      clear hP
      have s0 : (t : Int) - (b : Int) = ((t - b : Nat) : Int) := by omega
      have d0 : (((t - b : Nat) : Int)) / (P : Int) = (((t - b) / P : Nat) : Int) := rfl
      have d1 : (b : Int) / (P : Int) = ((b / P : Nat) : Int) := rfl
      have d2 : (t : Int) / (P : Int) = ((t / P : Nat) : Int) := rfl
      have r1 : (b : Int) % (P : Int) = ((b % P : Nat) : Int) := rfl
      have r2 : (t : Int) % (P : Int) = ((t % P : Nat) : Int) := rfl
      have q1 := Nat.div_le_self b P
      have q2 := Nat.div_le_self t P
      have q3 := Nat.div_le_self (t - b) P
      generalize (t - b) / P = D at *
      generalize t - b = TB at *
      generalize b / P = B at *
      generalize t / P = T at *
      generalize b % P = rB at *
      generalize t % P = rT at *
      have b1 : (B : Int) % 512 = ((B % 512 : Nat) : Int) := rfl
      have b2 : (T : Int) % 512 = ((T % 512 : Nat) : Int) := rfl
      have m1 : B % 512 < 512 := by omega
      have m2 : T % 512 < 512 := by omega
      generalize B % 512 = B' at *
      generalize T % 512 = T' at *
      go_wp2_with fail
      refine (HP.out _).mono ?_
      rintro en w1 ⟨rfl, rfl⟩
      have nz : ((P : Int) == 0) = false := by simp; omega
      go_wp2
      · have h1 : rB = 0 := by omega
        have h2 : rT = 0 := by omega
        have h3 : D ≤ 511 := by omega
        rw [if_pos (by rw [hok]; omega)] at hx
        clear hok
        go_region
        all_goals
          go_wp2
          exact bodyPost_ret (v := exV (k, B', T', 0)) (by simp [exV, results, Tryz.results79, go_sem]) rfl ⟨by rw [← hx.out], ((Below.refl _ _).alloc (Nat.le_refl _) _).drew⟩
      all_goals
        rw [if_neg (by rw [hok]; omega)] at hx
        clear hok
        first | exact ⟨⟨k + 1, by omega, by go_num, hx⟩, by simp [intOf]; omega⟩ | (go_round; case rel => exact ⟨k + 1, by omega, by go_num, hx⟩; case measure => simp [intOf]; omega)
    · have : k = 9 := by omega
      subst this
      go_wp2
      exact bodyPost_ret (v := exV (0, 0, 0, 5)) (by simp [exV, results, Tryz.results79, go_sem]) rfl ⟨by rw [← hx.out]; rfl, (Below.refl _ _).alloc (Nat.le_refl _) _⟩
end Go.Proofs.YtnkoknfihhdelaaGreatDoor.Cp
namespace Go.Proofs.YtnkoknfihhdelaaGreatDoor.Cp
open Go.ChangeShapes Go.WideShapes Go.ChangeAt Go.RowKit
set_option linter.unusedVariables false
theorem set7 {w w1 : World} {k : Nat} (h : Below w.heap.size w w1) (hk : w.heap.size ≤ k) (v0 v1 v2 v3 v4 v5 v6 : Value) :
    Below w.heap.size w (((((((w1.setCell ⟨k, 0, none⟩ v0).setCell ⟨k, 1, none⟩ v1).setCell ⟨k, 2, none⟩ v2).setCell ⟨k, 3, none⟩ v3).setCell ⟨k, 4, none⟩ v4).setCell ⟨k, 5, none⟩ v5).setCell ⟨k, 6, none⟩ v6) :=
  ((((((h.setCell (p := ⟨k, 0, none⟩) hk _).setCell (p := ⟨k, 1, none⟩) hk _).setCell (p := ⟨k, 2, none⟩) hk _).setCell (p := ⟨k, 3, none⟩) hk _).setCell (p := ⟨k, 4, none⟩) hk _).setCell (p := ⟨k, 5, none⟩) hk _).setCell (p := ⟨k, 6, none⟩) hk _
abbrev cp (g : Bool) (a p y e b t : Nat) : Value := .agg #[.bool g, .int .u32 (a : Int), .int .u8 (p : Int), .int .u8 (y : Int), .int .u8 (e : Int), .int .u16 (b : Int), .int .u16 (t : Int)]
end Go.Proofs.YtnkoknfihhdelaaGreatDoor.Cp
namespace Go.Proofs.YtnkoknfihhdelaaGreatDoor.Cp
open Go.ChangeShapes Go.WideShapes Go.ChangeAt Go.RowKit Go.Joins
set_option linter.unusedVariables false
set_option maxRecDepth 100000
theorem cells27 : Tryz.prog.cellsOf 29 = 7 := by kernel_rfl
theorem cells25 : Tryz.prog.cellsOf 27 = 3 := by kernel_rfl
theorem cells4 : Tryz.prog.cellsOf 4 = 1 := by kernel_rfl
theorem cells5 : Tryz.prog.cellsOf 5 = 1 := by kernel_rfl
theorem cells22 : Tryz.prog.cellsOf 25 = 1 := by kernel_rfl
theorem cells23 : Tryz.prog.cellsOf 22 = 1 := by kernel_rfl
theorem nat_u8 {n : Int} (h : (Lit.int .u8 n).wf = true) : ∃ k : Nat, n = (k : Int) ∧ k < 256 := by
  have := bounds_u8 h; exact ⟨n.toNat, by omega, by omega⟩
theorem nat_u16 {n : Int} (h : (Lit.int .u16 n).wf = true) : ∃ k : Nat, n = (k : Int) ∧ k < 65536 := by
  have := bounds_u16 h; exact ⟨n.toNat, by omega, by omega⟩
theorem nat_u32 {n : Int} (h : (Lit.int .u32 n).wf = true) : ∃ k : Nat, n = (k : Int) ∧ k < 4294967296 := by
  have := bounds_u32 h; exact ⟨n.toNat, by omega, by omega⟩
section
variable {H : Type} {enc : TypeId × Value → H} {W : World} {base : Nat} {spare : Nat → Bool} {held : Bool}
theorem open_cap {r : Reach} {b0 : Nat} {v : Value} {d : DataW H} {p : List MemPlace} (hv : Value.okWide Tryz.prog W r b0 29 v) (h : DataW.Trod enc Tryz.prog W base spare held 29 v d p) :
    ∃ (g : Bool) (a p y e b t : Nat), v = cp g a p y e b t ∧ a < 4294967296 ∧ p < 256 ∧ y < 256 ∧ e < 256 ∧ b < 65536 ∧ t < 65536 := by
  obtain ⟨cs, rfl, hsz⟩ := okWide_struct Tryz.underlying29 hv
  obtain ⟨l⟩ := cs
  match l, hsz.trans cells27 with
  | [c0, c1, c2, c3, c4, c5, c6], _ =>
    obtain ⟨fuel, hf⟩ := h
    obtain ⟨xs, n, _, hx, _, hlen, hg⟩ := DataW.trod_struct Tryz.underlying29 hf
    match xs, hlen with
    | [y0, y1, y2, y3, y4], _ =>
      have g0 : DataW.trod enc Tryz.prog W base spare held n 4 (([c0, c1, c2, c3, c4, c5, c6].drop 0).take (Tryz.prog.cellsOf 4)) = some y0 := hg 0 _ rfl
      rw [cells4] at g0
      have g1 : DataW.trod enc Tryz.prog W base spare held n 25 (([c0, c1, c2, c3, c4, c5, c6].drop 1).take (Tryz.prog.cellsOf 25)) = some y1 := hg 1 _ rfl
      rw [cells22] at g1
      have g2 : DataW.trod enc Tryz.prog W base spare held n 5 (([c0, c1, c2, c3, c4, c5, c6].drop 2).take (Tryz.prog.cellsOf 5)) = some y2 := hg 2 _ rfl
      rw [cells5] at g2
      have g3 : DataW.trod enc Tryz.prog W base spare held n 5 (([c0, c1, c2, c3, c4, c5, c6].drop 3).take (Tryz.prog.cellsOf 5)) = some y3 := hg 3 _ rfl
      rw [cells5] at g3
      have g4 : DataW.trod enc Tryz.prog W base spare held n 27 (([c0, c1, c2, c3, c4, c5, c6].drop 4).take (Tryz.prog.cellsOf 27)) = some y4 := hg 4 _ rfl
      rw [cells25] at g4
      obtain ⟨g, e0, -⟩ := DataW.trod_bool Tryz.underlying4 g0
      obtain ⟨a, e1, -, wa⟩ := DataW.trod_int Tryz.underlying25 g1
      obtain ⟨p, e2, -, wp⟩ := DataW.trod_int Tryz.underlying5 g2
      obtain ⟨y, e3, -, wy⟩ := DataW.trod_int Tryz.underlying5 g3
      obtain ⟨zs, m, _, hz, _, hzl, hh⟩ := DataW.trod_struct Tryz.underlying27 g4
      match zs, hzl with
      | [z0, z1, z2], _ =>
        have k0 : DataW.trod enc Tryz.prog W base spare held m 5 (((([c0, c1, c2, c3, c4, c5, c6].drop 4).take 3).drop 0).take (Tryz.prog.cellsOf 5)) = some z0 := hh 0 _ rfl
        rw [cells5] at k0
        have k1 : DataW.trod enc Tryz.prog W base spare held m 22 (((([c0, c1, c2, c3, c4, c5, c6].drop 4).take 3).drop 1).take (Tryz.prog.cellsOf 22)) = some z1 := hh 1 _ rfl
        rw [cells23] at k1
        have k2 : DataW.trod enc Tryz.prog W base spare held m 22 (((([c0, c1, c2, c3, c4, c5, c6].drop 4).take 3).drop 2).take (Tryz.prog.cellsOf 22)) = some z2 := hh 2 _ rfl
        rw [cells23] at k2
        obtain ⟨e, e4, -, we⟩ := DataW.trod_int Tryz.underlying5 k0
        obtain ⟨b, e5, -, wb⟩ := DataW.trod_int Tryz.underlying22 k1
        obtain ⟨t, e6, -, wt⟩ := DataW.trod_int Tryz.underlying22 k2
        obtain rfl : c0 = .bool g := List.cons.inj e0 |>.1
        obtain rfl : c1 = .int .u32 a := List.cons.inj e1 |>.1
        obtain rfl : c2 = .int .u8 p := List.cons.inj e2 |>.1
        obtain rfl : c3 = .int .u8 y := List.cons.inj e3 |>.1
        obtain rfl : c4 = .int .u8 e := List.cons.inj e4 |>.1
        obtain rfl : c5 = .int .u16 b := List.cons.inj e5 |>.1
        obtain rfl : c6 = .int .u16 t := List.cons.inj e6 |>.1
        obtain ⟨a, rfl, ha⟩ := nat_u32 wa
        obtain ⟨p, rfl, hp⟩ := nat_u8 wp
        obtain ⟨y, rfl, hy⟩ := nat_u8 wy
        obtain ⟨e, rfl, he⟩ := nat_u8 we
        obtain ⟨b, rfl, hb⟩ := nat_u16 wb
        obtain ⟨t, rfl, ht⟩ := nat_u16 wt
        exact ⟨g, a, p, y, e, b, t, rfl, ha, hp, hy, he, hb, ht⟩
end
end Go.Proofs.YtnkoknfihhdelaaGreatDoor.Cp
namespace Go.Proofs.YtnkoknfihhdelaaGreatDoor.Cp.En
open Go.ChangeShapes Go.WideShapes Go.ChangeAt Go.RowKit
set_option linter.unusedVariables false
set_option maxRecDepth 100000
def isSz (s : Int) : Bool := decide (s = 1 ∨ s = 2 ∨ s = 4 ∨ s = 8)
theorem retb {a b : Bool} (h : a = b) : Ending.returned (.bool a) = .returned (.bool b) := by rw [h]
theorem c25 (s : Int) (w : World) : Calls Tryz.prog 122 #[.int .i64 s] w fun e w' => e = .returned (.bool (isSz s)) ∧ w = w' := by
  by_cases h1 : s = 1
  · subst h1; go_enter Tryz.func122, Tryz.ntmps122; go_wp2; go_ret; exact ⟨rfl, rfl⟩
  by_cases h2 : s = 2
  · subst h2; go_enter Tryz.func122, Tryz.ntmps122; go_wp2; go_ret; exact ⟨rfl, rfl⟩
  by_cases h4 : s = 4
  · subst h4; go_enter Tryz.func122, Tryz.ntmps122; go_wp2; go_ret; exact ⟨rfl, rfl⟩
  by_cases h8 : s = 8
  · subst h8; go_enter Tryz.func122, Tryz.ntmps122; go_wp2; go_ret; exact ⟨rfl, rfl⟩
  have e : isSz s = false := by unfold isSz; simp; omega
  have b1 : (s == 1) = false := by simpa using h1
  have b2 : (s == 2) = false := by simpa using h2
  have b4 : (s == 4) = false := by simpa using h4
  have b8 : (s == 8) = false := by simpa using h8
  rw [e]
  go_enter Tryz.func122, Tryz.ntmps122
  go_wp2
  go_ret
  exact ⟨rfl, rfl⟩
theorem bdiv (n d : Nat) (hd : 0 < d) : ((n : Int) / (d : Int) == 0) = decide (n < d) := by
  have e : (n : Int) / (d : Int) = ((n / d : Nat) : Int) := by simp
  rw [e, Bool.eq_iff_iff]
  simp only [beq_iff_eq, decide_eq_true_eq]
  have := Nat.div_eq_zero_iff (a := n) (b := d)
  omega
theorem c26 (n s : Nat) (hn : n < 18446744073709551616) (hs : s = 1 ∨ s = 2 ∨ s = 4 ∨ s = 8) (w : World) : Calls Tryz.prog 123 #[.int .u64 (n : Int), .int .i64 (s : Int)] w fun e w' => e = .returned (.bool (decide (n < 256 ^ s))) ∧ w = w' := by
  have q1 : decide (n < 256 ^ 1) = ((n : Int) / 256 == 0) := (bdiv n 256 (by omega)).symm
  have q2 : decide (n < 256 ^ 2) = ((n : Int) / 65536 == 0) := (bdiv n 65536 (by omega)).symm
  have q4 : decide (n < 256 ^ 4) = ((n : Int) / 4294967296 == 0) := (bdiv n 4294967296 (by omega)).symm
  have q8 : decide (n < 256 ^ 8) = true := decide_eq_true (by simpa using hn)
  have Q1 := Lib.hid q1
  have Q2 := Lib.hid q2
  have Q4 := Lib.hid q4
  have Q8 := Lib.hid q8
  clear q1 q2 q4 q8
  rcases hs with rfl | rfl | rfl | rfl
  · go_enter Tryz.func123, Tryz.ntmps123
    go_wp2
    go_ret
    exact ⟨retb Q1.out.symm, rfl⟩
  · go_enter Tryz.func123, Tryz.ntmps123
    go_wp2
    go_ret
    exact ⟨retb Q2.out.symm, rfl⟩
  · go_enter Tryz.func123, Tryz.ntmps123
    go_wp2
    go_ret
    exact ⟨retb Q4.out.symm, rfl⟩
  · go_enter Tryz.func123, Tryz.ntmps123
    go_wp2
    go_ret
    exact ⟨retb Q8.out.symm, rfl⟩
theorem info5 : (Tryz.prog.info? 5).map (fun i => (i.zero, i.size, i.bytes)) = some (some (.int .u8 0), 1, 1) := by kernel_rfl
def bt (n i : Nat) : Nat := n / 256 ^ i % 256
/-- What a call makes: a new slice of n bytes f, the world else as it was. -/
def Made (w w' : World) (v : Value) (n : Nat) (f : Nat → Nat) : Prop :=
  Below w.heap.size w w' ∧ ∃ A c, v = .slice A n c ∧ (0 < n → ∃ b, A = some ⟨b, 0, none⟩ ∧ w.heap.size ≤ b ∧ b < w'.heap.size ∧ ∀ j, j < n → w'.cell? ⟨b, j, none⟩ = some (.int .u8 (f j : Int)))
def PutOut (w : World) (n s : Nat) (e : Ending) (w' : World) : Prop := ∃ v, e = .returned (.tuple #[v, .int .i64 0]) ∧ Made w w' v s (bt n)
def PutR (w : World) (n s : Nat) (i : Value) (wr : World) : Prop := ∃ k : Nat, k ≤ s ∧ i = .int .i64 (k : Int) ∧ Below w.heap.size w wr ∧ wr.rowIs w.heap.size 5 s (fun j => if j < k then .int .u8 (bt n j : Int) else .int .u8 0)
theorem PutR.step {w wr : World} {n s k : Nat} {v : Value} (hk : k < s) (hb : Below w.heap.size w wr) (hr : wr.rowIs w.heap.size 5 s (fun j => if j < k then .int .u8 (bt n j : Int) else .int .u8 0)) (hv : v = .int .u8 (bt n k : Int)) :
    PutR w n s (.int .i64 ((k + 1 : Nat) : Int)) (wr.setCell ⟨w.heap.size, k, none⟩ v) := by
  subst hv
  refine ⟨k + 1, hk, rfl, hb.setCell (Nat.le_refl _) _, (hr.set k _).congr fun j _ => ?_⟩
  by_cases h1 : j = k
  · subst h1; rw [if_pos rfl, if_pos (by omega)]
  · rw [if_neg h1]
    by_cases h2 : j < k
    · rw [if_pos h2, if_pos (by omega)]
    · rw [if_neg h2, if_neg (by omega)]
theorem PutR.done {w wr : World} {n s c : Nat} (hb : Below w.heap.size w wr) (hr : wr.rowIs w.heap.size 5 s (fun j => if j < s then .int .u8 (bt n j : Int) else .int .u8 0)) : PutOut w n s (.returned (.tuple #[.slice (some ⟨w.heap.size, 0, none⟩) s c, .int .i64 0])) wr :=
  ⟨_, rfl, hb, _, _, rfl, fun _ => ⟨_, rfl, Nat.le_refl _, hr.lt, fun j hj => by rw [hr.cell hj, if_pos hj]⟩⟩
set_option maxHeartbeats 2000000 in
theorem c9 (n s : Nat) (hn : n < 18446744073709551616) (hs : s = 1 ∨ s = 2 ∨ s = 4 ∨ s = 8) (hf : n < 256 ^ s) (w : World) : Calls Tryz.prog 83 #[.int .u64 (n : Int), .int .i64 (s : Int)] w (PutOut w n s) := by
  have k25 := c25 s
  have k26 := c26 n s hn hs
  rw [show isSz (s : Int) = true from by unfold isSz; rcases hs with rfl | rfl | rfl | rfl <;> rfl] at k25
  rw [decide_eq_true hf] at k26
  have K25 := Lib.hid k25
  have K26 := Lib.hid k26
  obtain ⟨i0, hi, hz0, hz1, hz2⟩ := info_parts info5
  have hmk := fun W => run_make_row (P := Tryz.prog) 93 5 i0 (.int .u8 0) Tryz.underlying93 hi hz0 hz1 rfl .i64 .i64 s (by rw [hz2]; omega) (by omega) W
  have hs8 : s ≤ 8 := by omega
  clear hs hf k25 k26
  go_enter Tryz.func83, Tryz.ntmps83
  go_wp2_with (first | (go_at_call 122; refine (K25.out _).mono ?_; rintro _ _ ⟨rfl, rfl⟩) | (go_at_call 123; refine (K26.out _).mono ?_; rintro _ _ ⟨rfl, rfl⟩))
  have h0 : PutR w n s (.int .i64 0) (w.alloc (.cells (madeCells #[.int .u8 0] s) 5)) := ⟨0, Nat.zero_le _, rfl, (Below.refl _ _).alloc (Nat.le_refl _) _, (World.rowIs_made w _ s 5).congr fun j _ => by rw [if_neg (by omega)]⟩
  go_loopw [21] (PutR w n s) (fun i _ => s - (intOf i).toNat)
  case atStart => exact h0
  case round =>
    obtain ⟨k, hk, rfl, hb, hr⟩ := hrel
    clear h0 hmk K25 K26
    by_cases hlt : k < s
    · have hc := hr.cell hlt
      rw [if_neg (by omega)] at hc
      have hfz := hr.frozen k
      have HR := Lib.hid hr
      clear hr
      have h8 : k = 0 ∨ k = 1 ∨ k = 2 ∨ k = 3 ∨ k = 4 ∨ k = 5 ∨ k = 6 ∨ k = 7 := by omega
      rcases h8 with rfl | rfl | rfl | rfl | rfl | rfl | rfl | rfl
      all_goals
        go_wp2
        go_roundw
        case rel => exact PutR.step hlt hb HR.out (congrArg (Value.int .u8) (by unfold bt; simp only [Nat.reducePow]; omega))
        case measure => simp [intOf]; omega
    · obtain rfl : k = s := by omega
      go_wp2
      go_ret2
      exact PutR.done hb hr
/-- A slice of n bytes f. -/
def Rd (w : World) (A : Option Addr) (n : Nat) (f : Nat → Nat) : Prop :=
  0 < n → ∃ b o, A = some ⟨b, o, none⟩ ∧ b < w.heap.size ∧ ∀ j, j < n → w.cell? ⟨b, o + j, none⟩ = some (.int .u8 (f j : Int))
theorem Rd.below {w w' : World} {A : Option Addr} {n : Nat} {f : Nat → Nat} (h : Rd w A n f) (hb : Below w.heap.size w w') : Rd w' A n f := fun h0 => by
  obtain ⟨b, o, e, hlt, hc⟩ := h h0
  exact ⟨b, o, e, Nat.lt_of_lt_of_le hlt hb.size, fun j hj => (hb.cell hlt).trans (hc j hj)⟩
theorem Rd.drewN {w : World} {A : Option Addr} {n : Nat} {f : Nat → Nat} (h : Rd w A n f) (q : Nat) : Rd (w.drewN q) A n f := h
theorem Rd.cut {w : World} {A : Option Addr} {n p k : Nat} {f : Nat → Nat} (h : Rd w A n f) (hp : p + k ≤ n) : Rd w (A.map fun x => x.add p) k (fun j => f (p + j)) := fun h0 => by
  obtain ⟨b, o, rfl, hb, hc⟩ := h (by omega)
  refine ⟨b, o + p, ?_, hb, fun j hj => ?_⟩
  · by_cases hp0 : p = 0
    · subst hp0; rfl
    · simp [Addr.add, hp0]
  · rw [Nat.add_assoc]; exact hc (p + j) (by omega)
def CutOk (w : World) (A : Option Addr) (p k : Nat) (f : Nat → Nat) (e : Ending) (w' : World) : Prop := ∃ A', e = .returned (.tuple #[.slice A' k k, .int .i64 0]) ∧ w = w' ∧ Rd w A' k (fun j => f (p + j))
theorem c28 (A : Option Addr) (n c p k : Nat) (f : Nat → Nat) (w : World) (hn : n ≤ c) (hc : c ≤ 9223372036854775807) (hA : Rd w A n f) (hA0 : A = none → c = 0) (hp : p + k ≤ n) :
    Calls Tryz.prog 120 #[.slice A n c, .int .i64 (p : Int), .int .i64 (k : Int)] w (CutOk w A p k f) := by
  have q1 : decide ((p : Int) < 0) = false := by simp
  have q2 : decide ((k : Int) < 0) = false := by simp
  have q3 : decide (n < p) = false := by simp; omega
  have q4 : decide ((n : Int) - (p : Int) < (k : Int)) = false := by simp; omega
  have f1 : (p : Int) + (k : Int) ≤ (c : Int) := by omega
  have f2 : (0 : Int) ≤ (p : Int) + (k : Int) := by omega
  have f3 : (p : Int) ≤ (p : Int) + (k : Int) := by omega
  go_enter Tryz.func120, Tryz.ntmps120
  go_wp2
  all_goals
    go_ret2
    first
      | exact ⟨_, rfl, rfl, hA.cut hp⟩
      | (obtain rfl : k = 0 := by omega
         exact ⟨_, rfl, rfl, fun h0 => absurd h0 (by omega)⟩)
def nm (f : Nat → Nat) : Nat → Nat
  | 0 => 0
  | k + 1 => nm f k + f k * 256 ^ k
theorem nm_lt (f : Nat → Nat) (hf : ∀ j, f j < 256) : ∀ k, nm f k < 256 ^ k
  | 0 => by simp [nm]
  | k + 1 => by
    have h1 := nm_lt f hf k
    have h2 := Nat.mul_le_mul_right (256 ^ k) (Nat.le_of_lt_succ (hf k))
    have h3 : (256 : Nat) ^ (k + 1) = 256 ^ k * 256 := Nat.pow_succ ..
    show nm f k + f k * 256 ^ k < _
    rw [h3]
    omega
theorem orb (m x k : Nat) (hk : k ≤ 7) (hm : m < 256 ^ k) (hx : x < 256) (hlt : x * 256 ^ k < 18446744073709551616) (P : Int) (hP : P = ((256 ^ k : Nat) : Int)) :
    bits .or .u64 (m : Int) ((x : Int) * P) = ((m + x * 256 ^ k : Nat) : Int) := by
  subst hP
  have h2 : (x : Int) * ((256 ^ k : Nat) : Int) = ((x * 256 ^ k : Nat) : Int) := (Int.natCast_mul ..).symm
  have hp : (256 : Nat) ^ k ≤ 256 ^ 7 := Nat.pow_le_pow_right (by omega) hk
  rw [h2, u64_or_nat m (x * 256 ^ k) (by omega) hlt]
  congr 1
  have e : (256 : Nat) ^ k = 2 ^ (8 * k) := by rw [Nat.pow_mul]
  rw [e] at hm ⊢
  have := Nat.two_pow_add_eq_or_of_lt hm x
  rw [Nat.or_comm, Nat.mul_comm x, ← this, Nat.add_comm]
theorem orb0 (m x : Nat) (hm : m < 256 ^ 0) (hx : x < 256) : bits .or .u64 (m : Int) (x : Int) = ((m + x * 256 ^ 0 : Nat) : Int) := by
  have := orb m x 0 (by omega) hm hx (by omega) 1 rfl
  rwa [Int.mul_one] at this
theorem orb1 (m x : Nat) (hm : m < 256 ^ 1) (hx : x < 256) : bits .or .u64 (m : Int) ((x : Int) * 256) = ((m + x * 256 ^ 1 : Nat) : Int) :=
  orb m x 1 (by omega) hm hx (by simp only [Nat.reducePow]; omega) 256 (by simp only [Nat.reducePow]; rfl)
theorem orb2 (m x : Nat) (hm : m < 256 ^ 2) (hx : x < 256) : bits .or .u64 (m : Int) ((x : Int) * 65536) = ((m + x * 256 ^ 2 : Nat) : Int) :=
  orb m x 2 (by omega) hm hx (by simp only [Nat.reducePow]; omega) 65536 (by simp only [Nat.reducePow]; rfl)
theorem orb3 (m x : Nat) (hm : m < 256 ^ 3) (hx : x < 256) : bits .or .u64 (m : Int) ((x : Int) * 16777216) = ((m + x * 256 ^ 3 : Nat) : Int) :=
  orb m x 3 (by omega) hm hx (by simp only [Nat.reducePow]; omega) 16777216 (by simp only [Nat.reducePow]; rfl)
theorem orb4 (m x : Nat) (hm : m < 256 ^ 4) (hx : x < 256) : bits .or .u64 (m : Int) ((x : Int) * 4294967296) = ((m + x * 256 ^ 4 : Nat) : Int) :=
  orb m x 4 (by omega) hm hx (by simp only [Nat.reducePow]; omega) 4294967296 (by simp only [Nat.reducePow]; rfl)
theorem orb5 (m x : Nat) (hm : m < 256 ^ 5) (hx : x < 256) : bits .or .u64 (m : Int) ((x : Int) * 1099511627776) = ((m + x * 256 ^ 5 : Nat) : Int) :=
  orb m x 5 (by omega) hm hx (by simp only [Nat.reducePow]; omega) 1099511627776 (by simp only [Nat.reducePow]; rfl)
theorem orb6 (m x : Nat) (hm : m < 256 ^ 6) (hx : x < 256) : bits .or .u64 (m : Int) ((x : Int) * 281474976710656) = ((m + x * 256 ^ 6 : Nat) : Int) :=
  orb m x 6 (by omega) hm hx (by simp only [Nat.reducePow]; omega) 281474976710656 (by simp only [Nat.reducePow]; rfl)
theorem orb7 (m x : Nat) (hm : m < 256 ^ 7) (hx : x < 256) : bits .or .u64 (m : Int) ((x : Int) * 72057594037927936) = ((m + x * 256 ^ 7 : Nat) : Int) :=
  orb m x 7 (by omega) hm hx (by simp only [Nat.reducePow]; omega) 72057594037927936 (by simp only [Nat.reducePow]; rfl)
def GetR (w : World) (f : Nat → Nat) (s : Nat) (i v : Value) (wr : World) : Prop := ∃ k : Nat, k ≤ s ∧ i = .int .i64 (k : Int) ∧ v = .int .u64 (nm f k : Int) ∧ wr = w
set_option maxHeartbeats 2000000 in
theorem c14 (A : Option Addr) (n c p s : Nat) (f : Nat → Nat) (w : World) (hf : ∀ j, f j < 256) (hn : n ≤ c) (hc : c ≤ 9223372036854775807) (hA : Rd w A n f) (hA0 : A = none → c = 0) (hs : s = 1 ∨ s = 2 ∨ s = 4 ∨ s = 8) (hp : p + s ≤ n) :
    Calls Tryz.prog 82 #[.slice A n c, .int .i64 (p : Int), .int .i64 (s : Int)] w fun e w' => e = .returned (.tuple #[.int .u64 (nm (fun j => f (p + j)) s : Int), .int .i64 0]) ∧ w = w' := by
  have k25 := c25 s
  rw [show isSz (s : Int) = true from by unfold isSz; rcases hs with rfl | rfl | rfl | rfl <;> rfl] at k25
  have k28 := c28 A n c p s f w hn hc hA hA0 hp
  have K25 := Lib.hid k25
  have K28 := Lib.hid k28
  have hs8 : s ≤ 8 ∧ 0 < s := by omega
  have hf' : ∀ j, (fun j => f (p + j)) j < 256 := fun j => hf _
  clear hs k25 k28 hA hA0 hp
  obtain ⟨g, hg⟩ : ∃ g, g = fun j => f (p + j) := ⟨_, rfl⟩
  rw [← hg] at hf' ⊢
  have HG := Lib.hid hg
  clear hf hg
  go_enter Tryz.func82, Tryz.ntmps82
  go_wp2_with fail
  refine (K25.out _).mono ?_
  rintro _ _ ⟨rfl, rfl⟩
  go_wp2_with fail
  refine K28.out.mono ?_
  rintro _ _ ⟨A', rfl, rfl, hR⟩
  rw [← HG.out] at hR
  obtain ⟨b, o, rfl, hb, hcell⟩ := hR hs8.2
  clear HG hR
  clear K25 K28
  have HC := Lib.hid hcell
  clear hcell
  go_wp2_with fail
  go_loopw [28, 10] (GetR w g s) (fun i _ _ => s - (intOf i).toNat)
  case atStart => exact ⟨0, Nat.zero_le _, rfl, rfl, rfl⟩
  case round =>
    obtain ⟨k, hk, rfl, rfl, rfl⟩ := hrel
    by_cases hlt : k < s
    · have hc0 := HC.out k hlt
      have hx := hf' k
      have hm := nm_lt g hf' k
      have hsucc : nm g (k + 1) = nm g k + g k * 256 ^ k := rfl
      clear HC hf'
      generalize nm g k = m at *
      generalize g k = x at *
      have HS := Lib.hid hsucc
      clear hsucc
      have h8 : k = 0 ∨ k = 1 ∨ k = 2 ∨ k = 3 ∨ k = 4 ∨ k = 5 ∨ k = 6 ∨ k = 7 := by omega
      rcases h8 with rfl | rfl | rfl | rfl | rfl | rfl | rfl | rfl
      all_goals
        try simp only [Nat.add_zero] at hc0
        go_wp2
        go_roundw
        case rel => exact ⟨_, hlt, rfl, by rw [HS.out]; exact congrArg (Value.int .u64) (by with_reducible first | exact orb0 m x hm hx | exact orb1 m x hm hx | exact orb2 m x hm hx | exact orb3 m x hm hx | exact orb4 m x hm hx | exact orb5 m x hm hx | exact orb6 m x hm hx | exact orb7 m x hm hx), rfl⟩
        case measure => simp [intOf]; omega
    · obtain rfl : k = s := by omega
      go_wp2
      go_ret2
      exact ⟨rfl, rfl⟩
end Go.Proofs.YtnkoknfihhdelaaGreatDoor.Cp.En
namespace Go.Proofs.YtnkoknfihhdelaaGreatDoor.Cp
open Go.ChangeShapes Go.WideShapes Go.ChangeAt Go.RowKit
set_option linter.unusedVariables false
theorem and8 (p : Nat) (hp : p < 256) : bits .and .u8 (p : Int) 8 = ((p / 8 % 2 * 8 : Nat) : Int) := by
  have h := u8_and_nat p 8 hp (by omega)
  rw [nat_bit3] at h; exact h
theorem and7 (t : Nat) (ht : t < 4294967296) : bits .and .u32 (t : Int) 7 = ((t % 8 : Nat) : Int) := by
  have h := u32_and_nat t 7 ht (by omega)
  rw [nat_mask3] at h; exact h
end Go.Proofs.YtnkoknfihhdelaaGreatDoor.Cp
namespace Go.Proofs.YtnkoknfihhdelaaGreatDoor.Cp
open Go.ChangeShapes Go.WideShapes Go.ChangeAt Go.RowKit
set_option linter.unusedVariables false
theorem keep7 {w0 wp w1 : World} {k : Nat} {v0 v1 v2 v3 v4 v5 v6 : Value} (h : Below w0.heap.size w0 wp ∧ k < wp.heap.size ∧ wp.cell? ⟨k, 0, none⟩ = some v0 ∧ wp.cell? ⟨k, 1, none⟩ = some v1 ∧ wp.cell? ⟨k, 2, none⟩ = some v2 ∧ wp.cell? ⟨k, 3, none⟩ = some v3 ∧ wp.cell? ⟨k, 4, none⟩ = some v4 ∧ wp.cell? ⟨k, 5, none⟩ = some v5 ∧ wp.cell? ⟨k, 6, none⟩ = some v6) (hb : Below wp.heap.size wp w1) :
    Below w0.heap.size w0 w1 ∧ k < w1.heap.size ∧ w1.cell? ⟨k, 0, none⟩ = some v0 ∧ w1.cell? ⟨k, 1, none⟩ = some v1 ∧ w1.cell? ⟨k, 2, none⟩ = some v2 ∧ w1.cell? ⟨k, 3, none⟩ = some v3 ∧ w1.cell? ⟨k, 4, none⟩ = some v4 ∧ w1.cell? ⟨k, 5, none⟩ = some v5 ∧ w1.cell? ⟨k, 6, none⟩ = some v6 := by
  obtain ⟨h1, h2, q0, q1, q2, q3, q4, q5, q6⟩ := h
  have hc : ∀ o, w1.cell? ⟨k, o, none⟩ = wp.cell? ⟨k, o, none⟩ := fun o => hb.cell (p := ⟨k, o, none⟩) h2
  exact ⟨h1.trans (hb.mono h1.size), Nat.lt_of_lt_of_le h2 hb.size, by rw [hc]; exact q0, by rw [hc]; exact q1, by rw [hc]; exact q2, by rw [hc]; exact q3, by rw [hc]; exact q4, by rw [hc]; exact q5, by rw [hc]; exact q6⟩
theorem start7 (w : World) (v0 v1 v2 v3 v4 v5 v6 : Value) (T : TypeId) :
    Below w.heap.size w (w.alloc (.cells #[v0, v1, v2, v3, v4, v5, v6] T)) ∧ w.heap.size < (w.alloc (.cells #[v0, v1, v2, v3, v4, v5, v6] T)).heap.size ∧ (w.alloc (.cells #[v0, v1, v2, v3, v4, v5, v6] T)).cell? ⟨w.heap.size, 0, none⟩ = some v0 ∧ (w.alloc (.cells #[v0, v1, v2, v3, v4, v5, v6] T)).cell? ⟨w.heap.size, 1, none⟩ = some v1 ∧ (w.alloc (.cells #[v0, v1, v2, v3, v4, v5, v6] T)).cell? ⟨w.heap.size, 2, none⟩ = some v2 ∧ (w.alloc (.cells #[v0, v1, v2, v3, v4, v5, v6] T)).cell? ⟨w.heap.size, 3, none⟩ = some v3 ∧ (w.alloc (.cells #[v0, v1, v2, v3, v4, v5, v6] T)).cell? ⟨w.heap.size, 4, none⟩ = some v4 ∧ (w.alloc (.cells #[v0, v1, v2, v3, v4, v5, v6] T)).cell? ⟨w.heap.size, 5, none⟩ = some v5 ∧ (w.alloc (.cells #[v0, v1, v2, v3, v4, v5, v6] T)).cell? ⟨w.heap.size, 6, none⟩ = some v6 := by
  refine ⟨(Below.refl _ _).alloc (Nat.le_refl _) _, by simp, by simp, by simp, by simp, by simp, by simp, by simp, by simp⟩
end Go.Proofs.YtnkoknfihhdelaaGreatDoor.Cp
namespace Go.Proofs.YtnkoknfihhdelaaGreatDoor.Cp
open Go.ChangeShapes Go.WideShapes Go.ChangeAt Go.RowKit
set_option linter.unusedVariables false
theorem cellAlloc {X : World} {k o : Nat} {ob : Obj} (h : k < X.heap.size) : (X.alloc ob).cell? ⟨k, o, none⟩ = X.cell? ⟨k, o, none⟩ :=
  ((Below.refl X.heap.size X).alloc (Nat.le_refl _) ob).cell (p := ⟨k, o, none⟩) h
theorem set7a {w w1 : World} {k : Nat} (h : Below w.heap.size w w1) (hk : w.heap.size ≤ k) (v0 v1 v2 v3 v4 v5 v6 : Value) (o : Obj) :
    Below w.heap.size w ((((((((w1.setCell ⟨k, 0, none⟩ v0).setCell ⟨k, 1, none⟩ v1).setCell ⟨k, 2, none⟩ v2).setCell ⟨k, 3, none⟩ v3).setCell ⟨k, 4, none⟩ v4).setCell ⟨k, 5, none⟩ v5).setCell ⟨k, 6, none⟩ v6).alloc o) :=
  (set7 h hk v0 v1 v2 v3 v4 v5 v6).alloc (set7 h hk v0 v1 v2 v3 v4 v5 v6).size o
def rootV (bs' tp pm : Nat) : Value := if (ex bs' tp).2.2.2 = 0 then .tuple #[cp true bs' pm 0 (ex bs' tp).1 (ex bs' tp).2.1 (ex bs' tp).2.2.1, .int .i64 0] else .tuple #[cp false 0 0 0 0 0 0, .int .i64 ((ex bs' tp).2.2.2 : Int)]
theorem ex_err (b t : Nat) : ((ex b t).2.2.2 = 0 ∧ b ≤ t ∧ t ≤ 65536 ∧ (ex b t).1 ≤ 8 ∧ (ex b t).2.1 < 512 ∧ (ex b t).2.2.1 < 512) ∨ ((ex b t).1 = 0 ∧ (ex b t).2.1 = 0 ∧ (ex b t).2.2.1 = 0 ∧ ((ex b t).2.2.2 = 2 ∨ (ex b t).2.2.2 = 5)) := by
  have hL : ∀ k, (exL b t k).2.2.2 = 0 ∧ (exL b t k).1 ≤ 8 ∧ (exL b t k).2.1 < 512 ∧ (exL b t k).2.2.1 < 512 ∨ exL b t k = (0, 0, 0, 5) := by
    intro k
    induction k with
    | zero => exact Or.inr rfl
    | succ k ih =>
      rw [exL]
      split
      · exact Or.inl ⟨rfl, by show 8 - k ≤ 8; omega, by show b / _ % 512 < 512; omega, by show t / _ % 512 < 512; omega⟩
      · exact ih
  unfold ex
  split
  · exact Or.inr ⟨rfl, rfl, rfl, Or.inl rfl⟩
  · rcases hL 9 with ⟨h1, h2, h3, h4⟩ | h
    · exact Or.inl ⟨h1, by omega, by omega, h2, h3, h4⟩
    · rw [h]; exact Or.inr ⟨rfl, rfl, rfl, Or.inr rfl⟩
end Go.Proofs.YtnkoknfihhdelaaGreatDoor.Cp
namespace Go.Proofs.YtnkoknfihhdelaaGreatDoor.Cp
open Go.ChangeShapes Go.WideShapes Go.ChangeAt Go.RowKit
set_option linter.unusedVariables false
def Blk (w : World) (g : Nat) (t : TypeId) (cs : Array Value) : Prop := w.heap[g]? = some (.cells cs t (0, 0))
section
variable {w w' : World} {g : Nat} {t : TypeId} {cs : Array Value}
theorem Blk.lt (h : Blk w g t cs) : g < w.heap.size := by
  rcases Nat.lt_or_ge g w.heap.size with hlt | hge
  · exact hlt
  · unfold Blk at h; rw [Array.getElem?_eq_none hge] at h; cases h
theorem Blk.cell (h : Blk w g t cs) (i : Nat) : w.cell? ⟨g, i, none⟩ = cs[i]? := cell_of_row w g i cs t (0, 0) h
theorem Blk.frozen (h : Blk w g t cs) (i : Nat) : w.frozen? ⟨g, i, none⟩ = false := by
  unfold Blk at h
  simp [World.frozen?, h]
theorem Blk.new (w : World) (t : TypeId) (cs : Array Value) : Blk (w.alloc (.cells cs t)) w.heap.size t cs := heap_alloc_new w _
theorem Blk.drew (h : Blk w g t cs) : Blk w.drew g t cs := h
theorem Blk.alloc (h : Blk w g t cs) (o : Obj) : Blk (w.alloc o) g t cs := (Below.heap_alloc w o g h.lt).trans h
theorem Blk.set_ (h : Blk w g t cs) (i : Nat) (u : Value) : Blk (w.setCell ⟨g, i, none⟩ u) g t (cs.setIfInBounds i u) := by
  unfold Blk at h ⊢
  simp [World.setCell, Array.getElem?_modify, h]
theorem Blk.far (h : Blk w g t cs) {p : Addr} (hp : g ≠ p.block) (u : Value) : Blk (w.setCell p u) g t cs := (Below.heap_setCell w p u g hp).trans h
theorem Blk.below {B : Nat} (h : Blk w g t cs) (hb : Below B w w') (hg : g < B) : Blk w' g t cs := (hb.block g hg).trans h
theorem Blk.cells7 {v0 v1 v2 v3 v4 v5 v6 : Value} (h : Blk w g t #[v0, v1, v2, v3, v4, v5, v6]) : w.cell? ⟨g, 0, none⟩ = some v0 ∧ w.cell? ⟨g, 1, none⟩ = some v1 ∧ w.cell? ⟨g, 2, none⟩ = some v2 ∧ w.cell? ⟨g, 3, none⟩ = some v3 ∧ w.cell? ⟨g, 4, none⟩ = some v4 ∧ w.cell? ⟨g, 5, none⟩ = some v5 ∧ w.cell? ⟨g, 6, none⟩ = some v6 :=
  ⟨h.cell 0, h.cell 1, h.cell 2, h.cell 3, h.cell 4, h.cell 5, h.cell 6⟩
theorem Blk.frozen7 (h : Blk w g t cs) : w.frozen? ⟨g, 0, none⟩ = false ∧ w.frozen? ⟨g, 1, none⟩ = false ∧ w.frozen? ⟨g, 2, none⟩ = false ∧ w.frozen? ⟨g, 3, none⟩ = false ∧ w.frozen? ⟨g, 4, none⟩ = false ∧ w.frozen? ⟨g, 5, none⟩ = false ∧ w.frozen? ⟨g, 6, none⟩ = false :=
  ⟨h.frozen 0, h.frozen 1, h.frozen 2, h.frozen 3, h.frozen 4, h.frozen 5, h.frozen 6⟩
theorem Blk.set7 {v0 v1 v2 v3 v4 v5 v6 : Value} (h : Blk w g t #[v0, v1, v2, v3, v4, v5, v6]) (u0 u1 u2 u3 u4 u5 u6 : Value) :
    Blk (((((((w.setCell ⟨g, 0, none⟩ u0).setCell ⟨g, 1, none⟩ u1).setCell ⟨g, 2, none⟩ u2).setCell ⟨g, 3, none⟩ u3).setCell ⟨g, 4, none⟩ u4).setCell ⟨g, 5, none⟩ u5).setCell ⟨g, 6, none⟩ u6) g t #[u0, u1, u2, u3, u4, u5, u6] := by
  have := ((((((h.set_ 0 u0).set_ 1 u1).set_ 2 u2).set_ 3 u3).set_ 4 u4).set_ 5 u5).set_ 6 u6
  simpa using this
theorem Blk.far7 {g' : Nat} (h : Blk w g t cs) (hp : g ≠ g') (u0 u1 u2 u3 u4 u5 u6 : Value) :
    Blk (((((((w.setCell ⟨g', 0, none⟩ u0).setCell ⟨g', 1, none⟩ u1).setCell ⟨g', 2, none⟩ u2).setCell ⟨g', 3, none⟩ u3).setCell ⟨g', 4, none⟩ u4).setCell ⟨g', 5, none⟩ u5).setCell ⟨g', 6, none⟩ u6) g t cs :=
  ((((((h.far hp u0).far hp u1).far hp u2).far hp u3).far hp u4).far hp u5).far hp u6
theorem below7 {w0 : World} {g' : Nat} (h : Below w0.heap.size w0 w) (hp : w0.heap.size ≤ g') (u0 u1 u2 u3 u4 u5 u6 : Value) :
    Below w0.heap.size w0 (((((((w.setCell ⟨g', 0, none⟩ u0).setCell ⟨g', 1, none⟩ u1).setCell ⟨g', 2, none⟩ u2).setCell ⟨g', 3, none⟩ u3).setCell ⟨g', 4, none⟩ u4).setCell ⟨g', 5, none⟩ u5).setCell ⟨g', 6, none⟩ u6) :=
  ((((((h.setCell hp u0).setCell hp u1).setCell hp u2).setCell hp u3).setCell hp u4).setCell hp u5).setCell hp u6
end
theorem u32w (z : Int) : ∃ n : Nat, IntKind.u32.wrap z = (n : Int) ∧ n < 4294967296 := ⟨(z % 4294967296).toNat, by show z % 4294967296 = _; omega, by omega⟩
end Go.Proofs.YtnkoknfihhdelaaGreatDoor.Cp
namespace Go.Proofs.YtnkoknfihhdelaaGreatDoor.Cp
open Go.ChangeShapes Go.WideShapes Go.ChangeAt Go.RowKit
set_option linter.unusedVariables false
set_option maxRecDepth 100000
theorem or32 (m x k : Nat) (hm : m < 2 ^ k) (h : m + x * 2 ^ k < 4294967296) (P : Int) (hP : P = ((2 ^ k : Nat) : Int)) : bits .or .u32 (m : Int) ((x : Int) * P) = ((m + x * 2 ^ k : Nat) : Int) := by
  subst hP
  have h2 : (x : Int) * ((2 ^ k : Nat) : Int) = ((x * 2 ^ k : Nat) : Int) := (Int.natCast_mul ..).symm
  rw [h2, u32_or_nat m (x * 2 ^ k) (by omega) (by omega)]
  congr 1
  have := Nat.two_pow_add_eq_or_of_lt hm x
  rw [Nat.or_comm, Nat.mul_comm x, ← this, Nat.add_comm]
def mt (p y e b t : Nat) : Nat := p % 128 + y % 8 * 128 + e % 16 * 1024 + b % 512 * 16384 + t % 512 * 8388608
theorem mt_lt (p y e b t : Nat) : mt p y e b t < 4294967296 := by unfold mt; omega
theorem cb44 (g : Bool) (a p y e b t : Nat) (hp : p < 256) (hy : y < 256) (he : e < 256) (hb : b < 65536) (ht : t < 65536) (w : World) :
    Calls Tryz.prog 84 #[cp g a p y e b t] w fun en w' => en = .returned (.int .u32 (mt p y e b t : Int)) ∧ Below w.heap.size w w' := by
  obtain ⟨P, hP⟩ : ∃ n, n = p % 128 := ⟨_, rfl⟩
  obtain ⟨Y, hY⟩ : ∃ n, n = y % 8 := ⟨_, rfl⟩
  obtain ⟨E, hE⟩ : ∃ n, n = e % 16 := ⟨_, rfl⟩
  obtain ⟨B, hB⟩ : ∃ n, n = b % 512 := ⟨_, rfl⟩
  obtain ⟨T, hT⟩ : ∃ n, n = t % 512 := ⟨_, rfl⟩
  have a1 : bits .and .u8 (p : Int) 127 = (P : Int) := by
    rw [hP]; have := u8_and_nat p 127 hp (by omega); rw [show p &&& 127 = p % 128 from Nat.and_two_pow_sub_one_eq_mod p 7] at this; exact this
  have a2 : bits .and .u8 (y : Int) 7 = (Y : Int) := by
    rw [hY]; have := u8_and_nat y 7 hy (by omega); rw [show y &&& 7 = y % 8 from Nat.and_two_pow_sub_one_eq_mod y 3] at this; exact this
  have a3 : bits .and .u8 (e : Int) 15 = (E : Int) := by
    rw [hE]; have := u8_and_nat e 15 he (by omega); rw [show e &&& 15 = e % 16 from Nat.and_two_pow_sub_one_eq_mod e 4] at this; exact this
  have a4 : bits .and .u16 (b : Int) 511 = (B : Int) := by
    rw [hB]; have := u16_and_nat b 511 hb (by omega); rw [show b &&& 511 = b % 512 from Nat.and_two_pow_sub_one_eq_mod b 9] at this; exact this
  have a5 : bits .and .u16 (t : Int) 511 = (T : Int) := by
    rw [hT]; have := u16_and_nat t 511 ht (by omega); rw [show t &&& 511 = t % 512 from Nat.and_two_pow_sub_one_eq_mod t 9] at this; exact this
  have l1 : P < 128 ∧ Y < 8 ∧ E < 16 ∧ B < 512 ∧ T < 512 := by omega
  obtain ⟨l1, l2, l3, l4, l5⟩ := l1
  obtain ⟨m1, h1⟩ : ∃ n, n = P + Y * 2 ^ 7 := ⟨_, rfl⟩
  obtain ⟨m2, h2⟩ : ∃ n, n = m1 + E * 2 ^ 10 := ⟨_, rfl⟩
  obtain ⟨m3, h3⟩ : ∃ n, n = m2 + B * 2 ^ 14 := ⟨_, rfl⟩
  obtain ⟨m4, h4⟩ : ∃ n, n = m3 + T * 2 ^ 23 := ⟨_, rfl⟩
  have o1 : bits .or .u32 (P : Int) ((Y : Int) * 128) = (m1 : Int) := by rw [h1]; exact or32 P Y 7 (by omega) (by omega) 128 rfl
  have o2 : bits .or .u32 (m1 : Int) ((E : Int) * 1024) = (m2 : Int) := by rw [h2]; exact or32 m1 E 10 (by omega) (by omega) 1024 rfl
  have o3 : bits .or .u32 (m2 : Int) ((B : Int) * 16384) = (m3 : Int) := by rw [h3]; exact or32 m2 B 14 (by omega) (by omega) 16384 rfl
  have o4 : bits .or .u32 (m3 : Int) ((T : Int) * 8388608) = (m4 : Int) := by rw [h4]; exact or32 m3 T 23 (by omega) (by omega) 8388608 rfl
  have hm : mt p y e b t = m4 := by unfold mt; omega
  rw [hm]
  clear hP hY hE hB hT h1 h2 h3 h4 hm
  go_enter Tryz.func84, Tryz.ntmps84
  go_wp2
  go_ret
  exact ⟨rfl, (Below.refl _ _).alloc (Nat.le_refl _) _⟩
abbrev arr (x0 x1 x2 x3 x4 x5 x6 x7 : Nat) : Value := .agg #[.int .u8 (x0 : Int), .int .u8 (x1 : Int), .int .u8 (x2 : Int), .int .u8 (x3 : Int), .int .u8 (x4 : Int), .int .u8 (x5 : Int), .int .u8 (x6 : Int), .int .u8 (x7 : Int)]
theorem k43 (n : Nat) (hn : n < 4294967296) (w : World) : Calls Tryz.prog 83 #[.int .u64 (n : Int), .int .i64 4] w (En.PutOut w n 4) := En.c9 n 4 (by omega) (by omega) (by simpa using hn) w
theorem size5 : (Tryz.prog.info? 5).map (·.size) = some 1 := by kernel_rfl
theorem cp4 {w : World} {ops : Array Oper} {rest : List Oper} {o : Oper} {a : Act} {Q : Exit → Act → World → Prop} (hgd : o.guard = none) (d s : Operand)
    (ho : o.op = .call { callee := .builtin .copy, args := #[d, s], argTypes := #[93, 93] }) (g off dCap : Nat) (ad : Addr) (sCap : Nat) (hd : a.eval d = .slice (some ⟨g, off, none⟩) 4 dCap) (hs : a.eval s = .slice (some ad) 4 sCap)
    (cur : Array Value) (hg : Blk w g 109 cur) (x0 x1 x2 x3 : Value) (hsrc : w.cell? (ad.add 0) = some x0 ∧ w.cell? (ad.add 1) = some x1 ∧ w.cell? (ad.add 2) = some x2 ∧ w.cell? (ad.add 3) = some x3) (hfit : off + 4 ≤ cur.size)
    (h1 : x0.oneCell' = true ∧ x1.oneCell' = true ∧ x2.oneCell' = true ∧ x3.oneCell' = true) (res : Array Value) (hres : (cur.toList.take off ++ ([x0, x1, x2, x3] ++ cur.toList.drop (off + 4))).toArray = res)
    (h : ∀ w', Blk w' g 109 res → w.grownBy w' (some g) → wpList Tryz.prog ops Q rest (a.put o.dst (goInt 4)) w') : wpList Tryz.prog ops Q (o :: rest) a w := by
  obtain ⟨q0, q1, q2, q3⟩ := hsrc
  obtain ⟨r0, r1, r2, r3⟩ := h1
  refine wpList_copy_own hgd d s 93 93 ho 5 Tryz.underlying93 size5 g off 4 dCap ad 4 sCap hd hs cur 109 hg [x0, x1, x2, x3] rfl ?_ (by simpa using hfit) ?_ ?_
  · intro j v hj
    rcases j with _ | _ | _ | _ | j
    · simp at hj; rw [← hj]; exact q0
    · simp at hj; rw [← hj]; exact q1
    · simp at hj; rw [← hj]; exact q2
    · simp at hj; rw [← hj]; exact q3
    · simp at hj
  · intro v hv
    simp only [List.mem_cons, List.not_mem_nil, or_false] at hv
    rcases hv with rfl | rfl | rfl | rfl <;> assumption
  · refine h _ ?_ ⟨rfl, rfl, rfl, by simp [World.setRow], fun k _ hne => setRow_other w g k _ (fun e => hne (by rw [e]))⟩
    rw [← hres]
    exact setRow_heap w g _ _ 109 _ hg
def Z8 : Array Value := #[.int .u8 0, .int .u8 0, .int .u8 0, .int .u8 0, .int .u8 0, .int .u8 0, .int .u8 0, .int .u8 0]
def B3 (w w' : World) (C X Y : Array Value) : Prop := Below w.heap.size w w' ∧ Blk w' w.heap.size 29 C ∧ Blk w' (w.heap.size + 1) 109 X ∧ Blk w' (w.heap.size + 2) 109 Y
theorem B3.start (w : World) (C X Y : Array Value) : B3 w (((w.alloc (.cells C 29)).alloc (.cells X 109)).alloc (.cells Y 109)) C X Y := by
  refine ⟨(((Below.refl _ _).alloc (Nat.le_refl _) _).alloc (by simp) _).alloc (by simp; omega) _, ((Blk.new _ _ _).alloc _).alloc _, ?_, ?_⟩
  · have := (Blk.new (w.alloc (.cells C 29)) 109 X).alloc (.cells Y 109)
    simpa using this
  · have := Blk.new ((w.alloc (.cells C 29)).alloc (.cells X 109)) 109 Y
    simpa using this
theorem B3.below {w wa wb : World} {C X Y : Array Value} (h : B3 w wa C X Y) (hb : Below wa.heap.size wa wb) : B3 w wb C X Y :=
  ⟨h.1.trans (hb.mono h.1.size), h.2.1.below hb h.2.1.lt, h.2.2.1.below hb h.2.2.1.lt, h.2.2.2.below hb h.2.2.2.lt⟩
theorem B3.set {w wa wb : World} {C X Y Y' : Array Value} (h : B3 w wa C X Y) (hn : Blk wb (w.heap.size + 2) 109 Y') (hg : wa.grownBy wb (some (w.heap.size + 2))) : B3 w wb C X Y' :=
  ⟨h.1.grown hg h.1.size (fun k hk => by injection hk with hk; omega), (hg.block _ h.2.1.lt (by simp)).trans h.2.1, (hg.block _ h.2.2.1.lt (by simp)).trans h.2.2.1, hn⟩
theorem Blk.cells8 {w : World} {g : Nat} {t : TypeId} {v0 v1 v2 v3 v4 v5 v6 v7 : Value} (h : Blk w g t #[v0, v1, v2, v3, v4, v5, v6, v7]) : w.cell? ⟨g, 0, none⟩ = some v0 ∧ w.cell? ⟨g, 1, none⟩ = some v1 ∧ w.cell? ⟨g, 2, none⟩ = some v2 ∧ w.cell? ⟨g, 3, none⟩ = some v3 ∧ w.cell? ⟨g, 4, none⟩ = some v4 ∧ w.cell? ⟨g, 5, none⟩ = some v5 ∧ w.cell? ⟨g, 6, none⟩ = some v6 ∧ w.cell? ⟨g, 7, none⟩ = some v7 :=
  ⟨h.cell 0, h.cell 1, h.cell 2, h.cell 3, h.cell 4, h.cell 5, h.cell 6, h.cell 7⟩
theorem Blk.frozen8 {w : World} {g : Nat} {t : TypeId} {cs : Array Value} (h : Blk w g t cs) : w.frozen? ⟨g, 0, none⟩ = false ∧ w.frozen? ⟨g, 1, none⟩ = false ∧ w.frozen? ⟨g, 2, none⟩ = false ∧ w.frozen? ⟨g, 3, none⟩ = false ∧ w.frozen? ⟨g, 4, none⟩ = false ∧ w.frozen? ⟨g, 5, none⟩ = false ∧ w.frozen? ⟨g, 6, none⟩ = false ∧ w.frozen? ⟨g, 7, none⟩ = false :=
  ⟨h.frozen 0, h.frozen 1, h.frozen 2, h.frozen 3, h.frozen 4, h.frozen 5, h.frozen 6, h.frozen 7⟩
theorem below8 {w0 w : World} {g' : Nat} (h : Below w0.heap.size w0 w) (hp : w0.heap.size ≤ g') (u0 u1 u2 u3 u4 u5 u6 u7 : Value) : Below w0.heap.size w0 ((((((((w.setCell ⟨g', 0, none⟩ u0).setCell ⟨g', 1, none⟩ u1).setCell ⟨g', 2, none⟩ u2).setCell ⟨g', 3, none⟩ u3).setCell ⟨g', 4, none⟩ u4).setCell ⟨g', 5, none⟩ u5).setCell ⟨g', 6, none⟩ u6).setCell ⟨g', 7, none⟩ u7) :=
  ((((((((h.setCell hp u0).setCell hp u1).setCell hp u2).setCell hp u3).setCell hp u4).setCell hp u5).setCell hp u6).setCell hp u7)
/-- Four bytes of a new slice. -/
def F4 (w' : World) (A : Option Addr) (B n : Nat) : Prop := ∃ b, A = some ⟨b, 0, none⟩ ∧ B ≤ b ∧ b < w'.heap.size ∧ w'.cell? ⟨b, 0, none⟩ = some (.int .u8 (En.bt n 0 : Int)) ∧ w'.cell? ⟨b, 1, none⟩ = some (.int .u8 (En.bt n 1 : Int)) ∧ w'.cell? ⟨b, 2, none⟩ = some (.int .u8 (En.bt n 2 : Int)) ∧ w'.cell? ⟨b, 3, none⟩ = some (.int .u8 (En.bt n 3 : Int))
theorem F4.of {w w' : World} {A : Option Addr} {n : Nat} (h : 0 < 4 → ∃ b, A = some ⟨b, 0, none⟩ ∧ w.heap.size ≤ b ∧ b < w'.heap.size ∧ ∀ j, j < 4 → w'.cell? ⟨b, j, none⟩ = some (.int .u8 (En.bt n j : Int))) : F4 w' A w.heap.size n := by
  obtain ⟨b, e, h1, h2, h3⟩ := h (by omega)
  exact ⟨b, e, h1, h2, h3 0 (by omega), h3 1 (by omega), h3 2 (by omega), h3 3 (by omega)⟩
theorem F4.keep {wa wb : World} {A : Option Addr} {B n : Nat} (h : F4 wa A B n) (hb : Below wa.heap.size wa wb) : F4 wb A B n := by
  obtain ⟨b, e, h1, h2, c0, c1, c2, c3⟩ := h
  exact ⟨b, e, h1, Nat.lt_of_lt_of_le h2 hb.size, (hb.cell h2).trans c0, (hb.cell h2).trans c1, (hb.cell h2).trans c2, (hb.cell h2).trans c3⟩
theorem F4.far {wa wb : World} {A : Option Addr} {B n k : Nat} (h : F4 wa A B n) (hg : wa.grownBy wb (some k)) (hk : k < B) : F4 wb A B n := by
  obtain ⟨b, e, h1, h2, c0, c1, c2, c3⟩ := h
  have hc : ∀ j, wb.cell? ⟨b, j, none⟩ = wa.cell? ⟨b, j, none⟩ := fun j => hg.cell_far ⟨b, j, none⟩ h2 (by simp; omega)
  exact ⟨b, e, h1, Nat.lt_of_lt_of_le h2 hg.size, by rw [hc]; exact c0, by rw [hc]; exact c1, by rw [hc]; exact c2, by rw [hc]; exact c3⟩
theorem F4.four {w : World} {x B n : Nat} (h : F4 w (some ⟨x, 0, none⟩) B n) : w.cell? ⟨x, 0, none⟩ = some (.int .u8 (En.bt n 0 : Int)) ∧ w.cell? ⟨x, 1, none⟩ = some (.int .u8 (En.bt n 1 : Int)) ∧ w.cell? ⟨x, 2, none⟩ = some (.int .u8 (En.bt n 2 : Int)) ∧ w.cell? ⟨x, 3, none⟩ = some (.int .u8 (En.bt n 3 : Int)) := by
  obtain ⟨b, e, _, _, c⟩ := h
  injection e with e
  injection e with e
  subst e
  exact c
set_option maxHeartbeats 4000000 in
theorem cb11 (g : Bool) (a p y e b t : Nat) (ha : a < 4294967296) (hp : p < 256) (hy : y < 256) (he : e < 256) (hb : b < 65536) (ht : t < 65536) (w : World) :
    Calls Tryz.prog 54 #[cp g a p y e b t] w fun en w' => en = .returned (arr (En.bt a 0) (En.bt a 1) (En.bt a 2) (En.bt a 3) (En.bt (mt p y e b t) 0) (En.bt (mt p y e b t) 1) (En.bt (mt p y e b t) 2) (En.bt (mt p y e b t) 3)) ∧ Below w.heap.size w w' := by
  have K44 := cb44 g a p y e b t hp hy he hb ht
  have hM := mt_lt p y e b t
  generalize mt p y e b t = M at *
  have hst := B3.start w #[.bool g, .int .u32 (a : Int), .int .u8 (p : Int), .int .u8 (y : Int), .int .u8 (e : Int), .int .u16 (b : Int), .int .u16 (t : Int)] Z8 Z8
  unfold Z8 at hst
  have HS := Lib.hid hst
  have HK := Lib.hid K44
  clear hst K44
  go_enter Tryz.func54, Tryz.ntmps54
  go_wp2_with fail
  refine (k43 a ha _).mono ?_
  rintro _ w1 ⟨v1, rfl, hb1, A1, d1, rfl, hR1⟩
  have S1 := Lib.hid (HS.out.below hb1)
  have Q1 := Lib.hid (F4.of hR1)
  have hsz := hb1.size
  simp at hsz
  clear hb1 hR1 HS
  obtain ⟨_, hC, _, _⟩ := S1.out
  obtain ⟨cc0, cc1, cc2, cc3, cc4, cc5, cc6⟩ := hC.cells7
  clear hC
  go_wp2_with fail
  refine (HK.out _).mono ?_
  rintro _ w2 ⟨rfl, hb2⟩
  have S2 := Lib.hid (S1.out.below hb2)
  have Q2 := Lib.hid (Q1.out.keep hb2)
  have hsz2 : w.heap.size + 3 ≤ w2.heap.size := Nat.le_trans (by omega) hb2.size
  clear hb2 S1 Q1 cc0 cc1 cc2 cc3 cc4 cc5 cc6 HK
  go_wp2_with fail
  refine (k43 M hM _).mono ?_
  rintro _ w3 ⟨v3, rfl, hb3, A3, d3, rfl, hR3⟩
  have S3 := Lib.hid (S2.out.below hb3)
  have Q3 := Lib.hid (Q2.out.keep hb3)
  have P3 := Lib.hid (F4.of hR3)
  clear hb3 S2 Q2 hR3
  obtain ⟨x1, rfl, g1, g2, q10, q11, q12, q13⟩ := Q3.out
  obtain ⟨x3, rfl, g3, g4, q30, q31, q32, q33⟩ := P3.out
  have T1 := Lib.hid (And.intro q10 (And.intro q11 (And.intro q12 q13)))
  clear q10 q11 q12 q13 q30 q31 q32 q33 Q3
  go_wp2_with (first
    | (refine cp4 rfl (.tmp 22) (.tmp 23) rfl (w.heap.size + 2) 0 8 ⟨x1, 0, none⟩ d1 rfl rfl _ S3.out.2.2.2 _ _ _ _ T1.out (by simp) ⟨rfl, rfl, rfl, rfl⟩ #[.int .u8 (En.bt a 0 : Int), .int .u8 (En.bt a 1 : Int), .int .u8 (En.bt a 2 : Int), .int .u8 (En.bt a 3 : Int), .int .u8 0, .int .u8 0, .int .u8 0, .int .u8 0] rfl ?_
       intro w4 hn4 hg4
       have S4 := Lib.hid (S3.out.set hn4 hg4)
       have P4 := Lib.hid (P3.out.far hg4 (by omega)).four
       clear hn4 hg4)
    | (refine cp4 rfl (.tmp 25) (.tmp 26) rfl (w.heap.size + 2) 4 4 ⟨x3, 0, none⟩ d3 rfl rfl _ S4.out.2.2.2 _ _ _ _ P4.out (by simp) ⟨rfl, rfl, rfl, rfl⟩ #[.int .u8 (En.bt a 0 : Int), .int .u8 (En.bt a 1 : Int), .int .u8 (En.bt a 2 : Int), .int .u8 (En.bt a 3 : Int), .int .u8 (En.bt M 0 : Int), .int .u8 (En.bt M 1 : Int), .int .u8 (En.bt M 2 : Int), .int .u8 (En.bt M 3 : Int)] rfl ?_
       intro w5 hn5 hg5
       have S5 := Lib.hid (S4.out.set hn5 hg5)
       clear hn5 hg5
       obtain ⟨hb5, hC5, hX5, hY5⟩ := S5.out
       obtain ⟨y0, y1, y2, y3, y4, y5, y6, y7⟩ := hY5.cells8
       obtain ⟨z0, z1, z2, z3, z4, z5, z6, z7⟩ := hX5.cells8
       obtain ⟨f0, f1, f2, f3, f4, f5, f6, f7⟩ := hX5.frozen8
       clear hC5 hX5 hY5)
    | fail)
  exact bodyPost_ret (v := arr (En.bt a 0) (En.bt a 1) (En.bt a 2) (En.bt a 3) (En.bt M 0) (En.bt M 1) (En.bt M 2) (En.bt M 3)) (by simp [results, Tryz.results54, go_sem, z0, z1, z2, z3, z4, z5, z6, z7]) rfl ⟨rfl, below8 S5.out.1 (by omega) _ _ _ _ _ _ _ _⟩
end Go.Proofs.YtnkoknfihhdelaaGreatDoor.Cp
namespace Go.Proofs.YtnkoknfihhdelaaGreatDoor.Cp
open Go.ChangeShapes Go.WideShapes Go.ChangeAt Go.RowKit
set_option linter.unusedVariables false
set_option maxRecDepth 100000
def yc (n i k : Nat) : Value := if i < k then .int .u8 (En.bt n i : Int) else .int .u8 0
def Yk (a M k : Nat) : Array Value := #[yc a 0 k, yc a 1 k, yc a 2 k, yc a 3 k, yc M 0 k, yc M 1 k, yc M 2 k, yc M 3 k]
def RB (w : World) (C X : Array Value) (a M : Nat) (i q r : Value) (wr : World) : Prop := ∃ k : Nat, k ≤ 4 ∧ i = .int .i64 (k : Int) ∧ q = .int .u64 ((a / 256 ^ k : Nat) : Int) ∧ r = .int .u64 ((M / 256 ^ k : Nat) : Int) ∧ B3 w wr C X (Yk a M k)
theorem B3.set2 {w wa : World} {C X Y : Array Value} (h : B3 w wa C X Y) (i j : Nat) (u v : Value) : B3 w ((wa.setCell ⟨w.heap.size + 2, i, none⟩ u).setCell ⟨w.heap.size + 2, j, none⟩ v) C X ((Y.setIfInBounds i u).setIfInBounds j v) :=
  ⟨(h.1.setCell (by simp) u).setCell (by simp) v, (h.2.1.far (by simp) u).far (by simp) v, (h.2.2.1.far (by simp) u).far (by simp) v, (h.2.2.2.set_ i u).set_ j v⟩
theorem RB.step {w wr : World} {C X : Array Value} {a M k q r : Nat} (hk : k < 4) (h : B3 w wr C X (Yk a M k)) (hq : q = a / 256 ^ k) (hr : r = M / 256 ^ k) (j : Nat) (hj : j = 4 + k) :
    RB w C X a M (.int .i64 ((k + 1 : Nat) : Int)) (.int .u64 ((q / 256 : Nat) : Int)) (.int .u64 ((r / 256 : Nat) : Int)) ((wr.setCell ⟨w.heap.size + 2, k, none⟩ (.int .u8 ((q % 256 : Nat) : Int))).setCell ⟨w.heap.size + 2, j, none⟩ (.int .u8 ((r % 256 : Nat) : Int))) := by
  subst hq hr hj
  refine ⟨k + 1, hk, rfl, by rw [Nat.pow_succ, Nat.div_div_eq_div_mul], by rw [Nat.pow_succ, Nat.div_div_eq_div_mul], ?_⟩
  have h2 := h.set2 k (4 + k) (.int .u8 ((a / 256 ^ k % 256 : Nat) : Int)) (.int .u8 ((M / 256 ^ k % 256 : Nat) : Int))
  have e : ((Yk a M k).setIfInBounds k (.int .u8 ((a / 256 ^ k % 256 : Nat) : Int))).setIfInBounds (4 + k) (.int .u8 ((M / 256 ^ k % 256 : Nat) : Int)) = Yk a M (k + 1) := by
    have hk4 : k = 0 ∨ k = 1 ∨ k = 2 ∨ k = 3 := by omega
    rcases hk4 with rfl | rfl | rfl | rfl <;> simp [Yk, yc, En.bt]
  rw [e] at h2
  exact h2
theorem Yk.at_ {w : World} {g a M k : Nat} (h : Blk w g 109 (Yk a M k)) (hk : k < 4) : w.cell? ⟨g, k, none⟩ = some (.int .u8 0) ∧ w.cell? ⟨g, 4 + k, none⟩ = some (.int .u8 0) ∧ w.frozen? ⟨g, k, none⟩ = false ∧ w.frozen? ⟨g, 4 + k, none⟩ = false := by
  have h1 := h.cell k
  have h2 := h.cell (4 + k)
  have hk4 : k = 0 ∨ k = 1 ∨ k = 2 ∨ k = 3 := by omega
  refine ⟨?_, ?_, h.frozen k, h.frozen (4 + k)⟩
  · rw [h1]; rcases hk4 with rfl | rfl | rfl | rfl <;> simp [Yk, yc]
  · rw [h2]; rcases hk4 with rfl | rfl | rfl | rfl <;> simp [Yk, yc]
set_option maxHeartbeats 4000000 in
theorem cb12 (g : Bool) (a p y e b t : Nat) (ha : a < 4294967296) (hp : p < 256) (hy : y < 256) (he : e < 256) (hb : b < 65536) (ht : t < 65536) (w : World) :
    Calls Tryz.prog 56 #[cp g a p y e b t] w fun en w' => en = .returned (arr (En.bt a 0) (En.bt a 1) (En.bt a 2) (En.bt a 3) (En.bt (mt p y e b t) 0) (En.bt (mt p y e b t) 1) (En.bt (mt p y e b t) 2) (En.bt (mt p y e b t) 3)) ∧ Below w.heap.size w w' := by
  obtain ⟨P, hP⟩ : ∃ n, n = p % 128 := ⟨_, rfl⟩
  obtain ⟨Y, hY⟩ : ∃ n, n = y % 8 := ⟨_, rfl⟩
  obtain ⟨E, hE⟩ : ∃ n, n = e % 16 := ⟨_, rfl⟩
  obtain ⟨B, hB⟩ : ∃ n, n = b % 512 := ⟨_, rfl⟩
  obtain ⟨T, hT⟩ : ∃ n, n = t % 512 := ⟨_, rfl⟩
  have l1 : P < 128 ∧ Y < 8 ∧ E < 16 ∧ B < 512 ∧ T < 512 := by omega
  obtain ⟨l1, l2, l3, l4, l5⟩ := l1
  have a1 : (p : Int) % 128 = (P : Int) := by omega
  have a1' : (p : Int).tmod 128 = (P : Int) := by rw [Int.tmod_eq_emod_of_nonneg (by omega)]; exact a1
  have a2 : (y : Int) % 8 = (Y : Int) := by omega
  have a2' : (y : Int).tmod 8 = (Y : Int) := by rw [Int.tmod_eq_emod_of_nonneg (by omega)]; exact a2
  have a3 : (e : Int) % 16 = (E : Int) := by omega
  have a3' : (e : Int).tmod 16 = (E : Int) := by rw [Int.tmod_eq_emod_of_nonneg (by omega)]; exact a3
  have a4 : (b : Int) % 512 = (B : Int) := by omega
  have a4' : (b : Int).tmod 512 = (B : Int) := by rw [Int.tmod_eq_emod_of_nonneg (by omega)]; exact a4
  have a5 : (t : Int) % 512 = (T : Int) := by omega
  have a5' : (t : Int).tmod 512 = (T : Int) := by rw [Int.tmod_eq_emod_of_nonneg (by omega)]; exact a5
  have hM : mt p y e b t = P + 128 * Y + 1024 * E + 16384 * B + 8388608 * T := by unfold mt; omega
  have hMl := mt_lt p y e b t
  rw [hM] at hMl ⊢
  clear hP hY hE hB hT hM
  obtain ⟨M, hM⟩ : ∃ M, M = P + 128 * Y + 1024 * E + 16384 * B + 8388608 * T := ⟨_, rfl⟩
  rw [← hM] at hMl ⊢
  have m5 : (P : Int) + 128 * (Y : Int) + 1024 * (E : Int) + 16384 * (B : Int) + 8388608 * (T : Int) = (M : Int) := by omega
  have hst := B3.start w #[.bool g, .int .u32 (a : Int), .int .u8 (p : Int), .int .u8 (y : Int), .int .u8 (e : Int), .int .u16 (b : Int), .int .u16 (t : Int)] Z8 Z8
  have hst2 : RB w #[.bool g, .int .u32 (a : Int), .int .u8 (p : Int), .int .u8 (y : Int), .int .u8 (e : Int), .int .u16 (b : Int), .int .u16 (t : Int)] Z8 a M (.int .i64 0) (.int .u64 (a : Int)) (.int .u64 (M : Int)) _ := ⟨0, by omega, rfl, by simp, by simp, hst⟩
  have HST := Lib.hid hst2
  clear hst hst2 hM
  unfold Z8 at HST
  go_enter Tryz.func56, Tryz.ntmps56
  go_wp2_with fail
  go_loopw [6, 4, 3] (RB w #[.bool g, .int .u32 (a : Int), .int .u8 (p : Int), .int .u8 (y : Int), .int .u8 (e : Int), .int .u16 (b : Int), .int .u16 (t : Int)] #[.int .u8 0, .int .u8 0, .int .u8 0, .int .u8 0, .int .u8 0, .int .u8 0, .int .u8 0, .int .u8 0] a M) (fun i _ _ _ => 4 - (intOf i).toNat)
  case atStart => exact HST.out
  case round =>
    obtain ⟨k, hk, rfl, rfl, rfl, hb3⟩ := hrel
    have HB := Lib.hid hb3
    clear hb3 HST
    by_cases hlt : k < 4
    · obtain ⟨u0, u1, u2, u3⟩ := Yk.at_ HB.out.2.2.2 hlt
      obtain ⟨q, hq⟩ : ∃ q, q = a / 256 ^ k := ⟨_, rfl⟩
      obtain ⟨r, hr⟩ : ∃ r, r = M / 256 ^ k := ⟨_, rfl⟩
      have hql : q < 18446744073709551616 := by rw [hq]; exact Nat.lt_of_le_of_lt (Nat.div_le_self _ _) (by omega)
      have hrl : r < 18446744073709551616 := by rw [hr]; exact Nat.lt_of_le_of_lt (Nat.div_le_self _ _) (by omega)
      rw [← hq, ← hr]
      have HQ := Lib.hid hq
      have HR := Lib.hid hr
      clear hq hr
      have h4 : k = 0 ∨ k = 1 ∨ k = 2 ∨ k = 3 := by omega
      rcases h4 with rfl | rfl | rfl | rfl
      all_goals
        simp only [Nat.add_zero, Nat.reduceAdd] at u0 u1 u2 u3
        go_wp2
        go_roundw
        case rel => exact RB.step (by omega) HB.out HQ.out HR.out _ rfl
        case measure => simp [intOf]
    · obtain rfl : k = 4 := by omega
      obtain ⟨hb5, hC5, hX5, hY5⟩ := HB.out
      obtain ⟨y0, y1, y2, y3, y4, y5, y6, y7⟩ := (show Blk wr (w.heap.size + 1 + 1) 109 #[.int .u8 (En.bt a 0 : Int), .int .u8 (En.bt a 1 : Int), .int .u8 (En.bt a 2 : Int), .int .u8 (En.bt a 3 : Int), .int .u8 (En.bt M 0 : Int), .int .u8 (En.bt M 1 : Int), .int .u8 (En.bt M 2 : Int), .int .u8 (En.bt M 3 : Int)] from hY5).cells8
      obtain ⟨z0, z1, z2, z3, z4, z5, z6, z7⟩ := hX5.cells8
      obtain ⟨f0, f1, f2, f3, f4, f5, f6, f7⟩ := hX5.frozen8
      clear hC5 hX5 hY5 hb5
      go_wp2
      exact bodyPost_ret (v := arr (En.bt a 0) (En.bt a 1) (En.bt a 2) (En.bt a 3) (En.bt M 0) (En.bt M 1) (En.bt M 2) (En.bt M 3)) (by simp [results, Tryz.results56, go_sem, z0, z1, z2, z3, z4, z5, z6, z7]) rfl ⟨rfl, below8 HB.out.1 (by omega) _ _ _ _ _ _ _ _⟩
end Go.Proofs.YtnkoknfihhdelaaGreatDoor.Cp
namespace Go.Proofs.YtnkoknfihhdelaaGreatDoor.Cp
open Go.ChangeShapes Go.WideShapes Go.ChangeAt Go.RowKit
set_option linter.unusedVariables false
set_option maxRecDepth 100000
theorem info5a : ∃ i, Tryz.prog.info? 5 = some i := by
  obtain ⟨i0, hi, _⟩ := info_parts En.info5
  exact ⟨i0, hi⟩
theorem cells5a : Tryz.prog.cellsOf 5 = 1 := by kernel_rfl
theorem eqArr (x0 x1 x2 x3 x4 x5 x6 x7 y0 y1 y2 y3 y4 y5 y6 y7 : Nat) (w : World) :
    (Op.equalIn 10000 109 (arr x0 x1 x2 x3 x4 x5 x6 x7) (arr y0 y1 y2 y3 y4 y5 y6 y7)).run Tryz.prog w = .ok (decide (x0 = y0 ∧ x1 = y1 ∧ x2 = y2 ∧ x3 = y3 ∧ x4 = y4 ∧ x5 = y5 ∧ x6 = y6 ∧ x7 = y7)) w := by
  obtain ⟨i, hi⟩ := info5a
  rw [run_equalIn_array w 9999 _ _ Tryz.underlying109 hi, cells5a]
  have hr : List.range 8 = [0, 1, 2, 3, 4, 5, 6, 7] := rfl
  rw [hr]
  simp only [Op.eqItems, Nat.mul_one]
  go_simp
  simp only [Int.natCast_inj]
  by_cases c0 : x0 = y0 <;> by_cases c1 : x1 = y1 <;> by_cases c2 : x2 = y2 <;> by_cases c3 : x3 = y3 <;> by_cases c4 : x4 = y4 <;> by_cases c5 : x5 = y5 <;> by_cases c6 : x6 = y6 <;> by_cases c7 : x7 = y7 <;> simp [c0, c1, c2, c3, c4, c5, c6, c7]
def num4 (a b c d : Nat) : Nat := a + 256 * (b + 256 * (c + 256 * d))
def up (a b c d : Nat) : Nat → Nat
  | 0 => 0
  | 1 => d
  | 2 => c + 256 * d
  | 3 => b + 256 * (c + 256 * d)
  | _ => num4 a b c d
def RO (x0 x1 x2 x3 x4 x5 x6 x7 : Nat) (w : World) (i v u : Value) (wr : World) : Prop := ∃ (m q r : Nat) (z : Int), m ≤ 4 ∧ z = 3 - (m : Int) ∧ i = .int .i64 z ∧ v = .int .u64 (q : Int) ∧ u = .int .u64 (r : Int) ∧ q = up x0 x1 x2 x3 m ∧ r = up x4 x5 x6 x7 m ∧ wr = w
theorem num4_lt {a b c d : Nat} (h0 : a < 256) (h1 : b < 256) (h2 : c < 256) (h3 : d < 256) : num4 a b c d < 4294967296 := by unfold num4; omega
def B2 (w w' : World) (X : Array Value) : Prop := Below w.heap.size w w' ∧ Blk w' w.heap.size 109 X ∧ Blk w' (w.heap.size + 1) 29 #[.bool false, .int .u32 0, .int .u8 0, .int .u8 0, .int .u8 0, .int .u16 0, .int .u16 0]
theorem B2.start (w : World) (X : Array Value) : B2 w ((w.alloc (.cells X 109)).alloc (.cells #[.bool false, .int .u32 0, .int .u8 0, .int .u8 0, .int .u8 0, .int .u16 0, .int .u16 0] 29)) X := by
  refine ⟨((Below.refl _ _).alloc (Nat.le_refl _) _).alloc (by simp) _, (Blk.new _ _ _).alloc _, ?_⟩
  have := Blk.new (w.alloc (.cells X 109)) 29 #[.bool false, .int .u32 0, .int .u8 0, .int .u8 0, .int .u8 0, .int .u16 0, .int .u16 0]
  simpa using this
set_option maxHeartbeats 8000000 in
theorem cb14w (x0 x1 x2 x3 x4 x5 x6 x7 NA NM P D1 Y D2 E D3 B D4 T : Nat) (hNA : NA = num4 x0 x1 x2 x3) (hNM : NM = num4 x4 x5 x6 x7) (tag : Bool) (h0 : x0 < 256) (h1 : x1 < 256) (h2 : x2 < 256) (h3 : x3 < 256) (h4 : x4 < 256) (h5 : x5 < 256) (h6 : x6 < 256) (h7 : x7 < 256) (w : World)
    (f1 : (NM : Int) % 128 = (P : Int)) (f2 : (NM : Int) / 128 = (D1 : Int)) (f3 : (D1 : Int) % 8 = (Y : Int)) (f4 : (NM : Int) / 1024 = (D2 : Int)) (f5 : (D2 : Int) % 16 = (E : Int)) (f6 : (NM : Int) / 16384 = (D3 : Int)) (f7 : (D3 : Int) % 512 = (B : Int)) (f8 : (NM : Int) / 8388608 = (D4 : Int)) (f9 : (D4 : Int) % 512 = (T : Int)) :
    Calls Tryz.prog 150 #[arr x0 x1 x2 x3 x4 x5 x6 x7, .bool tag] w fun en w' => en = .returned (cp tag NA P Y E B T) ∧ Below w.heap.size w w' := by
  have hst := B2.start w #[.int .u8 (x0 : Int), .int .u8 (x1 : Int), .int .u8 (x2 : Int), .int .u8 (x3 : Int), .int .u8 (x4 : Int), .int .u8 (x5 : Int), .int .u8 (x6 : Int), .int .u8 (x7 : Int)]
  have HS := Lib.hid hst
  clear hst
  have HNA := Lib.hid hNA
  have HNM := Lib.hid hNM
  clear hNA hNM
  go_enter Tryz.func150, Tryz.ntmps150
  go_wp2_with fail
  generalize ((w.alloc (.cells #[.int .u8 (x0 : Int), .int .u8 (x1 : Int), .int .u8 (x2 : Int), .int .u8 (x3 : Int), .int .u8 (x4 : Int), .int .u8 (x5 : Int), .int .u8 (x6 : Int), .int .u8 (x7 : Int)] 109)).alloc (.cells #[.bool false, .int .u32 0, .int .u8 0, .int .u8 0, .int .u8 0, .int .u16 0, .int .u16 0] 29)) = w1 at *
  go_loopw [7, 6, 5] (RO x0 x1 x2 x3 x4 x5 x6 x7 w1) (fun i _ _ _ => (intOf i + 1).toNat)
  case atStart => exact ⟨0, 0, 0, _, by omega, rfl, by go_num, rfl, rfl, rfl, rfl, rfl⟩
  case round =>
    obtain ⟨m, q, r, z, hm, hz, rfl, rfl, rfl, hq, hr, rfl⟩ := hrel
    by_cases hlt : m < 4
    · obtain ⟨_, hX, _⟩ := HS.out
      obtain ⟨z0, z1, z2, z3, z4, z5, z6, z7⟩ := hX.cells8
      clear hX HS
      have h4 : m = 0 ∨ m = 1 ∨ m = 2 ∨ m = 3 := by omega
      have hql : q < 16777216 ∧ r < 16777216 := by
        rw [hq, hr]
        rcases h4 with rfl | rfl | rfl | rfl <;> simp only [up] <;> omega
      obtain ⟨hql, hrl⟩ := hql
      have HQ := Lib.hid hq
      have HR := Lib.hid hr
      clear hq hr
      rcases h4 with rfl | rfl | rfl | rfl
      · obtain rfl : z = 3 := by omega
        clear hz
        go_wp2
        go_roundw
        case rel => exact ⟨1, x3 + 256 * q, x7 + 256 * r, 2, by omega, rfl, rfl, congrArg (Value.int .u64) (by omega), congrArg (Value.int .u64) (by omega), by rw [HQ.out]; rfl, by rw [HR.out]; rfl, rfl⟩
        case measure => simp [intOf]
      · obtain rfl : z = 2 := by omega
        clear hz
        go_wp2
        go_roundw
        case rel => exact ⟨2, x2 + 256 * q, x6 + 256 * r, 1, by omega, rfl, rfl, congrArg (Value.int .u64) (by omega), congrArg (Value.int .u64) (by omega), by rw [HQ.out]; rfl, by rw [HR.out]; rfl, rfl⟩
        case measure => simp [intOf]
      · obtain rfl : z = 1 := by omega
        clear hz
        go_wp2
        go_roundw
        case rel => exact ⟨3, x1 + 256 * q, x5 + 256 * r, 0, by omega, rfl, rfl, congrArg (Value.int .u64) (by omega), congrArg (Value.int .u64) (by omega), by rw [HQ.out]; rfl, by rw [HR.out]; rfl, rfl⟩
        case measure => simp [intOf]
      · obtain rfl : z = 0 := by omega
        clear hz
        go_wp2
        go_roundw
        case rel => exact ⟨4, x0 + 256 * q, x4 + 256 * r, -1, by omega, rfl, rfl, congrArg (Value.int .u64) (by omega), congrArg (Value.int .u64) (by omega), by rw [HQ.out]; rfl, by rw [HR.out]; rfl, rfl⟩
        case measure => simp [intOf]
    · obtain rfl : m = 4 := by omega
      obtain rfl : z = -1 := by omega
      obtain rfl : q = NA := by rw [HNA.out]; exact hq
      obtain rfl : r = NM := by rw [HNM.out]; exact hr
      have hql : q < 4294967296 := by rw [HNA.out]; exact num4_lt h0 h1 h2 h3
      have hrl : r < 4294967296 := by rw [HNM.out]; exact num4_lt h4 h5 h6 h7
      clear hq hr hz
      obtain ⟨hb, hX, hC⟩ := HS.out
      obtain ⟨cc0, cc1, cc2, cc3, cc4, cc5, cc6⟩ := hC.cells7
      obtain ⟨ff0, ff1, ff2, ff3, ff4, ff5, ff6⟩ := hC.frozen7
      clear hX hC hb
      have b1 : P < 128 ∧ Y < 8 ∧ E < 16 ∧ B < 512 ∧ T < 512 := by omega
      obtain ⟨b1, b2, b3, b4, b5⟩ := b1
      have t1 : (r : Int).tmod 128 = (P : Int) := by rw [Int.tmod_eq_emod_of_nonneg (by omega)]; exact f1
      have t2 : (r : Int).tdiv 128 = (D1 : Int) := by rw [Int.tdiv_eq_ediv_of_nonneg (by omega)]; exact f2
      have t3 : (D1 : Int).tmod 8 = (Y : Int) := by rw [Int.tmod_eq_emod_of_nonneg (by omega)]; exact f3
      have t4 : (r : Int).tdiv 1024 = (D2 : Int) := by rw [Int.tdiv_eq_ediv_of_nonneg (by omega)]; exact f4
      have t5 : (D2 : Int).tmod 16 = (E : Int) := by rw [Int.tmod_eq_emod_of_nonneg (by omega)]; exact f5
      have t6 : (r : Int).tdiv 16384 = (D3 : Int) := by rw [Int.tdiv_eq_ediv_of_nonneg (by omega)]; exact f6
      have t7 : (D3 : Int).tmod 512 = (B : Int) := by rw [Int.tmod_eq_emod_of_nonneg (by omega)]; exact f7
      have t8 : (r : Int).tdiv 8388608 = (D4 : Int) := by rw [Int.tdiv_eq_ediv_of_nonneg (by omega)]; exact f8
      have t9 : (D4 : Int).tmod 512 = (T : Int) := by rw [Int.tmod_eq_emod_of_nonneg (by omega)]; exact f9
      go_wp2
      exact bodyPost_ret (v := cp tag q P Y E B T) (by simp [results, Tryz.results150, go_sem, cc0, cc1, cc2, cc3, cc4, cc5, cc6]) rfl ⟨rfl, below7 HS.out.1 (by omega) _ _ _ _ _ _ _⟩
theorem cb14 (x0 x1 x2 x3 x4 x5 x6 x7 : Nat) (tag : Bool) (h0 : x0 < 256) (h1 : x1 < 256) (h2 : x2 < 256) (h3 : x3 < 256) (h4 : x4 < 256) (h5 : x5 < 256) (h6 : x6 < 256) (h7 : x7 < 256) (w : World) :
    Calls Tryz.prog 150 #[arr x0 x1 x2 x3 x4 x5 x6 x7, .bool tag] w fun en w' => en = .returned (cp tag (num4 x0 x1 x2 x3) (num4 x4 x5 x6 x7 % 128) (num4 x4 x5 x6 x7 / 128 % 8) (num4 x4 x5 x6 x7 / 1024 % 16) (num4 x4 x5 x6 x7 / 16384 % 512) (num4 x4 x5 x6 x7 / 8388608 % 512)) ∧ Below w.heap.size w w' :=
  cb14w x0 x1 x2 x3 x4 x5 x6 x7 _ _ _ (num4 x4 x5 x6 x7 / 128) _ (num4 x4 x5 x6 x7 / 1024) _ (num4 x4 x5 x6 x7 / 16384) _ (num4 x4 x5 x6 x7 / 8388608) _ rfl rfl tag h0 h1 h2 h3 h4 h5 h6 h7 w rfl rfl rfl rfl rfl rfl rfl rfl rfl
def f8 (x0 x1 x2 x3 x4 x5 x6 x7 j : Nat) : Nat := if j = 0 then x0 else if j = 1 then x1 else if j = 2 then x2 else if j = 3 then x3 else if j = 4 then x4 else if j = 5 then x5 else if j = 6 then x6 else x7
theorem f8_rd {w : World} {g x0 x1 x2 x3 x4 x5 x6 x7 : Nat} (h : Blk w g 109 #[.int .u8 (x0 : Int), .int .u8 (x1 : Int), .int .u8 (x2 : Int), .int .u8 (x3 : Int), .int .u8 (x4 : Int), .int .u8 (x5 : Int), .int .u8 (x6 : Int), .int .u8 (x7 : Int)]) :
    En.Rd w (some ⟨g, 0, none⟩) 8 (f8 x0 x1 x2 x3 x4 x5 x6 x7) := fun _ => by
  refine ⟨g, 0, rfl, h.lt, fun j hj => ?_⟩
  have : j = 0 ∨ j = 1 ∨ j = 2 ∨ j = 3 ∨ j = 4 ∨ j = 5 ∨ j = 6 ∨ j = 7 := by omega
  rw [Nat.zero_add]
  rcases this with rfl | rfl | rfl | rfl | rfl | rfl | rfl | rfl
  · exact h.cell 0
  · exact h.cell 1
  · exact h.cell 2
  · exact h.cell 3
  · exact h.cell 4
  · exact h.cell 5
  · exact h.cell 6
  · exact h.cell 7
theorem f8_lt {x0 x1 x2 x3 x4 x5 x6 x7 : Nat} (h0 : x0 < 256) (h1 : x1 < 256) (h2 : x2 < 256) (h3 : x3 < 256) (h4 : x4 < 256) (h5 : x5 < 256) (h6 : x6 < 256) (h7 : x7 < 256) (j : Nat) : f8 x0 x1 x2 x3 x4 x5 x6 x7 j < 256 := by
  unfold f8
  repeat' split
  all_goals omega
theorem nm_lo (x0 x1 x2 x3 x4 x5 x6 x7 : Nat) : En.nm (fun j => f8 x0 x1 x2 x3 x4 x5 x6 x7 (0 + j)) 4 = num4 x0 x1 x2 x3 := by
  simp only [En.nm, f8, num4]
  simp
  omega
theorem nm_hi (x0 x1 x2 x3 x4 x5 x6 x7 : Nat) : En.nm (fun j => f8 x0 x1 x2 x3 x4 x5 x6 x7 (4 + j)) 4 = num4 x4 x5 x6 x7 := by
  simp only [En.nm, f8, num4]
  simp
  omega
theorem k45 (x0 x1 x2 x3 x4 x5 x6 x7 g : Nat) (h0 : x0 < 256) (h1 : x1 < 256) (h2 : x2 < 256) (h3 : x3 < 256) (h4 : x4 < 256) (h5 : x5 < 256) (h6 : x6 < 256) (h7 : x7 < 256) (w : World)
    (h : Blk w g 109 #[.int .u8 (x0 : Int), .int .u8 (x1 : Int), .int .u8 (x2 : Int), .int .u8 (x3 : Int), .int .u8 (x4 : Int), .int .u8 (x5 : Int), .int .u8 (x6 : Int), .int .u8 (x7 : Int)]) :
    Calls Tryz.prog 82 #[.slice (some ⟨g, 0, none⟩) 8 8, .int .i64 0, .int .i64 4] w (fun e w' => e = .returned (.tuple #[.int .u64 (num4 x0 x1 x2 x3 : Int), .int .i64 0]) ∧ w = w') ∧
    Calls Tryz.prog 82 #[.slice (some ⟨g, 0, none⟩) 8 8, .int .i64 4, .int .i64 4] w (fun e w' => e = .returned (.tuple #[.int .u64 (num4 x4 x5 x6 x7 : Int), .int .i64 0]) ∧ w = w') := by
  have a := En.c14 (some ⟨g, 0, none⟩) 8 8 0 4 _ w (f8_lt h0 h1 h2 h3 h4 h5 h6 h7) (by omega) (by omega) (f8_rd h) (fun h => by cases h) (by omega) (by omega)
  have b := En.c14 (some ⟨g, 0, none⟩) 8 8 4 4 _ w (f8_lt h0 h1 h2 h3 h4 h5 h6 h7) (by omega) (by omega) (f8_rd h) (fun h => by cases h) (by omega) (by omega)
  rw [nm_lo] at a
  rw [nm_hi] at b
  exact ⟨a, b⟩
end Go.Proofs.YtnkoknfihhdelaaGreatDoor.Cp
namespace Go.Proofs.YtnkoknfihhdelaaGreatDoor.Cp
open Go.ChangeShapes Go.WideShapes Go.ChangeAt Go.RowKit
set_option linter.unusedVariables false
set_option maxRecDepth 100000
theorem bd (a k : Nat) (ha : a < 18446744073709551616) (hk : 2 ^ k - 1 < 18446744073709551616) (P : Int) (hP : P = ((2 ^ k - 1 : Nat) : Int)) : bits .and .u64 (a : Int) P = ((a % 2 ^ k : Nat) : Int) := by
  subst hP
  rw [u64_and_nat a _ ha hk, Nat.and_two_pow_sub_one_eq_mod]
set_option maxHeartbeats 8000000 in
theorem cb13w (x0 x1 x2 x3 x4 x5 x6 x7 NA NM P D1 Y D2 E D3 B D4 T : Nat) (tag z : Bool) (w : World) (hA : NA < 4294967296) (hM : NM < 4294967296)
    (HQ : ∀ w : World, (Op.equalIn 10000 109 (arr x0 x1 x2 x3 x4 x5 x6 x7) (.agg #[.int .u8 0, .int .u8 0, .int .u8 0, .int .u8 0, .int .u8 0, .int .u8 0, .int .u8 0, .int .u8 0])).run Tryz.prog w = .ok z w)
    (hz : z = true → NA = 0 ∧ P = 0 ∧ Y = 0 ∧ E = 0 ∧ B = 0 ∧ T = 0)
    (K45 : ∀ (w : World) (g : Nat), Blk w g 109 #[.int .u8 (x0 : Int), .int .u8 (x1 : Int), .int .u8 (x2 : Int), .int .u8 (x3 : Int), .int .u8 (x4 : Int), .int .u8 (x5 : Int), .int .u8 (x6 : Int), .int .u8 (x7 : Int)] →
      Calls Tryz.prog 82 #[.slice (some ⟨g, 0, none⟩) 8 8, .int .i64 0, .int .i64 4] w (fun e w' => e = .returned (.tuple #[.int .u64 (NA : Int), .int .i64 0]) ∧ w = w') ∧
      Calls Tryz.prog 82 #[.slice (some ⟨g, 0, none⟩) 8 8, .int .i64 4, .int .i64 4] w (fun e w' => e = .returned (.tuple #[.int .u64 (NM : Int), .int .i64 0]) ∧ w = w'))
    (l1 : P < 128) (l2 : Y < 8) (l3 : E < 16) (l4 : B < 512) (l5 : T < 512)
    (f1 : bits .and .u64 (NM : Int) 127 = (P : Int)) (f2 : (NM : Int) / 128 = (D1 : Int)) (f3 : bits .and .u64 (D1 : Int) 7 = (Y : Int)) (f4 : (NM : Int) / 1024 = (D2 : Int)) (f5 : bits .and .u64 (D2 : Int) 15 = (E : Int)) (f6 : (NM : Int) / 16384 = (D3 : Int)) (f7 : bits .and .u64 (D3 : Int) 511 = (B : Int)) (f8 : (NM : Int) / 8388608 = (D4 : Int)) (f9 : bits .and .u64 (D4 : Int) 511 = (T : Int)) :
    Calls Tryz.prog 52 #[arr x0 x1 x2 x3 x4 x5 x6 x7, .bool tag] w fun en w' => en = .returned (cp tag NA P Y E B T) ∧ Below w.heap.size w w' := by
  have hst := B2.start w #[.int .u8 (x0 : Int), .int .u8 (x1 : Int), .int .u8 (x2 : Int), .int .u8 (x3 : Int), .int .u8 (x4 : Int), .int .u8 (x5 : Int), .int .u8 (x6 : Int), .int .u8 (x7 : Int)]
  have HS := Lib.hid hst
  have HZ := Lib.hid hz
  have HK := Lib.hid K45
  clear hst hz K45
  cases z with
  | true =>
    obtain ⟨rfl, rfl, rfl, rfl, rfl, rfl⟩ := HZ.out rfl
    clear f1 f2 f3 f4 f5 f6 f7 f8 f9 HZ HK
    go_enter Tryz.func52, Tryz.ntmps52
    go_wp2_with fail
    exact bodyPost_ret (v := cp tag 0 0 0 0 0 0) (by simp [results, Tryz.results52, go_sem]) rfl ⟨rfl, ((Below.refl _ _).alloc (Nat.le_refl _) _).alloc (by simp) _⟩
  | false =>
    clear HZ
    go_enter Tryz.func52, Tryz.ntmps52
    go_wp2_with fail
    refine (HK.out _ _ HS.out.2.1).1.mono ?_
    rintro _ _ ⟨rfl, rfl⟩
    go_wp2_with fail
    refine (HK.out _ _ HS.out.2.1).2.mono ?_
    rintro _ _ ⟨rfl, rfl⟩
    clear HK HQ
    go_wp2_with fail
    exact bodyPost_ret (v := cp tag NA P Y E B T) (by simp [results, Tryz.results52, go_sem]) rfl ⟨rfl, ((Below.refl _ _).alloc (Nat.le_refl _) _).alloc (by simp) _⟩
theorem cb13 (x0 x1 x2 x3 x4 x5 x6 x7 : Nat) (tag : Bool) (h0 : x0 < 256) (h1 : x1 < 256) (h2 : x2 < 256) (h3 : x3 < 256) (h4 : x4 < 256) (h5 : x5 < 256) (h6 : x6 < 256) (h7 : x7 < 256) (w : World) :
    Calls Tryz.prog 52 #[arr x0 x1 x2 x3 x4 x5 x6 x7, .bool tag] w fun en w' => en = .returned (cp tag (num4 x0 x1 x2 x3) (num4 x4 x5 x6 x7 % 128) (num4 x4 x5 x6 x7 / 128 % 8) (num4 x4 x5 x6 x7 / 1024 % 16) (num4 x4 x5 x6 x7 / 16384 % 512) (num4 x4 x5 x6 x7 / 8388608 % 512)) ∧ Below w.heap.size w w' := by
  have hA := num4_lt h0 h1 h2 h3
  have hM := num4_lt h4 h5 h6 h7
  refine cb13w x0 x1 x2 x3 x4 x5 x6 x7 _ (num4 x4 x5 x6 x7) _ (num4 x4 x5 x6 x7 / 128) _ (num4 x4 x5 x6 x7 / 1024) _ (num4 x4 x5 x6 x7 / 16384) _ (num4 x4 x5 x6 x7 / 8388608) _ tag _ w hA hM (eqArr x0 x1 x2 x3 x4 x5 x6 x7 0 0 0 0 0 0 0 0) ?_ (fun w g h => k45 x0 x1 x2 x3 x4 x5 x6 x7 g h0 h1 h2 h3 h4 h5 h6 h7 w h) (by omega) (by omega) (by omega) (by omega) (by omega)
    (bd _ 7 (by omega) (by omega) 127 rfl) rfl (bd _ 3 (by omega) (by omega) 7 rfl) rfl (bd _ 4 (by omega) (by omega) 15 rfl) rfl (bd _ 9 (by omega) (by omega) 511 rfl) rfl (bd _ 9 (by omega) (by omega) 511 rfl)
  intro h
  simp only [decide_eq_true_eq] at h
  obtain ⟨rfl, rfl, rfl, rfl, rfl, rfl, rfl, rfl⟩ := h
  simp [num4]
end Go.Proofs.YtnkoknfihhdelaaGreatDoor.Cp
namespace Go.Proofs.YtnkoknfihhdelaaGreatDoor.Cp
open Go.ChangeShapes Go.WideShapes Go.ChangeAt Go.RowKit
set_option linter.unusedVariables false
set_option maxHeartbeats 2000000 in
theorem c33 (b t m : Nat) (hb : b < 18446744073709551616) (ht : t < 18446744073709551616) (hm : m < 256) (w : World) :
    Calls Tryz.prog 44 #[.int .u64 (b : Int), .int .u64 (t : Int), .int .u8 (m : Int)] w fun en w' => en = .returned (rootV b t m) ∧ Below w.heap.size w w' := by
  have k1 := c19 b t hb ht
  unfold exV at k1
  unfold rootV
  rcases ex_err b t with ⟨h0, h1, h2, h3, h4, h5⟩ | ⟨h1, h2, h3, h4⟩
  · rw [if_pos h0]
    rw [h0] at k1
    generalize (ex b t).1 = E at *
    generalize (ex b t).2.1 = B at *
    generalize (ex b t).2.2.1 = T at *
    have rb : (b : Int) % 4294967296 = (b : Int) := by omega
    have RB := Lib.hid rb
    have K1 := Lib.hid k1
    clear k1 h0 rb
    go_enter Tryz.func44, Tryz.ntmps44
    go_wp2_with fail
    refine (K1.out _).mono ?_
    rintro en w1 ⟨rfl, hb1⟩
    obtain ⟨hc, hf⟩ := bcell hb1
    have hz : w.heap.size < w1.heap.size := by have := hb1.size; simp at this; omega
    have hB : Below w.heap.size w w1 := ((Below.refl _ _).alloc (Nat.le_refl _) _).trans (hb1.mono (by simp))
    clear hb1
    go_wp2_with fail
    exact bodyPost_ret (v := .tuple #[cp true b m 0 E B T, .int .i64 0]) (by simp [results, Tryz.results44, go_sem, cellAlloc, hz, hc]) rfl ⟨rfl, set7a hB (by omega) _ _ _ _ _ _ _ _⟩
  · rw [if_neg (by omega)]
    rw [h1, h2, h3] at k1
    have h5 : (ex b t).2.2.2 ≠ 0 := by omega
    generalize (ex b t).2.2.2 = R at *
    have h6 : ((R : Int) != 0) = true := by simp; omega
    have K1 := Lib.hid k1
    clear k1 h1 h2 h3
    go_enter Tryz.func44, Tryz.ntmps44
    go_wp2_with fail
    refine (K1.out _).mono ?_
    rintro en w1 ⟨rfl, hb1⟩
    obtain ⟨hc, hf⟩ := bcell hb1
    have hz : w.heap.size < w1.heap.size := by have := hb1.size; simp at this; omega
    have hB : Below w.heap.size w w1 := ((Below.refl _ _).alloc (Nat.le_refl _) _).trans (hb1.mono (by simp))
    clear hb1
    go_wp2_with fail
    exact bodyPost_ret (v := .tuple #[cp false 0 0 0 0 0 0, .int .i64 (R : Int)]) (by simp [results, Tryz.results44, go_sem, cellAlloc, hz, hc]) rfl ⟨rfl, set7a hB (by omega) _ _ _ _ _ _ _ _⟩

end Go.Proofs.YtnkoknfihhdelaaGreatDoor.Cp
