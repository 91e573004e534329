import Derived.Test.YtojjdhohhonheabG
import Derived.Outline
namespace Go.Proofs.Ytojjdhohhonheab
open Go.ChangeShapes Go.WideShapes Go.ChangeAt Go.RowKit
set_option linter.unusedVariables false
def bw (how a b : Nat) : Nat := if how = 0 then a &&& b else if how = 1 then a ||| b else a ^^^ b
def bp (how : Nat) (x y : Bool) : Bool := if how = 0 then x && y else if how = 1 then x || y else x != y
theorem bw_bit (how a b i : Nat) : (bw how a b).testBit i = bp how (a.testBit i) (b.testBit i) := by
  unfold bw bp
  split
  · exact Nat.testBit_and ..
  · split
    · exact Nat.testBit_or ..
    · rw [Nat.testBit_xor]
theorem mod_succ (n k : Nat) : n % 2 ^ (k + 1) = n % 2 ^ k + (if n.testBit k then 2 ^ k else 0) := by
  rw [Nat.pow_succ, Nat.mod_mul, Nat.testBit_eq_decide_div_mod_eq]
  have h2 : n / 2 ^ k % 2 = 0 ∨ n / 2 ^ k % 2 = 1 := by omega
  rcases h2 with h2 | h2 <;> simp [h2]
theorem and_pow (a k : Nat) : a &&& 2 ^ k = if a.testBit k then 2 ^ k else 0 := by
  apply Nat.eq_of_testBit_eq
  intro i
  rw [Nat.testBit_and, Nat.testBit_two_pow]
  by_cases h : k = i
  · subst h
    cases hb : a.testBit k <;> simp
  · cases hb : a.testBit k <;> simp [h]
def BR (w : World) (N : Nat) (i v : Value) (wr : World) : Prop := ∃ k q : Nat, k ≤ 32 ∧ i = .int .i64 (k : Int) ∧ v = .int .u32 (q : Int) ∧ q = N % 2 ^ k ∧ ∃ n, wr = w.drewN n
set_option maxHeartbeats 4000000 in
theorem rBit (how a b : Nat) (hh : how = 0 ∨ how = 1 ∨ how = 2) (ha : a < 4294967296) (hb : b < 4294967296) (w : World) : Calls Try.prog 15 #[.int .u32 (a : Int), .int .u32 (b : Int), .int .i64 (how : Int)] w fun en w' => en = .returned (.int .u32 (bw how a b : Int)) ∧ ∃ n, w' = w.drewN n := by
  have hN : bw how a b < 2 ^ 32 := by
    unfold bw
    split
    · exact Nat.and_lt_two_pow _ hb
    · split
      · exact Nat.or_lt_two_pow ha hb
      · exact Nat.xor_lt_two_pow ha hb
  obtain ⟨NN, hNN⟩ : ∃ n, n = bw how a b := ⟨_, rfl⟩
  rw [← hNN] at hN ⊢
  have HNN := Lib.hid hNN
  clear hNN
  go_enter Try.func15, Try.ntmps15
  go_wp2_with fail
  go_loopw [8, 7] (BR w NN) (fun i _ _ => 32 - (intOf i).toNat)
  case atStart => exact ⟨0, 0, by omega, rfl, rfl, by rw [Nat.pow_zero, Nat.mod_one], 0, rfl⟩
  case round =>
    obtain ⟨k, q, hk, rfl, rfl, hq, n, rfl⟩ := hrel
    have HQ := Lib.hid hq
    clear hq
    by_cases hlt : k < 32
    · obtain ⟨P, hP⟩ : ∃ P, P = 2 ^ k := ⟨_, rfl⟩
      have hP31 : P ≤ 2147483648 := by rw [hP]; exact Nat.le_trans (Nat.pow_le_pow_right (by omega) (by omega : k ≤ 31)) (by decide)
      have hP0 : 0 < P := by rw [hP]; exact Nat.pow_pos (by omega)
      have hqP : q < P := by rw [HQ.out, hP]; exact Nat.mod_lt _ (Nat.pow_pos (by omega))
      have hbit : NN.testBit k = bp how (a.testBit k) (b.testBit k) := by rw [HNN.out]; exact bw_bit how a b k
      have hs : NN % 2 ^ (k + 1) = q + if NN.testBit k then P else 0 := by rw [mod_succ, HQ.out, hP]
      rw [hbit] at hs
      have f1 : (2 : Int) ^ k % 4294967296 = (P : Int) := by
        have : (2 : Int) ^ k = (P : Int) := by rw [hP]; simp
        rw [this]; omega
      have f2 : bits .and .u32 (a : Int) (P : Int) = if a.testBit k then (P : Int) else 0 := by
        rw [u32_and_nat a P ha (by omega), hP, and_pow]
        cases a.testBit k <;> simp
      have f3 : bits .and .u32 (b : Int) (P : Int) = if b.testBit k then (P : Int) else 0 := by
        rw [u32_and_nat b P hb (by omega), hP, and_pow]
        cases b.testBit k <;> simp
      have f4 : ((P : Int) != 0) = true := by simp; omega
      clear hbit hP HNN HQ
      generalize a.testBit k = xa at *
      generalize b.testBit k = xb at *
      have HS := Lib.hid hs
      clear hs
      rcases hh with rfl | rfl | rfl <;> cases xa <;> cases xb
      all_goals
        simp only [Bool.false_eq_true, if_true, if_false] at f2 f3
        have HS2 := HS.out
        simp only [bp, if_true, if_false, Nat.reduceEqDiff, Bool.and_self, Bool.and_false, Bool.or_self, Bool.or_false, bne_self_eq_false, Bool.false_eq_true, Nat.add_zero, Bool.and_true, Bool.or_true, Bool.bne_false, Bool.bne_true, Bool.not_false, Nat.zero_ne_one, Nat.one_ne_zero] at HS2
        have HS3 := Lib.hid HS2
        clear HS2 HS
        go_wp2_with fail
        go_quiet (fail)
        go_wp2_with fail
        go_roundw
        case rel => exact ⟨k + 1, _, hlt, by go_num, by first | rfl | go_num, HS3.out.symm, _, rfl⟩
        case measure => simp [intOf]; omega
    · obtain rfl : k = 32 := by omega
      have e : q = NN := by rw [HQ.out]; exact Nat.mod_eq_of_lt hN
      subst e
      clear HNN HQ
      go_wp2
      go_ret
      exact ⟨rfl, n, rfl⟩
end Go.Proofs.Ytojjdhohhonheab
