import Derived.Test.YtmanoheofloimaaGreatDoorIG
import Derived.Laws.Rows
namespace Go.Proofs.YtmanoheofloimaaGreatDoor.In
open Go.ChangeShapes Go.WideShapes Go.ChangeAt Go.RowKit
set_option linter.unusedVariables false
set_option maxRecDepth 100000
def hit (w q : Nat) : Nat := (w ^^^ WL q) &&& XL (FL q)
def opL (w : Nat) : Nat → Nat
  | 0 => 0
  | j + 1 => if hit w (67 - j) = 0 then 68 - j else opL w j
theorem opL_step (w k : Nat) (hk : k < 68) : opL w (68 - k) = if hit w k = 0 then k + 1 else opL w (68 - (k + 1)) := by
  rw [show 68 - k = (67 - k) + 1 by omega, opL, show 67 - (67 - k) = k by omega, show 68 - (67 - k) = k + 1 by omega, show 68 - (k + 1) = 67 - k by omega]
theorem tabs : ∀ q : Fin 68, WL q.val < 4294967296 ∧ XL (FL q.val) < 4294967296 ∧ FL q.val < 11 := by decide +kernel
theorem u47 : Tryz.prog.underlying 148 = some (.array 68 22) := by kernel_rfl
theorem ix (k : Nat) (hk : k < 68) (w : World) : (Instr.index 148 (.agg WA) (.int .i64 (k : Int))).run Tryz.prog w = .ok (.int .u32 (WL k : Int)) w := by
  have e := WA_at k hk
  simp [Instr.index, asIntOf, run_underlying u47, part, e]
  omega
set_option maxHeartbeats 1000000 in
theorem c21 (n : Nat) (hn : n < 4294967296) (w : World) (hg : Glob w) : Calls Tryz.prog 55 #[.int .u32 (n : Int)] w fun en w' => en = .returned (.int .u8 (opL n 68 : Int)) ∧ w = w' := by
  obtain ⟨t, fr, hw⟩ := hg.2.1
  go_enter Tryz.func55, Tryz.ntmps55
  go_wp2_with (refine wpList_load_row rfl _ _ rfl 1 rfl t WA fr (.array 68 22) hw u47 rfl (by kernel_rfl) ?_)
  go_loop [3, 4, 6] (fun _ _ i => ∃ k : Nat, k ≤ 68 ∧ i = .int .i64 (k : Int) ∧ Hid (opL n (68 - k) = opL n 68)) (fun _ _ i => 68 - (intOf i).toNat)
  case atStart => exact ⟨0, by omega, rfl, rfl⟩
  case round =>
    obtain ⟨k, hk, rfl, hx⟩ := hrel
    by_cases hlt : k < 68
    · rw [opL_step n k hlt] at hx
      obtain ⟨l1, l2, l3⟩ := tabs ⟨k, hlt⟩
      simp only at l1 l2 l3
      have hix := ix k hlt
      have c0 := hg.f k hlt
      have c2 := hg.x (FL k) l3
      have e1 := u32_xor_nat n (WL k) hn l1
      have hxl : n ^^^ WL k < 4294967296 := Nat.xor_lt_two_pow (n := 32) hn l1
      have e2 := u32_and_nat (n ^^^ WL k) (XL (FL k)) hxl l2
      have hh : hit n k = (n ^^^ WL k) &&& XL (FL k) := rfl
      rw [← hh] at e2
      clear hh
      generalize hit n k = M at *
      generalize n ^^^ WL k = Y at *
      generalize XL (FL k) = X at *
      generalize WL k = V at *
      generalize FL k = f at *
      by_cases hM : M = 0
      · subst hM
        rw [if_pos rfl] at hx
        go_wp2_with fail
        go_ret
        exact ⟨ret1 (by rw [← hx.out]; omega), rfl⟩
      · rw [if_neg hM] at hx
        have hM2 : ((M : Int) == 0) = false := by simp; omega
        go_wp2_with fail
        go_round
        case rel => exact ⟨k + 1, by omega, by go_num, hx⟩
        case measure => simp [intOf]; omega
    · obtain rfl : k = 68 := by omega
      go_wp2_with fail
      go_ret
      exact ⟨ret1 (by rw [← hx.out]; rfl), rfl⟩
end Go.Proofs.YtmanoheofloimaaGreatDoor.In

