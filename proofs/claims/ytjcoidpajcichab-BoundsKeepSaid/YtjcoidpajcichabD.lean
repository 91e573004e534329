import Derived.Test.YtjcoidpajcichabB
import Derived.Test.YtjcoidpajcichabC
import Derived.Laws.StructEq
namespace Go.Proofs.Ytjcoidpajcichab
open Go.ChangeShapes Go.WideShapes Go.ChangeAt Go.RowKit
set_option linter.unusedVariables false
theorem L1 (w : World) : Calls Try.prog 18 #[.int .u64 0, .int .u64 65536] w fun en w' => en = .returned (.tuple #[.agg #[.int .u8 8, .int .u16 0, .int .u16 256], .int .i64 0]) ∧ Below w.heap.size w w' := by
  have h := c18 0 65536 (by omega) (by omega) w
  rw [show ex 0 65536 = (8, 0, 256, 0) by decide] at h
  exact h
theorem L2 (w : World) : Calls Try.prog 18 #[.int .u64 1, .int .u64 513] w fun en w' => en = .returned (.tuple #[.agg #[.int .u8 0, .int .u16 0, .int .u16 0], .int .i64 5]) ∧ Below w.heap.size w w' := by
  have h := c18 1 513 (by omega) (by omega) w
  rw [show ex 1 513 = (0, 0, 0, 5) by decide] at h
  exact h
theorem L3 (w : World) : Calls Try.prog 11 #[.agg #[.int .u8 8, .int .u16 0, .int .u16 256]] w fun en w' => en = .returned (.int .u64 65536) ∧ Below w.heap.size w w' := by
  have h := c11 8 0 256 (by omega) (by omega) (by omega) w
  rw [show ln (8 % 16) (0 % 512) (256 % 512) = 65536 by decide] at h
  exact h
theorem L4 (w : World) : Calls Try.prog 9 #[.agg #[.int .u8 0, .int .u16 5, .int .u16 9], .int .u32 517] w fun en w' => en = .returned (.int .u64 517) ∧ Below w.heap.size w w' := by
  have h := c9 0 5 9 517 (by omega) (by omega) (by omega) (by omega) w
  rw [show bs (0 % 16) (5 % 512) 517 = 517 by decide] at h
  exact h
theorem L5 (w : World) : Calls Try.prog 9 #[.agg #[.int .u8 0, .int .u16 5, .int .u16 9], .int .u32 516] w fun en w' => en = .returned (.int .u64 5) ∧ Below w.heap.size w w' := by
  have h := c9 0 5 9 516 (by omega) (by omega) (by omega) (by omega) w
  rw [show bs (0 % 16) (5 % 512) 516 = 5 by decide] at h
  exact h
set_option maxHeartbeats 1000000 in
theorem c17 (w : World) : Calls Try.prog 17 #[] w fun en w' => en = .returned (.bool true) ∧ Below w.heap.size w w' := by
  go_enter Try.func17, Try.ntmps17
  go_wp2_with fail
  refine (L1 _).mono ?_
  rintro en w1 ⟨rfl, b1⟩
  go_wp2_with fail
  refine (L2 _).mono ?_
  rintro en w2 ⟨rfl, b2⟩
  obtain ⟨hB2, z2, d0, d1, d2⟩ := init3 b2
  have hB := b1.trans (hB2.mono b1.size)
  clear b2 b1 hB2
  go_wp2_with fail
  refine (L3 _).mono ?_
  rintro en w3 ⟨rfl, b3⟩
  have hB3 := hB.trans (((Below.refl _ _).alloc (Nat.le_refl _) _).trans (b3.mono (by simp)) |>.mono hB.size)
  clear b3 hB
  go_wp2_with fail
  refine (L4 _).mono ?_
  rintro en w4 ⟨rfl, b4⟩
  have hB4 := hB3.trans (b4.mono hB3.size)
  clear b4 hB3
  go_wp2_with fail
  refine (L5 _).mono ?_
  rintro en w5 ⟨rfl, b5⟩
  have hB5 := hB4.trans (b5.mono hB4.size)
  clear b5 hB4
  go_wp2_with fail
  go_ret
  exact ⟨rfl, hB5⟩

theorem exL_spec (b t : Nat) : ∀ k, k ≤ 9 → (exL b t k = (0, 0, 0, 5) ∧ ∀ e, 9 - k ≤ e → e ≤ 8 → ok b t e = false) ∨ ∃ e, e ≤ 8 ∧ ok b t e = true ∧ exL b t k = (e, b / 2 ^ e % 512, t / 2 ^ e % 512, 0)
  | 0, _ => Or.inl ⟨rfl, fun e h1 h2 => by omega⟩
  | k + 1, h => by
    rw [exL]
    by_cases g : ok b t (8 - k) = true
    · exact Or.inr ⟨8 - k, by omega, g, by rw [if_pos g]⟩
    · rw [if_neg g]
      rcases exL_spec b t k (by omega) with ⟨h1, h2⟩ | h1
      · refine Or.inl ⟨h1, fun e h3 h4 => ?_⟩
        by_cases g2 : e = 8 - k
        · rw [g2]; simpa using g
        · exact h2 e (by omega) h4
      · exact Or.inr h1
theorem nine {P : Nat → Prop} (x : Nat) (hx : x ≤ 8) (h0 : P 0) (h1 : P 1) (h2 : P 2) (h3 : P 3) (h4 : P 4) (h5 : P 5) (h6 : P 6) (h7 : P 7) (h8 : P 8) : P x := by
  have : x = 0 ∨ x = 1 ∨ x = 2 ∨ x = 3 ∨ x = 4 ∨ x = 5 ∨ x = 6 ∨ x = 7 ∨ x = 8 := by omega
  rcases this with rfl | rfl | rfl | rfl | rfl | rfl | rfl | rfl | rfl <;> assumption
theorem back (b t a e : Nat) (he : e ≤ 8) (h0 : b % 2 ^ e = 0) (h5 : t % 2 ^ e = 0) (h4 : t - b ≤ 511 * 2 ^ e) (h : b ≤ a) (h2 : a ≤ t) (h3 : t ≤ 65536) : bs e (b / 2 ^ e % 512) a = b ∧ ln e (b / 2 ^ e % 512) (t / 2 ^ e % 512) = t - b := by
  unfold bs ln
  revert h0 h5 h4
  apply nine (P := fun e => b % 2 ^ e = 0 → t % 2 ^ e = 0 → t - b ≤ 511 * 2 ^ e → (if a / 2 ^ e % 512 < b / 2 ^ e % 512 then (if a / 2 ^ (e + 9) = 0 then 2 ^ (23 - e) else a / 2 ^ (e + 9)) - 1 else a / 2 ^ (e + 9)) * 2 ^ (e + 9) + b / 2 ^ e % 512 * 2 ^ e = b ∧ (t / 2 ^ e % 512 + 512 - b / 2 ^ e % 512) % 512 * 2 ^ e = t - b) e he
  all_goals
    simp only [Nat.reducePow, Nat.reduceAdd, Nat.reduceSub]
    intro h0 h5 h4
    refine ⟨?_, by omega⟩
    split <;> (try split) <;> omega
end Go.Proofs.Ytjcoidpajcichab
