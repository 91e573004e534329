import Derived.Test.YtbclgkjljgcfbaaL3
import Derived.Test.YtbclgkjljgcfbaaKF
import Derived.Test.YtbclgkjljgcfbaaKG
namespace Go.Proofs.Ytbclgkjljgcfbaa
open Go.ChangeShapes Go.WideShapes Go.ChangeAt Go.RowKit
open Cp (Blk cp bs ln ex ex_err exL ok rootV set7 set7a bcell cellAlloc)
set_option linter.unusedVariables false
theorem exL_spec (b t : Nat) : ∀ k, k ≤ 9 → (exL b t k = (0, 0, 0, 5) ∧ ∀ e, 9 - k ≤ e → e ≤ 8 → ok b t e = false) ∨ ∃ e, e ≤ 8 ∧ ok b t e = true ∧ exL b t k = (e, b / 2 ^ e % 512, t / 2 ^ e % 512, 0)
  | 0, _ => Or.inl ⟨rfl, fun e h1 h2 => by omega⟩
  | k + 1, h => by
    rw [exL]
    by_cases g : ok b t (8 - k) = true
    · exact Or.inr ⟨8 - k, by omega, g, by rw [if_pos g]⟩
    · rw [if_neg g]
      rcases exL_spec b t k (by omega) with ⟨h1, h2⟩ | h1
      · refine Or.inl ⟨h1, fun e h3 h4 => ?_⟩
        by_cases g2 : e = 8 - k
        · rw [g2]; simpa using g
        · exact h2 e (by omega) h4
      · exact Or.inr h1
theorem nine {P : Nat → Prop} (x : Nat) (hx : x ≤ 8) (h0 : P 0) (h1 : P 1) (h2 : P 2) (h3 : P 3) (h4 : P 4) (h5 : P 5) (h6 : P 6) (h7 : P 7) (h8 : P 8) : P x := by
  have : x = 0 ∨ x = 1 ∨ x = 2 ∨ x = 3 ∨ x = 4 ∨ x = 5 ∨ x = 6 ∨ x = 7 ∨ x = 8 := by omega
  rcases this with rfl | rfl | rfl | rfl | rfl | rfl | rfl | rfl | rfl <;> assumption
theorem back (b t a e : Nat) (he : e ≤ 8) (h0 : b % 2 ^ e = 0) (h5 : t % 2 ^ e = 0) (h4 : t - b ≤ 511 * 2 ^ e) (h : b ≤ a) (h2 : a ≤ t) (h3 : t ≤ 65536) : bs e (b / 2 ^ e % 512) a = b := by
  unfold bs
  revert h0 h5 h4
  apply nine (P := fun e => b % 2 ^ e = 0 → t % 2 ^ e = 0 → t - b ≤ 511 * 2 ^ e → (if a / 2 ^ e % 512 < b / 2 ^ e % 512 then (if a / 2 ^ (e + 9) = 0 then 2 ^ (23 - e) else a / 2 ^ (e + 9)) - 1 else a / 2 ^ (e + 9)) * 2 ^ (e + 9) + b / 2 ^ e % 512 * 2 ^ e = b) e he
  all_goals
    simp only [Nat.reducePow, Nat.reduceAdd, Nat.reduceSub]
    intro h0 h5 h4
    split <;> (try split) <;> omega
/-- of exact bounds each address from base to top keeps the base -/
theorem keeps (a n d : Nat) (h : (ex a (a + n)).2.2.2 = 0) (h1 : a ≤ d) (h2 : d ≤ a + n) : bs ((ex a (a + n)).1 % 16) ((ex a (a + n)).2.1 % 512) a = bs ((ex a (a + n)).1 % 16) ((ex a (a + n)).2.1 % 512) d := by
  unfold ex at h ⊢
  by_cases hc : a + n < a ∨ 65536 < a + n
  · rw [if_pos hc] at h
    simp at h
  · rw [if_neg hc] at h ⊢
    rcases exL_spec a (a + n) 9 (by omega) with ⟨h1, _⟩ | ⟨e, he, hk, h1⟩
    · rw [h1] at h
      simp at h
    · rw [h1]
      obtain ⟨q1, q2, q3⟩ := of_decide_eq_true hk
      have m1 : e % 16 = e := by omega
      have m2 : a / 2 ^ e % 512 % 512 = a / 2 ^ e % 512 := by omega
      simp only [m1, m2]
      rw [back a (a + n) a e he q1 q2 q3 (by omega) (by omega) (by omega), back a (a + n) d e he q1 q2 q3 (by omega) (by omega) (by omega)]
set_option maxHeartbeats 4000000 in
theorem c25s (g : Bool) (a p e b t : Nat) (w : World) :
    Calls Try.prog 25 #[.int .u32 3, cp g a p 0 e b t] w fun en w' => en = .returned (cp g a p 3 e b t) ∧ Below w.heap.size w w' := by
  have k1' := Cp.c28 g a p 0 e b t 3 (by omega) (by omega)
  have k1 : ∀ w, Calls Try.prog 35 #[cp g a p 0 e b t, .int .u32 3] w fun en w' => en = .returned (cp g a p 3 e b t) ∧ Below w.heap.size w w' := by
    simpa using k1'
  have K1 := Lib.hid k1
  clear k1 k1'
  go_enter Try.func25, Try.ntmps25
  go_wp2_with fail
  refine (K1.out _).mono ?_
  rintro en w1 ⟨rfl, hb1⟩
  have hB1 : Below w.heap.size w w1 := (((Below.refl _ _).alloc (Nat.le_refl _) _).alloc (by simp) _).trans (hb1.mono (by simp; omega))
  have HZ : Blk w1 (w.heap.size + 1) 34 #[.bool false, .int .u32 0, .int .u8 0, .int .u8 0, .int .u8 0, .int .u16 0, .int .u16 0] := (new2 w _ 34 _).below hb1 (by simp)
  obtain ⟨z0, z1, z2, z3, z4, z5, z6⟩ := HZ.cells7
  obtain ⟨y0, y1, y2, y3, y4, y5, y6⟩ := HZ.frozen7
  go_wp2_with fail
  exact bodyPost_ret (v := cp g a p 3 e b t) (by simp [results, Try.results25, go_sem, z0, z1, z2, z3, z4, z5, z6]) rfl ⟨rfl, set7 hB1 (by omega) _ _ _ _ _ _ _⟩
theorem c26s (g : Bool) (a p e b t : Nat) (w : World) :
    Calls Try.prog 26 #[cp g a p 0 e b t, .int .u32 3] w fun en w' => en = .returned (cp g a p 3 e b t) ∧ Below w.heap.size w w' := by
  have k1' := Cp.c29 g a p 0 e b t 3 (by omega) (by omega) w
  simpa using k1'
end Go.Proofs.Ytbclgkjljgcfbaa
