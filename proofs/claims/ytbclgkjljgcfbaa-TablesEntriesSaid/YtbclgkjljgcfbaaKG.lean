import Derived.Test.YtbclgkjljgcfbaaKE
namespace Go.Proofs.Ytbclgkjljgcfbaa.Cp
open Go.ChangeShapes Go.WideShapes Go.ChangeAt Go.RowKit
set_option linter.unusedVariables false
set_option maxHeartbeats 1000000 in
theorem c29 (g : Bool) (a p y e b t s : Nat) (hy : y < 256) (hs : s < 4294967296) (w : World) :
    Calls Try.prog 26 #[cp g a p y e b t, .int .u32 (s : Int)] w fun en w' => en = .returned (cp (g && (decide (y = 0) && !decide (s % 8 = 0))) a p (s % 8) e b t) ∧ Below w.heap.size w w' := by
  have k : (s : Int) % 8 = ((s % 8 : Nat) : Int) := rfl
  have hl : s % 8 < 8 := by omega
  generalize s % 8 = m at *
  by_cases h0 : y = 0
  · subst h0
    by_cases h1 : m = 0
    · have hb0 : ((m : Int) == 0) = true := by simp; omega
      rw [decide_eq_true h1, show (g && (decide (0 = 0) && !true)) = false by simp]
      clear h1
      go_enter Try.func26, Try.ntmps26
      go_wp2
      exact bodyPost_ret (v := cp false a p m e b t) (by simp [results, Try.results26, go_sem]) rfl ⟨rfl, ((Below.refl _ _).alloc (Nat.le_refl _) _).alloc (by simp) _⟩
    · have hb0 : ((m : Int) == 0) = false := by simp; omega
      rw [decide_eq_false h1, show (g && (decide (0 = 0) && !false)) = g by simp]
      clear h1
      go_enter Try.func26, Try.ntmps26
      go_wp2
      exact bodyPost_ret (v := cp g a p m e b t) (by simp [results, Try.results26, go_sem]) rfl ⟨rfl, ((Below.refl _ _).alloc (Nat.le_refl _) _).alloc (by simp) _⟩
  · rw [decide_eq_false h0, Bool.false_and, Bool.and_false]
    have hb0 : ((y : Int) != 0) = true := by simp; omega
    clear h0
    go_enter Try.func26, Try.ntmps26
    go_wp2
    exact bodyPost_ret (v := cp false a p m e b t) (by simp [results, Try.results26, go_sem]) rfl ⟨rfl, ((Below.refl _ _).alloc (Nat.le_refl _) _).alloc (by simp) _⟩
end Go.Proofs.Ytbclgkjljgcfbaa.Cp
