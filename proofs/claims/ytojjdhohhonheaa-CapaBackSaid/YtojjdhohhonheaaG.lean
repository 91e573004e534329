import Derived.Test.YtojjdhohhonheaaE
namespace Go.Proofs.Ytojjdhohhonheaa
open Go.ChangeShapes Go.WideShapes Go.ChangeAt Go.RowKit
set_option linter.unusedVariables false
set_option maxHeartbeats 1000000 in
theorem c27 (g : Bool) (a p y e b t : Nat) (hp : p < 256) (hy : y < 256) (w : World) :
    Calls Try.prog 27 #[cp g a p y e b t] w fun en w' => en = .returned (cp (g && (decide (y = 0) && decide (p / 8 % 2 = 1))) a p 1 e b t) ∧ Below w.heap.size w w' := by
  have k : (p : Int) / 8 % 2 = ((p / 8 % 2 : Nat) : Int) := rfl
  have hm : p / 8 % 2 = 0 ∨ p / 8 % 2 = 1 := by omega
  generalize p / 8 % 2 = m at *
  by_cases h0 : y = 0
  · subst h0
    rcases hm with rfl | rfl
    · rw [show (g && (decide (0 = 0) && decide (0 = 1))) = false by simp]
      go_enter Try.func27, Try.ntmps27
      go_wp2
      exact bodyPost_ret (v := cp false a p 1 e b t) (by simp [results, Try.results27, go_sem]) rfl ⟨rfl, ((Below.refl _ _).alloc (Nat.le_refl _) _).alloc (by simp) _⟩
    · rw [show (g && (decide (0 = 0) && decide (1 = 1))) = g by simp]
      go_enter Try.func27, Try.ntmps27
      go_wp2
      exact bodyPost_ret (v := cp g a p 1 e b t) (by simp [results, Try.results27, go_sem]) rfl ⟨rfl, ((Below.refl _ _).alloc (Nat.le_refl _) _).alloc (by simp) _⟩
  · rw [decide_eq_false h0, Bool.false_and, Bool.and_false]
    have hb0 : ((y : Int) != 0) = true := by simp; omega
    clear h0
    go_enter Try.func27, Try.ntmps27
    go_wp2
    exact bodyPost_ret (v := cp false a p 1 e b t) (by simp [results, Try.results27, go_sem]) rfl ⟨rfl, ((Below.refl _ _).alloc (Nat.le_refl _) _).alloc (by simp) _⟩
set_option maxHeartbeats 1000000 in
theorem c29 (g : Bool) (a p y e b t s : Nat) (hy : y < 256) (hs : s < 4294967296) (w : World) :
    Calls Try.prog 29 #[cp g a p y e b t, .int .u32 (s : Int)] w fun en w' => en = .returned (cp (g && (decide (y = 0) && !decide (s % 8 = 0))) a p (s % 8) e b t) ∧ Below w.heap.size w w' := by
  have k : (s : Int) % 8 = ((s % 8 : Nat) : Int) := rfl
  have hl : s % 8 < 8 := by omega
  generalize s % 8 = m at *
  by_cases h0 : y = 0
  · subst h0
    by_cases h1 : m = 0
    · have hb0 : ((m : Int) == 0) = true := by simp; omega
      rw [decide_eq_true h1, show (g && (decide (0 = 0) && !true)) = false by simp]
      clear h1
      go_enter Try.func29, Try.ntmps29
      go_wp2
      exact bodyPost_ret (v := cp false a p m e b t) (by simp [results, Try.results29, go_sem]) rfl ⟨rfl, ((Below.refl _ _).alloc (Nat.le_refl _) _).alloc (by simp) _⟩
    · have hb0 : ((m : Int) == 0) = false := by simp; omega
      rw [decide_eq_false h1, show (g && (decide (0 = 0) && !false)) = g by simp]
      clear h1
      go_enter Try.func29, Try.ntmps29
      go_wp2
      exact bodyPost_ret (v := cp g a p m e b t) (by simp [results, Try.results29, go_sem]) rfl ⟨rfl, ((Below.refl _ _).alloc (Nat.le_refl _) _).alloc (by simp) _⟩
  · rw [decide_eq_false h0, Bool.false_and, Bool.and_false]
    have hb0 : ((y : Int) != 0) = true := by simp; omega
    clear h0
    go_enter Try.func29, Try.ntmps29
    go_wp2
    exact bodyPost_ret (v := cp false a p m e b t) (by simp [results, Try.results29, go_sem]) rfl ⟨rfl, ((Below.refl _ _).alloc (Nat.le_refl _) _).alloc (by simp) _⟩
set_option maxHeartbeats 1000000 in
theorem c31 (g : Bool) (a p y e b t : Nat) (hy : y < 256) (w : World) :
    Calls Try.prog 31 #[cp g a p y e b t] w fun en w' => en = .returned (cp (g && !decide (y = 0)) a p 0 e b t) ∧ Below w.heap.size w w' := by
  by_cases h0 : y = 0
  · subst h0
    rw [show (g && !decide (0 = 0)) = false by simp]
    go_enter Try.func31, Try.ntmps31
    go_wp2
    exact bodyPost_ret (v := cp false a p 0 e b t) (by simp [results, Try.results31, go_sem]) rfl ⟨rfl, ((Below.refl _ _).alloc (Nat.le_refl _) _).alloc (by simp) _⟩
  · rw [decide_eq_false h0, show (g && !false) = g by simp]
    have hb0 : ((y : Int) == 0) = false := by simp; omega
    clear h0
    go_enter Try.func31, Try.ntmps31
    go_wp2
    exact bodyPost_ret (v := cp g a p 0 e b t) (by simp [results, Try.results31, go_sem]) rfl ⟨rfl, ((Below.refl _ _).alloc (Nat.le_refl _) _).alloc (by simp) _⟩
end Go.Proofs.Ytojjdhohhonheaa
