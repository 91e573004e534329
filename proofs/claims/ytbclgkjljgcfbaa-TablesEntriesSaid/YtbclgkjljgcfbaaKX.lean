import Derived.Test.YtbclgkjljgcfbaaKU
import Derived.Test.YtbclgkjljgcfbaaKK
import Derived.Test.YtbclgkjljgcfbaaKQ
namespace Go.Proofs.Ytbclgkjljgcfbaa.Cp
open Go.ChangeShapes Go.WideShapes Go.ChangeAt Go.RowKit
set_option linter.unusedVariables false
theorem far7 {w1 : World} {k k' : Nat} (h : k ≠ k') (v0 v1 v2 v3 v4 v5 v6 : Value) (j : Nat) :
    (((((((w1.setCell ⟨k, 0, none⟩ v0).setCell ⟨k, 1, none⟩ v1).setCell ⟨k, 2, none⟩ v2).setCell ⟨k, 3, none⟩ v3).setCell ⟨k, 4, none⟩ v4).setCell ⟨k, 5, none⟩ v5).setCell ⟨k, 6, none⟩ v6).cell? ⟨k', j, none⟩ = w1.cell? ⟨k', j, none⟩ := by
  repeat rw [World.cell?_setCell_far _ _ _ _ h]
theorem setS {w w1 : World} {k k' : Nat} {u0 u1 u2 u3 u4 u5 u6 : Value} (hne : k ≠ k') (hk : w.heap.size ≤ k) (h : Below w.heap.size w w1 ∧ k' < w1.heap.size ∧ w1.cell? ⟨k', 0, none⟩ = some u0 ∧ w1.cell? ⟨k', 1, none⟩ = some u1 ∧ w1.cell? ⟨k', 2, none⟩ = some u2 ∧ w1.cell? ⟨k', 3, none⟩ = some u3 ∧ w1.cell? ⟨k', 4, none⟩ = some u4 ∧ w1.cell? ⟨k', 5, none⟩ = some u5 ∧ w1.cell? ⟨k', 6, none⟩ = some u6) (v0 v1 v2 v3 v4 v5 v6 : Value) :
    Below w.heap.size w (((((((w1.setCell ⟨k, 0, none⟩ v0).setCell ⟨k, 1, none⟩ v1).setCell ⟨k, 2, none⟩ v2).setCell ⟨k, 3, none⟩ v3).setCell ⟨k, 4, none⟩ v4).setCell ⟨k, 5, none⟩ v5).setCell ⟨k, 6, none⟩ v6) ∧ k' < (((((((w1.setCell ⟨k, 0, none⟩ v0).setCell ⟨k, 1, none⟩ v1).setCell ⟨k, 2, none⟩ v2).setCell ⟨k, 3, none⟩ v3).setCell ⟨k, 4, none⟩ v4).setCell ⟨k, 5, none⟩ v5).setCell ⟨k, 6, none⟩ v6).heap.size ∧ (((((((w1.setCell ⟨k, 0, none⟩ v0).setCell ⟨k, 1, none⟩ v1).setCell ⟨k, 2, none⟩ v2).setCell ⟨k, 3, none⟩ v3).setCell ⟨k, 4, none⟩ v4).setCell ⟨k, 5, none⟩ v5).setCell ⟨k, 6, none⟩ v6).cell? ⟨k', 0, none⟩ = some u0 ∧ (((((((w1.setCell ⟨k, 0, none⟩ v0).setCell ⟨k, 1, none⟩ v1).setCell ⟨k, 2, none⟩ v2).setCell ⟨k, 3, none⟩ v3).setCell ⟨k, 4, none⟩ v4).setCell ⟨k, 5, none⟩ v5).setCell ⟨k, 6, none⟩ v6).cell? ⟨k', 1, none⟩ = some u1 ∧ (((((((w1.setCell ⟨k, 0, none⟩ v0).setCell ⟨k, 1, none⟩ v1).setCell ⟨k, 2, none⟩ v2).setCell ⟨k, 3, none⟩ v3).setCell ⟨k, 4, none⟩ v4).setCell ⟨k, 5, none⟩ v5).setCell ⟨k, 6, none⟩ v6).cell? ⟨k', 2, none⟩ = some u2 ∧ (((((((w1.setCell ⟨k, 0, none⟩ v0).setCell ⟨k, 1, none⟩ v1).setCell ⟨k, 2, none⟩ v2).setCell ⟨k, 3, none⟩ v3).setCell ⟨k, 4, none⟩ v4).setCell ⟨k, 5, none⟩ v5).setCell ⟨k, 6, none⟩ v6).cell? ⟨k', 3, none⟩ = some u3 ∧ (((((((w1.setCell ⟨k, 0, none⟩ v0).setCell ⟨k, 1, none⟩ v1).setCell ⟨k, 2, none⟩ v2).setCell ⟨k, 3, none⟩ v3).setCell ⟨k, 4, none⟩ v4).setCell ⟨k, 5, none⟩ v5).setCell ⟨k, 6, none⟩ v6).cell? ⟨k', 4, none⟩ = some u4 ∧ (((((((w1.setCell ⟨k, 0, none⟩ v0).setCell ⟨k, 1, none⟩ v1).setCell ⟨k, 2, none⟩ v2).setCell ⟨k, 3, none⟩ v3).setCell ⟨k, 4, none⟩ v4).setCell ⟨k, 5, none⟩ v5).setCell ⟨k, 6, none⟩ v6).cell? ⟨k', 5, none⟩ = some u5 ∧ (((((((w1.setCell ⟨k, 0, none⟩ v0).setCell ⟨k, 1, none⟩ v1).setCell ⟨k, 2, none⟩ v2).setCell ⟨k, 3, none⟩ v3).setCell ⟨k, 4, none⟩ v4).setCell ⟨k, 5, none⟩ v5).setCell ⟨k, 6, none⟩ v6).cell? ⟨k', 6, none⟩ = some u6 :=
  ⟨set7 h.1 hk _ _ _ _ _ _ _, by simpa using h.2.1, by rw [far7 hne]; exact h.2.2.1, by rw [far7 hne]; exact h.2.2.2.1, by rw [far7 hne]; exact h.2.2.2.2.1, by rw [far7 hne]; exact h.2.2.2.2.2.1, by rw [far7 hne]; exact h.2.2.2.2.2.2.1, by rw [far7 hne]; exact h.2.2.2.2.2.2.2.1, by rw [far7 hne]; exact h.2.2.2.2.2.2.2.2⟩
set_option maxHeartbeats 2000000 in
theorem c19r (g : Bool) (a p y e b t n : Nat) (ha : a < 4294967296) (hy : y < 256) (he : e < 256) (hb : b < 65536) (ht : t < 65536) (hn : n < 4294967296) (w : World) :
    Calls Try.prog 22 #[cp g a p y e b t, .int .u32 (n : Int)] w fun en w' => en = .returned (cp (g && (decide (y = 0) && decide (bs (e % 16) (b % 512) a = bs (e % 16) (b % 512) n))) n p y e b t) ∧ Below w.heap.size w w' := by
  have k2 := c14 e b t a n he hb ht ha hn
  generalize decide (bs (e % 16) (b % 512) a = bs (e % 16) (b % 512) n) = q at *
  have K2 := Lib.hid k2
  clear k2
  by_cases hy0 : y = 0
  · have hyb : ((y : Int) != 0) = false := by simp; omega
    rw [decide_eq_true hy0]
    clear hy0
    cases q
    · rw [show (g && (true && false)) = false by simp]
      go_enter Try.func22, Try.ntmps22
      go_wp2_with fail
      refine (K2.out _).mono ?_
      rintro en w1 ⟨rfl, hb1⟩
      obtain ⟨hc, hf⟩ := bcell hb1
      have hz : w.heap.size + 1 < w1.heap.size := by have := hb1.size; simp at this; omega
      have hB : Below w.heap.size w w1 := (((Below.refl _ _).alloc (Nat.le_refl _) _).alloc (by simp) _).trans (hb1.mono (by simp; omega))
      have u0 : w1.cell? ⟨w.heap.size, 0, none⟩ = some (.bool g) := by rw [hc _ _ (by simp; omega)]; go_simp
      have u1 : w1.cell? ⟨w.heap.size, 1, none⟩ = some (.int .u32 (a : Int)) := by rw [hc _ _ (by simp; omega)]; go_simp
      go_wp2_with fail
      exact bodyPost_ret (v := cp false n p y e b t) (by simp [results, Try.results22, go_sem, hc]) rfl ⟨rfl, set7 ((hB.setCell (p := ⟨w.heap.size, 0, none⟩) (Nat.le_refl _) _).setCell (p := ⟨w.heap.size, 1, none⟩) (Nat.le_refl _) _) (by omega) _ _ _ _ _ _ _⟩
    · rw [show (g && (true && true)) = g by simp]
      go_enter Try.func22, Try.ntmps22
      go_wp2_with fail
      refine (K2.out _).mono ?_
      rintro en w1 ⟨rfl, hb1⟩
      obtain ⟨hc, hf⟩ := bcell hb1
      have hz : w.heap.size + 1 < w1.heap.size := by have := hb1.size; simp at this; omega
      have hB : Below w.heap.size w w1 := (((Below.refl _ _).alloc (Nat.le_refl _) _).alloc (by simp) _).trans (hb1.mono (by simp; omega))
      have u1 : w1.cell? ⟨w.heap.size, 1, none⟩ = some (.int .u32 (a : Int)) := by rw [hc _ _ (by simp; omega)]; go_simp
      go_wp2_with fail
      exact bodyPost_ret (v := cp g n p y e b t) (by simp [results, Try.results22, go_sem, hc]) rfl ⟨rfl, set7 (hB.setCell (p := ⟨w.heap.size, 1, none⟩) (Nat.le_refl _) _) (by omega) _ _ _ _ _ _ _⟩
  · have hyb : ((y : Int) != 0) = true := by simp; omega
    rw [decide_eq_false hy0, Bool.false_and, Bool.and_false]
    clear hy0
    go_enter Try.func22, Try.ntmps22
    go_wp2
    exact bodyPost_ret (v := cp false n p y e b t) (by simp [results, Try.results22, go_sem]) rfl ⟨rfl, ((Below.refl _ _).alloc (Nat.le_refl _) _).alloc (by simp) _⟩
end Go.Proofs.Ytbclgkjljgcfbaa.Cp
