import Derived.Test.YtbclgkjljgcfbaaKE
namespace Go.Proofs.Ytbclgkjljgcfbaa.Cp
open Go.ChangeShapes Go.WideShapes Go.ChangeAt Go.RowKit
set_option linter.unusedVariables false
theorem and8 (p : Nat) (hp : p < 256) : bits .and .u8 (p : Int) 8 = ((p / 8 % 2 * 8 : Nat) : Int) := by
  have h := u8_and_nat p 8 hp (by omega)
  rw [nat_bit3] at h; exact h
theorem and7 (t : Nat) (ht : t < 4294967296) : bits .and .u32 (t : Int) 7 = ((t % 8 : Nat) : Int) := by
  have h := u32_and_nat t 7 ht (by omega)
  rw [nat_mask3] at h; exact h
set_option maxHeartbeats 2000000 in
theorem c28 (g : Bool) (a p y e b t s : Nat) (hy : y < 256) (hs : s < 4294967296) (w : World) :
    Calls Try.prog 35 #[cp g a p y e b t, .int .u32 (s : Int)] w fun en w' => en = .returned (cp (g && (decide (y = 0) && !decide (s % 8 = 0))) a p (s % 8) e b t) ∧ Below w.heap.size w w' := by
  have k1 := c47 g a p y e b t hy
  have k3 := c49 g (decide (y = 0) && !decide (s % 8 = 0)) a p (s % 8) e b t
  have k := and7 s hs
  have hl : s % 8 < 8 := by omega
  generalize s % 8 = m at *
  generalize decide (y = 0) = r at *
  have K1 := Lib.hid k1
  by_cases h0 : m = 0
  · have hb0 : ((m : Int) != 0) = false := by simp; omega
    rw [decide_eq_true h0] at k3 ⊢
    have K3 := Lib.hid k3
    clear k1 k3 h0
    cases r
    all_goals
      go_enter Try.func35, Try.ntmps35
      go_wp2_with fail
      refine (K1.out _).mono ?_
      rintro en w1 ⟨rfl, hb1⟩
      obtain ⟨hc, hf⟩ := bcell hb1
      have hz : w.heap.size + 1 < w1.heap.size := by have := hb1.size; simp at this; omega
      have hB : Below w.heap.size w w1 := (((Below.refl _ _).alloc (Nat.le_refl _) _).alloc (by simp) _).trans (hb1.mono (by simp; omega))
      have q1 : w1.cell? ⟨w.heap.size, 3, none⟩ = some (.int .u8 (y : Int)) := by rw [hc _ _ (by simp; omega)]; go_simp
      clear hb1
      go_wp2_with fail
      refine (K3.out _).mono ?_
      rintro en w2 ⟨rfl, hb2⟩
      obtain ⟨hc2, hf2⟩ := bcell hb2
      have hz2 : w.heap.size + 1 < w2.heap.size := by have := hb2.size; simp at this; omega
      have hB2 : Below w.heap.size w w2 := (hB.setCell (p := ⟨w.heap.size, 3, none⟩) (Nat.le_refl _) _).trans (hb2.mono (by simp; omega))
      clear hb2 hB
      have hr : ∀ o, w2.cell? ⟨w.heap.size + 1, o, none⟩ = w1.cell? ⟨w.heap.size + 1, o, none⟩ := fun o => by rw [hc2 _ _ (by simp; omega)]; go_simp
      go_wp2_with fail
      exact bodyPost_ret (v := cp _ a p m e b t) (by simp [results, Try.results35, go_sem, hr, hc]) rfl ⟨rfl, set7 hB2 (by omega) _ _ _ _ _ _ _⟩
  · have hb0 : ((m : Int) != 0) = true := by simp; omega
    rw [decide_eq_false h0] at k3 ⊢
    have K3 := Lib.hid k3
    clear k1 k3 h0
    cases r
    all_goals
      go_enter Try.func35, Try.ntmps35
      go_wp2_with fail
      refine (K1.out _).mono ?_
      rintro en w1 ⟨rfl, hb1⟩
      obtain ⟨hc, hf⟩ := bcell hb1
      have hz : w.heap.size + 1 < w1.heap.size := by have := hb1.size; simp at this; omega
      have hB : Below w.heap.size w w1 := (((Below.refl _ _).alloc (Nat.le_refl _) _).alloc (by simp) _).trans (hb1.mono (by simp; omega))
      have q1 : w1.cell? ⟨w.heap.size, 3, none⟩ = some (.int .u8 (y : Int)) := by rw [hc _ _ (by simp; omega)]; go_simp
      clear hb1
      go_wp2_with fail
      refine (K3.out _).mono ?_
      rintro en w2 ⟨rfl, hb2⟩
      obtain ⟨hc2, hf2⟩ := bcell hb2
      have hz2 : w.heap.size + 1 < w2.heap.size := by have := hb2.size; simp at this; omega
      have hB2 : Below w.heap.size w w2 := (hB.setCell (p := ⟨w.heap.size, 3, none⟩) (Nat.le_refl _) _).trans (hb2.mono (by simp; omega))
      clear hb2 hB
      have hr : ∀ o, w2.cell? ⟨w.heap.size + 1, o, none⟩ = w1.cell? ⟨w.heap.size + 1, o, none⟩ := fun o => by rw [hc2 _ _ (by simp; omega)]; go_simp
      go_wp2_with fail
      exact bodyPost_ret (v := cp _ a p m e b t) (by simp [results, Try.results35, go_sem, hr, hc]) rfl ⟨rfl, set7 hB2 (by omega) _ _ _ _ _ _ _⟩
end Go.Proofs.Ytbclgkjljgcfbaa.Cp
