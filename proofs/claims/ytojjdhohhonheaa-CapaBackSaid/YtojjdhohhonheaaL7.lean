import Derived.Test.YtojjdhohhonheaaF
import Derived.Test.YtojjdhohhonheaaX
import Derived.Test.YtojjdhohhonheaaL7a
import Derived.Test.YtojjdhohhonheaaL7m
namespace Go.Proofs.Ytojjdhohhonheaa
open Go.ChangeShapes Go.WideShapes Go.ChangeAt Go.RowKit
set_option linter.unusedVariables false
theorem and_sub (p s : Nat) (hp : p < 256) (hm : p &&& s < 256) : (p &&& s) &&& (255 - p) = 0 := by
  rw [pmask _ hm _ hp]
  apply Nat.eq_of_testBit_eq
  intro i
  simp only [Nat.testBit_and]
  cases p.testBit i <;> cases s.testBit i <;> rfl
theorem sub34 {a1 p1 y1 e1 b1 t1 a p y e b t : Nat} (ha1 : a1 < 4294967296) (hp1 : p1 < 256) (he1 : e1 < 256) (hb1 : b1 < 65536) (ht1 : t1 < 65536) (ha : a < 4294967296) (hp : p < 256) (he : e < 256) (hb : b < 65536) (ht : t < 65536)
    (h1 : p1 &&& (255 - p) = 0) (h2 : bs (e % 16) (b % 512) a ≤ bs (e1 % 16) (b1 % 512) a1) (h3 : tp e1 b1 t1 a1 ≤ tp e b t a) (w : World) :
    Calls Try.prog 34 #[cp true a1 p1 y1 e1 b1 t1, cp true a p y e b t] w fun en w' => en = .returned (.bool true) ∧ Below w.heap.size w w' := by
  have h := c34 true a1 p1 y1 e1 b1 t1 true a p y e b t ha1 hp1 he1 hb1 ht1 ha hp he hb ht w
  rw [subs_of h1 h2 h3] at h
  exact h
theorem y0 {y : Nat} (h : y = 0) : ((y : Int) != 0) = false := by simp [h]
theorem y1 {y : Nat} (h : ¬ y = 0) : ((y : Int) != 0) = true := by simp; omega
theorem law7 (g : Bool) (a p y e b t n l s q : Nat) (ha : a < 4294967296) (hp : p < 256) (hy : y < 256) (he : e < 256) (hb : b < 65536) (ht : t < 65536) (hn : n < 4294967296) (hl : l < 4294967296) (hs : s < 4294967296) (hq : q < 4294967296) (w : World) :
    Calls Try.prog 7 #[cp g a p y e b t, .int .u32 (n : Int), .int .u32 (l : Int), .int .u32 (s : Int), .int .u32 (q : Int)] w fun en w' => en = .returned (.bool true) ∧ Below w.heap.size w w' := by
  obtain ⟨gb, eb, bb, tb, hsb, he', hb', ht', hF1⟩ := sbForm2 g a p y e b t l he hb ht
  have k2 := c20s g a p y e b t l ha hy he hb ht hl
  rw [hsb] at k2
  have hm : p &&& (s % 256) < 256 := by have := Nat.and_le_left (n := p) (m := s % 256); omega
  refine less7 g a p y e b t _ gb _ _ _ _ _ eb bb tb _ n l s q w (c18b g a p y e b t n ha hy he hb ht hn) k2 (c22 g a p y e b t s hp hy hs) (c26 g a p y e b t hp hy) (c28 g a p y e b t q hy hq) (c24 g a p y e b t) (c30 g a p y e b t hy) ?_ ?_ ?_ ?_ ?_ ?_
  · intro h
    simp only [Bool.and_eq_true, decide_eq_true_eq] at h
    obtain ⟨h1, h2, h3⟩ := h
    exact ⟨h1, y0 h2, sub34 hn hp he hb ht ha hp he hb ht (pself p hp) (Nat.le_of_eq h3) (by unfold tp; rw [h3]; exact Nat.le_refl _)⟩
  · intro h
    obtain ⟨h1, h2, h3, h4⟩ := hF1 h
    exact ⟨h1, y0 h2, sub34 ha hp he' hb' ht' ha hp he hb ht (pself p hp) h3 h4⟩
  · intro h
    simp only [Bool.and_eq_true, decide_eq_true_eq] at h
    obtain ⟨h1, h2⟩ := h
    exact ⟨h1, y0 h2, sub34 ha hm he hb ht ha hp he hb ht (and_sub p _ hp hm) (Nat.le_refl _) (Nat.le_refl _)⟩
  · intro h
    simp only [Bool.and_eq_true, decide_eq_true_eq] at h
    obtain ⟨h1, h2, _⟩ := h
    exact ⟨h1, y0 h2, sub34 ha hp he hb ht ha hp he hb ht (pself p hp) (Nat.le_refl _) (Nat.le_refl _)⟩
  · intro h
    simp only [Bool.and_eq_true, decide_eq_true_eq] at h
    obtain ⟨h1, h2, _⟩ := h
    exact ⟨h1, y0 h2, sub34 ha hp he hb ht ha hp he hb ht (pself p hp) (Nat.le_refl _) (Nat.le_refl _)⟩
  · intro h
    simp only [Bool.and_eq_true, Bool.not_eq_true', decide_eq_false_iff_not] at h
    exact ⟨h.1, y1 h.2⟩
end Go.Proofs.Ytojjdhohhonheaa
