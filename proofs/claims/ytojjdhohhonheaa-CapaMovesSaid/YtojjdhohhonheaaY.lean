import Derived.Test.YtojjdhohhonheaaX
namespace Go.Proofs.Ytojjdhohhonheaa
open Go.ChangeShapes Go.WideShapes Go.ChangeAt Go.RowKit
set_option linter.unusedVariables false
set_option maxHeartbeats 4000000 in
theorem sbA (g W : Bool) (a p y e b t n E B T R : Nat) (ha : a < 4294967296) (hy : y < 256) (hn : n < 4294967296) (hE : E < 256) (hB0 : B < 65536) (hT : T < 65536)
    (k1 : ∀ w : World, Calls Try.prog 53 #[.int .u64 (a : Int), .int .u64 ((a : Int) + (n : Int))] w fun en w' => en = .returned (.tuple #[.agg #[.int .u8 (E : Int), .int .u16 (B : Int), .int .u16 (T : Int)], .int .i64 (R : Int)]) ∧ Below w.heap.size w w')
    (k3 : ∀ w : World, Calls Try.prog 54 #[bnd e b t, .int .u32 (a : Int), .int .u64 (a : Int), .int .u64 (n : Int)] w fun en w' => en = .returned (.bool W) ∧ Below w.heap.size w w') (hy0 : ¬ y = 0) (w : World) : Calls Try.prog 21 #[cp g a p y e b t, .int .u32 (n : Int)] w fun en w' => en = .returned (cp false a p y e b t) ∧ Below w.heap.size w w' := by
  have K1 := Lib.hid k1
  have K3 := Lib.hid k3
  clear k1 k3
  have hyb : ((y : Int) != 0) = true := by simp; omega
  clear hy0
  go_enter Try.func21, Try.ntmps21
  go_wp2_with fail
  refine (K1.out _).mono ?_
  rintro en w1 ⟨rfl, hb1⟩
  obtain ⟨hc, hf⟩ := bcell hb1
  have hz : w.heap.size + 1 < w1.heap.size := by have := hb1.size; simp at this; omega
  have hz' : w.heap.size < w1.heap.size := by omega
  have hB : Below w.heap.size w w1 := (((Below.refl _ _).alloc (Nat.le_refl _) _).alloc (by simp) _).trans (hb1.mono (by simp; omega))
  have u0 : w1.cell? ⟨w.heap.size, 0, none⟩ = some (.bool g) := by rw [hc _ _ (by simp; omega)]; go_simp
  go_wp2_with fail
  exact bodyPost_ret (v := cp false a p y e b t) (by simp [results, Try.results21, go_sem, cellAlloc, hz, hc]) rfl ⟨rfl, set7a (hB.setCell (p := ⟨w.heap.size, 0, none⟩) (Nat.le_refl _) _) (by omega) _ _ _ _ _ _ _ _⟩
set_option maxHeartbeats 4000000 in
theorem sbB (g W : Bool) (a p y e b t n E B T R : Nat) (ha : a < 4294967296) (hy : y < 256) (hn : n < 4294967296) (hE : E < 256) (hB0 : B < 65536) (hT : T < 65536)
    (k1 : ∀ w : World, Calls Try.prog 53 #[.int .u64 (a : Int), .int .u64 ((a : Int) + (n : Int))] w fun en w' => en = .returned (.tuple #[.agg #[.int .u8 (E : Int), .int .u16 (B : Int), .int .u16 (T : Int)], .int .i64 (R : Int)]) ∧ Below w.heap.size w w')
    (k3 : ∀ w : World, Calls Try.prog 54 #[bnd e b t, .int .u32 (a : Int), .int .u64 (a : Int), .int .u64 (n : Int)] w fun en w' => en = .returned (.bool W) ∧ Below w.heap.size w w') (hR : ¬ R = 0) (w : World) : Calls Try.prog 21 #[cp g a p 0 e b t, .int .u32 (n : Int)] w fun en w' => en = .returned (cp false a p 0 e b t) ∧ Below w.heap.size w w' := by
  have K1 := Lib.hid k1
  have K3 := Lib.hid k3
  clear k1 k3
  have hyb : ((R : Int) != 0) = true := by simp; omega
  clear hR
  go_enter Try.func21, Try.ntmps21
  go_wp2_with fail
  refine (K1.out _).mono ?_
  rintro en w1 ⟨rfl, hb1⟩
  obtain ⟨hc, hf⟩ := bcell hb1
  have hz : w.heap.size + 1 < w1.heap.size := by have := hb1.size; simp at this; omega
  have hz' : w.heap.size < w1.heap.size := by omega
  have hB : Below w.heap.size w w1 := (((Below.refl _ _).alloc (Nat.le_refl _) _).alloc (by simp) _).trans (hb1.mono (by simp; omega))
  have u0 : w1.cell? ⟨w.heap.size, 0, none⟩ = some (.bool g) := by rw [hc _ _ (by simp; omega)]; go_simp
  go_wp2_with fail
  exact bodyPost_ret (v := cp false a p 0 e b t) (by simp [results, Try.results21, go_sem, cellAlloc, hz, hc]) rfl ⟨rfl, set7a (hB.setCell (p := ⟨w.heap.size, 0, none⟩) (Nat.le_refl _) _) (by omega) _ _ _ _ _ _ _ _⟩
set_option maxHeartbeats 4000000 in
theorem sbC (g W : Bool) (a p y e b t n E B T R : Nat) (ha : a < 4294967296) (hy : y < 256) (hn : n < 4294967296) (hE : E < 256) (hB0 : B < 65536) (hT : T < 65536)
    (k1 : ∀ w : World, Calls Try.prog 53 #[.int .u64 (a : Int), .int .u64 ((a : Int) + (n : Int))] w fun en w' => en = .returned (.tuple #[.agg #[.int .u8 (E : Int), .int .u16 (B : Int), .int .u16 (T : Int)], .int .i64 (R : Int)]) ∧ Below w.heap.size w w')
    (k3 : ∀ w : World, Calls Try.prog 54 #[bnd e b t, .int .u32 (a : Int), .int .u64 (a : Int), .int .u64 (n : Int)] w fun en w' => en = .returned (.bool W) ∧ Below w.heap.size w w') (hR : R = 0) (w : World) : Calls Try.prog 21 #[cp g a p 0 e b t, .int .u32 (n : Int)] w fun en w' => en = .returned (if W = true then cp g a p 0 E B T else cp false a p 0 e b t) ∧ Below w.heap.size w w' := by
  have K1 := Lib.hid k1
  have K3 := Lib.hid k3
  clear k1 k3
  subst hR
  cases W
  · rw [if_neg (by simp)]
    go_enter Try.func21, Try.ntmps21
    go_wp2_with fail
    refine (K1.out _).mono ?_
    rintro en w1 ⟨rfl, hb1⟩
    obtain ⟨hc, hf⟩ := bcell hb1
    have hz : w.heap.size + 1 < w1.heap.size := by have := hb1.size; simp at this; omega
    have hz' : w.heap.size < w1.heap.size := by omega
    have hB : Below w.heap.size w w1 := (((Below.refl _ _).alloc (Nat.le_refl _) _).alloc (by simp) _).trans (hb1.mono (by simp; omega))
    have u0 : w1.cell? ⟨w.heap.size, 0, none⟩ = some (.bool g) := by rw [hc _ _ (by simp; omega)]; go_simp
    go_wp2_with fail
    refine (K3.out _).mono ?_
    rintro en w3 ⟨rfl, hb3⟩
    have hW3 := (hb1.alloc hb1.size _).trans (hb3.mono (by have := hb1.size; simp at this ⊢; omega))
    have l0 : w3.cell? ⟨w1.heap.size, 0, none⟩ = some (.int .u8 (E : Int)) := by rw [hb3.cell (p := ⟨w1.heap.size, 0, none⟩) (by simp)]; simp
    have l1 : w3.cell? ⟨w1.heap.size, 1, none⟩ = some (.int .u16 (B : Int)) := by rw [hb3.cell (p := ⟨w1.heap.size, 1, none⟩) (by simp)]; simp
    have l2 : w3.cell? ⟨w1.heap.size, 2, none⟩ = some (.int .u16 (T : Int)) := by rw [hb3.cell (p := ⟨w1.heap.size, 2, none⟩) (by simp)]; simp
    have hz3 : w1.heap.size < w3.heap.size := by have := hb3.size; simp at this; omega
    clear hc hf u0
    obtain ⟨hc, hf⟩ := bcell hW3
    have hB3 : Below w.heap.size w w3 := (((Below.refl _ _).alloc (Nat.le_refl _) _).alloc (by simp) _).trans (hW3.mono (by simp; omega))
    have u0 : w3.cell? ⟨w.heap.size, 0, none⟩ = some (.bool g) := by rw [hc _ _ (by simp; omega)]; go_simp
    have u4 : w3.cell? ⟨w.heap.size, 4, none⟩ = some (.int .u8 (e : Int)) := by rw [hc _ _ (by simp; omega)]; go_simp
    have u5 : w3.cell? ⟨w.heap.size, 5, none⟩ = some (.int .u16 (b : Int)) := by rw [hc _ _ (by simp; omega)]; go_simp
    have u6 : w3.cell? ⟨w.heap.size, 6, none⟩ = some (.int .u16 (t : Int)) := by rw [hc _ _ (by simp; omega)]; go_simp
    have hz4 : w.heap.size + 1 < w3.heap.size := by omega
    go_wp2_with fail
    exact bodyPost_ret (v := cp false a p 0 e b t) (by simp [results, Try.results21, go_sem, hc]) rfl ⟨rfl, set7 (hB3.setCell (p := ⟨w.heap.size, 0, none⟩) (Nat.le_refl _) _) (by omega) _ _ _ _ _ _ _⟩
  · rw [if_pos rfl]
    go_enter Try.func21, Try.ntmps21
    go_wp2_with fail
    refine (K1.out _).mono ?_
    rintro en w1 ⟨rfl, hb1⟩
    obtain ⟨hc, hf⟩ := bcell hb1
    have hz : w.heap.size + 1 < w1.heap.size := by have := hb1.size; simp at this; omega
    have hz' : w.heap.size < w1.heap.size := by omega
    have hB : Below w.heap.size w w1 := (((Below.refl _ _).alloc (Nat.le_refl _) _).alloc (by simp) _).trans (hb1.mono (by simp; omega))
    have u0 : w1.cell? ⟨w.heap.size, 0, none⟩ = some (.bool g) := by rw [hc _ _ (by simp; omega)]; go_simp
    go_wp2_with fail
    refine (K3.out _).mono ?_
    rintro en w3 ⟨rfl, hb3⟩
    have hW3 := (hb1.alloc hb1.size _).trans (hb3.mono (by have := hb1.size; simp at this ⊢; omega))
    have l0 : w3.cell? ⟨w1.heap.size, 0, none⟩ = some (.int .u8 (E : Int)) := by rw [hb3.cell (p := ⟨w1.heap.size, 0, none⟩) (by simp)]; simp
    have l1 : w3.cell? ⟨w1.heap.size, 1, none⟩ = some (.int .u16 (B : Int)) := by rw [hb3.cell (p := ⟨w1.heap.size, 1, none⟩) (by simp)]; simp
    have l2 : w3.cell? ⟨w1.heap.size, 2, none⟩ = some (.int .u16 (T : Int)) := by rw [hb3.cell (p := ⟨w1.heap.size, 2, none⟩) (by simp)]; simp
    have hz3 : w1.heap.size < w3.heap.size := by have := hb3.size; simp at this; omega
    clear hc hf u0
    obtain ⟨hc, hf⟩ := bcell hW3
    have hB3 : Below w.heap.size w w3 := (((Below.refl _ _).alloc (Nat.le_refl _) _).alloc (by simp) _).trans (hW3.mono (by simp; omega))
    have u0 : w3.cell? ⟨w.heap.size, 0, none⟩ = some (.bool g) := by rw [hc _ _ (by simp; omega)]; go_simp
    have u4 : w3.cell? ⟨w.heap.size, 4, none⟩ = some (.int .u8 (e : Int)) := by rw [hc _ _ (by simp; omega)]; go_simp
    have u5 : w3.cell? ⟨w.heap.size, 5, none⟩ = some (.int .u16 (b : Int)) := by rw [hc _ _ (by simp; omega)]; go_simp
    have u6 : w3.cell? ⟨w.heap.size, 6, none⟩ = some (.int .u16 (t : Int)) := by rw [hc _ _ (by simp; omega)]; go_simp
    have hz4 : w.heap.size + 1 < w3.heap.size := by omega
    go_wp2_with fail
    exact bodyPost_ret (v := cp g a p 0 E B T) (by simp [results, Try.results21, go_sem, hc]) rfl ⟨rfl, set7 (((hB3.setCell (p := ⟨w.heap.size, 4, none⟩) (Nat.le_refl _) _).setCell (p := ⟨w.heap.size, 5, none⟩) (Nat.le_refl _) _).setCell (p := ⟨w.heap.size, 6, none⟩) (Nat.le_refl _) _) (by omega) _ _ _ _ _ _ _⟩
theorem c21r (g : Bool) (a p y e b t n : Nat) (ha : a < 4294967296) (hy : y < 256) (he : e < 256) (hb : b < 65536) (ht : t < 65536) (hn : n < 4294967296) (w : World) :
    Calls Try.prog 21 #[cp g a p y e b t, .int .u32 (n : Int)] w fun en w' => en = .returned (sbV g a p y e b t n) ∧ Below w.heap.size w w' := by
  obtain ⟨h1, h2, h3, h4⟩ := ex_lt a (a + n)
  have k1 : ∀ w : World, _ := fun w => c19 a (a + n) (by omega) (by omega) w
  have k3 : ∀ w : World, _ := fun w => c16 e b t a a n he hb ht ha (by omega) (by omega) w
  unfold sbV
  by_cases hy0 : y = 0
  · subst hy0
    by_cases hR : (ex a (a + n)).2.2.2 = 0
    · rw [decide_eq_true hR, Bool.and_true, show decide (0 = 0) = true from rfl, Bool.true_and]
      exact sbC g _ a p 0 e b t n _ _ _ _ ha hy hn h1 h2 h3 k1 k3 hR w
    · rw [decide_eq_false hR, Bool.and_false, if_neg (by simp)]
      exact sbB g _ a p 0 e b t n _ _ _ _ ha hy hn h1 h2 h3 k1 k3 hR w
  · rw [decide_eq_false hy0, Bool.false_and, Bool.false_and, if_neg (by simp)]
    exact sbA g _ a p y e b t n _ _ _ _ ha hy hn h1 h2 h3 k1 k3 hy0 w
end Go.Proofs.Ytojjdhohhonheaa
