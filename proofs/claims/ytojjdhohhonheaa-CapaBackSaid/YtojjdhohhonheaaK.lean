import Derived.Test.YtojjdhohhonheaaJ
namespace Go.Proofs.Ytojjdhohhonheaa
open Go.ChangeShapes Go.WideShapes Go.ChangeAt Go.RowKit
set_option linter.unusedVariables false
set_option maxHeartbeats 4000000 in
theorem sb20 (g r W : Bool) (a p y e b t n E B T R : Nat) (ha : a < 4294967296) (hn : n < 4294967296) (hE : E < 256) (hB0 : B < 65536) (hT : T < 65536)
    (k1 : ∀ w : World, Calls Try.prog 51 #[.int .u64 (a : Int), .int .u64 ((a : Int) + (n : Int))] w fun en w' => en = .returned (.tuple #[.agg #[.int .u8 (E : Int), .int .u16 (B : Int), .int .u16 (T : Int)], .int .i64 (R : Int)]) ∧ Below w.heap.size w w')
    (k2 : ∀ w : World, Calls Try.prog 47 #[cp g a p y e b t] w fun en w' => en = .returned (.bool r) ∧ Below w.heap.size w w')
    (k3 : ∀ w : World, Calls Try.prog 52 #[bnd e b t, .int .u32 (a : Int), .int .u64 (a : Int), .int .u64 (n : Int)] w fun en w' => en = .returned (.bool W) ∧ Below w.heap.size w w') (w : World) :
    Calls Try.prog 20 #[cp g a p y e b t, .int .u32 (n : Int)] w fun en w' => en = .returned (if (r && W && decide (R = 0)) = true then cp g a p y E B T else cp false a p y e b t) ∧ Below w.heap.size w w' := by
  have k4 := c24 g a p y e b t
  have K1 := Lib.hid k1
  have K2 := Lib.hid k2
  have K3 := Lib.hid k3
  have K4 := Lib.hid k4
  clear k1 k2 k3 k4
  cases r
  · rw [if_neg (by simp)]
    go_enter Try.func20, Try.ntmps20
    go_wp2_with fail
    refine (K1.out _).mono ?_
    rintro en w1 ⟨rfl, hb1⟩
    obtain ⟨hc, hf⟩ := bcell hb1
    have hz : w.heap.size + 1 < w1.heap.size := by have := hb1.size; simp at this; omega
    have hz' : w.heap.size < w1.heap.size := by omega
    go_wp2_with fail
    refine (K2.out _).mono ?_
    rintro en w2 ⟨rfl, hb2⟩
    have hW2 := (hb1.alloc hb1.size _).trans (hb2.mono (by have := hb1.size; simp at this ⊢; omega))
    have l0 : w2.cell? ⟨w1.heap.size, 0, none⟩ = some (.int .u8 (E : Int)) := by rw [hb2.cell (p := ⟨w1.heap.size, 0, none⟩) (by simp)]; simp
    have l1 : w2.cell? ⟨w1.heap.size, 1, none⟩ = some (.int .u16 (B : Int)) := by rw [hb2.cell (p := ⟨w1.heap.size, 1, none⟩) (by simp)]; simp
    have l2 : w2.cell? ⟨w1.heap.size, 2, none⟩ = some (.int .u16 (T : Int)) := by rw [hb2.cell (p := ⟨w1.heap.size, 2, none⟩) (by simp)]; simp
    have hz2 : w1.heap.size < w2.heap.size := by have := hb2.size; simp at this; omega
    clear hc hf
    obtain ⟨hc, hf⟩ := bcell hW2
    go_wp2_with fail
    refine (K4.out _).mono ?_
    rintro en w4 ⟨rfl, hb4⟩
    have hW4 := hW2.trans (hb4.mono hW2.size)
    clear hc hf
    obtain ⟨hc, hf⟩ := bcell hW4
    have hB : Below w.heap.size w w4 := (((Below.refl _ _).alloc (Nat.le_refl _) _).alloc (by simp) _).trans (hW4.mono (by simp; omega))
    have hz4 : w.heap.size + 1 < w4.heap.size := by have := hb4.size; omega
    go_wp2_with fail
    exact bodyPost_ret (v := cp false a p y e b t) (by simp [results, Try.results20, go_sem, hc]) rfl ⟨rfl, set7 hB (by omega) _ _ _ _ _ _ _⟩
  cases W
  · rw [if_neg (by simp)]
    go_enter Try.func20, Try.ntmps20
    go_wp2_with fail
    refine (K1.out _).mono ?_
    rintro en w1 ⟨rfl, hb1⟩
    obtain ⟨hc, hf⟩ := bcell hb1
    have hz : w.heap.size + 1 < w1.heap.size := by have := hb1.size; simp at this; omega
    have hz' : w.heap.size < w1.heap.size := by omega
    go_wp2_with fail
    refine (K2.out _).mono ?_
    rintro en w2 ⟨rfl, hb2⟩
    have hW2 := (hb1.alloc hb1.size _).trans (hb2.mono (by have := hb1.size; simp at this ⊢; omega))
    have l0 : w2.cell? ⟨w1.heap.size, 0, none⟩ = some (.int .u8 (E : Int)) := by rw [hb2.cell (p := ⟨w1.heap.size, 0, none⟩) (by simp)]; simp
    have l1 : w2.cell? ⟨w1.heap.size, 1, none⟩ = some (.int .u16 (B : Int)) := by rw [hb2.cell (p := ⟨w1.heap.size, 1, none⟩) (by simp)]; simp
    have l2 : w2.cell? ⟨w1.heap.size, 2, none⟩ = some (.int .u16 (T : Int)) := by rw [hb2.cell (p := ⟨w1.heap.size, 2, none⟩) (by simp)]; simp
    have hz2 : w1.heap.size < w2.heap.size := by have := hb2.size; simp at this; omega
    clear hc hf
    obtain ⟨hc, hf⟩ := bcell hW2
    go_wp2_with fail
    refine (K3.out _).mono ?_
    rintro en w3 ⟨rfl, hb3⟩
    have hW3 := hW2.trans (hb3.mono hW2.size)
    have l0' : w3.cell? ⟨w1.heap.size, 0, none⟩ = some (.int .u8 (E : Int)) := by rw [hb3.cell (p := ⟨w1.heap.size, 0, none⟩) hz2]; exact l0
    have l1' : w3.cell? ⟨w1.heap.size, 1, none⟩ = some (.int .u16 (B : Int)) := by rw [hb3.cell (p := ⟨w1.heap.size, 1, none⟩) hz2]; exact l1
    have l2' : w3.cell? ⟨w1.heap.size, 2, none⟩ = some (.int .u16 (T : Int)) := by rw [hb3.cell (p := ⟨w1.heap.size, 2, none⟩) hz2]; exact l2
    have hz3 : w1.heap.size < w3.heap.size := Nat.lt_of_lt_of_le hz2 hb3.size
    clear hc hf l0 l1 l2
    obtain ⟨hc, hf⟩ := bcell hW3
    go_wp2_with fail
    refine (K4.out _).mono ?_
    rintro en w4 ⟨rfl, hb4⟩
    have hW4 := hW3.trans (hb4.mono hW3.size)
    clear hc hf
    obtain ⟨hc, hf⟩ := bcell hW4
    have hB : Below w.heap.size w w4 := (((Below.refl _ _).alloc (Nat.le_refl _) _).alloc (by simp) _).trans (hW4.mono (by simp; omega))
    have hz4 : w.heap.size + 1 < w4.heap.size := by have := hb4.size; omega
    go_wp2_with fail
    exact bodyPost_ret (v := cp false a p y e b t) (by simp [results, Try.results20, go_sem, hc]) rfl ⟨rfl, set7 hB (by omega) _ _ _ _ _ _ _⟩
  by_cases hR : R = 0
  · subst hR
    rw [if_pos (by simp)]
    go_enter Try.func20, Try.ntmps20
    go_wp2_with fail
    refine (K1.out _).mono ?_
    rintro en w1 ⟨rfl, hb1⟩
    obtain ⟨hc, hf⟩ := bcell hb1
    have hz : w.heap.size + 1 < w1.heap.size := by have := hb1.size; simp at this; omega
    have hz' : w.heap.size < w1.heap.size := by omega
    go_wp2_with fail
    refine (K2.out _).mono ?_
    rintro en w2 ⟨rfl, hb2⟩
    have hW2 := (hb1.alloc hb1.size _).trans (hb2.mono (by have := hb1.size; simp at this ⊢; omega))
    have l0 : w2.cell? ⟨w1.heap.size, 0, none⟩ = some (.int .u8 (E : Int)) := by rw [hb2.cell (p := ⟨w1.heap.size, 0, none⟩) (by simp)]; simp
    have l1 : w2.cell? ⟨w1.heap.size, 1, none⟩ = some (.int .u16 (B : Int)) := by rw [hb2.cell (p := ⟨w1.heap.size, 1, none⟩) (by simp)]; simp
    have l2 : w2.cell? ⟨w1.heap.size, 2, none⟩ = some (.int .u16 (T : Int)) := by rw [hb2.cell (p := ⟨w1.heap.size, 2, none⟩) (by simp)]; simp
    have hz2 : w1.heap.size < w2.heap.size := by have := hb2.size; simp at this; omega
    clear hc hf
    obtain ⟨hc, hf⟩ := bcell hW2
    go_wp2_with fail
    refine (K3.out _).mono ?_
    rintro en w3 ⟨rfl, hb3⟩
    have hW3 := hW2.trans (hb3.mono hW2.size)
    have l0' : w3.cell? ⟨w1.heap.size, 0, none⟩ = some (.int .u8 (E : Int)) := by rw [hb3.cell (p := ⟨w1.heap.size, 0, none⟩) hz2]; exact l0
    have l1' : w3.cell? ⟨w1.heap.size, 1, none⟩ = some (.int .u16 (B : Int)) := by rw [hb3.cell (p := ⟨w1.heap.size, 1, none⟩) hz2]; exact l1
    have l2' : w3.cell? ⟨w1.heap.size, 2, none⟩ = some (.int .u16 (T : Int)) := by rw [hb3.cell (p := ⟨w1.heap.size, 2, none⟩) hz2]; exact l2
    have hz3 : w1.heap.size < w3.heap.size := Nat.lt_of_lt_of_le hz2 hb3.size
    clear hc hf l0 l1 l2
    obtain ⟨hc, hf⟩ := bcell hW3
    have u4 : w3.cell? ⟨w.heap.size, 4, none⟩ = some (.int .u8 (e : Int)) := by rw [hc _ _ (by simp; omega)]; go_simp
    have u5 : w3.cell? ⟨w.heap.size, 5, none⟩ = some (.int .u16 (b : Int)) := by rw [hc _ _ (by simp; omega)]; go_simp
    have u6 : w3.cell? ⟨w.heap.size, 6, none⟩ = some (.int .u16 (t : Int)) := by rw [hc _ _ (by simp; omega)]; go_simp
    have hB : Below w.heap.size w w3 := (((Below.refl _ _).alloc (Nat.le_refl _) _).alloc (by simp) _).trans (hW3.mono (by simp; omega))
    go_wp2_with fail
    exact bodyPost_ret (v := cp g a p y E B T) (by simp [results, Try.results20, go_sem, hc]) rfl ⟨rfl, set7 (((hB.setCell (p := ⟨w.heap.size, 4, none⟩) (Nat.le_refl _) _).setCell (p := ⟨w.heap.size, 5, none⟩) (Nat.le_refl _) _).setCell (p := ⟨w.heap.size, 6, none⟩) (Nat.le_refl _) _) (by omega) _ _ _ _ _ _ _⟩
  · rw [if_neg (by simpa using hR)]
    have hRb : ((R : Int) != 0) = true := by simp; omega
    clear hR
    go_enter Try.func20, Try.ntmps20
    go_wp2_with fail
    refine (K1.out _).mono ?_
    rintro en w1 ⟨rfl, hb1⟩
    obtain ⟨hc, hf⟩ := bcell hb1
    have hz : w.heap.size + 1 < w1.heap.size := by have := hb1.size; simp at this; omega
    have hz' : w.heap.size < w1.heap.size := by omega
    go_wp2_with fail
    refine (K2.out _).mono ?_
    rintro en w2 ⟨rfl, hb2⟩
    have hW2 := (hb1.alloc hb1.size _).trans (hb2.mono (by have := hb1.size; simp at this ⊢; omega))
    have l0 : w2.cell? ⟨w1.heap.size, 0, none⟩ = some (.int .u8 (E : Int)) := by rw [hb2.cell (p := ⟨w1.heap.size, 0, none⟩) (by simp)]; simp
    have l1 : w2.cell? ⟨w1.heap.size, 1, none⟩ = some (.int .u16 (B : Int)) := by rw [hb2.cell (p := ⟨w1.heap.size, 1, none⟩) (by simp)]; simp
    have l2 : w2.cell? ⟨w1.heap.size, 2, none⟩ = some (.int .u16 (T : Int)) := by rw [hb2.cell (p := ⟨w1.heap.size, 2, none⟩) (by simp)]; simp
    have hz2 : w1.heap.size < w2.heap.size := by have := hb2.size; simp at this; omega
    clear hc hf
    obtain ⟨hc, hf⟩ := bcell hW2
    go_wp2_with fail
    refine (K3.out _).mono ?_
    rintro en w3 ⟨rfl, hb3⟩
    have hW3 := hW2.trans (hb3.mono hW2.size)
    have l0' : w3.cell? ⟨w1.heap.size, 0, none⟩ = some (.int .u8 (E : Int)) := by rw [hb3.cell (p := ⟨w1.heap.size, 0, none⟩) hz2]; exact l0
    have l1' : w3.cell? ⟨w1.heap.size, 1, none⟩ = some (.int .u16 (B : Int)) := by rw [hb3.cell (p := ⟨w1.heap.size, 1, none⟩) hz2]; exact l1
    have l2' : w3.cell? ⟨w1.heap.size, 2, none⟩ = some (.int .u16 (T : Int)) := by rw [hb3.cell (p := ⟨w1.heap.size, 2, none⟩) hz2]; exact l2
    have hz3 : w1.heap.size < w3.heap.size := Nat.lt_of_lt_of_le hz2 hb3.size
    clear hc hf l0 l1 l2
    obtain ⟨hc, hf⟩ := bcell hW3
    go_wp2_with fail
    refine (K4.out _).mono ?_
    rintro en w4 ⟨rfl, hb4⟩
    have hW4 := hW3.trans (hb4.mono hW3.size)
    clear hc hf
    obtain ⟨hc, hf⟩ := bcell hW4
    have hB : Below w.heap.size w w4 := (((Below.refl _ _).alloc (Nat.le_refl _) _).alloc (by simp) _).trans (hW4.mono (by simp; omega))
    have hz4 : w.heap.size + 1 < w4.heap.size := by have := hb4.size; omega
    go_wp2_with fail
    exact bodyPost_ret (v := cp false a p y e b t) (by simp [results, Try.results20, go_sem, hc]) rfl ⟨rfl, set7 hB (by omega) _ _ _ _ _ _ _⟩
def sbV (g : Bool) (a p y e b t n : Nat) : Value := if (decide (y = 0) && wi (e % 16) (b % 512) (t % 512) a a n && decide ((ex a (a + n)).2.2.2 = 0)) = true then cp g a p y (ex a (a + n)).1 (ex a (a + n)).2.1 (ex a (a + n)).2.2.1 else cp false a p y e b t
theorem ex_lt (b t : Nat) : (ex b t).1 < 256 ∧ (ex b t).2.1 < 65536 ∧ (ex b t).2.2.1 < 65536 ∧ (ex b t).2.2.2 < 256 := by
  rcases ex_err b t with ⟨h1, h2, h3, h4, h5, h6⟩ | ⟨h1, h2, h3, h4⟩ <;> omega
theorem c20s (g : Bool) (a p y e b t n : Nat) (ha : a < 4294967296) (hy : y < 256) (he : e < 256) (hb : b < 65536) (ht : t < 65536) (hn : n < 4294967296) (w : World) :
    Calls Try.prog 20 #[cp g a p y e b t, .int .u32 (n : Int)] w fun en w' => en = .returned (sbV g a p y e b t n) ∧ Below w.heap.size w w' := by
  obtain ⟨h1, h2, h3, h4⟩ := ex_lt a (a + n)
  exact sb20 g _ _ a p y e b t n _ _ _ _ ha hn h1 h2 h3 (fun w => c18 a (a + n) (by omega) (by omega) w) (fun w => c47 g a p y e b t hy w) (fun w => c15 e b t a a n he hb ht ha (by omega) (by omega) w) w
end Go.Proofs.Ytojjdhohhonheaa
