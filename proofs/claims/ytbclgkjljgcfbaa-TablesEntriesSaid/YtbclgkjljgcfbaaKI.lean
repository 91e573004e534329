import Derived.Test.YtbclgkjljgcfbaaKH
namespace Go.Proofs.Ytbclgkjljgcfbaa.Cp
open Go.ChangeShapes Go.WideShapes Go.ChangeAt Go.RowKit
set_option linter.unusedVariables false
theorem cellAlloc {X : World} {k o : Nat} {ob : Obj} (h : k < X.heap.size) : (X.alloc ob).cell? ⟨k, o, none⟩ = X.cell? ⟨k, o, none⟩ :=
  ((Below.refl X.heap.size X).alloc (Nat.le_refl _) ob).cell (p := ⟨k, o, none⟩) h
theorem set7a {w w1 : World} {k : Nat} (h : Below w.heap.size w w1) (hk : w.heap.size ≤ k) (v0 v1 v2 v3 v4 v5 v6 : Value) (o : Obj) :
    Below w.heap.size w ((((((((w1.setCell ⟨k, 0, none⟩ v0).setCell ⟨k, 1, none⟩ v1).setCell ⟨k, 2, none⟩ v2).setCell ⟨k, 3, none⟩ v3).setCell ⟨k, 4, none⟩ v4).setCell ⟨k, 5, none⟩ v5).setCell ⟨k, 6, none⟩ v6).alloc o) :=
  (set7 h hk v0 v1 v2 v3 v4 v5 v6).alloc (set7 h hk v0 v1 v2 v3 v4 v5 v6).size o
def rootV (bs' tp pm : Nat) : Value := if (ex bs' tp).2.2.2 = 0 then .tuple #[cp true bs' pm 0 (ex bs' tp).1 (ex bs' tp).2.1 (ex bs' tp).2.2.1, .int .i64 0] else .tuple #[cp false 0 0 0 0 0 0, .int .i64 ((ex bs' tp).2.2.2 : Int)]
theorem ex_err (b t : Nat) : ((ex b t).2.2.2 = 0 ∧ b ≤ t ∧ t ≤ 65536 ∧ (ex b t).1 ≤ 8 ∧ (ex b t).2.1 < 512 ∧ (ex b t).2.2.1 < 512) ∨ ((ex b t).1 = 0 ∧ (ex b t).2.1 = 0 ∧ (ex b t).2.2.1 = 0 ∧ ((ex b t).2.2.2 = 2 ∨ (ex b t).2.2.2 = 5)) := by
  have hL : ∀ k, (exL b t k).2.2.2 = 0 ∧ (exL b t k).1 ≤ 8 ∧ (exL b t k).2.1 < 512 ∧ (exL b t k).2.2.1 < 512 ∨ exL b t k = (0, 0, 0, 5) := by
    intro k
    induction k with
    | zero => exact Or.inr rfl
    | succ k ih =>
      rw [exL]
      split
      · exact Or.inl ⟨rfl, by show 8 - k ≤ 8; omega, by show b / _ % 512 < 512; omega, by show t / _ % 512 < 512; omega⟩
      · exact ih
  unfold ex
  split
  · exact Or.inr ⟨rfl, rfl, rfl, Or.inl rfl⟩
  · rcases hL 9 with ⟨h1, h2, h3, h4⟩ | h
    · exact Or.inl ⟨h1, by omega, by omega, h2, h3, h4⟩
    · rw [h]; exact Or.inr ⟨rfl, rfl, rfl, Or.inr rfl⟩
set_option maxHeartbeats 2000000 in
theorem c32 (b t m : Nat) (hb : b < 18446744073709551616) (ht : t < 18446744073709551616) (hm : m < 256) (w : World) :
    Calls Try.prog 27 #[.int .u64 (b : Int), .int .u64 (t : Int), .int .u8 (m : Int)] w fun en w' => en = .returned (rootV b t m) ∧ Below w.heap.size w w' := by
  have k1 := c18 b t hb ht
  unfold exV at k1
  unfold rootV
  rcases ex_err b t with ⟨h0, h1, h2, h3, h4, h5⟩ | ⟨h1, h2, h3, h4⟩
  · rw [if_pos h0]
    rw [h0] at k1
    generalize (ex b t).1 = E at *
    generalize (ex b t).2.1 = B at *
    generalize (ex b t).2.2.1 = T at *
    have rb : (b : Int) % 4294967296 = (b : Int) := by omega
    have RB := Lib.hid rb
    have K1 := Lib.hid k1
    clear k1 h0 rb
    go_enter Try.func27, Try.ntmps27
    go_wp2_with fail
    refine (K1.out _).mono ?_
    rintro en w1 ⟨rfl, hb1⟩
    obtain ⟨hc, hf⟩ := bcell hb1
    have hz : w.heap.size < w1.heap.size := by have := hb1.size; simp at this; omega
    have hB : Below w.heap.size w w1 := ((Below.refl _ _).alloc (Nat.le_refl _) _).trans (hb1.mono (by simp))
    clear hb1
    go_wp2_with fail
    exact bodyPost_ret (v := .tuple #[cp true b m 0 E B T, .int .i64 0]) (by simp [results, Try.results27, go_sem, cellAlloc, hz, hc]) rfl ⟨rfl, set7a hB (by omega) _ _ _ _ _ _ _ _⟩
  · rw [if_neg (by omega)]
    rw [h1, h2, h3] at k1
    have h5 : (ex b t).2.2.2 ≠ 0 := by omega
    generalize (ex b t).2.2.2 = R at *
    have h6 : ((R : Int) != 0) = true := by simp; omega
    have K1 := Lib.hid k1
    clear k1 h1 h2 h3
    go_enter Try.func27, Try.ntmps27
    go_wp2_with fail
    refine (K1.out _).mono ?_
    rintro en w1 ⟨rfl, hb1⟩
    obtain ⟨hc, hf⟩ := bcell hb1
    have hz : w.heap.size < w1.heap.size := by have := hb1.size; simp at this; omega
    have hB : Below w.heap.size w w1 := ((Below.refl _ _).alloc (Nat.le_refl _) _).trans (hb1.mono (by simp))
    clear hb1
    go_wp2_with fail
    exact bodyPost_ret (v := .tuple #[cp false 0 0 0 0 0 0, .int .i64 (R : Int)]) (by simp [results, Try.results27, go_sem, cellAlloc, hz, hc]) rfl ⟨rfl, set7a hB (by omega) _ _ _ _ _ _ _ _⟩
end Go.Proofs.Ytbclgkjljgcfbaa.Cp
