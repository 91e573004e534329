import Derived.Test.YtleabbhoedddlaaKI
import Derived.Test.YtleabbhoedddlaaKC
namespace Go.Proofs.Ytleabbhoedddlaa.Cp
open Go.ChangeShapes Go.WideShapes Go.ChangeAt Go.RowKit
set_option linter.unusedVariables false
set_option maxHeartbeats 2000000 in
theorem c33 (b t m : Nat) (hb : b < 18446744073709551616) (ht : t < 18446744073709551616) (hm : m < 256) (w : World) :
    Calls Try.prog 28 #[.int .u64 (b : Int), .int .u64 (t : Int), .int .u8 (m : Int)] w fun en w' => en = .returned (rootV b t m) ∧ Below w.heap.size w w' := by
  have k1 := c19 b t hb ht
  unfold exV at k1
  unfold rootV
  rcases ex_err b t with ⟨h0, h1, h2, h3, h4, h5⟩ | ⟨h1, h2, h3, h4⟩
  · rw [if_pos h0]
    rw [h0] at k1
    generalize (ex b t).1 = E at *
    generalize (ex b t).2.1 = B at *
    generalize (ex b t).2.2.1 = T at *
    have rb : (b : Int) % 4294967296 = (b : Int) := by omega
    have RB := Lib.hid rb
    have K1 := Lib.hid k1
    clear k1 h0 rb
    go_enter Try.func28, Try.ntmps28
    go_wp2_with fail
    refine (K1.out _).mono ?_
    rintro en w1 ⟨rfl, hb1⟩
    obtain ⟨hc, hf⟩ := bcell hb1
    have hz : w.heap.size < w1.heap.size := by have := hb1.size; simp at this; omega
    have hB : Below w.heap.size w w1 := ((Below.refl _ _).alloc (Nat.le_refl _) _).trans (hb1.mono (by simp))
    clear hb1
    go_wp2_with fail
    exact bodyPost_ret (v := .tuple #[cp true b m 0 E B T, .int .i64 0]) (by simp [results, Try.results28, go_sem, cellAlloc, hz, hc]) rfl ⟨rfl, set7a hB (by omega) _ _ _ _ _ _ _ _⟩
  · rw [if_neg (by omega)]
    rw [h1, h2, h3] at k1
    have h5 : (ex b t).2.2.2 ≠ 0 := by omega
    generalize (ex b t).2.2.2 = R at *
    have h6 : ((R : Int) != 0) = true := by simp; omega
    have K1 := Lib.hid k1
    clear k1 h1 h2 h3
    go_enter Try.func28, Try.ntmps28
    go_wp2_with fail
    refine (K1.out _).mono ?_
    rintro en w1 ⟨rfl, hb1⟩
    obtain ⟨hc, hf⟩ := bcell hb1
    have hz : w.heap.size < w1.heap.size := by have := hb1.size; simp at this; omega
    have hB : Below w.heap.size w w1 := ((Below.refl _ _).alloc (Nat.le_refl _) _).trans (hb1.mono (by simp))
    clear hb1
    go_wp2_with fail
    exact bodyPost_ret (v := .tuple #[cp false 0 0 0 0 0 0, .int .i64 (R : Int)]) (by simp [results, Try.results28, go_sem, cellAlloc, hz, hc]) rfl ⟨rfl, set7a hB (by omega) _ _ _ _ _ _ _ _⟩

end Go.Proofs.Ytleabbhoedddlaa.Cp
