import Derived.Test.YtjcoidpajcichabD
namespace Go.Proofs.Ytjcoidpajcichab
open Go.ChangeShapes Go.WideShapes Go.ChangeAt Go.RowKit
set_option linter.unusedVariables false
set_option maxHeartbeats 2000000 in
theorem law4 (b t : Nat) (hb : b < 18446744073709551616) (ht : t < 18446744073709551616) (w : World) :
    Calls Try.prog 4 #[.int .u64 (b : Int), .int .u64 (t : Int)] w fun en w' => en = .returned (.bool true) ∧ Below w.heap.size w w' := by
  have k1 := c18 b t hb ht
  have k2 := c19 b t hb ht
  unfold exV at k1 k2
  generalize ex b t = r at *
  obtain ⟨r1, r2, r3, r4⟩ := r
  dsimp only at k1 k2
  have K1 := Lib.hid k1
  have K2 := Lib.hid k2
  clear k1 k2
  go_enter Try.func4, Try.ntmps4
  go_wp2_with fail
  refine (K1.out _).mono ?_
  rintro en w1 ⟨rfl, b1⟩
  go_wp2_with fail
  refine (K2.out _).mono ?_
  rintro en w2 ⟨rfl, b2⟩
  obtain ⟨hB2, z2, d0, d1, d2⟩ := init3 b2
  have hB := b1.trans (hB2.mono b1.size)
  clear b2 b1 hB2
  go_wp2_with fail
  refine (c17 _).mono ?_
  rintro en w3 ⟨rfl, b3⟩
  have hB3 := hB.trans (((Below.refl _ _).alloc (Nat.le_refl _) _).trans (b3.mono (by simp)) |>.mono hB.size)
  go_wp2_with fail
  go_ret
  exact ⟨rfl, hB3⟩
end Go.Proofs.Ytjcoidpajcichab
