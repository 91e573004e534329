import Derived.Test.YtjcoidpajcichabD
namespace Go.Proofs.Ytjcoidpajcichab
open Go.ChangeShapes Go.WideShapes Go.ChangeAt Go.RowKit
set_option linter.unusedVariables false
theorem ex_ok (b t e : Nat) (h1 : b ≤ t) (h2 : t ≤ 65536) (he : e ≤ 8) (h : ok b t e = true) : ∃ x y z, ex b t = (x, y, z, 0) := by
  have E : ex b t = exL b t 9 := by unfold ex; rw [if_neg (by omega)]
  rcases exL_spec b t 9 (by omega) with ⟨_, E2⟩ | ⟨e', he', hok, E2⟩
  · have := E2 e (by omega) he; rw [h] at this; cases this
  · exact ⟨_, _, _, by rw [E, E2]⟩
set_option maxRecDepth 100000 in
set_option maxHeartbeats 2000000 in
theorem law6 (b n : Nat) (hb : b < 65536) (hn : n < 65536) (w : World) :
    Calls Try.prog 6 #[.int .u16 (b : Int), .int .u16 (n : Int)] w fun en w' => en = .returned (.bool true) ∧ Below w.heap.size w w' := by
  obtain ⟨B, hB⟩ : ∃ m, m = b / 8 * 8 := ⟨_, rfl⟩
  obtain ⟨C, hC⟩ : ∃ m, m = b / 256 * 256 := ⟨_, rfl⟩
  obtain ⟨s1, hs1⟩ : ∃ m, m = B + n % 512 * 8 := ⟨_, rfl⟩
  obtain ⟨s2, hs2⟩ : ∃ m, m = b + n % 512 := ⟨_, rfl⟩
  obtain ⟨s3, hs3⟩ : ∃ m, m = C + n / 256 * 256 := ⟨_, rfl⟩
  obtain ⟨m1, hm1⟩ : ∃ m, m = if s1 < 65536 then s1 else 65536 := ⟨_, rfl⟩
  obtain ⟨m2, hm2⟩ : ∃ m, m = if s2 < 65536 then s2 else 65536 := ⟨_, rfl⟩
  obtain ⟨m3, hm3⟩ : ∃ m, m = if s3 < 65536 then s3 else 65536 := ⟨_, rfl⟩
  have n1 : m1 ≤ 65536 ∧ m1 % 8 = 0 ∧ B ≤ m1 ∧ m1 - B ≤ 4088 ∧ B % 8 = 0 := by split at hm1 <;> omega
  have n2 : m2 ≤ 65536 ∧ b ≤ m2 ∧ m2 - b ≤ 511 := by split at hm2 <;> omega
  have n3 : m3 ≤ 65536 ∧ m3 % 256 = 0 ∧ C ≤ m3 ∧ C % 256 = 0 := by split at hm3 <;> omega
  obtain ⟨x1, y1, z1, E1⟩ := ex_ok B m1 3 (by omega) (by omega) (by omega) (by unfold ok; simp; omega)
  obtain ⟨x2, y2, z2, E2⟩ := ex_ok b m2 0 (by omega) (by omega) (by omega) (by unfold ok; simp; omega)
  obtain ⟨x3, y3, z3, E3⟩ := ex_ok C m3 8 (by omega) (by omega) (by omega) (by unfold ok; simp; omega)
  have k1 := c18 B m1 (by omega) (by omega)
  have k2 := c18 b m2 (by omega) (by omega)
  have k3 := c18 C m3 (by omega) (by omega)
  rw [E1] at k1
  rw [E2] at k2
  rw [E3] at k3
  clear E1 E2 E3
  unfold exV at k1 k2 k3
  dsimp only at k1 k2 k3
  have a1 : (b : Int) / 8 * 8 = (B : Int) := by omega
  have a2 : (b : Int) / 256 * 256 = (C : Int) := by omega
  have a3 : (B : Int) + (n : Int) % 512 * 8 = (s1 : Int) := by omega
  have a4 : (b : Int) + (n : Int) % 512 = (s2 : Int) := by omega
  have a5 : (C : Int) + (n : Int) / 256 * 256 = (s3 : Int) := by omega
  have a6 : (if (s1 : Int) < 65536 then (s1 : Int) else 65536) = (m1 : Int) := by split at hm1 <;> split <;> omega
  have a7 : (if (s2 : Int) < 65536 then (s2 : Int) else 65536) = (m2 : Int) := by split at hm2 <;> split <;> omega
  have a8 : (if (s3 : Int) < 65536 then (s3 : Int) else 65536) = (m3 : Int) := by split at hm3 <;> split <;> omega
  have K1 := Lib.hid k1
  have K2 := Lib.hid k2
  have K3 := Lib.hid k3
  have l1 : s1 < 70000 := by omega
  have l2 : s2 < 70000 := by omega
  have l3 : s3 < 140000 := by omega
  have l4 : B < 65536 := by omega
  have l5 : C < 65536 := by omega
  clear k1 k2 k3 hm1 hm2 hm3 hs1 hs2 hs3 hB hC n1 n2 n3
  go_enter Try.func6, Try.ntmps6
  go_wp2_with fail
  refine (K1.out _).mono ?_
  rintro en w1 ⟨rfl, b1⟩
  go_wp2_with fail
  refine (K2.out _).mono ?_
  rintro en w2 ⟨rfl, b2⟩
  obtain ⟨hB2, z2, -, -, -⟩ := init3 b2
  have hC := b1.trans (hB2.mono b1.size)
  clear b1 b2 hB2
  go_wp2_with fail
  refine (K3.out _).mono ?_
  rintro en w3 ⟨rfl, b3⟩
  obtain ⟨hB3, z3, -, -, -⟩ := init3 b3
  have hD := hC.trans (hB3.mono hC.size)
  clear b3 hB3 hC
  go_wp2_with fail
  refine (c17 _).mono ?_
  rintro en w4 ⟨rfl, b4⟩
  have hE := hD.trans (((Below.refl _ _).alloc (Nat.le_refl _) _).trans (b4.mono (by simp)) |>.mono hD.size)
  go_wp2_with fail
  go_ret
  exact ⟨rfl, hE⟩
end Go.Proofs.Ytjcoidpajcichab
