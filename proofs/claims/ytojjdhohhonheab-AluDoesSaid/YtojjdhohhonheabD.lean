import Derived.Test.YtojjdhohhonheabA
namespace Go.Proofs.Ytojjdhohhonheab
open Go.ChangeShapes Go.WideShapes Go.ChangeAt Go.RowKit
set_option linter.unusedVariables false

def qv (a b : Nat) : Int := if b = 0 then 4294967295 else (wrap32 (a : Int)).tdiv (wrap32 (b : Int)) % 4294967296
theorem w32mod (x : Int) : wrap32 x % 4294967296 = x % 4294967296 := by unfold wrap32; omega
theorem qv_lt (a b : Nat) : 0 ≤ qv a b ∧ qv a b < 4294967296 := by unfold qv; split <;> omega
theorem quot21 (a b : Nat) (ha : a < 4294967296) (hb : b < 4294967296) (w : World) : Calls Try.prog 21 #[.int .u32 (a : Int), .int .u32 (b : Int)] w fun en w' => en = .returned (.int .u32 (qv a b)) ∧ w = w' := by
  by_cases h0 : b = 0
  · subst h0
    go_enter Try.func21, Try.ntmps21
    go_wp2
    go_ret
    exact ⟨ret1 rfl, rfl⟩
  · have hw : wrap32 (b : Int) ≠ 0 := by unfold wrap32; omega
    have hz : ((b : Int) == 0) = false := by simp; omega
    have hz2 : ((wrap32 (b : Int)) == 0) = false := by simpa using hw
    have l1 : -2147483648 ≤ wrap32 (a : Int) ∧ wrap32 (a : Int) ≤ 2147483647 := by unfold wrap32; omega
    have l2 : -2147483648 ≤ wrap32 (b : Int) ∧ wrap32 (b : Int) ≤ 2147483647 := by unfold wrap32; omega
    obtain ⟨l1, l1'⟩ := l1
    obtain ⟨l2, l2'⟩ := l2
    have hq : qv a b = (wrap32 (a : Int)).tdiv (wrap32 (b : Int)) % 4294967296 := by unfold qv; rw [if_neg h0]
    by_cases h1 : wrap32 (a : Int) = -2147483648
    · by_cases h2 : wrap32 (b : Int) = -1
      · have e1 : (a : Int) = 2147483648 := by unfold wrap32 at h1; omega
        rw [h1, h2] at hq
        have H := Lib.hid hq
        clear hq
        have E1 := Lib.hid e1
        clear e1
        go_enter Try.func21, Try.ntmps21
        go_wp2
        go_ret
        exact ⟨ret1 (by rw [H.out, E1.out]; rfl), rfl⟩
      · have h2' : (wrap32 (b : Int) == -1) = false := by simpa using h2
        rw [h1] at hq
        have H := Lib.hid hq
        clear hq
        go_enter Try.func21, Try.ntmps21
        go_wp2
        go_ret
        exact ⟨ret1 (by rw [H.out, w32mod, Int.neg_tdiv]), rfl⟩
    · have h1' : (wrap32 (a : Int) == -2147483648) = false := by simpa using h1
      have H := Lib.hid hq
      clear hq
      go_enter Try.func21, Try.ntmps21
      go_wp2
      go_ret
      exact ⟨ret1 (by rw [H.out, w32mod]), rfl⟩
theorem mulbd (x y L M : Int) (h1 : -L ≤ x) (h2 : x ≤ L) (h3 : -M ≤ y) (h4 : y ≤ M) (hL : 0 ≤ L) (hM : 0 ≤ M) : -(L * M) ≤ x * y ∧ x * y ≤ L * M := by
  have hx : x.natAbs ≤ L.natAbs := by omega
  have hy : y.natAbs ≤ M.natAbs := by omega
  have h := Nat.mul_le_mul hx hy
  rw [← Int.natAbs_mul, ← Int.natAbs_mul] at h
  have hp : 0 ≤ L * M := Int.mul_nonneg hL hM
  omega
theorem mu40 (a b : Nat) (ha : a < 4294967296) (hb : b < 4294967296) (w : World) : Calls Try.prog 13 #[.int .u8 40, .int .u32 (a : Int), .int .u32 (b : Int)] w fun en w' => en = .returned (.tuple #[.int .u32 ((a : Int) * (b : Int) % 4294967296), .int .i64 0]) ∧ w = w' := by
  go_enter Try.func13, Try.ntmps13
  go_wp2
  all_goals
    go_ret2
    exact ⟨ret2 (by first | rfl | simp) rfl, rfl⟩
theorem mu41 (a b : Nat) (ha : a < 4294967296) (hb : b < 4294967296) (w : World) : Calls Try.prog 13 #[.int .u8 41, .int .u32 (a : Int), .int .u32 (b : Int)] w fun en w' => en = .returned (.tuple #[.int .u32 (wrap32 (a : Int) * wrap32 (b : Int) / 4294967296 % 4294967296), .int .i64 0]) ∧ w = w' := by
  have l1 : -2147483648 ≤ wrap32 (a : Int) ∧ wrap32 (a : Int) ≤ 2147483647 := by unfold wrap32; omega
  have l2 : -2147483648 ≤ wrap32 (b : Int) ∧ wrap32 (b : Int) ≤ 2147483647 := by unfold wrap32; omega
  have m := mulbd (wrap32 (a : Int)) (wrap32 (b : Int)) 2147483648 2147483648 (by omega) (by omega) (by omega) (by omega) (by omega) (by omega)
  obtain ⟨m1, m2⟩ := m
  go_enter Try.func13, Try.ntmps13
  go_wp2_with (first | (go_at_call 20; (with_reducible refine (worth20 a _).mono ?_); rintro _ _ ⟨rfl, rfl⟩) | (go_at_call 20; (with_reducible refine (worth20 b _).mono ?_); rintro _ _ ⟨rfl, rfl⟩))
  all_goals
    go_ret2
    exact ⟨ret2 (rfl) rfl, rfl⟩
theorem mu42 (a b : Nat) (ha : a < 4294967296) (hb : b < 4294967296) (w : World) : Calls Try.prog 13 #[.int .u8 42, .int .u32 (a : Int), .int .u32 (b : Int)] w fun en w' => en = .returned (.tuple #[.int .u32 (wrap32 (a : Int) * (b : Int) / 4294967296 % 4294967296), .int .i64 0]) ∧ w = w' := by
  have l1 : -2147483648 ≤ wrap32 (a : Int) ∧ wrap32 (a : Int) ≤ 2147483647 := by unfold wrap32; omega
  have l2 : -2147483648 ≤ wrap32 (b : Int) ∧ wrap32 (b : Int) ≤ 2147483647 := by unfold wrap32; omega
  have m := mulbd (wrap32 (a : Int)) (b : Int) 2147483648 4294967295 (by omega) (by omega) (by omega) (by omega) (by omega) (by omega)
  obtain ⟨m1, m2⟩ := m
  go_enter Try.func13, Try.ntmps13
  go_wp2_with (go_at_call 20; (with_reducible refine (worth20 a _).mono ?_); rintro _ _ ⟨rfl, rfl⟩)
  all_goals
    go_ret2
    exact ⟨ret2 rfl rfl, rfl⟩
theorem mu43 (a b : Nat) (ha : a < 4294967296) (hb : b < 4294967296) (w : World) : Calls Try.prog 13 #[.int .u8 43, .int .u32 (a : Int), .int .u32 (b : Int)] w fun en w' => en = .returned (.tuple #[.int .u32 ((a : Int) * (b : Int) / 4294967296), .int .i64 0]) ∧ w = w' := by
  have m := mulbd (a : Int) (b : Int) 4294967295 4294967295 (by omega) (by omega) (by omega) (by omega) (by omega) (by omega)
  have m0 : 0 ≤ (a : Int) * (b : Int) := Int.mul_nonneg (by omega) (by omega)
  obtain ⟨m1, m2⟩ := m
  go_enter Try.func13, Try.ntmps13
  go_wp2
  all_goals
    go_ret2
    exact ⟨ret2 rfl rfl, rfl⟩
theorem mu44 (a b : Nat) (ha : a < 4294967296) (hb : b < 4294967296) (w : World) : Calls Try.prog 13 #[.int .u8 44, .int .u32 (a : Int), .int .u32 (b : Int)] w fun en w' => en = .returned (.tuple #[.int .u32 (qv a b), .int .i64 0]) ∧ w = w' := by
  go_enter Try.func13, Try.ntmps13
  go_wp2_with (go_at_call 21; refine (quot21 a b ha hb _).mono ?_; rintro _ _ ⟨rfl, rfl⟩)
  all_goals
    go_ret2
    exact ⟨ret2 (rfl) rfl, rfl⟩
theorem mu46 (a b : Nat) (ha : a < 4294967296) (hb : b < 4294967296) (w : World) : Calls Try.prog 13 #[.int .u8 46, .int .u32 (a : Int), .int .u32 (b : Int)] w fun en w' => en = .returned (.tuple #[.int .u32 (((a : Int) - qv a b * (b : Int)) % 4294967296), .int .i64 0]) ∧ w = w' := by
  obtain ⟨q1, q2⟩ := qv_lt a b
  go_enter Try.func13, Try.ntmps13
  go_wp2_with (go_at_call 21; refine (quot21 a b ha hb _).mono ?_; rintro _ _ ⟨rfl, rfl⟩)
  all_goals
    go_ret2
    exact ⟨ret2 (by generalize qv a b * (b : Int) = p; omega) rfl, rfl⟩
theorem mu45 (a b : Nat) (ha : a < 4294967296) (hb : b < 4294967296) (w : World) : Calls Try.prog 13 #[.int .u8 45, .int .u32 (a : Int), .int .u32 (b : Int)] w fun en w' => en = .returned (.tuple #[.int .u32 (if b = 0 then 4294967295 else (a : Int) / (b : Int)), .int .i64 0]) ∧ w = w' := by
  by_cases h : b = 0
  · subst h
    go_enter Try.func13, Try.ntmps13
    go_wp2
    go_ret2
    exact ⟨ret2 rfl rfl, rfl⟩
  rw [if_neg h]
  have hz : ((b : Int) == 0) = false := by simp; omega
  go_enter Try.func13, Try.ntmps13
  go_wp2
  all_goals
    go_ret2
    exact ⟨ret2 (by rw [show (a : Int) / (b : Int) = ((a / b : Nat) : Int) from rfl]; have h9 := Nat.div_le_self a b; generalize a / b = q at *; omega) rfl, rfl⟩
theorem mu47 (a b : Nat) (ha : a < 4294967296) (hb : b < 4294967296) (w : World) : Calls Try.prog 13 #[.int .u8 47, .int .u32 (a : Int), .int .u32 (b : Int)] w fun en w' => en = .returned (.tuple #[.int .u32 (if b = 0 then (a : Int) else (a : Int) % (b : Int)), .int .i64 0]) ∧ w = w' := by
  by_cases h : b = 0
  · subst h
    go_enter Try.func13, Try.ntmps13
    go_wp2
    go_ret2
    exact ⟨ret2 rfl rfl, rfl⟩
  rw [if_neg h]
  have hz : ((b : Int) == 0) = false := by simp; omega
  go_enter Try.func13, Try.ntmps13
  go_wp2
  all_goals
    go_ret2
    exact ⟨ret2 (rfl) rfl, rfl⟩
end Go.Proofs.Ytojjdhohhonheab
