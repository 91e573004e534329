import Derived.Test.YtojjdhohhonheabJ
namespace Go.Proofs.Ytojjdhohhonheab
open Go.ChangeShapes Go.WideShapes Go.ChangeAt Go.RowKit
set_option linter.unusedVariables false
theorem rem_eqD (a b : Nat) (h0 : b ≠ 0) : ((a : Int) - qv a b * (b : Int)) % 4294967296 = ((wrap32 (a : Int)).tmod (wrap32 (b : Int))) % 4294967296 := by
  unfold qv
  rw [if_neg h0, Int.tmod_def]
  obtain ⟨i, hi⟩ : ∃ i, (a : Int) = wrap32 (a : Int) + i * 4294967296 := ⟨((a : Int) + 2147483648) / 4294967296, by unfold wrap32; omega⟩
  obtain ⟨j, hj⟩ : ∃ j, (b : Int) = wrap32 (b : Int) + j * 4294967296 := ⟨((b : Int) + 2147483648) / 4294967296, by unfold wrap32; omega⟩
  generalize wrap32 (a : Int) = x at *
  generalize wrap32 (b : Int) = y at *
  generalize hT : x.tdiv y = T at *
  obtain ⟨k, hk⟩ : ∃ k, T % 4294967296 = T + k * 4294967296 := ⟨-(T / 4294967296), by omega⟩
  rw [hk]
  have h1 : T * (b : Int) = y * T + (T * j) * 4294967296 := by rw [hj, Int.mul_add, Int.mul_comm T y, Int.mul_assoc]
  have h2 : (k * 4294967296) * (b : Int) = (k * (b : Int)) * 4294967296 := Int.mul_right_comm _ _ _
  rw [Int.add_mul, h1, h2, hi]
  generalize y * T = A
  generalize T * j = B
  generalize k * (b : Int) = C
  omega
theorem tdivb (x y : Int) (h1 : -2147483648 ≤ x) (h2 : x ≤ 2147483647) : -2147483648 ≤ x.tdiv y ∧ x.tdiv y ≤ 2147483648 := by
  have h : (x.tdiv y).natAbs ≤ x.natAbs := by rw [Int.natAbs_tdiv]; exact Nat.div_le_self _ _
  omega
theorem tmodb (x y : Int) (h1 : -2147483648 ≤ y) (h2 : y ≤ 2147483647) (h : y ≠ 0) : -2147483648 ≤ x.tmod y ∧ x.tmod y ≤ 2147483648 := by
  have h : (x.tmod y).natAbs < y.natAbs := by rw [Int.natAbs_tmod]; exact Nat.mod_lt _ (by omega)
  omega
set_option maxHeartbeats 2000000 in
theorem ro44 (a b : Nat) (ha : a < 4294967296) (hb : b < 4294967296) (w : World) : Calls Try.prog 8 #[.int .u8 44, .int .u32 (a : Int), .int .u32 (b : Int)] w fun en w' => en = .returned (.tuple #[.int .u32 (qv a b), .int .i64 0]) ∧ ∃ n, w' = w.drewN n := by
  have hxa := wv a ha
  have hxb := wv b hb
  have k1 := rW a ha
  have k2 := rW b hb
  by_cases h0 : b = 0
  · subst h0
    rw [show qv a 0 = 4294967295 from rfl]
    generalize wrap32 (a : Int) = x at *
    rw [show wrap32 (((0 : Nat) : Int)) = 0 by decide +kernel, show (((0 : Nat) : Int)) = 0 from rfl] at k2
    obtain ⟨x1, x2, hx⟩ := hxa
    clear hx hxb
    have K1 := Lib.hid k1
    have K2 := Lib.hid k2
    clear k1 k2
    go_enter Try.func8, Try.ntmps8
    go_wp2_with (first | (go_at_call_of 14 (Value.int .u32 (a : Int)); refine (K1.out _).mono ?_; rintro _ _ ⟨rfl, rfl⟩) | (go_at_call_of 14 (Value.int .u32 0); refine (K2.out _).mono ?_; rintro _ _ ⟨rfl, rfl⟩))
    go_ret2
    exact ⟨ret2 (rfl) rfl, 0, rfl⟩
  · have hz : ((b : Int) == 0) = false := by simp; omega
    have hw : wrap32 (b : Int) ≠ 0 := by unfold wrap32; omega
    rw [show qv a b = (wrap32 (a : Int)).tdiv (wrap32 (b : Int)) % 4294967296 by unfold qv; rw [if_neg h0]]
    generalize wrap32 (a : Int) = x at *
    generalize wrap32 (b : Int) = y at *
    obtain ⟨x1, x2, hx⟩ := hxa
    obtain ⟨y1, y2, hy⟩ := hxb
    clear hx hy
    have hyz : (y == 0) = false := by simpa using hw
    have tb := tdivb x y x1 x2
    have tm := tmodb x y y1 y2 hw
    obtain ⟨tb1, tb2⟩ := tb
    obtain ⟨tm1, tm2⟩ := tm
    have K1 := Lib.hid k1
    have K2 := Lib.hid k2
    clear k1 k2
    go_enter Try.func8, Try.ntmps8
    go_wp2_with (first | (go_at_call_of 14 (Value.int .u32 (a : Int)); refine (K1.out _).mono ?_; rintro _ _ ⟨rfl, rfl⟩) | (go_at_call_of 14 (Value.int .u32 (b : Int)); refine (K2.out _).mono ?_; rintro _ _ ⟨rfl, rfl⟩))
    go_ret2
    exact ⟨ret2 (rfl) rfl, 0, rfl⟩
set_option maxHeartbeats 2000000 in
theorem ro46 (a b : Nat) (ha : a < 4294967296) (hb : b < 4294967296) (w : World) : Calls Try.prog 8 #[.int .u8 46, .int .u32 (a : Int), .int .u32 (b : Int)] w fun en w' => en = .returned (.tuple #[.int .u32 (((a : Int) - qv a b * (b : Int)) % 4294967296), .int .i64 0]) ∧ ∃ n, w' = w.drewN n := by
  have hxa := wv a ha
  have hxb := wv b hb
  have k1 := rW a ha
  have k2 := rW b hb
  by_cases h0 : b = 0
  · subst h0
    rw [show qv a 0 = 4294967295 from rfl, show ((a : Int) - 4294967295 * ((0 : Nat) : Int)) % 4294967296 = (a : Int) by omega]
    generalize wrap32 (a : Int) = x at *
    rw [show wrap32 (((0 : Nat) : Int)) = 0 by decide +kernel, show (((0 : Nat) : Int)) = 0 from rfl] at k2
    obtain ⟨x1, x2, hx⟩ := hxa
    clear hx hxb
    have K1 := Lib.hid k1
    have K2 := Lib.hid k2
    clear k1 k2
    go_enter Try.func8, Try.ntmps8
    go_wp2_with (first | (go_at_call_of 14 (Value.int .u32 (a : Int)); refine (K1.out _).mono ?_; rintro _ _ ⟨rfl, rfl⟩) | (go_at_call_of 14 (Value.int .u32 0); refine (K2.out _).mono ?_; rintro _ _ ⟨rfl, rfl⟩))
    go_ret2
    exact ⟨ret2 (rfl) rfl, 0, rfl⟩
  · have hz : ((b : Int) == 0) = false := by simp; omega
    have hw : wrap32 (b : Int) ≠ 0 := by unfold wrap32; omega
    rw [rem_eqD a b h0]
    generalize wrap32 (a : Int) = x at *
    generalize wrap32 (b : Int) = y at *
    obtain ⟨x1, x2, hx⟩ := hxa
    obtain ⟨y1, y2, hy⟩ := hxb
    clear hx hy
    have hyz : (y == 0) = false := by simpa using hw
    have tb := tdivb x y x1 x2
    have tm := tmodb x y y1 y2 hw
    obtain ⟨tb1, tb2⟩ := tb
    obtain ⟨tm1, tm2⟩ := tm
    have K1 := Lib.hid k1
    have K2 := Lib.hid k2
    clear k1 k2
    go_enter Try.func8, Try.ntmps8
    go_wp2_with (first | (go_at_call_of 14 (Value.int .u32 (a : Int)); refine (K1.out _).mono ?_; rintro _ _ ⟨rfl, rfl⟩) | (go_at_call_of 14 (Value.int .u32 (b : Int)); refine (K2.out _).mono ?_; rintro _ _ ⟨rfl, rfl⟩))
    go_ret2
    exact ⟨ret2 (rfl) rfl, 0, rfl⟩
set_option maxHeartbeats 2000000 in
theorem ro45 (a b : Nat) (ha : a < 4294967296) (hb : b < 4294967296) (w : World) : Calls Try.prog 8 #[.int .u8 45, .int .u32 (a : Int), .int .u32 (b : Int)] w fun en w' => en = .returned (.tuple #[.int .u32 (if b = 0 then 4294967295 else (a : Int) / (b : Int)), .int .i64 0]) ∧ ∃ n, w' = w.drewN n := by
  have hxa := wv a ha
  have hxb := wv b hb
  have k1 := rW a ha
  have k2 := rW b hb
  by_cases h0 : b = 0
  · subst h0
    rw [if_pos rfl]
    generalize wrap32 (a : Int) = x at *
    rw [show wrap32 (((0 : Nat) : Int)) = 0 by decide +kernel, show (((0 : Nat) : Int)) = 0 from rfl] at k2
    obtain ⟨x1, x2, hx⟩ := hxa
    clear hx hxb
    have K1 := Lib.hid k1
    have K2 := Lib.hid k2
    clear k1 k2
    go_enter Try.func8, Try.ntmps8
    go_wp2_with (first | (go_at_call_of 14 (Value.int .u32 (a : Int)); refine (K1.out _).mono ?_; rintro _ _ ⟨rfl, rfl⟩) | (go_at_call_of 14 (Value.int .u32 0); refine (K2.out _).mono ?_; rintro _ _ ⟨rfl, rfl⟩))
    go_ret2
    exact ⟨ret2 (rfl) rfl, 0, rfl⟩
  · have hz : ((b : Int) == 0) = false := by simp; omega
    have hw : wrap32 (b : Int) ≠ 0 := by unfold wrap32; omega
    have d1 : (a : Int) / (b : Int) = ((a / b : Nat) : Int) := rfl
    have d2 : (a : Int) % (b : Int) = ((a % b : Nat) : Int) := rfl
    have v1 : a % b < b := Nat.mod_lt _ (by omega)
    have u1 : a / b ≤ a := Nat.div_le_self _ _
    have e1 : (a : Int).tdiv (b : Int) = ((a / b : Nat) : Int) := by rw [Int.tdiv_eq_ediv_of_nonneg (by omega)]; rfl
    have e2 : (a : Int).tmod (b : Int) = ((a % b : Nat) : Int) := by rw [Int.tmod_eq_emod_of_nonneg (by omega)]; rfl
    rw [if_neg h0]
    rw [d1]
    generalize a / b = u at *
    generalize a % b = v at *
    generalize wrap32 (a : Int) = x at *
    generalize wrap32 (b : Int) = y at *
    obtain ⟨x1, x2, hx⟩ := hxa
    obtain ⟨y1, y2, hy⟩ := hxb
    clear hx hy
    have hyz : (y == 0) = false := by simpa using hw
    have tb := tdivb x y x1 x2
    have tm := tmodb x y y1 y2 hw
    obtain ⟨tb1, tb2⟩ := tb
    obtain ⟨tm1, tm2⟩ := tm
    have K1 := Lib.hid k1
    have K2 := Lib.hid k2
    clear k1 k2
    go_enter Try.func8, Try.ntmps8
    go_wp2_with (first | (go_at_call_of 14 (Value.int .u32 (a : Int)); refine (K1.out _).mono ?_; rintro _ _ ⟨rfl, rfl⟩) | (go_at_call_of 14 (Value.int .u32 (b : Int)); refine (K2.out _).mono ?_; rintro _ _ ⟨rfl, rfl⟩))
    go_ret2
    exact ⟨ret2 (rfl) rfl, 0, rfl⟩
set_option maxHeartbeats 2000000 in
theorem ro47 (a b : Nat) (ha : a < 4294967296) (hb : b < 4294967296) (w : World) : Calls Try.prog 8 #[.int .u8 47, .int .u32 (a : Int), .int .u32 (b : Int)] w fun en w' => en = .returned (.tuple #[.int .u32 (if b = 0 then (a : Int) else (a : Int) % (b : Int)), .int .i64 0]) ∧ ∃ n, w' = w.drewN n := by
  have hxa := wv a ha
  have hxb := wv b hb
  have k1 := rW a ha
  have k2 := rW b hb
  by_cases h0 : b = 0
  · subst h0
    rw [if_pos rfl]
    generalize wrap32 (a : Int) = x at *
    rw [show wrap32 (((0 : Nat) : Int)) = 0 by decide +kernel, show (((0 : Nat) : Int)) = 0 from rfl] at k2
    obtain ⟨x1, x2, hx⟩ := hxa
    clear hx hxb
    have K1 := Lib.hid k1
    have K2 := Lib.hid k2
    clear k1 k2
    go_enter Try.func8, Try.ntmps8
    go_wp2_with (first | (go_at_call_of 14 (Value.int .u32 (a : Int)); refine (K1.out _).mono ?_; rintro _ _ ⟨rfl, rfl⟩) | (go_at_call_of 14 (Value.int .u32 0); refine (K2.out _).mono ?_; rintro _ _ ⟨rfl, rfl⟩))
    go_ret2
    exact ⟨ret2 (rfl) rfl, 0, rfl⟩
  · have hz : ((b : Int) == 0) = false := by simp; omega
    have hw : wrap32 (b : Int) ≠ 0 := by unfold wrap32; omega
    have d1 : (a : Int) / (b : Int) = ((a / b : Nat) : Int) := rfl
    have d2 : (a : Int) % (b : Int) = ((a % b : Nat) : Int) := rfl
    have v1 : a % b < b := Nat.mod_lt _ (by omega)
    have u1 : a / b ≤ a := Nat.div_le_self _ _
    have e1 : (a : Int).tdiv (b : Int) = ((a / b : Nat) : Int) := by rw [Int.tdiv_eq_ediv_of_nonneg (by omega)]; rfl
    have e2 : (a : Int).tmod (b : Int) = ((a % b : Nat) : Int) := by rw [Int.tmod_eq_emod_of_nonneg (by omega)]; rfl
    rw [if_neg h0]
    rw [d2]
    generalize a / b = u at *
    generalize a % b = v at *
    generalize wrap32 (a : Int) = x at *
    generalize wrap32 (b : Int) = y at *
    obtain ⟨x1, x2, hx⟩ := hxa
    obtain ⟨y1, y2, hy⟩ := hxb
    clear hx hy
    have hyz : (y == 0) = false := by simpa using hw
    have tb := tdivb x y x1 x2
    have tm := tmodb x y y1 y2 hw
    obtain ⟨tb1, tb2⟩ := tb
    obtain ⟨tm1, tm2⟩ := tm
    have K1 := Lib.hid k1
    have K2 := Lib.hid k2
    clear k1 k2
    go_enter Try.func8, Try.ntmps8
    go_wp2_with (first | (go_at_call_of 14 (Value.int .u32 (a : Int)); refine (K1.out _).mono ?_; rintro _ _ ⟨rfl, rfl⟩) | (go_at_call_of 14 (Value.int .u32 (b : Int)); refine (K2.out _).mono ?_; rintro _ _ ⟨rfl, rfl⟩))
    go_ret2
    exact ⟨ret2 (rfl) rfl, 0, rfl⟩
end Go.Proofs.Ytojjdhohhonheab
