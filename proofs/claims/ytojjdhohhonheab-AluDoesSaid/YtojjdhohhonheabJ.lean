import Derived.Test.YtojjdhohhonheabI
import Derived.Test.YtojjdhohhonheabD
namespace Go.Proofs.Ytojjdhohhonheab
open Go.ChangeShapes Go.WideShapes Go.ChangeAt Go.RowKit
set_option linter.unusedVariables false
theorem rDown32 (a : Int) (ha : -9223372036854775808 ≤ a ∧ a ≤ 9223372036854775807) (w : World) : Calls Try.prog 18 #[.int .i64 a, .int .i64 4294967296] w fun en w' => en = .returned (.int .i64 (a / 4294967296)) ∧ w = w' := rDown a 4294967296 (by omega) (by omega) ha w
set_option maxHeartbeats 2000000 in
theorem ro40 (a b : Nat) (ha : a < 4294967296) (hb : b < 4294967296) (w : World) : Calls Try.prog 8 #[.int .u8 40, .int .u32 (a : Int), .int .u32 (b : Int)] w fun en w' => en = .returned (.tuple #[.int .u32 ((a : Int) * (b : Int) % 4294967296), .int .i64 0]) ∧ ∃ n, w' = w.drewN n := by
  have hxa := wv a ha
  have hxb := wv b hb
  have k1 := rW a ha
  have k2 := rW b hb
  generalize wrap32 (a : Int) = x at *
  generalize wrap32 (b : Int) = y at *
  obtain ⟨x1, x2, hx⟩ := hxa
  obtain ⟨y1, y2, hy⟩ := hxb
  have K1 := Lib.hid k1
  have K2 := Lib.hid k2
  clear k1 k2
  have m := mulbd (a : Int) (b : Int) 4294967295 4294967295 (by omega) (by omega) (by omega) (by omega) (by omega) (by omega)
  have m0 : 0 ≤ (a : Int) * (b : Int) := Int.mul_nonneg (by omega) (by omega)
  obtain ⟨m1, m2⟩ := m
  have HX := Lib.hid hx
  have HY := Lib.hid hy
  clear hx hy
  go_enter Try.func8, Try.ntmps8
  go_wp2_with (first | (go_at_call_of 14 (Value.int .u32 (a : Int)); refine (K1.out _).mono ?_; rintro _ _ ⟨rfl, rfl⟩) | (go_at_call_of 14 (Value.int .u32 (b : Int)); refine (K2.out _).mono ?_; rintro _ _ ⟨rfl, rfl⟩))
  go_ret2
  exact ⟨ret2 (rfl) rfl, 0, rfl⟩
set_option maxHeartbeats 2000000 in
theorem ro27 (a b : Nat) (ha : a < 4294967296) (hb : b < 4294967296) (w : World) : Calls Try.prog 8 #[.int .u8 27, .int .u32 (a : Int), .int .u32 (b : Int)] w fun en w' => en = .returned (.tuple #[.int .u32 ((a : Int) * 2 ^ (b % 32) % 4294967296), .int .i64 0]) ∧ ∃ n, w' = w.drewN n := by
  have hxa := wv a ha
  have hxb := wv b hb
  have k1 := rW a ha
  have k2 := rW b hb
  generalize wrap32 (a : Int) = x at *
  generalize wrap32 (b : Int) = y at *
  obtain ⟨x1, x2, hx⟩ := hxa
  obtain ⟨y1, y2, hy⟩ := hxb
  have K1 := Lib.hid k1
  have K2 := Lib.hid k2
  clear k1 k2
  have HX := Lib.hid hx
  have HY := Lib.hid hy
  clear hx hy
  have kp := rPow b hb
  have hp31 : 2 ^ (b % 32) ≤ 2147483648 := Nat.le_trans (Nat.pow_le_pow_right (by omega) (by omega : b % 32 ≤ 31)) (by decide)
  have hp0 : 0 < 2 ^ (b % 32) := Nat.pow_pos (by omega)
  have hp : ((2 : Int) ^ (b % 32)) = ((2 ^ (b % 32) : Nat) : Int) := by simp
  rw [hp]
  clear hp
  generalize 2 ^ (b % 32) = p at *
  have KP := Lib.hid kp
  clear kp
  have m := mulbd (a : Int) (p : Int) 4294967295 2147483648 (by omega) (by omega) (by omega) (by omega) (by omega) (by omega)
  have m0 : 0 ≤ (a : Int) * (p : Int) := Int.mul_nonneg (by omega) (by omega)
  obtain ⟨m1, m2⟩ := m
  go_enter Try.func8, Try.ntmps8
  go_wp2_with (first | (go_at_call_of 14 (Value.int .u32 (a : Int)); refine (K1.out _).mono ?_; rintro _ _ ⟨rfl, rfl⟩) | (go_at_call_of 14 (Value.int .u32 (b : Int)); refine (K2.out _).mono ?_; rintro _ _ ⟨rfl, rfl⟩) | (go_at_call 17; refine (KP.out _).mono ?_; rintro _ _ ⟨rfl, rfl⟩))
  go_ret2
  exact ⟨ret2 (rfl) rfl, 0, rfl⟩
set_option maxHeartbeats 2000000 in
theorem ro32 (a b : Nat) (ha : a < 4294967296) (hb : b < 4294967296) (w : World) : Calls Try.prog 8 #[.int .u8 32, .int .u32 (a : Int), .int .u32 (b : Int)] w fun en w' => en = .returned (.tuple #[.int .u32 ((a : Int) * 2 ^ (b % 32) % 4294967296), .int .i64 0]) ∧ ∃ n, w' = w.drewN n := by
  have hxa := wv a ha
  have hxb := wv b hb
  have k1 := rW a ha
  have k2 := rW b hb
  generalize wrap32 (a : Int) = x at *
  generalize wrap32 (b : Int) = y at *
  obtain ⟨x1, x2, hx⟩ := hxa
  obtain ⟨y1, y2, hy⟩ := hxb
  have K1 := Lib.hid k1
  have K2 := Lib.hid k2
  clear k1 k2
  have HX := Lib.hid hx
  have HY := Lib.hid hy
  clear hx hy
  have kp := rPow b hb
  have hp31 : 2 ^ (b % 32) ≤ 2147483648 := Nat.le_trans (Nat.pow_le_pow_right (by omega) (by omega : b % 32 ≤ 31)) (by decide)
  have hp0 : 0 < 2 ^ (b % 32) := Nat.pow_pos (by omega)
  have hp : ((2 : Int) ^ (b % 32)) = ((2 ^ (b % 32) : Nat) : Int) := by simp
  rw [hp]
  clear hp
  generalize 2 ^ (b % 32) = p at *
  have KP := Lib.hid kp
  clear kp
  have m := mulbd (a : Int) (p : Int) 4294967295 2147483648 (by omega) (by omega) (by omega) (by omega) (by omega) (by omega)
  have m0 : 0 ≤ (a : Int) * (p : Int) := Int.mul_nonneg (by omega) (by omega)
  obtain ⟨m1, m2⟩ := m
  go_enter Try.func8, Try.ntmps8
  go_wp2_with (first | (go_at_call_of 14 (Value.int .u32 (a : Int)); refine (K1.out _).mono ?_; rintro _ _ ⟨rfl, rfl⟩) | (go_at_call_of 14 (Value.int .u32 (b : Int)); refine (K2.out _).mono ?_; rintro _ _ ⟨rfl, rfl⟩) | (go_at_call 17; refine (KP.out _).mono ?_; rintro _ _ ⟨rfl, rfl⟩))
  go_ret2
  exact ⟨ret2 (rfl) rfl, 0, rfl⟩
set_option maxHeartbeats 2000000 in
theorem ro28 (a b : Nat) (ha : a < 4294967296) (hb : b < 4294967296) (w : World) : Calls Try.prog 8 #[.int .u8 28, .int .u32 (a : Int), .int .u32 (b : Int)] w fun en w' => en = .returned (.tuple #[.int .u32 ((a : Int) / 2 ^ (b % 32)), .int .i64 0]) ∧ ∃ n, w' = w.drewN n := by
  have hxa := wv a ha
  have hxb := wv b hb
  have k1 := rW a ha
  have k2 := rW b hb
  generalize wrap32 (a : Int) = x at *
  generalize wrap32 (b : Int) = y at *
  obtain ⟨x1, x2, hx⟩ := hxa
  obtain ⟨y1, y2, hy⟩ := hxb
  have K1 := Lib.hid k1
  have K2 := Lib.hid k2
  clear k1 k2
  have HX := Lib.hid hx
  have HY := Lib.hid hy
  clear hx hy
  have kp := rPow b hb
  have hp31 : 2 ^ (b % 32) ≤ 2147483648 := Nat.le_trans (Nat.pow_le_pow_right (by omega) (by omega : b % 32 ≤ 31)) (by decide)
  have hp0 : 0 < 2 ^ (b % 32) := Nat.pow_pos (by omega)
  have hp : ((2 : Int) ^ (b % 32)) = ((2 ^ (b % 32) : Nat) : Int) := by simp
  rw [hp]
  clear hp
  generalize 2 ^ (b % 32) = p at *
  have KP := Lib.hid kp
  clear kp
  have d1 : (a : Int) / (p : Int) = ((a / p : Nat) : Int) := rfl
  have d2 : (a : Int).tdiv (p : Int) = ((a / p : Nat) : Int) := by rw [Int.tdiv_eq_ediv_of_nonneg (by omega)]; rfl
  have d3 : a / p ≤ a := Nat.div_le_self _ _
  have dz : ((p : Int) == 0) = false := by simp; omega
  rw [d1]
  generalize a / p = q at *
  go_enter Try.func8, Try.ntmps8
  go_wp2_with (first | (go_at_call_of 14 (Value.int .u32 (a : Int)); refine (K1.out _).mono ?_; rintro _ _ ⟨rfl, rfl⟩) | (go_at_call_of 14 (Value.int .u32 (b : Int)); refine (K2.out _).mono ?_; rintro _ _ ⟨rfl, rfl⟩) | (go_at_call 17; refine (KP.out _).mono ?_; rintro _ _ ⟨rfl, rfl⟩))
  go_ret2
  exact ⟨ret2 (rfl) rfl, 0, rfl⟩
set_option maxHeartbeats 2000000 in
theorem ro36 (a b : Nat) (ha : a < 4294967296) (hb : b < 4294967296) (w : World) : Calls Try.prog 8 #[.int .u8 36, .int .u32 (a : Int), .int .u32 (b : Int)] w fun en w' => en = .returned (.tuple #[.int .u32 ((a : Int) / 2 ^ (b % 32)), .int .i64 0]) ∧ ∃ n, w' = w.drewN n := by
  have hxa := wv a ha
  have hxb := wv b hb
  have k1 := rW a ha
  have k2 := rW b hb
  generalize wrap32 (a : Int) = x at *
  generalize wrap32 (b : Int) = y at *
  obtain ⟨x1, x2, hx⟩ := hxa
  obtain ⟨y1, y2, hy⟩ := hxb
  have K1 := Lib.hid k1
  have K2 := Lib.hid k2
  clear k1 k2
  have HX := Lib.hid hx
  have HY := Lib.hid hy
  clear hx hy
  have kp := rPow b hb
  have hp31 : 2 ^ (b % 32) ≤ 2147483648 := Nat.le_trans (Nat.pow_le_pow_right (by omega) (by omega : b % 32 ≤ 31)) (by decide)
  have hp0 : 0 < 2 ^ (b % 32) := Nat.pow_pos (by omega)
  have hp : ((2 : Int) ^ (b % 32)) = ((2 ^ (b % 32) : Nat) : Int) := by simp
  rw [hp]
  clear hp
  generalize 2 ^ (b % 32) = p at *
  have KP := Lib.hid kp
  clear kp
  have d1 : (a : Int) / (p : Int) = ((a / p : Nat) : Int) := rfl
  have d2 : (a : Int).tdiv (p : Int) = ((a / p : Nat) : Int) := by rw [Int.tdiv_eq_ediv_of_nonneg (by omega)]; rfl
  have d3 : a / p ≤ a := Nat.div_le_self _ _
  have dz : ((p : Int) == 0) = false := by simp; omega
  rw [d1]
  generalize a / p = q at *
  go_enter Try.func8, Try.ntmps8
  go_wp2_with (first | (go_at_call_of 14 (Value.int .u32 (a : Int)); refine (K1.out _).mono ?_; rintro _ _ ⟨rfl, rfl⟩) | (go_at_call_of 14 (Value.int .u32 (b : Int)); refine (K2.out _).mono ?_; rintro _ _ ⟨rfl, rfl⟩) | (go_at_call 17; refine (KP.out _).mono ?_; rintro _ _ ⟨rfl, rfl⟩))
  go_ret2
  exact ⟨ret2 (rfl) rfl, 0, rfl⟩
set_option maxHeartbeats 2000000 in
theorem ro29 (a b : Nat) (ha : a < 4294967296) (hb : b < 4294967296) (w : World) : Calls Try.prog 8 #[.int .u8 29, .int .u32 (a : Int), .int .u32 (b : Int)] w fun en w' => en = .returned (.tuple #[.int .u32 (wrap32 (a : Int) / 2 ^ (b % 32) % 4294967296), .int .i64 0]) ∧ ∃ n, w' = w.drewN n := by
  have hxa := wv a ha
  have hxb := wv b hb
  have k1 := rW a ha
  have k2 := rW b hb
  generalize wrap32 (a : Int) = x at *
  generalize wrap32 (b : Int) = y at *
  obtain ⟨x1, x2, hx⟩ := hxa
  obtain ⟨y1, y2, hy⟩ := hxb
  have K1 := Lib.hid k1
  have K2 := Lib.hid k2
  clear k1 k2
  have HX := Lib.hid hx
  have HY := Lib.hid hy
  clear hx hy
  have kp := rPow b hb
  have hp31 : 2 ^ (b % 32) ≤ 2147483648 := Nat.le_trans (Nat.pow_le_pow_right (by omega) (by omega : b % 32 ≤ 31)) (by decide)
  have hp0 : 0 < 2 ^ (b % 32) := Nat.pow_pos (by omega)
  have hp : ((2 : Int) ^ (b % 32)) = ((2 ^ (b % 32) : Nat) : Int) := by simp
  rw [hp]
  clear hp
  generalize 2 ^ (b % 32) = p at *
  have KP := Lib.hid kp
  clear kp
  have kd := rDown x p hp0 (by omega) (by omega)
  have db : -2147483648 ≤ x / (p : Int) ∧ x / (p : Int) ≤ 2147483647 := by
    have hp1 : (0 : Int) < (p : Int) := by omega
    refine ⟨(Int.le_ediv_iff_mul_le hp1).2 ?_, ?_⟩
    · omega
    · refine Int.le_of_lt_add_one ((Int.ediv_lt_iff_lt_mul hp1).2 ?_)
      omega
  obtain ⟨db1, db2⟩ := db
  generalize x / (p : Int) = q at *
  have KD := Lib.hid kd
  clear kd
  go_enter Try.func8, Try.ntmps8
  go_wp2_with (first | (go_at_call_of 14 (Value.int .u32 (a : Int)); refine (K1.out _).mono ?_; rintro _ _ ⟨rfl, rfl⟩) | (go_at_call_of 14 (Value.int .u32 (b : Int)); refine (K2.out _).mono ?_; rintro _ _ ⟨rfl, rfl⟩) | (go_at_call 17; refine (KP.out _).mono ?_; rintro _ _ ⟨rfl, rfl⟩) | (go_at_call 18; refine (KD.out _).mono ?_; rintro _ _ ⟨rfl, rfl⟩))
  go_ret2
  exact ⟨ret2 (rfl) rfl, 0, rfl⟩
set_option maxHeartbeats 2000000 in
theorem ro37 (a b : Nat) (ha : a < 4294967296) (hb : b < 4294967296) (w : World) : Calls Try.prog 8 #[.int .u8 37, .int .u32 (a : Int), .int .u32 (b : Int)] w fun en w' => en = .returned (.tuple #[.int .u32 (wrap32 (a : Int) / 2 ^ (b % 32) % 4294967296), .int .i64 0]) ∧ ∃ n, w' = w.drewN n := by
  have hxa := wv a ha
  have hxb := wv b hb
  have k1 := rW a ha
  have k2 := rW b hb
  generalize wrap32 (a : Int) = x at *
  generalize wrap32 (b : Int) = y at *
  obtain ⟨x1, x2, hx⟩ := hxa
  obtain ⟨y1, y2, hy⟩ := hxb
  have K1 := Lib.hid k1
  have K2 := Lib.hid k2
  clear k1 k2
  have HX := Lib.hid hx
  have HY := Lib.hid hy
  clear hx hy
  have kp := rPow b hb
  have hp31 : 2 ^ (b % 32) ≤ 2147483648 := Nat.le_trans (Nat.pow_le_pow_right (by omega) (by omega : b % 32 ≤ 31)) (by decide)
  have hp0 : 0 < 2 ^ (b % 32) := Nat.pow_pos (by omega)
  have hp : ((2 : Int) ^ (b % 32)) = ((2 ^ (b % 32) : Nat) : Int) := by simp
  rw [hp]
  clear hp
  generalize 2 ^ (b % 32) = p at *
  have KP := Lib.hid kp
  clear kp
  have kd := rDown x p hp0 (by omega) (by omega)
  have db : -2147483648 ≤ x / (p : Int) ∧ x / (p : Int) ≤ 2147483647 := by
    have hp1 : (0 : Int) < (p : Int) := by omega
    refine ⟨(Int.le_ediv_iff_mul_le hp1).2 ?_, ?_⟩
    · omega
    · refine Int.le_of_lt_add_one ((Int.ediv_lt_iff_lt_mul hp1).2 ?_)
      omega
  obtain ⟨db1, db2⟩ := db
  generalize x / (p : Int) = q at *
  have KD := Lib.hid kd
  clear kd
  go_enter Try.func8, Try.ntmps8
  go_wp2_with (first | (go_at_call_of 14 (Value.int .u32 (a : Int)); refine (K1.out _).mono ?_; rintro _ _ ⟨rfl, rfl⟩) | (go_at_call_of 14 (Value.int .u32 (b : Int)); refine (K2.out _).mono ?_; rintro _ _ ⟨rfl, rfl⟩) | (go_at_call 17; refine (KP.out _).mono ?_; rintro _ _ ⟨rfl, rfl⟩) | (go_at_call 18; refine (KD.out _).mono ?_; rintro _ _ ⟨rfl, rfl⟩))
  go_ret2
  exact ⟨ret2 (rfl) rfl, 0, rfl⟩
set_option maxHeartbeats 2000000 in
theorem ro41 (a b : Nat) (ha : a < 4294967296) (hb : b < 4294967296) (w : World) : Calls Try.prog 8 #[.int .u8 41, .int .u32 (a : Int), .int .u32 (b : Int)] w fun en w' => en = .returned (.tuple #[.int .u32 (wrap32 (a : Int) * wrap32 (b : Int) / 4294967296 % 4294967296), .int .i64 0]) ∧ ∃ n, w' = w.drewN n := by
  have hxa := wv a ha
  have hxb := wv b hb
  have k1 := rW a ha
  have k2 := rW b hb
  generalize wrap32 (a : Int) = x at *
  generalize wrap32 (b : Int) = y at *
  obtain ⟨x1, x2, hx⟩ := hxa
  obtain ⟨y1, y2, hy⟩ := hxb
  have K1 := Lib.hid k1
  have K2 := Lib.hid k2
  clear k1 k2
  have HX := Lib.hid hx
  have HY := Lib.hid hy
  clear hx hy
  have m := mulbd x y 2147483648 2147483648 (by omega) (by omega) (by omega) (by omega) (by omega) (by omega)
  obtain ⟨m1, m2⟩ := m
  have kd := rDown32 (x * y) (by omega)
  obtain ⟨q, hq⟩ : ∃ q, q = (x * y) / 4294967296 := ⟨_, rfl⟩
  have db : -2147483648 ≤ q ∧ q ≤ 2147483647 := by omega
  obtain ⟨db1, db2⟩ := db
  rw [← hq] at kd ⊢
  clear hq
  have KD := Lib.hid kd
  clear kd
  go_enter Try.func8, Try.ntmps8
  go_wp2_with (first | (go_at_call_of 14 (Value.int .u32 (a : Int)); refine (K1.out _).mono ?_; rintro _ _ ⟨rfl, rfl⟩) | (go_at_call_of 14 (Value.int .u32 (b : Int)); refine (K2.out _).mono ?_; rintro _ _ ⟨rfl, rfl⟩) | (go_at_call 18; refine (KD.out _).mono ?_; rintro _ _ ⟨rfl, rfl⟩))
  go_ret2
  exact ⟨ret2 (rfl) rfl, 0, rfl⟩
set_option maxHeartbeats 2000000 in
theorem ro42 (a b : Nat) (ha : a < 4294967296) (hb : b < 4294967296) (w : World) : Calls Try.prog 8 #[.int .u8 42, .int .u32 (a : Int), .int .u32 (b : Int)] w fun en w' => en = .returned (.tuple #[.int .u32 (wrap32 (a : Int) * (b : Int) / 4294967296 % 4294967296), .int .i64 0]) ∧ ∃ n, w' = w.drewN n := by
  have hxa := wv a ha
  have hxb := wv b hb
  have k1 := rW a ha
  have k2 := rW b hb
  generalize wrap32 (a : Int) = x at *
  generalize wrap32 (b : Int) = y at *
  obtain ⟨x1, x2, hx⟩ := hxa
  obtain ⟨y1, y2, hy⟩ := hxb
  have K1 := Lib.hid k1
  have K2 := Lib.hid k2
  clear k1 k2
  have HX := Lib.hid hx
  have HY := Lib.hid hy
  clear hx hy
  have m := mulbd x (b : Int) 2147483648 4294967295 (by omega) (by omega) (by omega) (by omega) (by omega) (by omega)
  obtain ⟨m1, m2⟩ := m
  have kd := rDown32 (x * (b : Int)) (by omega)
  obtain ⟨q, hq⟩ : ∃ q, q = (x * (b : Int)) / 4294967296 := ⟨_, rfl⟩
  have db : -2147483648 ≤ q ∧ q ≤ 2147483647 := by omega
  obtain ⟨db1, db2⟩ := db
  rw [← hq] at kd ⊢
  clear hq
  have KD := Lib.hid kd
  clear kd
  go_enter Try.func8, Try.ntmps8
  go_wp2_with (first | (go_at_call_of 14 (Value.int .u32 (a : Int)); refine (K1.out _).mono ?_; rintro _ _ ⟨rfl, rfl⟩) | (go_at_call_of 14 (Value.int .u32 (b : Int)); refine (K2.out _).mono ?_; rintro _ _ ⟨rfl, rfl⟩) | (go_at_call 18; refine (KD.out _).mono ?_; rintro _ _ ⟨rfl, rfl⟩))
  go_ret2
  exact ⟨ret2 (rfl) rfl, 0, rfl⟩
set_option maxHeartbeats 2000000 in
theorem ro43 (a b : Nat) (ha : a < 4294967296) (hb : b < 4294967296) (w : World) : Calls Try.prog 8 #[.int .u8 43, .int .u32 (a : Int), .int .u32 (b : Int)] w fun en w' => en = .returned (.tuple #[.int .u32 ((a : Int) * (b : Int) / 4294967296), .int .i64 0]) ∧ ∃ n, w' = w.drewN n := by
  have hxa := wv a ha
  have hxb := wv b hb
  have k1 := rW a ha
  have k2 := rW b hb
  generalize wrap32 (a : Int) = x at *
  generalize wrap32 (b : Int) = y at *
  obtain ⟨x1, x2, hx⟩ := hxa
  obtain ⟨y1, y2, hy⟩ := hxb
  have K1 := Lib.hid k1
  have K2 := Lib.hid k2
  clear k1 k2
  have HX := Lib.hid hx
  have HY := Lib.hid hy
  clear hx hy
  have kh := rHigh a b ha hb
  generalize (a : Int) * (b : Int) / 4294967296 = q at *
  have KH := Lib.hid kh
  clear kh
  go_enter Try.func8, Try.ntmps8
  go_wp2_with (first | (go_at_call_of 14 (Value.int .u32 (a : Int)); refine (K1.out _).mono ?_; rintro _ _ ⟨rfl, rfl⟩) | (go_at_call_of 14 (Value.int .u32 (b : Int)); refine (K2.out _).mono ?_; rintro _ _ ⟨rfl, rfl⟩) | (go_at_call 19; refine (KH.out _).mono ?_; rintro _ _ ⟨rfl, rfl⟩))
  go_ret2
  exact ⟨ret2 (rfl) rfl, 0, rfl⟩
end Go.Proofs.Ytojjdhohhonheab
