import Derived.Test.YtojjdhohhonheabH
import Derived.Outline
import Derived.Tactics2
namespace Go.Proofs.Ytojjdhohhonheab
open Go.ChangeShapes Go.WideShapes Go.ChangeAt Go.RowKit
set_option linter.unusedVariables false
theorem wv (a : Nat) (ha : a < 4294967296) : -2147483648 ≤ wrap32 (a : Int) ∧ wrap32 (a : Int) ≤ 2147483647 ∧ (wrap32 (a : Int) = (a : Int) ∨ wrap32 (a : Int) = (a : Int) - 4294967296) := by unfold wrap32; omega
set_option maxHeartbeats 2000000 in
theorem ro21 (a b : Nat) (ha : a < 4294967296) (hb : b < 4294967296) (w : World) : Calls Try.prog 8 #[.int .u8 21, .int .u32 (a : Int), .int .u32 (b : Int)] w fun en w' => en = .returned (.tuple #[.int .u32 (((a : Int) + (b : Int)) % 4294967296), .int .i64 0]) ∧ ∃ n, w' = w.drewN n := by
  have hxa := wv a ha
  have hxb := wv b hb
  have k1 := rW a ha
  have k2 := rW b hb
  generalize wrap32 (a : Int) = x at *
  generalize wrap32 (b : Int) = y at *
  obtain ⟨x1, x2, hx⟩ := hxa
  obtain ⟨y1, y2, hy⟩ := hxb
  have K1 := Lib.hid k1
  have K2 := Lib.hid k2
  clear k1 k2
  have HX := Lib.hid hx
  have HY := Lib.hid hy
  clear hx hy
  go_enter Try.func8, Try.ntmps8
  go_wp2_with (first | (go_at_call_of 14 (Value.int .u32 (a : Int)); refine (K1.out _).mono ?_; rintro _ _ ⟨rfl, rfl⟩) | (go_at_call_of 14 (Value.int .u32 (b : Int)); refine (K2.out _).mono ?_; rintro _ _ ⟨rfl, rfl⟩))
  go_ret2
  exact ⟨ret2 (by have := HX.out; have := HY.out; omega) rfl, 0, rfl⟩
set_option maxHeartbeats 2000000 in
theorem ro30 (a b : Nat) (ha : a < 4294967296) (hb : b < 4294967296) (w : World) : Calls Try.prog 8 #[.int .u8 30, .int .u32 (a : Int), .int .u32 (b : Int)] w fun en w' => en = .returned (.tuple #[.int .u32 (((a : Int) + (b : Int)) % 4294967296), .int .i64 0]) ∧ ∃ n, w' = w.drewN n := by
  have hxa := wv a ha
  have hxb := wv b hb
  have k1 := rW a ha
  have k2 := rW b hb
  generalize wrap32 (a : Int) = x at *
  generalize wrap32 (b : Int) = y at *
  obtain ⟨x1, x2, hx⟩ := hxa
  obtain ⟨y1, y2, hy⟩ := hxb
  have K1 := Lib.hid k1
  have K2 := Lib.hid k2
  clear k1 k2
  have HX := Lib.hid hx
  have HY := Lib.hid hy
  clear hx hy
  go_enter Try.func8, Try.ntmps8
  go_wp2_with (first | (go_at_call_of 14 (Value.int .u32 (a : Int)); refine (K1.out _).mono ?_; rintro _ _ ⟨rfl, rfl⟩) | (go_at_call_of 14 (Value.int .u32 (b : Int)); refine (K2.out _).mono ?_; rintro _ _ ⟨rfl, rfl⟩))
  go_ret2
  exact ⟨ret2 (by have := HX.out; have := HY.out; omega) rfl, 0, rfl⟩
set_option maxHeartbeats 2000000 in
theorem ro31 (a b : Nat) (ha : a < 4294967296) (hb : b < 4294967296) (w : World) : Calls Try.prog 8 #[.int .u8 31, .int .u32 (a : Int), .int .u32 (b : Int)] w fun en w' => en = .returned (.tuple #[.int .u32 (((a : Int) - (b : Int)) % 4294967296), .int .i64 0]) ∧ ∃ n, w' = w.drewN n := by
  have hxa := wv a ha
  have hxb := wv b hb
  have k1 := rW a ha
  have k2 := rW b hb
  generalize wrap32 (a : Int) = x at *
  generalize wrap32 (b : Int) = y at *
  obtain ⟨x1, x2, hx⟩ := hxa
  obtain ⟨y1, y2, hy⟩ := hxb
  have K1 := Lib.hid k1
  have K2 := Lib.hid k2
  clear k1 k2
  have HX := Lib.hid hx
  have HY := Lib.hid hy
  clear hx hy
  go_enter Try.func8, Try.ntmps8
  go_wp2_with (first | (go_at_call_of 14 (Value.int .u32 (a : Int)); refine (K1.out _).mono ?_; rintro _ _ ⟨rfl, rfl⟩) | (go_at_call_of 14 (Value.int .u32 (b : Int)); refine (K2.out _).mono ?_; rintro _ _ ⟨rfl, rfl⟩))
  go_ret2
  exact ⟨ret2 (by have := HX.out; have := HY.out; omega) rfl, 0, rfl⟩
set_option maxHeartbeats 2000000 in
theorem ro26 (a b : Nat) (ha : a < 4294967296) (hb : b < 4294967296) (w : World) : Calls Try.prog 8 #[.int .u8 26, .int .u32 (a : Int), .int .u32 (b : Int)] w fun en w' => en = .returned (.tuple #[.int .u32 (bits .and .u32 (a : Int) (b : Int)), .int .i64 0]) ∧ ∃ n, w' = w.drewN n := by
  have hxa := wv a ha
  have hxb := wv b hb
  have k1 := rW a ha
  have k2 := rW b hb
  generalize wrap32 (a : Int) = x at *
  generalize wrap32 (b : Int) = y at *
  obtain ⟨x1, x2, hx⟩ := hxa
  obtain ⟨y1, y2, hy⟩ := hxb
  have K1 := Lib.hid k1
  have K2 := Lib.hid k2
  clear k1 k2
  have HX := Lib.hid hx
  have HY := Lib.hid hy
  clear hx hy
  have kb := rBit 0 a b (by omega) ha hb
  have hbw : (bw 0 a b : Int) = bits .and .u32 (a : Int) (b : Int) := (u32_and_nat a b ha hb).symm
  rw [← hbw]
  generalize bw 0 a b = r at *
  have KB := Lib.hid kb
  clear kb hbw
  go_enter Try.func8, Try.ntmps8
  go_wp2_with (first | (go_at_call_of 14 (Value.int .u32 (a : Int)); refine (K1.out _).mono ?_; rintro _ _ ⟨rfl, rfl⟩) | (go_at_call_of 14 (Value.int .u32 (b : Int)); refine (K2.out _).mono ?_; rintro _ _ ⟨rfl, rfl⟩) | (go_at_call 15; refine (KB.out _).mono ?_; rintro _ _ ⟨rfl, n, rfl⟩))
  go_ret2
  exact ⟨ret2 (rfl) rfl, _, rfl⟩
set_option maxHeartbeats 2000000 in
theorem ro39 (a b : Nat) (ha : a < 4294967296) (hb : b < 4294967296) (w : World) : Calls Try.prog 8 #[.int .u8 39, .int .u32 (a : Int), .int .u32 (b : Int)] w fun en w' => en = .returned (.tuple #[.int .u32 (bits .and .u32 (a : Int) (b : Int)), .int .i64 0]) ∧ ∃ n, w' = w.drewN n := by
  have hxa := wv a ha
  have hxb := wv b hb
  have k1 := rW a ha
  have k2 := rW b hb
  generalize wrap32 (a : Int) = x at *
  generalize wrap32 (b : Int) = y at *
  obtain ⟨x1, x2, hx⟩ := hxa
  obtain ⟨y1, y2, hy⟩ := hxb
  have K1 := Lib.hid k1
  have K2 := Lib.hid k2
  clear k1 k2
  have HX := Lib.hid hx
  have HY := Lib.hid hy
  clear hx hy
  have kb := rBit 0 a b (by omega) ha hb
  have hbw : (bw 0 a b : Int) = bits .and .u32 (a : Int) (b : Int) := (u32_and_nat a b ha hb).symm
  rw [← hbw]
  generalize bw 0 a b = r at *
  have KB := Lib.hid kb
  clear kb hbw
  go_enter Try.func8, Try.ntmps8
  go_wp2_with (first | (go_at_call_of 14 (Value.int .u32 (a : Int)); refine (K1.out _).mono ?_; rintro _ _ ⟨rfl, rfl⟩) | (go_at_call_of 14 (Value.int .u32 (b : Int)); refine (K2.out _).mono ?_; rintro _ _ ⟨rfl, rfl⟩) | (go_at_call 15; refine (KB.out _).mono ?_; rintro _ _ ⟨rfl, n, rfl⟩))
  go_ret2
  exact ⟨ret2 (rfl) rfl, _, rfl⟩
set_option maxHeartbeats 2000000 in
theorem ro25 (a b : Nat) (ha : a < 4294967296) (hb : b < 4294967296) (w : World) : Calls Try.prog 8 #[.int .u8 25, .int .u32 (a : Int), .int .u32 (b : Int)] w fun en w' => en = .returned (.tuple #[.int .u32 (bits .or .u32 (a : Int) (b : Int)), .int .i64 0]) ∧ ∃ n, w' = w.drewN n := by
  have hxa := wv a ha
  have hxb := wv b hb
  have k1 := rW a ha
  have k2 := rW b hb
  generalize wrap32 (a : Int) = x at *
  generalize wrap32 (b : Int) = y at *
  obtain ⟨x1, x2, hx⟩ := hxa
  obtain ⟨y1, y2, hy⟩ := hxb
  have K1 := Lib.hid k1
  have K2 := Lib.hid k2
  clear k1 k2
  have HX := Lib.hid hx
  have HY := Lib.hid hy
  clear hx hy
  have kb := rBit 1 a b (by omega) ha hb
  have hbw : (bw 1 a b : Int) = bits .or .u32 (a : Int) (b : Int) := (u32_or_nat a b ha hb).symm
  rw [← hbw]
  generalize bw 1 a b = r at *
  have KB := Lib.hid kb
  clear kb hbw
  go_enter Try.func8, Try.ntmps8
  go_wp2_with (first | (go_at_call_of 14 (Value.int .u32 (a : Int)); refine (K1.out _).mono ?_; rintro _ _ ⟨rfl, rfl⟩) | (go_at_call_of 14 (Value.int .u32 (b : Int)); refine (K2.out _).mono ?_; rintro _ _ ⟨rfl, rfl⟩) | (go_at_call 15; refine (KB.out _).mono ?_; rintro _ _ ⟨rfl, n, rfl⟩))
  go_ret2
  exact ⟨ret2 (rfl) rfl, _, rfl⟩
set_option maxHeartbeats 2000000 in
theorem ro38 (a b : Nat) (ha : a < 4294967296) (hb : b < 4294967296) (w : World) : Calls Try.prog 8 #[.int .u8 38, .int .u32 (a : Int), .int .u32 (b : Int)] w fun en w' => en = .returned (.tuple #[.int .u32 (bits .or .u32 (a : Int) (b : Int)), .int .i64 0]) ∧ ∃ n, w' = w.drewN n := by
  have hxa := wv a ha
  have hxb := wv b hb
  have k1 := rW a ha
  have k2 := rW b hb
  generalize wrap32 (a : Int) = x at *
  generalize wrap32 (b : Int) = y at *
  obtain ⟨x1, x2, hx⟩ := hxa
  obtain ⟨y1, y2, hy⟩ := hxb
  have K1 := Lib.hid k1
  have K2 := Lib.hid k2
  clear k1 k2
  have HX := Lib.hid hx
  have HY := Lib.hid hy
  clear hx hy
  have kb := rBit 1 a b (by omega) ha hb
  have hbw : (bw 1 a b : Int) = bits .or .u32 (a : Int) (b : Int) := (u32_or_nat a b ha hb).symm
  rw [← hbw]
  generalize bw 1 a b = r at *
  have KB := Lib.hid kb
  clear kb hbw
  go_enter Try.func8, Try.ntmps8
  go_wp2_with (first | (go_at_call_of 14 (Value.int .u32 (a : Int)); refine (K1.out _).mono ?_; rintro _ _ ⟨rfl, rfl⟩) | (go_at_call_of 14 (Value.int .u32 (b : Int)); refine (K2.out _).mono ?_; rintro _ _ ⟨rfl, rfl⟩) | (go_at_call 15; refine (KB.out _).mono ?_; rintro _ _ ⟨rfl, n, rfl⟩))
  go_ret2
  exact ⟨ret2 (rfl) rfl, _, rfl⟩
set_option maxHeartbeats 2000000 in
theorem ro24 (a b : Nat) (ha : a < 4294967296) (hb : b < 4294967296) (w : World) : Calls Try.prog 8 #[.int .u8 24, .int .u32 (a : Int), .int .u32 (b : Int)] w fun en w' => en = .returned (.tuple #[.int .u32 (bits .xor .u32 (a : Int) (b : Int)), .int .i64 0]) ∧ ∃ n, w' = w.drewN n := by
  have hxa := wv a ha
  have hxb := wv b hb
  have k1 := rW a ha
  have k2 := rW b hb
  generalize wrap32 (a : Int) = x at *
  generalize wrap32 (b : Int) = y at *
  obtain ⟨x1, x2, hx⟩ := hxa
  obtain ⟨y1, y2, hy⟩ := hxb
  have K1 := Lib.hid k1
  have K2 := Lib.hid k2
  clear k1 k2
  have HX := Lib.hid hx
  have HY := Lib.hid hy
  clear hx hy
  have kb := rBit 2 a b (by omega) ha hb
  have hbw : (bw 2 a b : Int) = bits .xor .u32 (a : Int) (b : Int) := (u32_xor_nat a b ha hb).symm
  rw [← hbw]
  generalize bw 2 a b = r at *
  have KB := Lib.hid kb
  clear kb hbw
  go_enter Try.func8, Try.ntmps8
  go_wp2_with (first | (go_at_call_of 14 (Value.int .u32 (a : Int)); refine (K1.out _).mono ?_; rintro _ _ ⟨rfl, rfl⟩) | (go_at_call_of 14 (Value.int .u32 (b : Int)); refine (K2.out _).mono ?_; rintro _ _ ⟨rfl, rfl⟩) | (go_at_call 15; refine (KB.out _).mono ?_; rintro _ _ ⟨rfl, n, rfl⟩))
  go_ret2
  exact ⟨ret2 (rfl) rfl, _, rfl⟩
set_option maxHeartbeats 2000000 in
theorem ro35 (a b : Nat) (ha : a < 4294967296) (hb : b < 4294967296) (w : World) : Calls Try.prog 8 #[.int .u8 35, .int .u32 (a : Int), .int .u32 (b : Int)] w fun en w' => en = .returned (.tuple #[.int .u32 (bits .xor .u32 (a : Int) (b : Int)), .int .i64 0]) ∧ ∃ n, w' = w.drewN n := by
  have hxa := wv a ha
  have hxb := wv b hb
  have k1 := rW a ha
  have k2 := rW b hb
  generalize wrap32 (a : Int) = x at *
  generalize wrap32 (b : Int) = y at *
  obtain ⟨x1, x2, hx⟩ := hxa
  obtain ⟨y1, y2, hy⟩ := hxb
  have K1 := Lib.hid k1
  have K2 := Lib.hid k2
  clear k1 k2
  have HX := Lib.hid hx
  have HY := Lib.hid hy
  clear hx hy
  have kb := rBit 2 a b (by omega) ha hb
  have hbw : (bw 2 a b : Int) = bits .xor .u32 (a : Int) (b : Int) := (u32_xor_nat a b ha hb).symm
  rw [← hbw]
  generalize bw 2 a b = r at *
  have KB := Lib.hid kb
  clear kb hbw
  go_enter Try.func8, Try.ntmps8
  go_wp2_with (first | (go_at_call_of 14 (Value.int .u32 (a : Int)); refine (K1.out _).mono ?_; rintro _ _ ⟨rfl, rfl⟩) | (go_at_call_of 14 (Value.int .u32 (b : Int)); refine (K2.out _).mono ?_; rintro _ _ ⟨rfl, rfl⟩) | (go_at_call 15; refine (KB.out _).mono ?_; rintro _ _ ⟨rfl, n, rfl⟩))
  go_ret2
  exact ⟨ret2 (rfl) rfl, _, rfl⟩
set_option maxHeartbeats 2000000 in
theorem ro22 (a b : Nat) (ha : a < 4294967296) (hb : b < 4294967296) (w : World) : Calls Try.prog 8 #[.int .u8 22, .int .u32 (a : Int), .int .u32 (b : Int)] w fun en w' => en = .returned (.tuple #[.int .u32 (b2i (decide (wrap32 (a : Int) < wrap32 (b : Int)))), .int .i64 0]) ∧ ∃ n, w' = w.drewN n := by
  have hxa := wv a ha
  have hxb := wv b hb
  have k1 := rW a ha
  have k2 := rW b hb
  generalize wrap32 (a : Int) = x at *
  generalize wrap32 (b : Int) = y at *
  obtain ⟨x1, x2, hx⟩ := hxa
  obtain ⟨y1, y2, hy⟩ := hxb
  have K1 := Lib.hid k1
  have K2 := Lib.hid k2
  clear k1 k2
  have HX := Lib.hid hx
  have HY := Lib.hid hy
  clear hx hy
  go_enter Try.func8, Try.ntmps8
  go_wp2_with (first | (go_at_call_of 14 (Value.int .u32 (a : Int)); refine (K1.out _).mono ?_; rintro _ _ ⟨rfl, rfl⟩) | (go_at_call_of 14 (Value.int .u32 (b : Int)); refine (K2.out _).mono ?_; rintro _ _ ⟨rfl, rfl⟩) | (go_at_call 16; refine (rOne _ _).mono ?_; rintro _ _ ⟨rfl, rfl⟩))
  go_ret2
  exact ⟨ret2 (rfl) rfl, 0, rfl⟩
set_option maxHeartbeats 2000000 in
theorem ro33 (a b : Nat) (ha : a < 4294967296) (hb : b < 4294967296) (w : World) : Calls Try.prog 8 #[.int .u8 33, .int .u32 (a : Int), .int .u32 (b : Int)] w fun en w' => en = .returned (.tuple #[.int .u32 (b2i (decide (wrap32 (a : Int) < wrap32 (b : Int)))), .int .i64 0]) ∧ ∃ n, w' = w.drewN n := by
  have hxa := wv a ha
  have hxb := wv b hb
  have k1 := rW a ha
  have k2 := rW b hb
  generalize wrap32 (a : Int) = x at *
  generalize wrap32 (b : Int) = y at *
  obtain ⟨x1, x2, hx⟩ := hxa
  obtain ⟨y1, y2, hy⟩ := hxb
  have K1 := Lib.hid k1
  have K2 := Lib.hid k2
  clear k1 k2
  have HX := Lib.hid hx
  have HY := Lib.hid hy
  clear hx hy
  go_enter Try.func8, Try.ntmps8
  go_wp2_with (first | (go_at_call_of 14 (Value.int .u32 (a : Int)); refine (K1.out _).mono ?_; rintro _ _ ⟨rfl, rfl⟩) | (go_at_call_of 14 (Value.int .u32 (b : Int)); refine (K2.out _).mono ?_; rintro _ _ ⟨rfl, rfl⟩) | (go_at_call 16; refine (rOne _ _).mono ?_; rintro _ _ ⟨rfl, rfl⟩))
  go_ret2
  exact ⟨ret2 (rfl) rfl, 0, rfl⟩
set_option maxHeartbeats 2000000 in
theorem ro23 (a b : Nat) (ha : a < 4294967296) (hb : b < 4294967296) (w : World) : Calls Try.prog 8 #[.int .u8 23, .int .u32 (a : Int), .int .u32 (b : Int)] w fun en w' => en = .returned (.tuple #[.int .u32 (b2i (decide (a < b))), .int .i64 0]) ∧ ∃ n, w' = w.drewN n := by
  have hxa := wv a ha
  have hxb := wv b hb
  have k1 := rW a ha
  have k2 := rW b hb
  generalize wrap32 (a : Int) = x at *
  generalize wrap32 (b : Int) = y at *
  obtain ⟨x1, x2, hx⟩ := hxa
  obtain ⟨y1, y2, hy⟩ := hxb
  have K1 := Lib.hid k1
  have K2 := Lib.hid k2
  clear k1 k2
  have HX := Lib.hid hx
  have HY := Lib.hid hy
  clear hx hy
  go_enter Try.func8, Try.ntmps8
  go_wp2_with (first | (go_at_call_of 14 (Value.int .u32 (a : Int)); refine (K1.out _).mono ?_; rintro _ _ ⟨rfl, rfl⟩) | (go_at_call_of 14 (Value.int .u32 (b : Int)); refine (K2.out _).mono ?_; rintro _ _ ⟨rfl, rfl⟩) | (go_at_call 16; refine (rOne _ _).mono ?_; rintro _ _ ⟨rfl, rfl⟩))
  go_ret2
  exact ⟨ret2 (rfl) rfl, 0, rfl⟩
set_option maxHeartbeats 2000000 in
theorem ro34 (a b : Nat) (ha : a < 4294967296) (hb : b < 4294967296) (w : World) : Calls Try.prog 8 #[.int .u8 34, .int .u32 (a : Int), .int .u32 (b : Int)] w fun en w' => en = .returned (.tuple #[.int .u32 (b2i (decide (a < b))), .int .i64 0]) ∧ ∃ n, w' = w.drewN n := by
  have hxa := wv a ha
  have hxb := wv b hb
  have k1 := rW a ha
  have k2 := rW b hb
  generalize wrap32 (a : Int) = x at *
  generalize wrap32 (b : Int) = y at *
  obtain ⟨x1, x2, hx⟩ := hxa
  obtain ⟨y1, y2, hy⟩ := hxb
  have K1 := Lib.hid k1
  have K2 := Lib.hid k2
  clear k1 k2
  have HX := Lib.hid hx
  have HY := Lib.hid hy
  clear hx hy
  go_enter Try.func8, Try.ntmps8
  go_wp2_with (first | (go_at_call_of 14 (Value.int .u32 (a : Int)); refine (K1.out _).mono ?_; rintro _ _ ⟨rfl, rfl⟩) | (go_at_call_of 14 (Value.int .u32 (b : Int)); refine (K2.out _).mono ?_; rintro _ _ ⟨rfl, rfl⟩) | (go_at_call 16; refine (rOne _ _).mono ?_; rintro _ _ ⟨rfl, rfl⟩))
  go_ret2
  exact ⟨ret2 (rfl) rfl, 0, rfl⟩
end Go.Proofs.Ytojjdhohhonheab
