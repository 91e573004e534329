import Derived.Test.YtojjdhohhonheabK
namespace Go.Proofs.Ytojjdhohhonheab
open Go.ChangeShapes Go.WideShapes Go.ChangeAt Go.RowKit
set_option linter.unusedVariables false
set_option maxHeartbeats 4000000 in
theorem roX (o a b : Nat) (ho : o < 256) (ha : a < 4294967296) (hb : b < 4294967296) (w : World) (hn : ¬ (21 ≤ o ∧ o ≤ 47)) : Calls Try.prog 8 #[.int .u8 (o : Int), .int .u32 (a : Int), .int .u32 (b : Int)] w fun en w' => en = .returned (.tuple #[.int .u32 0, .int .i64 2]) ∧ ∃ n, w' = w.drewN n := by
  have hxa := wv a ha
  have hxb := wv b hb
  have k1 := rW a ha
  have k2 := rW b hb
  generalize wrap32 (a : Int) = x at *
  generalize wrap32 (b : Int) = y at *
  obtain ⟨x1, x2, hx⟩ := hxa
  obtain ⟨y1, y2, hy⟩ := hxb
  clear hx hy
  have K1 := Lib.hid k1
  have K2 := Lib.hid k2
  clear k1 k2
  have n21 : ((o : Int) == 21) = false := by simp; omega
  have n22 : ((o : Int) == 22) = false := by simp; omega
  have n23 : ((o : Int) == 23) = false := by simp; omega
  have n24 : ((o : Int) == 24) = false := by simp; omega
  have n25 : ((o : Int) == 25) = false := by simp; omega
  have n26 : ((o : Int) == 26) = false := by simp; omega
  have n27 : ((o : Int) == 27) = false := by simp; omega
  have n28 : ((o : Int) == 28) = false := by simp; omega
  have n29 : ((o : Int) == 29) = false := by simp; omega
  have n30 : ((o : Int) == 30) = false := by simp; omega
  have n31 : ((o : Int) == 31) = false := by simp; omega
  have n32 : ((o : Int) == 32) = false := by simp; omega
  have n33 : ((o : Int) == 33) = false := by simp; omega
  have n34 : ((o : Int) == 34) = false := by simp; omega
  have n35 : ((o : Int) == 35) = false := by simp; omega
  have n36 : ((o : Int) == 36) = false := by simp; omega
  have n37 : ((o : Int) == 37) = false := by simp; omega
  have n38 : ((o : Int) == 38) = false := by simp; omega
  have n39 : ((o : Int) == 39) = false := by simp; omega
  have n40 : ((o : Int) == 40) = false := by simp; omega
  have n41 : ((o : Int) == 41) = false := by simp; omega
  have n42 : ((o : Int) == 42) = false := by simp; omega
  have n43 : ((o : Int) == 43) = false := by simp; omega
  have n44 : ((o : Int) == 44) = false := by simp; omega
  have n45 : ((o : Int) == 45) = false := by simp; omega
  have n46 : ((o : Int) == 46) = false := by simp; omega
  have n47 : ((o : Int) == 47) = false := by simp; omega
  clear hn
  go_enter Try.func8, Try.ntmps8
  go_wp2_with (first | (go_at_call_of 14 (Value.int .u32 (a : Int)); refine (K1.out _).mono ?_; rintro _ _ ⟨rfl, rfl⟩) | (go_at_call_of 14 (Value.int .u32 (b : Int)); refine (K2.out _).mono ?_; rintro _ _ ⟨rfl, rfl⟩))
  go_ret2
  exact ⟨ret2 rfl rfl, 0, rfl⟩
set_option maxHeartbeats 4000000 in
theorem muX (o a b : Nat) (ho : o < 256) (ha : a < 4294967296) (hb : b < 4294967296) (w : World) (hn : ¬ (21 ≤ o ∧ o ≤ 47)) : Calls Try.prog 13 #[.int .u8 (o : Int), .int .u32 (a : Int), .int .u32 (b : Int)] w fun en w' => en = .returned (.tuple #[.int .u32 0, .int .i64 2]) ∧ w = w' := by
  have n21 : ((o : Int) == 21) = false := by simp; omega
  have n22 : ((o : Int) == 22) = false := by simp; omega
  have n23 : ((o : Int) == 23) = false := by simp; omega
  have n24 : ((o : Int) == 24) = false := by simp; omega
  have n25 : ((o : Int) == 25) = false := by simp; omega
  have n26 : ((o : Int) == 26) = false := by simp; omega
  have n27 : ((o : Int) == 27) = false := by simp; omega
  have n28 : ((o : Int) == 28) = false := by simp; omega
  have n29 : ((o : Int) == 29) = false := by simp; omega
  have n30 : ((o : Int) == 30) = false := by simp; omega
  have n31 : ((o : Int) == 31) = false := by simp; omega
  have n32 : ((o : Int) == 32) = false := by simp; omega
  have n33 : ((o : Int) == 33) = false := by simp; omega
  have n34 : ((o : Int) == 34) = false := by simp; omega
  have n35 : ((o : Int) == 35) = false := by simp; omega
  have n36 : ((o : Int) == 36) = false := by simp; omega
  have n37 : ((o : Int) == 37) = false := by simp; omega
  have n38 : ((o : Int) == 38) = false := by simp; omega
  have n39 : ((o : Int) == 39) = false := by simp; omega
  have n40 : ((o : Int) == 40) = false := by simp; omega
  have n41 : ((o : Int) == 41) = false := by simp; omega
  have n42 : ((o : Int) == 42) = false := by simp; omega
  have n43 : ((o : Int) == 43) = false := by simp; omega
  have n44 : ((o : Int) == 44) = false := by simp; omega
  have n45 : ((o : Int) == 45) = false := by simp; omega
  have n46 : ((o : Int) == 46) = false := by simp; omega
  have n47 : ((o : Int) == 47) = false := by simp; omega
  clear hn
  go_enter Try.func13, Try.ntmps13
  go_wp2
  go_ret2
  exact ⟨ret2 rfl rfl, rfl⟩
set_option maxHeartbeats 4000000 in
theorem doX (o a b : Nat) (ho : o < 256) (ha : a < 4294967296) (hb : b < 4294967296) (w : World) (hn : ¬ (21 ≤ o ∧ o ≤ 47)) : Calls Try.prog 7 #[.int .u8 (o : Int), .int .u32 (a : Int), .int .u32 (b : Int)] w fun en w' => en = .returned (.tuple #[.int .u32 0, .int .i64 2]) ∧ w = w' := by
  have K := Lib.hid (muX o a b ho ha hb)
  have n21 : ((o : Int) == 21) = false := by simp; omega
  have n22 : ((o : Int) == 22) = false := by simp; omega
  have n23 : ((o : Int) == 23) = false := by simp; omega
  have n24 : ((o : Int) == 24) = false := by simp; omega
  have n25 : ((o : Int) == 25) = false := by simp; omega
  have n26 : ((o : Int) == 26) = false := by simp; omega
  have n27 : ((o : Int) == 27) = false := by simp; omega
  have n28 : ((o : Int) == 28) = false := by simp; omega
  have n29 : ((o : Int) == 29) = false := by simp; omega
  have n30 : ((o : Int) == 30) = false := by simp; omega
  have n31 : ((o : Int) == 31) = false := by simp; omega
  have n32 : ((o : Int) == 32) = false := by simp; omega
  have n33 : ((o : Int) == 33) = false := by simp; omega
  have n34 : ((o : Int) == 34) = false := by simp; omega
  have n35 : ((o : Int) == 35) = false := by simp; omega
  have n36 : ((o : Int) == 36) = false := by simp; omega
  have n37 : ((o : Int) == 37) = false := by simp; omega
  have n38 : ((o : Int) == 38) = false := by simp; omega
  have n39 : ((o : Int) == 39) = false := by simp; omega
  have n40 : ((o : Int) == 40) = false := by simp; omega
  have n41 : ((o : Int) == 41) = false := by simp; omega
  have n42 : ((o : Int) == 42) = false := by simp; omega
  have n43 : ((o : Int) == 43) = false := by simp; omega
  have n44 : ((o : Int) == 44) = false := by simp; omega
  have n45 : ((o : Int) == 45) = false := by simp; omega
  have n46 : ((o : Int) == 46) = false := by simp; omega
  have n47 : ((o : Int) == 47) = false := by simp; omega
  go_enter Try.func7, Try.ntmps7
  go_wp2_with fail
  refine (K.out _ hn).mono ?_
  rintro _ _ ⟨rfl, rfl⟩
  go_wp2_with fail
  go_ret2
  exact ⟨ret2 rfl rfl, rfl⟩
set_option maxHeartbeats 4000000 in
theorem isX (o a b : Nat) (ho : o < 256) (ha : a < 4294967296) (hb : b < 4294967296) (w : World) (hn : ¬ (5 ≤ o ∧ o ≤ 10)) : Calls Try.prog 9 #[.int .u8 (o : Int), .int .u32 (a : Int), .int .u32 (b : Int)] w fun en w' => en = .returned (.tuple #[.bool false, .int .i64 2]) ∧ w = w' := by
  have n5 : ((o : Int) == 5) = false := by simp; omega
  have n6 : ((o : Int) == 6) = false := by simp; omega
  have n7 : ((o : Int) == 7) = false := by simp; omega
  have n8 : ((o : Int) == 8) = false := by simp; omega
  have n9 : ((o : Int) == 9) = false := by simp; omega
  have n10 : ((o : Int) == 10) = false := by simp; omega
  clear hn
  go_enter Try.func9, Try.ntmps9
  go_wp2
  go_ret2
  exact ⟨retp rfl rfl, rfl⟩
set_option maxHeartbeats 4000000 in
theorem riX (o a b : Nat) (ho : o < 256) (ha : a < 4294967296) (hb : b < 4294967296) (w : World) (hn : ¬ (5 ≤ o ∧ o ≤ 10)) : Calls Try.prog 10 #[.int .u8 (o : Int), .int .u32 (a : Int), .int .u32 (b : Int)] w fun en w' => en = .returned (.tuple #[.bool false, .int .i64 2]) ∧ w = w' := by
  have n5 : ((o : Int) == 5) = false := by simp; omega
  have n6 : ((o : Int) == 6) = false := by simp; omega
  have n7 : ((o : Int) == 7) = false := by simp; omega
  have n8 : ((o : Int) == 8) = false := by simp; omega
  have n9 : ((o : Int) == 9) = false := by simp; omega
  have n10 : ((o : Int) == 10) = false := by simp; omega
  clear hn
  go_enter Try.func10, Try.ntmps10
  go_wp2
  go_ret2
  exact ⟨retp rfl rfl, rfl⟩
theorem ri5 (a b : Nat) (ha : a < 4294967296) (hb : b < 4294967296) (w : World) : Calls Try.prog 10 #[.int .u8 5, .int .u32 (a : Int), .int .u32 (b : Int)] w fun en w' => en = .returned (.tuple #[.bool ((a : Int) == (b : Int)), .int .i64 0]) ∧ w = w' := by
  have hxa := wv a ha
  have hxb := wv b hb
  have k1 := rW a ha
  have k2 := rW b hb
  generalize wrap32 (a : Int) = x at *
  generalize wrap32 (b : Int) = y at *
  obtain ⟨x1, x2, hx⟩ := hxa
  obtain ⟨y1, y2, hy⟩ := hxb
  clear hx hy
  have K1 := Lib.hid k1
  have K2 := Lib.hid k2
  clear k1 k2
  go_enter Try.func10, Try.ntmps10
  go_wp2_with (first | (go_at_call_of 14 (Value.int .u32 (a : Int)); refine (K1.out _).mono ?_; rintro _ _ ⟨rfl, rfl⟩) | (go_at_call_of 14 (Value.int .u32 (b : Int)); refine (K2.out _).mono ?_; rintro _ _ ⟨rfl, rfl⟩))
  go_ret2
  exact ⟨retp rfl rfl, rfl⟩
theorem ri6 (a b : Nat) (ha : a < 4294967296) (hb : b < 4294967296) (w : World) : Calls Try.prog 10 #[.int .u8 6, .int .u32 (a : Int), .int .u32 (b : Int)] w fun en w' => en = .returned (.tuple #[.bool ((a : Int) != (b : Int)), .int .i64 0]) ∧ w = w' := by
  have hxa := wv a ha
  have hxb := wv b hb
  have k1 := rW a ha
  have k2 := rW b hb
  generalize wrap32 (a : Int) = x at *
  generalize wrap32 (b : Int) = y at *
  obtain ⟨x1, x2, hx⟩ := hxa
  obtain ⟨y1, y2, hy⟩ := hxb
  clear hx hy
  have K1 := Lib.hid k1
  have K2 := Lib.hid k2
  clear k1 k2
  go_enter Try.func10, Try.ntmps10
  go_wp2_with (first | (go_at_call_of 14 (Value.int .u32 (a : Int)); refine (K1.out _).mono ?_; rintro _ _ ⟨rfl, rfl⟩) | (go_at_call_of 14 (Value.int .u32 (b : Int)); refine (K2.out _).mono ?_; rintro _ _ ⟨rfl, rfl⟩))
  go_ret2
  exact ⟨retp rfl rfl, rfl⟩
theorem ri7 (a b : Nat) (ha : a < 4294967296) (hb : b < 4294967296) (w : World) : Calls Try.prog 10 #[.int .u8 7, .int .u32 (a : Int), .int .u32 (b : Int)] w fun en w' => en = .returned (.tuple #[.bool (decide (wrap32 (a : Int) < wrap32 (b : Int))), .int .i64 0]) ∧ w = w' := by
  have hxa := wv a ha
  have hxb := wv b hb
  have k1 := rW a ha
  have k2 := rW b hb
  generalize wrap32 (a : Int) = x at *
  generalize wrap32 (b : Int) = y at *
  obtain ⟨x1, x2, hx⟩ := hxa
  obtain ⟨y1, y2, hy⟩ := hxb
  clear hx hy
  have K1 := Lib.hid k1
  have K2 := Lib.hid k2
  clear k1 k2
  go_enter Try.func10, Try.ntmps10
  go_wp2_with (first | (go_at_call_of 14 (Value.int .u32 (a : Int)); refine (K1.out _).mono ?_; rintro _ _ ⟨rfl, rfl⟩) | (go_at_call_of 14 (Value.int .u32 (b : Int)); refine (K2.out _).mono ?_; rintro _ _ ⟨rfl, rfl⟩))
  go_ret2
  exact ⟨retp rfl rfl, rfl⟩
theorem ri8 (a b : Nat) (ha : a < 4294967296) (hb : b < 4294967296) (w : World) : Calls Try.prog 10 #[.int .u8 8, .int .u32 (a : Int), .int .u32 (b : Int)] w fun en w' => en = .returned (.tuple #[.bool (decide (wrap32 (b : Int) ≤ wrap32 (a : Int))), .int .i64 0]) ∧ w = w' := by
  have hxa := wv a ha
  have hxb := wv b hb
  have k1 := rW a ha
  have k2 := rW b hb
  generalize wrap32 (a : Int) = x at *
  generalize wrap32 (b : Int) = y at *
  obtain ⟨x1, x2, hx⟩ := hxa
  obtain ⟨y1, y2, hy⟩ := hxb
  clear hx hy
  have K1 := Lib.hid k1
  have K2 := Lib.hid k2
  clear k1 k2
  go_enter Try.func10, Try.ntmps10
  go_wp2_with (first | (go_at_call_of 14 (Value.int .u32 (a : Int)); refine (K1.out _).mono ?_; rintro _ _ ⟨rfl, rfl⟩) | (go_at_call_of 14 (Value.int .u32 (b : Int)); refine (K2.out _).mono ?_; rintro _ _ ⟨rfl, rfl⟩))
  go_ret2
  exact ⟨retp rfl rfl, rfl⟩
theorem ri9 (a b : Nat) (ha : a < 4294967296) (hb : b < 4294967296) (w : World) : Calls Try.prog 10 #[.int .u8 9, .int .u32 (a : Int), .int .u32 (b : Int)] w fun en w' => en = .returned (.tuple #[.bool (decide (a < b)), .int .i64 0]) ∧ w = w' := by
  have hxa := wv a ha
  have hxb := wv b hb
  have k1 := rW a ha
  have k2 := rW b hb
  generalize wrap32 (a : Int) = x at *
  generalize wrap32 (b : Int) = y at *
  obtain ⟨x1, x2, hx⟩ := hxa
  obtain ⟨y1, y2, hy⟩ := hxb
  clear hx hy
  have K1 := Lib.hid k1
  have K2 := Lib.hid k2
  clear k1 k2
  go_enter Try.func10, Try.ntmps10
  go_wp2_with (first | (go_at_call_of 14 (Value.int .u32 (a : Int)); refine (K1.out _).mono ?_; rintro _ _ ⟨rfl, rfl⟩) | (go_at_call_of 14 (Value.int .u32 (b : Int)); refine (K2.out _).mono ?_; rintro _ _ ⟨rfl, rfl⟩))
  go_ret2
  exact ⟨retp rfl rfl, rfl⟩
theorem ri10 (a b : Nat) (ha : a < 4294967296) (hb : b < 4294967296) (w : World) : Calls Try.prog 10 #[.int .u8 10, .int .u32 (a : Int), .int .u32 (b : Int)] w fun en w' => en = .returned (.tuple #[.bool (decide (b ≤ a)), .int .i64 0]) ∧ w = w' := by
  have hxa := wv a ha
  have hxb := wv b hb
  have k1 := rW a ha
  have k2 := rW b hb
  generalize wrap32 (a : Int) = x at *
  generalize wrap32 (b : Int) = y at *
  obtain ⟨x1, x2, hx⟩ := hxa
  obtain ⟨y1, y2, hy⟩ := hxb
  clear hx hy
  have K1 := Lib.hid k1
  have K2 := Lib.hid k2
  clear k1 k2
  go_enter Try.func10, Try.ntmps10
  go_wp2_with (first | (go_at_call_of 14 (Value.int .u32 (a : Int)); refine (K1.out _).mono ?_; rintro _ _ ⟨rfl, rfl⟩) | (go_at_call_of 14 (Value.int .u32 (b : Int)); refine (K2.out _).mono ?_; rintro _ _ ⟨rfl, rfl⟩))
  go_ret2
  exact ⟨retp rfl rfl, rfl⟩
end Go.Proofs.Ytojjdhohhonheab
