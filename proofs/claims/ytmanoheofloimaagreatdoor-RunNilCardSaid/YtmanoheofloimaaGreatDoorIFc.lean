import Derived.Test.YtmanoheofloimaaGreatDoorIFa
namespace Go.Proofs.YtmanoheofloimaaGreatDoor.In
open Go.ChangeShapes Go.WideShapes Go.ChangeAt Go.RowKit
set_option linter.unusedVariables false
set_option maxRecDepth 100000
theorem and8 : bits .and .i64 3 1 = 1 ∧ bits .and .i64 3 2 = 2 ∧ bits .and .i64 3 4 = 0 := ⟨by kernel_rfl, by kernel_rfl, by kernel_rfl⟩
set_option maxHeartbeats 1000000 in
theorem putOp8 (q W d a b : Nat) (n : Int) (hq : q ≤ 67) (hd : d < 256) (ha : a < 256) (hb : b < 256) (hn : i32 n) (hW : freeF 8 W = true) (w : World) (hs : 3 ≤ w.heap.size)
    (c0 : w.cell? ⟨0, q, none⟩ = some (.int .u8 8)) (c1 : w.cell? ⟨1, q, none⟩ = some (.int .u32 (W : Int))) :
    Calls Tryz.prog 58 #[.agg #[.int .u8 ((q : Int) + 1), .int .u8 (d : Int), .int .u8 (a : Int), .int .u8 (b : Int), .int .i32 n]] w fun en w' => en = .returned (putV 8 W d a b n) ∧ Below w.heap.size w w' := by
  have t1 : ((q : Int) + 1 == 0) = false := by simp; omega
  have z0 : 0 < w.heap.size := by omega
  have z1 : 1 < w.heap.size := by omega
  have t2 : decide ((68 : Int) < (q : Int) + 1) = false := by simp; omega
  obtain ⟨a1, a2, a3⟩ := and8
  have kd : ∀ w, Calls Tryz.prog 97 #[.int .u8 (d : Int), .bool true] w fun en w' => en = .returned (.bool (regOk true d)) ∧ w = w' := fun w => have17 d hd true w
  have ka : ∀ w, Calls Tryz.prog 97 #[.int .u8 (a : Int), .bool true] w fun en w' => en = .returned (.bool (regOk true a)) ∧ w = w' := fun w => have17 a ha true w
  have kb : ∀ w, Calls Tryz.prog 97 #[.int .u8 (b : Int), .bool false] w fun en w' => en = .returned (.bool (regOk false b)) ∧ w = w' := fun w => have17 b hb false w
  have km : ∀ (b0 b1 : Nat) (w : World), w.cell? ⟨b0, 0, none⟩ = some (.int .i32 0) → w.cell? ⟨b1, 0, none⟩ = some (.int .i32 0) → Calls Tryz.prog 113 #[.int .i32 n, .pointer (some ⟨b0, 0, none⟩), .pointer (some ⟨b1, 0, none⟩)] w fun en w' => en = .returned (.bool (mayF 8 n)) ∧ w = w' := fun b0 b1 => may7 n b0 b1 hn
  have hV : putV 8 W d a b n = if (regOk true d && (regOk true a && (regOk false b && mayF 8 n))) = true then .tuple #[.int .u32 (wordF 8 W d a b n : Int), .int .i64 0] else .tuple #[.int .u32 0, .int .i64 2] := rfl
  have ho : (regOk true d && (regOk true a && (regOk false b && mayF 8 n))) = true → _ := fun h => ors8 W d a b n hW h
  rw [hV]
  clear hV hW
  have kp : ∀ (b0 : Nat) (w : World), w.cell? ⟨b0, 0, none⟩ = some (.int .u64 0) → Calls Tryz.prog 109 #[.int .i32 n, .pointer (some ⟨b0, 0, none⟩)] w fun en w' => en = .returned (.int .u32 (putF 8 n : Int)) ∧ w = w' := fun b0 => put0 n b0 hn
  have HO := Lib.hid ho
  clear ho
  generalize wordF 8 W d a b n = V at *
  generalize putF 8 n = P at *
  generalize regOk true d = D at *
  generalize regOk true a = A at *
  generalize regOk false b = B at *
  generalize mayF 8 n = M at *
  have KD := Lib.hid kd
  have KA := Lib.hid ka
  have KB := Lib.hid kb
  have KM := Lib.hid km
  have KP := Lib.hid kp
  clear kd ka kb km kp
  go_enter Tryz.func58, Tryz.ntmps58
  go_wp2_with fail
  refine (form8 (w.heap.size + 1) _ ?_).mono ?_
  · simp
  rintro _ w1 ⟨rfl, hb1, hs1, h0, h1, h2, h3, h4⟩
  obtain ⟨hc1, hf1⟩ := bcell hb1
  have zz : w.heap.size < w1.heap.size := by omega
  have zz0 : w.heap.size < w.heap.size + 1 := by omega
  have zz1 : 0 < w.heap.size + 1 := by omega
  have zz2 : 1 < w.heap.size + 1 := by omega
  have zz3 : 1 < w1.heap.size := by omega
  have zz4 : 0 < w1.heap.size := by omega
  have y0 : w.heap.size + 1 + 1 < w1.heap.size := by omega
  have y1 : w.heap.size + 1 + 2 < w1.heap.size := by omega
  have y2 : w.heap.size + 1 + 3 < w1.heap.size := by omega
  have y3 : w.heap.size + 1 + 4 < w1.heap.size := by omega
  have y4 : w.heap.size + 1 + 5 < w1.heap.size := by omega
  go_wp2_with fail
  refine (KD.out _).mono ?_
  rintro _ _ ⟨rfl, rfl⟩
  cases D
  · go_wp2_with fail
    go_ret2
    exact ⟨rfl, (((Below.refl _ _).alloc (Nat.le_refl _) _).trans (hb1.mono (by omega))).alloc (by omega) _⟩
  go_wp2_with fail
  refine (KA.out _).mono ?_
  rintro _ _ ⟨rfl, rfl⟩
  cases A
  · go_wp2_with fail
    go_ret2
    exact ⟨rfl, (((Below.refl _ _).alloc (Nat.le_refl _) _).trans (hb1.mono (by omega))).alloc (by omega) _⟩
  go_wp2_with fail
  refine (KB.out _).mono ?_
  rintro _ _ ⟨rfl, rfl⟩
  cases B
  · go_wp2_with fail
    go_ret2
    exact ⟨rfl, (((Below.refl _ _).alloc (Nat.le_refl _) _).trans (hb1.mono (by omega))).alloc (by omega) _⟩
  go_wp2_with fail
  refine (KM.out _ _ _ ?_ ?_ ).mono ?_
  · go_simp
  · go_simp
  rintro _ _ ⟨rfl, rfl⟩
  cases M
  · go_wp2_with fail
    go_ret2
    exact ⟨rfl, (((Below.refl _ _).alloc (Nat.le_refl _) _).trans (hb1.mono (by omega))).alloc (by omega) _⟩
  obtain ⟨S1, S2, S3, S4, e1, e2, e3, e4, e5, ld, la, lb⟩ := HO.out rfl
  have E5 := Lib.hid e5
  clear e5 HO
  have x1 : IntKind.u8.wrap ((q : Int) + 1 - 1) = q := by rw [show (q : Int) + 1 - 1 = q by omega, IntKind.wrap_u8']; omega
  have x2 : IntKind.u8.wrap (q : Int) = q := by rw [IntKind.wrap_u8']; omega
  have x3 : IntKind.u32.wrap (d : Int) = d := by rw [IntKind.wrap_u32']; omega
  have x4 : IntKind.u32.wrap (a : Int) = a := by rw [IntKind.wrap_u32']; omega
  have x5 : IntKind.u32.wrap (b : Int) = b := by rw [IntKind.wrap_u32']; omega
  have x6 : IntKind.u32.wrap ((d : Int) * 128) = d * 128 := by rw [IntKind.wrap_u32']; omega
  have x7 : IntKind.u32.wrap ((a : Int) * 32768) = a * 32768 := by rw [IntKind.wrap_u32']; omega
  have x8 : IntKind.u32.wrap ((b : Int) * 1048576) = b * 1048576 := by rw [IntKind.wrap_u32']; omega
  have q0 : (0 : Int) ≤ (q : Int) := by omega
  have q1 : (q : Int) < 68 := by omega
  have q2 : ((q : Int)).toNat = q := by omega
  go_wp2_with fail
  go_quiet ((refine quiet_eq (KP.out _ _ ?_); go_simp))
  go_wp2_with fail
  go_ret2
  refine ⟨?_, below_drewN ((((Below.refl _ _).alloc (Nat.le_refl _) _).trans (hb1.mono (by omega))).alloc (by omega) _) _⟩
  rw [← E5.out]
  rfl
theorem and9 : bits .and .i64 11 1 = 1 ∧ bits .and .i64 11 2 = 2 ∧ bits .and .i64 11 4 = 0 := ⟨by kernel_rfl, by kernel_rfl, by kernel_rfl⟩
set_option maxHeartbeats 1000000 in
theorem putOp9 (q W d a b : Nat) (n : Int) (hq : q ≤ 67) (hd : d < 256) (ha : a < 256) (hb : b < 256) (hn : i32 n) (hW : freeF 9 W = true) (w : World) (hs : 3 ≤ w.heap.size)
    (c0 : w.cell? ⟨0, q, none⟩ = some (.int .u8 9)) (c1 : w.cell? ⟨1, q, none⟩ = some (.int .u32 (W : Int))) :
    Calls Tryz.prog 58 #[.agg #[.int .u8 ((q : Int) + 1), .int .u8 (d : Int), .int .u8 (a : Int), .int .u8 (b : Int), .int .i32 n]] w fun en w' => en = .returned (putV 9 W d a b n) ∧ Below w.heap.size w w' := by
  have t1 : ((q : Int) + 1 == 0) = false := by simp; omega
  have z0 : 0 < w.heap.size := by omega
  have z1 : 1 < w.heap.size := by omega
  have t2 : decide ((68 : Int) < (q : Int) + 1) = false := by simp; omega
  obtain ⟨a1, a2, a3⟩ := and9
  have kd : ∀ w, Calls Tryz.prog 97 #[.int .u8 (d : Int), .bool true] w fun en w' => en = .returned (.bool (regOk true d)) ∧ w = w' := fun w => have17 d hd true w
  have ka : ∀ w, Calls Tryz.prog 97 #[.int .u8 (a : Int), .bool true] w fun en w' => en = .returned (.bool (regOk true a)) ∧ w = w' := fun w => have17 a ha true w
  have kb : ∀ w, Calls Tryz.prog 97 #[.int .u8 (b : Int), .bool false] w fun en w' => en = .returned (.bool (regOk false b)) ∧ w = w' := fun w => have17 b hb false w
  have km : ∀ (b0 b1 : Nat) (w : World), w.cell? ⟨b0, 0, none⟩ = some (.int .i32 27) → w.cell? ⟨b1, 0, none⟩ = some (.int .i32 31) → Calls Tryz.prog 113 #[.int .i32 n, .pointer (some ⟨b0, 0, none⟩), .pointer (some ⟨b1, 0, none⟩)] w fun en w' => en = .returned (.bool (mayF 9 n)) ∧ w = w' := fun b0 b1 => may9 n b0 b1 hn
  have hV : putV 9 W d a b n = if (regOk true d && (regOk true a && (regOk false b && mayF 9 n))) = true then .tuple #[.int .u32 (wordF 9 W d a b n : Int), .int .i64 0] else .tuple #[.int .u32 0, .int .i64 2] := rfl
  have ho : (regOk true d && (regOk true a && (regOk false b && mayF 9 n))) = true → _ := fun h => ors9 W d a b n hW h
  rw [hV]
  clear hV hW
  have kp : ∀ (b0 : Nat) (w : World), w.cell? ⟨b0, 0, none⟩ = some (.int .u64 20) → Calls Tryz.prog 109 #[.int .i32 n, .pointer (some ⟨b0, 0, none⟩)] w fun en w' => en = .returned (.int .u32 (putF 9 n : Int)) ∧ w = w' := fun b0 => put2 n b0 hn
  have HO := Lib.hid ho
  clear ho
  generalize wordF 9 W d a b n = V at *
  generalize putF 9 n = P at *
  generalize regOk true d = D at *
  generalize regOk true a = A at *
  generalize regOk false b = B at *
  generalize mayF 9 n = M at *
  have KD := Lib.hid kd
  have KA := Lib.hid ka
  have KB := Lib.hid kb
  have KM := Lib.hid km
  have KP := Lib.hid kp
  clear kd ka kb km kp
  go_enter Tryz.func58, Tryz.ntmps58
  go_wp2_with fail
  refine (form9 (w.heap.size + 1) _ ?_).mono ?_
  · simp
  rintro _ w1 ⟨rfl, hb1, hs1, h0, h1, h2, h3, h4⟩
  obtain ⟨hc1, hf1⟩ := bcell hb1
  have zz : w.heap.size < w1.heap.size := by omega
  have zz0 : w.heap.size < w.heap.size + 1 := by omega
  have zz1 : 0 < w.heap.size + 1 := by omega
  have zz2 : 1 < w.heap.size + 1 := by omega
  have zz3 : 1 < w1.heap.size := by omega
  have zz4 : 0 < w1.heap.size := by omega
  have y0 : w.heap.size + 1 + 1 < w1.heap.size := by omega
  have y1 : w.heap.size + 1 + 2 < w1.heap.size := by omega
  have y2 : w.heap.size + 1 + 3 < w1.heap.size := by omega
  have y3 : w.heap.size + 1 + 4 < w1.heap.size := by omega
  have y4 : w.heap.size + 1 + 5 < w1.heap.size := by omega
  go_wp2_with fail
  refine (KD.out _).mono ?_
  rintro _ _ ⟨rfl, rfl⟩
  cases D
  · go_wp2_with fail
    go_ret2
    exact ⟨rfl, (((Below.refl _ _).alloc (Nat.le_refl _) _).trans (hb1.mono (by omega))).alloc (by omega) _⟩
  go_wp2_with fail
  refine (KA.out _).mono ?_
  rintro _ _ ⟨rfl, rfl⟩
  cases A
  · go_wp2_with fail
    go_ret2
    exact ⟨rfl, (((Below.refl _ _).alloc (Nat.le_refl _) _).trans (hb1.mono (by omega))).alloc (by omega) _⟩
  go_wp2_with fail
  refine (KB.out _).mono ?_
  rintro _ _ ⟨rfl, rfl⟩
  cases B
  · go_wp2_with fail
    go_ret2
    exact ⟨rfl, (((Below.refl _ _).alloc (Nat.le_refl _) _).trans (hb1.mono (by omega))).alloc (by omega) _⟩
  go_wp2_with fail
  refine (KM.out _ _ _ ?_ ?_ ).mono ?_
  · go_simp
  · go_simp
  rintro _ _ ⟨rfl, rfl⟩
  cases M
  · go_wp2_with fail
    go_ret2
    exact ⟨rfl, (((Below.refl _ _).alloc (Nat.le_refl _) _).trans (hb1.mono (by omega))).alloc (by omega) _⟩
  obtain ⟨S1, S2, S3, S4, e1, e2, e3, e4, e5, ld, la, lb⟩ := HO.out rfl
  have E5 := Lib.hid e5
  clear e5 HO
  have x1 : IntKind.u8.wrap ((q : Int) + 1 - 1) = q := by rw [show (q : Int) + 1 - 1 = q by omega, IntKind.wrap_u8']; omega
  have x2 : IntKind.u8.wrap (q : Int) = q := by rw [IntKind.wrap_u8']; omega
  have x3 : IntKind.u32.wrap (d : Int) = d := by rw [IntKind.wrap_u32']; omega
  have x4 : IntKind.u32.wrap (a : Int) = a := by rw [IntKind.wrap_u32']; omega
  have x5 : IntKind.u32.wrap (b : Int) = b := by rw [IntKind.wrap_u32']; omega
  have x6 : IntKind.u32.wrap ((d : Int) * 128) = d * 128 := by rw [IntKind.wrap_u32']; omega
  have x7 : IntKind.u32.wrap ((a : Int) * 32768) = a * 32768 := by rw [IntKind.wrap_u32']; omega
  have x8 : IntKind.u32.wrap ((b : Int) * 1048576) = b * 1048576 := by rw [IntKind.wrap_u32']; omega
  have q0 : (0 : Int) ≤ (q : Int) := by omega
  have q1 : (q : Int) < 68 := by omega
  have q2 : ((q : Int)).toNat = q := by omega
  go_wp2_with fail
  go_quiet ((refine quiet_eq (KP.out _ _ ?_); go_simp))
  go_wp2_with fail
  go_ret2
  refine ⟨?_, below_drewN ((((Below.refl _ _).alloc (Nat.le_refl _) _).trans (hb1.mono (by omega))).alloc (by omega) _) _⟩
  rw [← E5.out]
  rfl
theorem and10 : bits .and .i64 0 1 = 0 ∧ bits .and .i64 0 2 = 0 ∧ bits .and .i64 0 4 = 0 := ⟨by kernel_rfl, by kernel_rfl, by kernel_rfl⟩
set_option maxHeartbeats 1000000 in
theorem putOp10 (q W d a b : Nat) (n : Int) (hq : q ≤ 67) (hd : d < 256) (ha : a < 256) (hb : b < 256) (hn : i32 n) (hW : freeF 10 W = true) (w : World) (hs : 3 ≤ w.heap.size)
    (c0 : w.cell? ⟨0, q, none⟩ = some (.int .u8 10)) (c1 : w.cell? ⟨1, q, none⟩ = some (.int .u32 (W : Int))) :
    Calls Tryz.prog 58 #[.agg #[.int .u8 ((q : Int) + 1), .int .u8 (d : Int), .int .u8 (a : Int), .int .u8 (b : Int), .int .i32 n]] w fun en w' => en = .returned (putV 10 W d a b n) ∧ Below w.heap.size w w' := by
  have t1 : ((q : Int) + 1 == 0) = false := by simp; omega
  have z0 : 0 < w.heap.size := by omega
  have z1 : 1 < w.heap.size := by omega
  have t2 : decide ((68 : Int) < (q : Int) + 1) = false := by simp; omega
  obtain ⟨a1, a2, a3⟩ := and10
  have kd : ∀ w, Calls Tryz.prog 97 #[.int .u8 (d : Int), .bool false] w fun en w' => en = .returned (.bool (regOk false d)) ∧ w = w' := fun w => have17 d hd false w
  have ka : ∀ w, Calls Tryz.prog 97 #[.int .u8 (a : Int), .bool false] w fun en w' => en = .returned (.bool (regOk false a)) ∧ w = w' := fun w => have17 a ha false w
  have kb : ∀ w, Calls Tryz.prog 97 #[.int .u8 (b : Int), .bool false] w fun en w' => en = .returned (.bool (regOk false b)) ∧ w = w' := fun w => have17 b hb false w
  have km : ∀ (b0 b1 : Nat) (w : World), w.cell? ⟨b0, 0, none⟩ = some (.int .i32 0) → w.cell? ⟨b1, 0, none⟩ = some (.int .i32 0) → Calls Tryz.prog 113 #[.int .i32 n, .pointer (some ⟨b0, 0, none⟩), .pointer (some ⟨b1, 0, none⟩)] w fun en w' => en = .returned (.bool (mayF 10 n)) ∧ w = w' := fun b0 b1 => may7 n b0 b1 hn
  have hV : putV 10 W d a b n = if (regOk false d && (regOk false a && (regOk false b && mayF 10 n))) = true then .tuple #[.int .u32 (wordF 10 W d a b n : Int), .int .i64 0] else .tuple #[.int .u32 0, .int .i64 2] := rfl
  have ho : (regOk false d && (regOk false a && (regOk false b && mayF 10 n))) = true → _ := fun h => ors10 W d a b n hW h
  rw [hV]
  clear hV hW
  have kp : ∀ (b0 : Nat) (w : World), w.cell? ⟨b0, 0, none⟩ = some (.int .u64 0) → Calls Tryz.prog 109 #[.int .i32 n, .pointer (some ⟨b0, 0, none⟩)] w fun en w' => en = .returned (.int .u32 (putF 10 n : Int)) ∧ w = w' := fun b0 => put0 n b0 hn
  have HO := Lib.hid ho
  clear ho
  generalize wordF 10 W d a b n = V at *
  generalize putF 10 n = P at *
  generalize regOk false d = D at *
  generalize regOk false a = A at *
  generalize regOk false b = B at *
  generalize mayF 10 n = M at *
  have KD := Lib.hid kd
  have KA := Lib.hid ka
  have KB := Lib.hid kb
  have KM := Lib.hid km
  have KP := Lib.hid kp
  clear kd ka kb km kp
  go_enter Tryz.func58, Tryz.ntmps58
  go_wp2_with fail
  refine (form10 (w.heap.size + 1) _ ?_).mono ?_
  · simp
  rintro _ w1 ⟨rfl, hb1, hs1, h0, h1, h2, h3, h4⟩
  obtain ⟨hc1, hf1⟩ := bcell hb1
  have zz : w.heap.size < w1.heap.size := by omega
  have zz0 : w.heap.size < w.heap.size + 1 := by omega
  have zz1 : 0 < w.heap.size + 1 := by omega
  have zz2 : 1 < w.heap.size + 1 := by omega
  have zz3 : 1 < w1.heap.size := by omega
  have zz4 : 0 < w1.heap.size := by omega
  have y0 : w.heap.size + 1 + 1 < w1.heap.size := by omega
  have y1 : w.heap.size + 1 + 2 < w1.heap.size := by omega
  have y2 : w.heap.size + 1 + 3 < w1.heap.size := by omega
  have y3 : w.heap.size + 1 + 4 < w1.heap.size := by omega
  have y4 : w.heap.size + 1 + 5 < w1.heap.size := by omega
  go_wp2_with fail
  refine (KD.out _).mono ?_
  rintro _ _ ⟨rfl, rfl⟩
  cases D
  · go_wp2_with fail
    go_ret2
    exact ⟨rfl, (((Below.refl _ _).alloc (Nat.le_refl _) _).trans (hb1.mono (by omega))).alloc (by omega) _⟩
  go_wp2_with fail
  refine (KA.out _).mono ?_
  rintro _ _ ⟨rfl, rfl⟩
  cases A
  · go_wp2_with fail
    go_ret2
    exact ⟨rfl, (((Below.refl _ _).alloc (Nat.le_refl _) _).trans (hb1.mono (by omega))).alloc (by omega) _⟩
  go_wp2_with fail
  refine (KB.out _).mono ?_
  rintro _ _ ⟨rfl, rfl⟩
  cases B
  · go_wp2_with fail
    go_ret2
    exact ⟨rfl, (((Below.refl _ _).alloc (Nat.le_refl _) _).trans (hb1.mono (by omega))).alloc (by omega) _⟩
  go_wp2_with fail
  refine (KM.out _ _ _ ?_ ?_ ).mono ?_
  · go_simp
  · go_simp
  rintro _ _ ⟨rfl, rfl⟩
  cases M
  · go_wp2_with fail
    go_ret2
    exact ⟨rfl, (((Below.refl _ _).alloc (Nat.le_refl _) _).trans (hb1.mono (by omega))).alloc (by omega) _⟩
  obtain ⟨S1, S2, S3, S4, e1, e2, e3, e4, e5, ld, la, lb⟩ := HO.out rfl
  have E5 := Lib.hid e5
  clear e5 HO
  have x1 : IntKind.u8.wrap ((q : Int) + 1 - 1) = q := by rw [show (q : Int) + 1 - 1 = q by omega, IntKind.wrap_u8']; omega
  have x2 : IntKind.u8.wrap (q : Int) = q := by rw [IntKind.wrap_u8']; omega
  have x3 : IntKind.u32.wrap (d : Int) = d := by rw [IntKind.wrap_u32']; omega
  have x4 : IntKind.u32.wrap (a : Int) = a := by rw [IntKind.wrap_u32']; omega
  have x5 : IntKind.u32.wrap (b : Int) = b := by rw [IntKind.wrap_u32']; omega
  have x6 : IntKind.u32.wrap ((d : Int) * 128) = d * 128 := by rw [IntKind.wrap_u32']; omega
  have x7 : IntKind.u32.wrap ((a : Int) * 32768) = a * 32768 := by rw [IntKind.wrap_u32']; omega
  have x8 : IntKind.u32.wrap ((b : Int) * 1048576) = b * 1048576 := by rw [IntKind.wrap_u32']; omega
  have q0 : (0 : Int) ≤ (q : Int) := by omega
  have q1 : (q : Int) < 68 := by omega
  have q2 : ((q : Int)).toNat = q := by omega
  go_wp2_with fail
  go_quiet ((refine quiet_eq (KP.out _ _ ?_); go_simp))
  go_wp2_with fail
  go_ret2
  refine ⟨?_, below_drewN ((((Below.refl _ _).alloc (Nat.le_refl _) _).trans (hb1.mono (by omega))).alloc (by omega) _) _⟩
  rw [← E5.out]
  rfl
end Go.Proofs.YtmanoheofloimaaGreatDoor.In

