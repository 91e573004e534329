import Derived.Test.YtkiojljopigldaaDoorX
import Derived.Deep.Cut
import Derived.Deep.CutRange
namespace Go.Proofs.YtkiojljopigldaaDoor
open Go.ChangeShapes Go.WideShapes Go.ChangeAt Go.RowKit
set_option linter.unusedVariables false
set_option maxRecDepth 100000 in
set_option maxHeartbeats 4000000 in
theorem refPut8 (q W d a b rc r3 rx : Nat) (rn : List UInt8) (n : Int) (hq : q ≤ 67) (hd : d < 256) (ha : a < 256) (hb : b < 256) (hn : i32 n) (hT : rc < 128 ∧ r3 < 8 ∧ rx < 4096 ∧ W = rc + r3 * 4096 + rx * 1048576)
    (K18 : Hid (∀ w : World, Calls Tryd.prog 17 #[.int .u8 ((q : Int) + 1)] w fun en w' => en = .returned (.tuple #[.agg #[.int .u8 ((q : Int) + 1), .string ⟨rn.toArray⟩, .int .i64 8, .int .u32 (rc : Int), .int .u32 (r3 : Int), .int .u32 (rx : Int)], .bool true]) ∧ Below w.heap.size w w')) (w : World) :
    Calls Tryd.prog 8 #[.agg #[.int .u8 ((q : Int) + 1), .int .u8 (d : Int), .int .u8 (a : Int), .int .u8 (b : Int), .int .i32 n]] w fun en w' => en = .returned (putV 8 W d a b n) ∧ Below w.heap.size w w' := by
  have k19 : ∀ w : World, Calls Tryd.prog 18 #[.agg #[.int .u8 ((q : Int) + 1), .string ⟨rn.toArray⟩, .int .i64 8, .int .u32 (rc : Int), .int .u32 (r3 : Int), .int .u32 (rx : Int)], .agg #[.int .u8 ((q : Int) + 1), .int .u8 (d : Int), .int .u8 (a : Int), .int .u8 (b : Int), .int .i32 n]] w fun en w' => en = .returned (.bool (okF 8 d a b n)) ∧ Below w.heap.size w w' := fun w => by
    have := fields8 (q + 1) rc r3 rx d a b ⟨rn.toArray⟩ n hd ha hb hn w
    rw [Int.natCast_add] at this
    exact this
  have hV : putV 8 W d a b n = if okF 8 d a b n = true then .tuple #[.int .u32 (wordF 8 W d a b n : Int), .int .i64 0] else .tuple #[.int .u32 0, .int .i64 2] := rfl
  rw [hV]
  clear hV
  have hu := u32_cast n
  have hul := u32_lt n
  have ho : okF 8 d a b n = true → ∃ (V0 V1 V2 V3 : Nat), bits .or .u32 (rc : Int) ((r3 : Int) * 4096) = (V0 : Int) ∧ bits .or .u32 (V0 : Int) ((d : Int) * 128) = (V1 : Int) ∧ bits .or .u32 (V1 : Int) ((a : Int) * 32768) = (V2 : Int) ∧ bits .or .u32 (V2 : Int) ((rx : Int) * 1048576) = (V3 : Int) ∧ V3 = wordF 8 W d a b n ∧ d < 16 ∧ a < 16 ∧ b < 16 := by
    intro hk
    simp only [okF, Bool.and_eq_true] at hk
    obtain ⟨kd, ka, kb, km⟩ := hk
    have ld := regOk_lt _ _ kd
    have la := regOk_lt _ _ ka
    have lb := regOk_lt _ _ kb
    have b0 := regOk_no _ kb
    simp only [mayF, decide_eq_true_eq] at km
    obtain ⟨hc, h3, hx, hW⟩ := hT
    obtain ⟨V0, s0, e0⟩ := or32' rc r3 12 3 4096 8 (r3 * 4096) rfl rfl rfl (by rw [Nat.div_eq_of_lt (by omega)]) (by omega) (by omega)
    obtain ⟨V1, s1, e1⟩ := or32' V0 d 7 5 128 32 (d * 128) rfl rfl rfl (by omega) (by omega) (by omega)
    obtain ⟨V2, s2, e2⟩ := or32' V1 a 15 5 32768 32 (a * 32768) rfl rfl rfl (by omega) (by omega) (by omega)
    obtain ⟨V3, s3, e3⟩ := or32' V2 rx 20 12 1048576 4096 (rx * 1048576) rfl rfl rfl (by omega) (by omega) (by omega)
    refine ⟨V0, V1, V2, V3, e0, e1, e2, e3, ?_, by omega, by omega, by omega⟩
    show _ = W + d * 128 + a * 32768 + b * 1048576 + putF 8 n
    simp only [putF]
    omega
  have hr3 : r3 < 8 := by omega
  have hrx : rx < 4096 := by omega
  have HO := Lib.hid ho
  clear ho hT
  generalize wordF 8 W d a b n = V at *
  generalize okF 8 d a b n = O at *
  generalize u32 n = u at *
  have K19 := Lib.hid k19
  clear k19
  go_enter Tryd.func8, Tryd.ntmps8
  go_wp2_with fail
  refine (K18.out _).mono ?_
  rintro _ w1 ⟨rfl, b1⟩
  have q1 := b1.size
  simp at q1
  have l1 : w.heap.size < w1.heap.size := by omega
  have l0 : w.heap.size < w.heap.size + 1 := by omega
  have f1 : Below w.heap.size w w1 := ((Below.refl _ _).alloc (Nat.le_refl _) _).trans (b1.mono (by simp))
  obtain ⟨hc1, hf1⟩ := bcell b1
  clear b1
  go_wp2_with fail
  refine (K19.out _).mono ?_
  rintro _ w2 ⟨rfl, b2⟩
  have q2 := b2.size
  simp at q2
  have l2 : w.heap.size < w2.heap.size := by omega
  have l3 : w1.heap.size < w2.heap.size := by omega
  have l4 : w.heap.size < w1.heap.size + 1 := by omega
  have f2 : Below w.heap.size w w2 := (f1.alloc (by omega) _).trans (b2.mono (by simp; omega))
  obtain ⟨hc2, hf2⟩ := bcell b2
  clear b2
  cases O
  · go_wp2_with fail
    go_ret2
    exact ⟨rfl, f2⟩
  obtain ⟨V0, V1, V2, V3, e0, e1, e2, e3, eV, ld, la, lb⟩ := HO.out rfl
  have EV := Lib.hid eV
  clear eV HO
  have x3 : IntKind.u32.wrap (d : Int) = d := by rw [IntKind.wrap_u32']; omega
  have x4 : IntKind.u32.wrap (a : Int) = a := by rw [IntKind.wrap_u32']; omega
  have x5 : IntKind.u32.wrap (b : Int) = b := by rw [IntKind.wrap_u32']; omega
  have x6 : IntKind.u32.wrap ((d : Int) * 128) = d * 128 := by rw [IntKind.wrap_u32']; omega
  have x7 : IntKind.u32.wrap ((a : Int) * 32768) = a * 32768 := by rw [IntKind.wrap_u32']; omega
  have x8 : IntKind.u32.wrap ((b : Int) * 1048576) = b * 1048576 := by rw [IntKind.wrap_u32']; omega
  have y0 : (r3 : Int) * 4096 % 4294967296 = r3 * 4096 := by omega
  have y3 : (rx : Int) * 1048576 % 4294967296 = rx * 1048576 := by omega
  go_wp2_with fail
  go_quiet (fail)
  go_wp2_with fail
  go_ret2
  refine ⟨?_, below_drewN f2 _⟩
  rw [← EV.out]
  rfl
set_option maxRecDepth 100000 in
set_option maxHeartbeats 4000000 in
theorem refPut9 (q W d a b rc r3 rx : Nat) (rn : List UInt8) (n : Int) (hq : q ≤ 67) (hd : d < 256) (ha : a < 256) (hb : b < 256) (hn : i32 n) (hT : rc < 128 ∧ r3 < 8 ∧ rx < 128 ∧ W = rc + r3 * 4096 + rx * 33554432)
    (K18 : Hid (∀ w : World, Calls Tryd.prog 17 #[.int .u8 ((q : Int) + 1)] w fun en w' => en = .returned (.tuple #[.agg #[.int .u8 ((q : Int) + 1), .string ⟨rn.toArray⟩, .int .i64 9, .int .u32 (rc : Int), .int .u32 (r3 : Int), .int .u32 (rx : Int)], .bool true]) ∧ Below w.heap.size w w')) (w : World) :
    Calls Tryd.prog 8 #[.agg #[.int .u8 ((q : Int) + 1), .int .u8 (d : Int), .int .u8 (a : Int), .int .u8 (b : Int), .int .i32 n]] w fun en w' => en = .returned (putV 9 W d a b n) ∧ Below w.heap.size w w' := by
  have k19 : ∀ w : World, Calls Tryd.prog 18 #[.agg #[.int .u8 ((q : Int) + 1), .string ⟨rn.toArray⟩, .int .i64 9, .int .u32 (rc : Int), .int .u32 (r3 : Int), .int .u32 (rx : Int)], .agg #[.int .u8 ((q : Int) + 1), .int .u8 (d : Int), .int .u8 (a : Int), .int .u8 (b : Int), .int .i32 n]] w fun en w' => en = .returned (.bool (okF 9 d a b n)) ∧ Below w.heap.size w w' := fun w => by
    have := fields9 (q + 1) rc r3 rx d a b ⟨rn.toArray⟩ n hd ha hb hn w
    rw [Int.natCast_add] at this
    exact this
  have hV : putV 9 W d a b n = if okF 9 d a b n = true then .tuple #[.int .u32 (wordF 9 W d a b n : Int), .int .i64 0] else .tuple #[.int .u32 0, .int .i64 2] := rfl
  rw [hV]
  clear hV
  have hu := u32_cast n
  have hul := u32_lt n
  have ho : okF 9 d a b n = true → ∃ (V0 V1 V2 V3 V4 : Nat), bits .or .u32 (rc : Int) ((r3 : Int) * 4096) = (V0 : Int) ∧ bits .or .u32 (V0 : Int) ((d : Int) * 128) = (V1 : Int) ∧ bits .or .u32 (V1 : Int) ((a : Int) * 32768) = (V2 : Int) ∧ bits .or .u32 (V2 : Int) (((u32 n : Nat) : Int) * 1048576) = (V3 : Int) ∧ bits .or .u32 (V3 : Int) ((rx : Int) * 33554432) = (V4 : Int) ∧ V4 = wordF 9 W d a b n ∧ d < 16 ∧ a < 16 ∧ b < 16 ∧ u32 n < 32 := by
    intro hk
    simp only [okF, Bool.and_eq_true] at hk
    obtain ⟨kd, ka, kb, km⟩ := hk
    have ld := regOk_lt _ _ kd
    have la := regOk_lt _ _ ka
    have lb := regOk_lt _ _ kb
    have b0 := regOk_no _ kb
    simp only [mayF, decide_eq_true_eq] at km
    obtain ⟨hc, h3, hx, hW⟩ := hT
    obtain ⟨V0, s0, e0⟩ := or32' rc r3 12 3 4096 8 (r3 * 4096) rfl rfl rfl (by rw [Nat.div_eq_of_lt (by omega)]) (by omega) (by omega)
    obtain ⟨V1, s1, e1⟩ := or32' V0 d 7 5 128 32 (d * 128) rfl rfl rfl (by omega) (by omega) (by omega)
    obtain ⟨V2, s2, e2⟩ := or32' V1 a 15 5 32768 32 (a * 32768) rfl rfl rfl (by omega) (by omega) (by omega)
    have hu5 : u32 n < 32 := by omega
    obtain ⟨V3, s3, e3⟩ := or32' V2 (u32 n) 20 5 1048576 32 (u32 n * 1048576) rfl rfl rfl (by omega) (by omega) (by omega)
    obtain ⟨V4, s4, e4⟩ := or32' V3 rx 25 7 33554432 128 (rx * 33554432) rfl rfl rfl (by omega) (by omega) (by omega)
    refine ⟨V0, V1, V2, V3, V4, e0, e1, e2, e3, e4, ?_, by omega, by omega, by omega, hu5⟩
    show _ = W + d * 128 + a * 32768 + b * 1048576 + putF 9 n
    simp only [putF]
    omega
  have hr3 : r3 < 8 := by omega
  have hrx : rx < 128 := by omega
  have HO := Lib.hid ho
  clear ho hT
  generalize wordF 9 W d a b n = V at *
  generalize okF 9 d a b n = O at *
  generalize u32 n = u at *
  have K19 := Lib.hid k19
  clear k19
  go_enter Tryd.func8, Tryd.ntmps8
  go_wp2_with fail
  refine (K18.out _).mono ?_
  rintro _ w1 ⟨rfl, b1⟩
  have q1 := b1.size
  simp at q1
  have l1 : w.heap.size < w1.heap.size := by omega
  have l0 : w.heap.size < w.heap.size + 1 := by omega
  have f1 : Below w.heap.size w w1 := ((Below.refl _ _).alloc (Nat.le_refl _) _).trans (b1.mono (by simp))
  obtain ⟨hc1, hf1⟩ := bcell b1
  clear b1
  go_wp2_with fail
  refine (K19.out _).mono ?_
  rintro _ w2 ⟨rfl, b2⟩
  have q2 := b2.size
  simp at q2
  have l2 : w.heap.size < w2.heap.size := by omega
  have l3 : w1.heap.size < w2.heap.size := by omega
  have l4 : w.heap.size < w1.heap.size + 1 := by omega
  have f2 : Below w.heap.size w w2 := (f1.alloc (by omega) _).trans (b2.mono (by simp; omega))
  obtain ⟨hc2, hf2⟩ := bcell b2
  clear b2
  cases O
  · go_wp2_with fail
    go_ret2
    exact ⟨rfl, f2⟩
  obtain ⟨V0, V1, V2, V3, V4, e0, e1, e2, e3, e4, eV, ld, la, lb, hu5⟩ := HO.out rfl
  have EV := Lib.hid eV
  clear eV HO
  have x3 : IntKind.u32.wrap (d : Int) = d := by rw [IntKind.wrap_u32']; omega
  have x4 : IntKind.u32.wrap (a : Int) = a := by rw [IntKind.wrap_u32']; omega
  have x5 : IntKind.u32.wrap (b : Int) = b := by rw [IntKind.wrap_u32']; omega
  have x6 : IntKind.u32.wrap ((d : Int) * 128) = d * 128 := by rw [IntKind.wrap_u32']; omega
  have x7 : IntKind.u32.wrap ((a : Int) * 32768) = a * 32768 := by rw [IntKind.wrap_u32']; omega
  have x8 : IntKind.u32.wrap ((b : Int) * 1048576) = b * 1048576 := by rw [IntKind.wrap_u32']; omega
  have y0 : (r3 : Int) * 4096 % 4294967296 = r3 * 4096 := by omega
  have y3 : (u : Int) * 1048576 % 4294967296 = u * 1048576 := by omega
  have y4 : (rx : Int) * 33554432 % 4294967296 = rx * 33554432 := by omega
  go_wp2_with fail
  go_quiet (fail)
  go_wp2_with fail
  go_ret2
  refine ⟨?_, below_drewN f2 _⟩
  rw [← EV.out]
  rfl
set_option maxRecDepth 100000 in
set_option maxHeartbeats 4000000 in
theorem refPut10 (q W d a b rc r3 rx : Nat) (rn : List UInt8) (n : Int) (hq : q ≤ 67) (hd : d < 256) (ha : a < 256) (hb : b < 256) (hn : i32 n) (hT : r3 = 0 ∧ W = rc ∧ rc < 4294967296)
    (K18 : Hid (∀ w : World, Calls Tryd.prog 17 #[.int .u8 ((q : Int) + 1)] w fun en w' => en = .returned (.tuple #[.agg #[.int .u8 ((q : Int) + 1), .string ⟨rn.toArray⟩, .int .i64 10, .int .u32 (rc : Int), .int .u32 (r3 : Int), .int .u32 (rx : Int)], .bool true]) ∧ Below w.heap.size w w')) (w : World) :
    Calls Tryd.prog 8 #[.agg #[.int .u8 ((q : Int) + 1), .int .u8 (d : Int), .int .u8 (a : Int), .int .u8 (b : Int), .int .i32 n]] w fun en w' => en = .returned (putV 10 W d a b n) ∧ Below w.heap.size w w' := by
  have k19 : ∀ w : World, Calls Tryd.prog 18 #[.agg #[.int .u8 ((q : Int) + 1), .string ⟨rn.toArray⟩, .int .i64 10, .int .u32 (rc : Int), .int .u32 (r3 : Int), .int .u32 (rx : Int)], .agg #[.int .u8 ((q : Int) + 1), .int .u8 (d : Int), .int .u8 (a : Int), .int .u8 (b : Int), .int .i32 n]] w fun en w' => en = .returned (.bool (okF 10 d a b n)) ∧ Below w.heap.size w w' := fun w => by
    have := fields10 (q + 1) rc r3 rx d a b ⟨rn.toArray⟩ n hd ha hb hn w
    rw [Int.natCast_add] at this
    exact this
  have hV : putV 10 W d a b n = if okF 10 d a b n = true then .tuple #[.int .u32 (wordF 10 W d a b n : Int), .int .i64 0] else .tuple #[.int .u32 0, .int .i64 2] := rfl
  rw [hV]
  clear hV
  have hu := u32_cast n
  have hul := u32_lt n
  have ho : okF 10 d a b n = true → ∃ (V0 : Nat), bits .or .u32 (rc : Int) ((r3 : Int) * 4096) = (V0 : Int) ∧ V0 = wordF 10 W d a b n ∧ d < 16 ∧ a < 16 ∧ b < 16 := by
    intro hk
    simp only [okF, Bool.and_eq_true] at hk
    obtain ⟨kd, ka, kb, km⟩ := hk
    have ld := regOk_lt _ _ kd
    have la := regOk_lt _ _ ka
    have lb := regOk_lt _ _ kb
    have d0 := regOk_no _ kd
    have a0 := regOk_no _ ka
    have b0 := regOk_no _ kb
    simp only [mayF, decide_eq_true_eq] at km
    obtain ⟨h3, hW, hc⟩ := hT
    obtain ⟨V0, s0, e0⟩ : ∃ S : Nat, S = rc ∧ bits .or .u32 (rc : Int) ((r3 : Int) * 4096) = (S : Int) := ⟨rc, rfl, by rw [h3, show ((0 : Nat) : Int) * 4096 = ((0 : Nat) : Int) from rfl, u32_or_nat _ _ hc (by omega), Nat.or_zero]⟩
    refine ⟨V0, e0, ?_, by omega, by omega, by omega⟩
    show _ = W + d * 128 + a * 32768 + b * 1048576 + putF 10 n
    simp only [putF]
    omega
  have hr3 : r3 < 8 := by omega
  have HO := Lib.hid ho
  clear ho hT
  generalize wordF 10 W d a b n = V at *
  generalize okF 10 d a b n = O at *
  generalize u32 n = u at *
  have K19 := Lib.hid k19
  clear k19
  go_enter Tryd.func8, Tryd.ntmps8
  go_wp2_with fail
  refine (K18.out _).mono ?_
  rintro _ w1 ⟨rfl, b1⟩
  have q1 := b1.size
  simp at q1
  have l1 : w.heap.size < w1.heap.size := by omega
  have l0 : w.heap.size < w.heap.size + 1 := by omega
  have f1 : Below w.heap.size w w1 := ((Below.refl _ _).alloc (Nat.le_refl _) _).trans (b1.mono (by simp))
  obtain ⟨hc1, hf1⟩ := bcell b1
  clear b1
  go_wp2_with fail
  refine (K19.out _).mono ?_
  rintro _ w2 ⟨rfl, b2⟩
  have q2 := b2.size
  simp at q2
  have l2 : w.heap.size < w2.heap.size := by omega
  have l3 : w1.heap.size < w2.heap.size := by omega
  have l4 : w.heap.size < w1.heap.size + 1 := by omega
  have f2 : Below w.heap.size w w2 := (f1.alloc (by omega) _).trans (b2.mono (by simp; omega))
  obtain ⟨hc2, hf2⟩ := bcell b2
  clear b2
  cases O
  · go_wp2_with fail
    go_ret2
    exact ⟨rfl, f2⟩
  obtain ⟨V0, e0, eV, ld, la, lb⟩ := HO.out rfl
  have EV := Lib.hid eV
  clear eV HO
  have x3 : IntKind.u32.wrap (d : Int) = d := by rw [IntKind.wrap_u32']; omega
  have x4 : IntKind.u32.wrap (a : Int) = a := by rw [IntKind.wrap_u32']; omega
  have x5 : IntKind.u32.wrap (b : Int) = b := by rw [IntKind.wrap_u32']; omega
  have x6 : IntKind.u32.wrap ((d : Int) * 128) = d * 128 := by rw [IntKind.wrap_u32']; omega
  have x7 : IntKind.u32.wrap ((a : Int) * 32768) = a * 32768 := by rw [IntKind.wrap_u32']; omega
  have x8 : IntKind.u32.wrap ((b : Int) * 1048576) = b * 1048576 := by rw [IntKind.wrap_u32']; omega
  have y0 : (r3 : Int) * 4096 % 4294967296 = r3 * 4096 := by omega
  go_wp2_with fail
  go_quiet (fail)
  go_wp2_with fail
  go_ret2
  refine ⟨?_, below_drewN f2 _⟩
  rw [← EV.out]
  rfl
end Go.Proofs.YtkiojljopigldaaDoor
