import Derived.Test.YtakkkblopjbegaaGreatDoorQ
namespace Go.Proofs.YtakkkblopjbegaaGreatDoor
open Go.ChangeShapes Go.WideShapes Go.ChangeAt Go.RowKit
set_option linter.unusedVariables false
set_option linter.unusedSimpArgs false
theorem beq_of_nan {x : Nat} {b : Bool} (h : nanB x = b) : (FloatKind.f64.format.order x x == some Ordering.eq) = !b := by
  unfold nanB at h
  subst h
  cases hq : (FloatKind.f64.format.order x x == some Ordering.eq) <;> simp [bne, hq]
set_option maxRecDepth 100000 in
set_option maxHeartbeats 4000000 in
theorem w4_ta (n m : Nat) (hn : n < 18446744073709551616) (hna : nanB n = false) (hnb : nanB m = false) (hL : (ord n m == some Ordering.lt) = true) (hM : ((ord m n == some Ordering.lt) || (ord m n == some Ordering.eq)) = false) (hl : mm true n m = n) (hh : mm false n m = m) (hs0 : smB n n = true) (hs1 : smB m m = true) (w : World) (hg : Gn w) :
    Calls Tryz.prog 4 #[.int .u64 (n : Int), .int .u64 (m : Int)] w fun e w' => e = .returned (.bool true) ∧ Below w.heap.size w w' := by
  have HG := Lib.hid hg
  have h5 := x5
  have ea : (FloatKind.f64.format.order n n == some Ordering.eq) = true := beq_of_nan hna
  have eb : (FloatKind.f64.format.order m m == some Ordering.eq) = true := beq_of_nan hnb
  have ena : (FloatKind.f64.format.order n n != some Ordering.eq) = false := hna
  have enb : (FloatKind.f64.format.order m m != some Ordering.eq) = false := hnb
  have HL : Hid (∀ W, Calls Tryz.prog 8 #[.int .u8 1, .float .f64 n, .float .f64 m] W fun e w' => e = .returned (.tuple #[.bool true, .int .i64 0]) ∧ w' = W) := Lib.hid (fun W => by
    have h := k8 1 n m W
    have e : IsV 1 n m = ((ord n m == some Ordering.lt), 0) := rfl
    rw [e, hL] at h
    exact h)
  have HM : Hid (∀ W, Calls Tryz.prog 8 #[.int .u8 2, .float .f64 m, .float .f64 n] W fun e w' => e = .returned (.tuple #[.bool false, .int .i64 0]) ∧ w' = W) := Lib.hid (fun W => by
    have h := k8 2 m n W
    have e : IsV 2 m n = ((ord m n == some Ordering.lt) || (ord m n == some Ordering.eq), 0) := rfl
    rw [e, hM] at h
    exact h)
  have HA := Lib.hid (fun W => k6_1 n m W)
  have HA2 := Lib.hid (fun W => k6_1 m n W)
  have HP := Lib.hid (fun W => k6_3 n m W)
  have HP2 := Lib.hid (fun W => k6_3 m n W)
  rw [add_comm' m n] at HA2
  rw [mul_comm' m n] at HP2
  have HMI : Hid (∀ W, Calls Tryz.prog 6 #[.int .u8 5, .float .f64 n, .float .f64 m] W fun e w' => e = .returned (.tuple #[.float .f64 n, .int .i64 0]) ∧ w' = W) := Lib.hid (fun W => by
    have h := k6_5 n m hn W
    rw [hl] at h
    exact h)
  have HMA : Hid (∀ W, Calls Tryz.prog 6 #[.int .u8 6, .float .f64 n, .float .f64 m] W fun e w' => e = .returned (.tuple #[.float .f64 m, .int .i64 0]) ∧ w' = W) := Lib.hid (fun W => by
    have h := k6_6 n m hn W
    rw [hh] at h
    exact h)
  have HS0 : Hid (∀ W, Calls Tryz.prog 12 #[.float .f64 n, .float .f64 n] W fun e w' => e = .returned (.bool true) ∧ w' = W) := Lib.hid (fun W => by
    have h := k12 n n W
    rw [hs0] at h
    exact h)
  have HS1 : Hid (∀ W, Calls Tryz.prog 12 #[.float .f64 m, .float .f64 m] W fun e w' => e = .returned (.bool true) ∧ w' = W) := Lib.hid (fun W => by
    have h := k12 m m W
    rw [hs1] at h
    exact h)
  have hs1' : ((n : Int)).toNat = n := Int.toNat_natCast n
  have hs2' : ((m : Int)).toNat = m := Int.toNat_natCast m
  clear hg hn hna hnb hL hM hl hh hs0 hs1
  go_enter Tryz.func4, Tryz.ntmps4
  go_wp2_with fail
  refine (HL.out _).mono ?_
  rintro _ w1 ⟨rfl, e1⟩
  rw [e1]
  clear e1 HL
  go_wp2_with fail
  refine (HM.out _).mono ?_
  rintro _ w1 ⟨rfl, e1⟩
  rw [e1]
  clear e1 HM
  go_wp2_with fail
  refine (HA.out _).mono ?_
  rintro _ w11 ⟨r1, rfl, hp, hb⟩
  have HR11 := Lib.hid hp
  have HB11 := Lib.hid (hb)
  clear hp hb HA
  go_wp2_with fail
  refine (HA2.out _).mono ?_
  rintro _ w12 ⟨r2, rfl, hp, hb⟩
  have HR12 := Lib.hid hp
  have HB12 := Lib.hid (HB11.out.trans (hb.mono HB11.out.size))
  clear hp hb HA2
  go_wp2_with fail
  refine (HP.out _).mono ?_
  rintro _ w13 ⟨r3, rfl, hp, hb⟩
  have HR13 := Lib.hid hp
  have HB13 := Lib.hid (HB12.out.trans (hb.mono HB12.out.size))
  clear hp hb HP
  go_wp2_with fail
  refine (HP2.out _).mono ?_
  rintro _ w14 ⟨r4, rfl, hp, hb⟩
  have HR14 := Lib.hid hp
  have HB14 := Lib.hid (HB13.out.trans (hb.mono HB13.out.size))
  clear hp hb HP2
  go_wp2_with fail
  refine (HMI.out _).mono ?_
  rintro _ w1 ⟨rfl, e1⟩
  rw [e1]
  clear e1 HMI
  go_wp2_with fail
  refine (HMA.out _).mono ?_
  rintro _ w1 ⟨rfl, e1⟩
  rw [e1]
  clear e1 HMA
  go_wp2_with fail
  refine (HS0.out _).mono ?_
  rintro _ w1 ⟨rfl, e1⟩
  rw [e1]
  clear e1 HS0
  go_wp2_with fail
  refine (HS1.out _).mono ?_
  rintro _ w1 ⟨rfl, e1⟩
  rw [e1]
  clear e1 HS1
  go_wp2_with fail
  have HX : Hid (∀ W, Calls Tryz.prog 12 #[.float .f64 r1, .float .f64 r2] W fun e w' => e = .returned (.bool true) ∧ w' = W) := Lib.hid (fun W => by
    have h := k12 r1 r2 W
    rw [HR11.out.same HR12.out] at h
    exact h)
  have HY : Hid (∀ W, Calls Tryz.prog 12 #[.float .f64 r3, .float .f64 r4] W fun e w' => e = .returned (.bool true) ∧ w' = W) := Lib.hid (fun W => by
    have h := k12 r3 r4 W
    rw [HR13.out.same HR14.out] at h
    exact h)
  refine (HX.out _).mono ?_
  rintro _ w1 ⟨rfl, e1⟩
  rw [e1]
  clear e1 HX
  go_wp2_with fail
  refine (HY.out _).mono ?_
  rintro _ w1 ⟨rfl, e1⟩
  rw [e1]
  clear e1 HY
  go_wp2_with fail
  refine (n11 w14 (HG.out.below HB14.out)).mono ?_
  rintro _ w15 ⟨rfl, hb⟩
  have HB15 := Lib.hid (HB14.out.trans (hb.mono HB14.out.size))
  clear hb
  go_wp2_with fail
  go_ret
  exact ⟨rfl, HB15.out⟩
set_option maxRecDepth 100000 in
set_option maxHeartbeats 4000000 in
theorem w4_tb (n m : Nat) (hn : n < 18446744073709551616) (hna : nanB n = false) (hnb : nanB m = false) (hL : (ord n m == some Ordering.lt) = true) (hM : ((ord m n == some Ordering.lt) || (ord m n == some Ordering.eq)) = false) (hl : mm true n m = m) (hh : mm false n m = n) (hs0 : smB m n = false) (hs1 : smB m m = true) (hs2 : smB n n = true) (w : World) (hg : Gn w) :
    Calls Tryz.prog 4 #[.int .u64 (n : Int), .int .u64 (m : Int)] w fun e w' => e = .returned (.bool true) ∧ Below w.heap.size w w' := by
  have HG := Lib.hid hg
  have h5 := x5
  have ea : (FloatKind.f64.format.order n n == some Ordering.eq) = true := beq_of_nan hna
  have eb : (FloatKind.f64.format.order m m == some Ordering.eq) = true := beq_of_nan hnb
  have ena : (FloatKind.f64.format.order n n != some Ordering.eq) = false := hna
  have enb : (FloatKind.f64.format.order m m != some Ordering.eq) = false := hnb
  have HL : Hid (∀ W, Calls Tryz.prog 8 #[.int .u8 1, .float .f64 n, .float .f64 m] W fun e w' => e = .returned (.tuple #[.bool true, .int .i64 0]) ∧ w' = W) := Lib.hid (fun W => by
    have h := k8 1 n m W
    have e : IsV 1 n m = ((ord n m == some Ordering.lt), 0) := rfl
    rw [e, hL] at h
    exact h)
  have HM : Hid (∀ W, Calls Tryz.prog 8 #[.int .u8 2, .float .f64 m, .float .f64 n] W fun e w' => e = .returned (.tuple #[.bool false, .int .i64 0]) ∧ w' = W) := Lib.hid (fun W => by
    have h := k8 2 m n W
    have e : IsV 2 m n = ((ord m n == some Ordering.lt) || (ord m n == some Ordering.eq), 0) := rfl
    rw [e, hM] at h
    exact h)
  have HA := Lib.hid (fun W => k6_1 n m W)
  have HA2 := Lib.hid (fun W => k6_1 m n W)
  have HP := Lib.hid (fun W => k6_3 n m W)
  have HP2 := Lib.hid (fun W => k6_3 m n W)
  rw [add_comm' m n] at HA2
  rw [mul_comm' m n] at HP2
  have HMI : Hid (∀ W, Calls Tryz.prog 6 #[.int .u8 5, .float .f64 n, .float .f64 m] W fun e w' => e = .returned (.tuple #[.float .f64 m, .int .i64 0]) ∧ w' = W) := Lib.hid (fun W => by
    have h := k6_5 n m hn W
    rw [hl] at h
    exact h)
  have HMA : Hid (∀ W, Calls Tryz.prog 6 #[.int .u8 6, .float .f64 n, .float .f64 m] W fun e w' => e = .returned (.tuple #[.float .f64 n, .int .i64 0]) ∧ w' = W) := Lib.hid (fun W => by
    have h := k6_6 n m hn W
    rw [hh] at h
    exact h)
  have HS0 : Hid (∀ W, Calls Tryz.prog 12 #[.float .f64 m, .float .f64 n] W fun e w' => e = .returned (.bool false) ∧ w' = W) := Lib.hid (fun W => by
    have h := k12 m n W
    rw [hs0] at h
    exact h)
  have HS1 : Hid (∀ W, Calls Tryz.prog 12 #[.float .f64 m, .float .f64 m] W fun e w' => e = .returned (.bool true) ∧ w' = W) := Lib.hid (fun W => by
    have h := k12 m m W
    rw [hs1] at h
    exact h)
  have HS2 : Hid (∀ W, Calls Tryz.prog 12 #[.float .f64 n, .float .f64 n] W fun e w' => e = .returned (.bool true) ∧ w' = W) := Lib.hid (fun W => by
    have h := k12 n n W
    rw [hs2] at h
    exact h)
  have hs1' : ((n : Int)).toNat = n := Int.toNat_natCast n
  have hs2' : ((m : Int)).toNat = m := Int.toNat_natCast m
  clear hg hn hna hnb hL hM hl hh hs0 hs1 hs2
  go_enter Tryz.func4, Tryz.ntmps4
  go_wp2_with fail
  refine (HL.out _).mono ?_
  rintro _ w1 ⟨rfl, e1⟩
  rw [e1]
  clear e1 HL
  go_wp2_with fail
  refine (HM.out _).mono ?_
  rintro _ w1 ⟨rfl, e1⟩
  rw [e1]
  clear e1 HM
  go_wp2_with fail
  refine (HA.out _).mono ?_
  rintro _ w11 ⟨r1, rfl, hp, hb⟩
  have HR11 := Lib.hid hp
  have HB11 := Lib.hid (hb)
  clear hp hb HA
  go_wp2_with fail
  refine (HA2.out _).mono ?_
  rintro _ w12 ⟨r2, rfl, hp, hb⟩
  have HR12 := Lib.hid hp
  have HB12 := Lib.hid (HB11.out.trans (hb.mono HB11.out.size))
  clear hp hb HA2
  go_wp2_with fail
  refine (HP.out _).mono ?_
  rintro _ w13 ⟨r3, rfl, hp, hb⟩
  have HR13 := Lib.hid hp
  have HB13 := Lib.hid (HB12.out.trans (hb.mono HB12.out.size))
  clear hp hb HP
  go_wp2_with fail
  refine (HP2.out _).mono ?_
  rintro _ w14 ⟨r4, rfl, hp, hb⟩
  have HR14 := Lib.hid hp
  have HB14 := Lib.hid (HB13.out.trans (hb.mono HB13.out.size))
  clear hp hb HP2
  go_wp2_with fail
  refine (HMI.out _).mono ?_
  rintro _ w1 ⟨rfl, e1⟩
  rw [e1]
  clear e1 HMI
  go_wp2_with fail
  refine (HMA.out _).mono ?_
  rintro _ w1 ⟨rfl, e1⟩
  rw [e1]
  clear e1 HMA
  go_wp2_with fail
  refine (HS0.out _).mono ?_
  rintro _ w1 ⟨rfl, e1⟩
  rw [e1]
  clear e1 HS0
  go_wp2_with fail
  refine (HS1.out _).mono ?_
  rintro _ w1 ⟨rfl, e1⟩
  rw [e1]
  clear e1 HS1
  go_wp2_with fail
  refine (HS2.out _).mono ?_
  rintro _ w1 ⟨rfl, e1⟩
  rw [e1]
  clear e1 HS2
  go_wp2_with fail
  have HX : Hid (∀ W, Calls Tryz.prog 12 #[.float .f64 r1, .float .f64 r2] W fun e w' => e = .returned (.bool true) ∧ w' = W) := Lib.hid (fun W => by
    have h := k12 r1 r2 W
    rw [HR11.out.same HR12.out] at h
    exact h)
  have HY : Hid (∀ W, Calls Tryz.prog 12 #[.float .f64 r3, .float .f64 r4] W fun e w' => e = .returned (.bool true) ∧ w' = W) := Lib.hid (fun W => by
    have h := k12 r3 r4 W
    rw [HR13.out.same HR14.out] at h
    exact h)
  refine (HX.out _).mono ?_
  rintro _ w1 ⟨rfl, e1⟩
  rw [e1]
  clear e1 HX
  go_wp2_with fail
  refine (HY.out _).mono ?_
  rintro _ w1 ⟨rfl, e1⟩
  rw [e1]
  clear e1 HY
  go_wp2_with fail
  refine (n11 w14 (HG.out.below HB14.out)).mono ?_
  rintro _ w15 ⟨rfl, hb⟩
  have HB15 := Lib.hid (HB14.out.trans (hb.mono HB14.out.size))
  clear hb
  go_wp2_with fail
  go_ret
  exact ⟨rfl, HB15.out⟩
set_option maxRecDepth 100000 in
set_option maxHeartbeats 4000000 in
theorem w4_tc (n m : Nat) (hn : n < 18446744073709551616) (hna : nanB n = false) (hnb : nanB m = false) (hL : (ord n m == some Ordering.lt) = true) (hM : ((ord m n == some Ordering.lt) || (ord m n == some Ordering.eq)) = false) (hl : mm true n m = m) (hh : mm false n m = n) (hs0 : smB m n = true) (hs1 : smB n m = true) (w : World) (hg : Gn w) :
    Calls Tryz.prog 4 #[.int .u64 (n : Int), .int .u64 (m : Int)] w fun e w' => e = .returned (.bool true) ∧ Below w.heap.size w w' := by
  have HG := Lib.hid hg
  have h5 := x5
  have ea : (FloatKind.f64.format.order n n == some Ordering.eq) = true := beq_of_nan hna
  have eb : (FloatKind.f64.format.order m m == some Ordering.eq) = true := beq_of_nan hnb
  have ena : (FloatKind.f64.format.order n n != some Ordering.eq) = false := hna
  have enb : (FloatKind.f64.format.order m m != some Ordering.eq) = false := hnb
  have HL : Hid (∀ W, Calls Tryz.prog 8 #[.int .u8 1, .float .f64 n, .float .f64 m] W fun e w' => e = .returned (.tuple #[.bool true, .int .i64 0]) ∧ w' = W) := Lib.hid (fun W => by
    have h := k8 1 n m W
    have e : IsV 1 n m = ((ord n m == some Ordering.lt), 0) := rfl
    rw [e, hL] at h
    exact h)
  have HM : Hid (∀ W, Calls Tryz.prog 8 #[.int .u8 2, .float .f64 m, .float .f64 n] W fun e w' => e = .returned (.tuple #[.bool false, .int .i64 0]) ∧ w' = W) := Lib.hid (fun W => by
    have h := k8 2 m n W
    have e : IsV 2 m n = ((ord m n == some Ordering.lt) || (ord m n == some Ordering.eq), 0) := rfl
    rw [e, hM] at h
    exact h)
  have HA := Lib.hid (fun W => k6_1 n m W)
  have HA2 := Lib.hid (fun W => k6_1 m n W)
  have HP := Lib.hid (fun W => k6_3 n m W)
  have HP2 := Lib.hid (fun W => k6_3 m n W)
  rw [add_comm' m n] at HA2
  rw [mul_comm' m n] at HP2
  have HMI : Hid (∀ W, Calls Tryz.prog 6 #[.int .u8 5, .float .f64 n, .float .f64 m] W fun e w' => e = .returned (.tuple #[.float .f64 m, .int .i64 0]) ∧ w' = W) := Lib.hid (fun W => by
    have h := k6_5 n m hn W
    rw [hl] at h
    exact h)
  have HMA : Hid (∀ W, Calls Tryz.prog 6 #[.int .u8 6, .float .f64 n, .float .f64 m] W fun e w' => e = .returned (.tuple #[.float .f64 n, .int .i64 0]) ∧ w' = W) := Lib.hid (fun W => by
    have h := k6_6 n m hn W
    rw [hh] at h
    exact h)
  have HS0 : Hid (∀ W, Calls Tryz.prog 12 #[.float .f64 m, .float .f64 n] W fun e w' => e = .returned (.bool true) ∧ w' = W) := Lib.hid (fun W => by
    have h := k12 m n W
    rw [hs0] at h
    exact h)
  have HS1 : Hid (∀ W, Calls Tryz.prog 12 #[.float .f64 n, .float .f64 m] W fun e w' => e = .returned (.bool true) ∧ w' = W) := Lib.hid (fun W => by
    have h := k12 n m W
    rw [hs1] at h
    exact h)
  have hs1' : ((n : Int)).toNat = n := Int.toNat_natCast n
  have hs2' : ((m : Int)).toNat = m := Int.toNat_natCast m
  clear hg hn hna hnb hL hM hl hh hs0 hs1
  go_enter Tryz.func4, Tryz.ntmps4
  go_wp2_with fail
  refine (HL.out _).mono ?_
  rintro _ w1 ⟨rfl, e1⟩
  rw [e1]
  clear e1 HL
  go_wp2_with fail
  refine (HM.out _).mono ?_
  rintro _ w1 ⟨rfl, e1⟩
  rw [e1]
  clear e1 HM
  go_wp2_with fail
  refine (HA.out _).mono ?_
  rintro _ w11 ⟨r1, rfl, hp, hb⟩
  have HR11 := Lib.hid hp
  have HB11 := Lib.hid (hb)
  clear hp hb HA
  go_wp2_with fail
  refine (HA2.out _).mono ?_
  rintro _ w12 ⟨r2, rfl, hp, hb⟩
  have HR12 := Lib.hid hp
  have HB12 := Lib.hid (HB11.out.trans (hb.mono HB11.out.size))
  clear hp hb HA2
  go_wp2_with fail
  refine (HP.out _).mono ?_
  rintro _ w13 ⟨r3, rfl, hp, hb⟩
  have HR13 := Lib.hid hp
  have HB13 := Lib.hid (HB12.out.trans (hb.mono HB12.out.size))
  clear hp hb HP
  go_wp2_with fail
  refine (HP2.out _).mono ?_
  rintro _ w14 ⟨r4, rfl, hp, hb⟩
  have HR14 := Lib.hid hp
  have HB14 := Lib.hid (HB13.out.trans (hb.mono HB13.out.size))
  clear hp hb HP2
  go_wp2_with fail
  refine (HMI.out _).mono ?_
  rintro _ w1 ⟨rfl, e1⟩
  rw [e1]
  clear e1 HMI
  go_wp2_with fail
  refine (HMA.out _).mono ?_
  rintro _ w1 ⟨rfl, e1⟩
  rw [e1]
  clear e1 HMA
  go_wp2_with fail
  refine (HS0.out _).mono ?_
  rintro _ w1 ⟨rfl, e1⟩
  rw [e1]
  clear e1 HS0
  go_wp2_with fail
  refine (HS1.out _).mono ?_
  rintro _ w1 ⟨rfl, e1⟩
  rw [e1]
  clear e1 HS1
  go_wp2_with fail
  have HX : Hid (∀ W, Calls Tryz.prog 12 #[.float .f64 r1, .float .f64 r2] W fun e w' => e = .returned (.bool true) ∧ w' = W) := Lib.hid (fun W => by
    have h := k12 r1 r2 W
    rw [HR11.out.same HR12.out] at h
    exact h)
  have HY : Hid (∀ W, Calls Tryz.prog 12 #[.float .f64 r3, .float .f64 r4] W fun e w' => e = .returned (.bool true) ∧ w' = W) := Lib.hid (fun W => by
    have h := k12 r3 r4 W
    rw [HR13.out.same HR14.out] at h
    exact h)
  refine (HX.out _).mono ?_
  rintro _ w1 ⟨rfl, e1⟩
  rw [e1]
  clear e1 HX
  go_wp2_with fail
  refine (HY.out _).mono ?_
  rintro _ w1 ⟨rfl, e1⟩
  rw [e1]
  clear e1 HY
  go_wp2_with fail
  refine (n11 w14 (HG.out.below HB14.out)).mono ?_
  rintro _ w15 ⟨rfl, hb⟩
  have HB15 := Lib.hid (HB14.out.trans (hb.mono HB14.out.size))
  clear hb
  go_wp2_with fail
  go_ret
  exact ⟨rfl, HB15.out⟩
set_option maxRecDepth 100000 in
set_option maxHeartbeats 4000000 in
theorem w4_fa (n m : Nat) (hn : n < 18446744073709551616) (hna : nanB n = false) (hnb : nanB m = false) (hL : (ord n m == some Ordering.lt) = false) (hM : ((ord m n == some Ordering.lt) || (ord m n == some Ordering.eq)) = true) (hl : mm true n m = n) (hh : mm false n m = m) (hs0 : smB n n = true) (hs1 : smB m m = true) (w : World) (hg : Gn w) :
    Calls Tryz.prog 4 #[.int .u64 (n : Int), .int .u64 (m : Int)] w fun e w' => e = .returned (.bool true) ∧ Below w.heap.size w w' := by
  have HG := Lib.hid hg
  have h5 := x5
  have ea : (FloatKind.f64.format.order n n == some Ordering.eq) = true := beq_of_nan hna
  have eb : (FloatKind.f64.format.order m m == some Ordering.eq) = true := beq_of_nan hnb
  have ena : (FloatKind.f64.format.order n n != some Ordering.eq) = false := hna
  have enb : (FloatKind.f64.format.order m m != some Ordering.eq) = false := hnb
  have HL : Hid (∀ W, Calls Tryz.prog 8 #[.int .u8 1, .float .f64 n, .float .f64 m] W fun e w' => e = .returned (.tuple #[.bool false, .int .i64 0]) ∧ w' = W) := Lib.hid (fun W => by
    have h := k8 1 n m W
    have e : IsV 1 n m = ((ord n m == some Ordering.lt), 0) := rfl
    rw [e, hL] at h
    exact h)
  have HM : Hid (∀ W, Calls Tryz.prog 8 #[.int .u8 2, .float .f64 m, .float .f64 n] W fun e w' => e = .returned (.tuple #[.bool true, .int .i64 0]) ∧ w' = W) := Lib.hid (fun W => by
    have h := k8 2 m n W
    have e : IsV 2 m n = ((ord m n == some Ordering.lt) || (ord m n == some Ordering.eq), 0) := rfl
    rw [e, hM] at h
    exact h)
  have HA := Lib.hid (fun W => k6_1 n m W)
  have HA2 := Lib.hid (fun W => k6_1 m n W)
  have HP := Lib.hid (fun W => k6_3 n m W)
  have HP2 := Lib.hid (fun W => k6_3 m n W)
  rw [add_comm' m n] at HA2
  rw [mul_comm' m n] at HP2
  have HMI : Hid (∀ W, Calls Tryz.prog 6 #[.int .u8 5, .float .f64 n, .float .f64 m] W fun e w' => e = .returned (.tuple #[.float .f64 n, .int .i64 0]) ∧ w' = W) := Lib.hid (fun W => by
    have h := k6_5 n m hn W
    rw [hl] at h
    exact h)
  have HMA : Hid (∀ W, Calls Tryz.prog 6 #[.int .u8 6, .float .f64 n, .float .f64 m] W fun e w' => e = .returned (.tuple #[.float .f64 m, .int .i64 0]) ∧ w' = W) := Lib.hid (fun W => by
    have h := k6_6 n m hn W
    rw [hh] at h
    exact h)
  have HS0 : Hid (∀ W, Calls Tryz.prog 12 #[.float .f64 n, .float .f64 n] W fun e w' => e = .returned (.bool true) ∧ w' = W) := Lib.hid (fun W => by
    have h := k12 n n W
    rw [hs0] at h
    exact h)
  have HS1 : Hid (∀ W, Calls Tryz.prog 12 #[.float .f64 m, .float .f64 m] W fun e w' => e = .returned (.bool true) ∧ w' = W) := Lib.hid (fun W => by
    have h := k12 m m W
    rw [hs1] at h
    exact h)
  have hs1' : ((n : Int)).toNat = n := Int.toNat_natCast n
  have hs2' : ((m : Int)).toNat = m := Int.toNat_natCast m
  clear hg hn hna hnb hL hM hl hh hs0 hs1
  go_enter Tryz.func4, Tryz.ntmps4
  go_wp2_with fail
  refine (HL.out _).mono ?_
  rintro _ w1 ⟨rfl, e1⟩
  rw [e1]
  clear e1 HL
  go_wp2_with fail
  refine (HM.out _).mono ?_
  rintro _ w1 ⟨rfl, e1⟩
  rw [e1]
  clear e1 HM
  go_wp2_with fail
  refine (HA.out _).mono ?_
  rintro _ w11 ⟨r1, rfl, hp, hb⟩
  have HR11 := Lib.hid hp
  have HB11 := Lib.hid (hb)
  clear hp hb HA
  go_wp2_with fail
  refine (HA2.out _).mono ?_
  rintro _ w12 ⟨r2, rfl, hp, hb⟩
  have HR12 := Lib.hid hp
  have HB12 := Lib.hid (HB11.out.trans (hb.mono HB11.out.size))
  clear hp hb HA2
  go_wp2_with fail
  refine (HP.out _).mono ?_
  rintro _ w13 ⟨r3, rfl, hp, hb⟩
  have HR13 := Lib.hid hp
  have HB13 := Lib.hid (HB12.out.trans (hb.mono HB12.out.size))
  clear hp hb HP
  go_wp2_with fail
  refine (HP2.out _).mono ?_
  rintro _ w14 ⟨r4, rfl, hp, hb⟩
  have HR14 := Lib.hid hp
  have HB14 := Lib.hid (HB13.out.trans (hb.mono HB13.out.size))
  clear hp hb HP2
  go_wp2_with fail
  refine (HMI.out _).mono ?_
  rintro _ w1 ⟨rfl, e1⟩
  rw [e1]
  clear e1 HMI
  go_wp2_with fail
  refine (HMA.out _).mono ?_
  rintro _ w1 ⟨rfl, e1⟩
  rw [e1]
  clear e1 HMA
  go_wp2_with fail
  refine (HS0.out _).mono ?_
  rintro _ w1 ⟨rfl, e1⟩
  rw [e1]
  clear e1 HS0
  go_wp2_with fail
  refine (HS1.out _).mono ?_
  rintro _ w1 ⟨rfl, e1⟩
  rw [e1]
  clear e1 HS1
  go_wp2_with fail
  have HX : Hid (∀ W, Calls Tryz.prog 12 #[.float .f64 r1, .float .f64 r2] W fun e w' => e = .returned (.bool true) ∧ w' = W) := Lib.hid (fun W => by
    have h := k12 r1 r2 W
    rw [HR11.out.same HR12.out] at h
    exact h)
  have HY : Hid (∀ W, Calls Tryz.prog 12 #[.float .f64 r3, .float .f64 r4] W fun e w' => e = .returned (.bool true) ∧ w' = W) := Lib.hid (fun W => by
    have h := k12 r3 r4 W
    rw [HR13.out.same HR14.out] at h
    exact h)
  refine (HX.out _).mono ?_
  rintro _ w1 ⟨rfl, e1⟩
  rw [e1]
  clear e1 HX
  go_wp2_with fail
  refine (HY.out _).mono ?_
  rintro _ w1 ⟨rfl, e1⟩
  rw [e1]
  clear e1 HY
  go_wp2_with fail
  refine (n11 w14 (HG.out.below HB14.out)).mono ?_
  rintro _ w15 ⟨rfl, hb⟩
  have HB15 := Lib.hid (HB14.out.trans (hb.mono HB14.out.size))
  clear hb
  go_wp2_with fail
  go_ret
  exact ⟨rfl, HB15.out⟩
set_option maxRecDepth 100000 in
set_option maxHeartbeats 4000000 in
theorem w4_fb (n m : Nat) (hn : n < 18446744073709551616) (hna : nanB n = false) (hnb : nanB m = false) (hL : (ord n m == some Ordering.lt) = false) (hM : ((ord m n == some Ordering.lt) || (ord m n == some Ordering.eq)) = true) (hl : mm true n m = m) (hh : mm false n m = n) (hs0 : smB m n = false) (hs1 : smB m m = true) (hs2 : smB n n = true) (w : World) (hg : Gn w) :
    Calls Tryz.prog 4 #[.int .u64 (n : Int), .int .u64 (m : Int)] w fun e w' => e = .returned (.bool true) ∧ Below w.heap.size w w' := by
  have HG := Lib.hid hg
  have h5 := x5
  have ea : (FloatKind.f64.format.order n n == some Ordering.eq) = true := beq_of_nan hna
  have eb : (FloatKind.f64.format.order m m == some Ordering.eq) = true := beq_of_nan hnb
  have ena : (FloatKind.f64.format.order n n != some Ordering.eq) = false := hna
  have enb : (FloatKind.f64.format.order m m != some Ordering.eq) = false := hnb
  have HL : Hid (∀ W, Calls Tryz.prog 8 #[.int .u8 1, .float .f64 n, .float .f64 m] W fun e w' => e = .returned (.tuple #[.bool false, .int .i64 0]) ∧ w' = W) := Lib.hid (fun W => by
    have h := k8 1 n m W
    have e : IsV 1 n m = ((ord n m == some Ordering.lt), 0) := rfl
    rw [e, hL] at h
    exact h)
  have HM : Hid (∀ W, Calls Tryz.prog 8 #[.int .u8 2, .float .f64 m, .float .f64 n] W fun e w' => e = .returned (.tuple #[.bool true, .int .i64 0]) ∧ w' = W) := Lib.hid (fun W => by
    have h := k8 2 m n W
    have e : IsV 2 m n = ((ord m n == some Ordering.lt) || (ord m n == some Ordering.eq), 0) := rfl
    rw [e, hM] at h
    exact h)
  have HA := Lib.hid (fun W => k6_1 n m W)
  have HA2 := Lib.hid (fun W => k6_1 m n W)
  have HP := Lib.hid (fun W => k6_3 n m W)
  have HP2 := Lib.hid (fun W => k6_3 m n W)
  rw [add_comm' m n] at HA2
  rw [mul_comm' m n] at HP2
  have HMI : Hid (∀ W, Calls Tryz.prog 6 #[.int .u8 5, .float .f64 n, .float .f64 m] W fun e w' => e = .returned (.tuple #[.float .f64 m, .int .i64 0]) ∧ w' = W) := Lib.hid (fun W => by
    have h := k6_5 n m hn W
    rw [hl] at h
    exact h)
  have HMA : Hid (∀ W, Calls Tryz.prog 6 #[.int .u8 6, .float .f64 n, .float .f64 m] W fun e w' => e = .returned (.tuple #[.float .f64 n, .int .i64 0]) ∧ w' = W) := Lib.hid (fun W => by
    have h := k6_6 n m hn W
    rw [hh] at h
    exact h)
  have HS0 : Hid (∀ W, Calls Tryz.prog 12 #[.float .f64 m, .float .f64 n] W fun e w' => e = .returned (.bool false) ∧ w' = W) := Lib.hid (fun W => by
    have h := k12 m n W
    rw [hs0] at h
    exact h)
  have HS1 : Hid (∀ W, Calls Tryz.prog 12 #[.float .f64 m, .float .f64 m] W fun e w' => e = .returned (.bool true) ∧ w' = W) := Lib.hid (fun W => by
    have h := k12 m m W
    rw [hs1] at h
    exact h)
  have HS2 : Hid (∀ W, Calls Tryz.prog 12 #[.float .f64 n, .float .f64 n] W fun e w' => e = .returned (.bool true) ∧ w' = W) := Lib.hid (fun W => by
    have h := k12 n n W
    rw [hs2] at h
    exact h)
  have hs1' : ((n : Int)).toNat = n := Int.toNat_natCast n
  have hs2' : ((m : Int)).toNat = m := Int.toNat_natCast m
  clear hg hn hna hnb hL hM hl hh hs0 hs1 hs2
  go_enter Tryz.func4, Tryz.ntmps4
  go_wp2_with fail
  refine (HL.out _).mono ?_
  rintro _ w1 ⟨rfl, e1⟩
  rw [e1]
  clear e1 HL
  go_wp2_with fail
  refine (HM.out _).mono ?_
  rintro _ w1 ⟨rfl, e1⟩
  rw [e1]
  clear e1 HM
  go_wp2_with fail
  refine (HA.out _).mono ?_
  rintro _ w11 ⟨r1, rfl, hp, hb⟩
  have HR11 := Lib.hid hp
  have HB11 := Lib.hid (hb)
  clear hp hb HA
  go_wp2_with fail
  refine (HA2.out _).mono ?_
  rintro _ w12 ⟨r2, rfl, hp, hb⟩
  have HR12 := Lib.hid hp
  have HB12 := Lib.hid (HB11.out.trans (hb.mono HB11.out.size))
  clear hp hb HA2
  go_wp2_with fail
  refine (HP.out _).mono ?_
  rintro _ w13 ⟨r3, rfl, hp, hb⟩
  have HR13 := Lib.hid hp
  have HB13 := Lib.hid (HB12.out.trans (hb.mono HB12.out.size))
  clear hp hb HP
  go_wp2_with fail
  refine (HP2.out _).mono ?_
  rintro _ w14 ⟨r4, rfl, hp, hb⟩
  have HR14 := Lib.hid hp
  have HB14 := Lib.hid (HB13.out.trans (hb.mono HB13.out.size))
  clear hp hb HP2
  go_wp2_with fail
  refine (HMI.out _).mono ?_
  rintro _ w1 ⟨rfl, e1⟩
  rw [e1]
  clear e1 HMI
  go_wp2_with fail
  refine (HMA.out _).mono ?_
  rintro _ w1 ⟨rfl, e1⟩
  rw [e1]
  clear e1 HMA
  go_wp2_with fail
  refine (HS0.out _).mono ?_
  rintro _ w1 ⟨rfl, e1⟩
  rw [e1]
  clear e1 HS0
  go_wp2_with fail
  refine (HS1.out _).mono ?_
  rintro _ w1 ⟨rfl, e1⟩
  rw [e1]
  clear e1 HS1
  go_wp2_with fail
  refine (HS2.out _).mono ?_
  rintro _ w1 ⟨rfl, e1⟩
  rw [e1]
  clear e1 HS2
  go_wp2_with fail
  have HX : Hid (∀ W, Calls Tryz.prog 12 #[.float .f64 r1, .float .f64 r2] W fun e w' => e = .returned (.bool true) ∧ w' = W) := Lib.hid (fun W => by
    have h := k12 r1 r2 W
    rw [HR11.out.same HR12.out] at h
    exact h)
  have HY : Hid (∀ W, Calls Tryz.prog 12 #[.float .f64 r3, .float .f64 r4] W fun e w' => e = .returned (.bool true) ∧ w' = W) := Lib.hid (fun W => by
    have h := k12 r3 r4 W
    rw [HR13.out.same HR14.out] at h
    exact h)
  refine (HX.out _).mono ?_
  rintro _ w1 ⟨rfl, e1⟩
  rw [e1]
  clear e1 HX
  go_wp2_with fail
  refine (HY.out _).mono ?_
  rintro _ w1 ⟨rfl, e1⟩
  rw [e1]
  clear e1 HY
  go_wp2_with fail
  refine (n11 w14 (HG.out.below HB14.out)).mono ?_
  rintro _ w15 ⟨rfl, hb⟩
  have HB15 := Lib.hid (HB14.out.trans (hb.mono HB14.out.size))
  clear hb
  go_wp2_with fail
  go_ret
  exact ⟨rfl, HB15.out⟩
set_option maxRecDepth 100000 in
set_option maxHeartbeats 4000000 in
theorem w4_fc (n m : Nat) (hn : n < 18446744073709551616) (hna : nanB n = false) (hnb : nanB m = false) (hL : (ord n m == some Ordering.lt) = false) (hM : ((ord m n == some Ordering.lt) || (ord m n == some Ordering.eq)) = true) (hl : mm true n m = m) (hh : mm false n m = n) (hs0 : smB m n = true) (hs1 : smB n m = true) (w : World) (hg : Gn w) :
    Calls Tryz.prog 4 #[.int .u64 (n : Int), .int .u64 (m : Int)] w fun e w' => e = .returned (.bool true) ∧ Below w.heap.size w w' := by
  have HG := Lib.hid hg
  have h5 := x5
  have ea : (FloatKind.f64.format.order n n == some Ordering.eq) = true := beq_of_nan hna
  have eb : (FloatKind.f64.format.order m m == some Ordering.eq) = true := beq_of_nan hnb
  have ena : (FloatKind.f64.format.order n n != some Ordering.eq) = false := hna
  have enb : (FloatKind.f64.format.order m m != some Ordering.eq) = false := hnb
  have HL : Hid (∀ W, Calls Tryz.prog 8 #[.int .u8 1, .float .f64 n, .float .f64 m] W fun e w' => e = .returned (.tuple #[.bool false, .int .i64 0]) ∧ w' = W) := Lib.hid (fun W => by
    have h := k8 1 n m W
    have e : IsV 1 n m = ((ord n m == some Ordering.lt), 0) := rfl
    rw [e, hL] at h
    exact h)
  have HM : Hid (∀ W, Calls Tryz.prog 8 #[.int .u8 2, .float .f64 m, .float .f64 n] W fun e w' => e = .returned (.tuple #[.bool true, .int .i64 0]) ∧ w' = W) := Lib.hid (fun W => by
    have h := k8 2 m n W
    have e : IsV 2 m n = ((ord m n == some Ordering.lt) || (ord m n == some Ordering.eq), 0) := rfl
    rw [e, hM] at h
    exact h)
  have HA := Lib.hid (fun W => k6_1 n m W)
  have HA2 := Lib.hid (fun W => k6_1 m n W)
  have HP := Lib.hid (fun W => k6_3 n m W)
  have HP2 := Lib.hid (fun W => k6_3 m n W)
  rw [add_comm' m n] at HA2
  rw [mul_comm' m n] at HP2
  have HMI : Hid (∀ W, Calls Tryz.prog 6 #[.int .u8 5, .float .f64 n, .float .f64 m] W fun e w' => e = .returned (.tuple #[.float .f64 m, .int .i64 0]) ∧ w' = W) := Lib.hid (fun W => by
    have h := k6_5 n m hn W
    rw [hl] at h
    exact h)
  have HMA : Hid (∀ W, Calls Tryz.prog 6 #[.int .u8 6, .float .f64 n, .float .f64 m] W fun e w' => e = .returned (.tuple #[.float .f64 n, .int .i64 0]) ∧ w' = W) := Lib.hid (fun W => by
    have h := k6_6 n m hn W
    rw [hh] at h
    exact h)
  have HS0 : Hid (∀ W, Calls Tryz.prog 12 #[.float .f64 m, .float .f64 n] W fun e w' => e = .returned (.bool true) ∧ w' = W) := Lib.hid (fun W => by
    have h := k12 m n W
    rw [hs0] at h
    exact h)
  have HS1 : Hid (∀ W, Calls Tryz.prog 12 #[.float .f64 n, .float .f64 m] W fun e w' => e = .returned (.bool true) ∧ w' = W) := Lib.hid (fun W => by
    have h := k12 n m W
    rw [hs1] at h
    exact h)
  have hs1' : ((n : Int)).toNat = n := Int.toNat_natCast n
  have hs2' : ((m : Int)).toNat = m := Int.toNat_natCast m
  clear hg hn hna hnb hL hM hl hh hs0 hs1
  go_enter Tryz.func4, Tryz.ntmps4
  go_wp2_with fail
  refine (HL.out _).mono ?_
  rintro _ w1 ⟨rfl, e1⟩
  rw [e1]
  clear e1 HL
  go_wp2_with fail
  refine (HM.out _).mono ?_
  rintro _ w1 ⟨rfl, e1⟩
  rw [e1]
  clear e1 HM
  go_wp2_with fail
  refine (HA.out _).mono ?_
  rintro _ w11 ⟨r1, rfl, hp, hb⟩
  have HR11 := Lib.hid hp
  have HB11 := Lib.hid (hb)
  clear hp hb HA
  go_wp2_with fail
  refine (HA2.out _).mono ?_
  rintro _ w12 ⟨r2, rfl, hp, hb⟩
  have HR12 := Lib.hid hp
  have HB12 := Lib.hid (HB11.out.trans (hb.mono HB11.out.size))
  clear hp hb HA2
  go_wp2_with fail
  refine (HP.out _).mono ?_
  rintro _ w13 ⟨r3, rfl, hp, hb⟩
  have HR13 := Lib.hid hp
  have HB13 := Lib.hid (HB12.out.trans (hb.mono HB12.out.size))
  clear hp hb HP
  go_wp2_with fail
  refine (HP2.out _).mono ?_
  rintro _ w14 ⟨r4, rfl, hp, hb⟩
  have HR14 := Lib.hid hp
  have HB14 := Lib.hid (HB13.out.trans (hb.mono HB13.out.size))
  clear hp hb HP2
  go_wp2_with fail
  refine (HMI.out _).mono ?_
  rintro _ w1 ⟨rfl, e1⟩
  rw [e1]
  clear e1 HMI
  go_wp2_with fail
  refine (HMA.out _).mono ?_
  rintro _ w1 ⟨rfl, e1⟩
  rw [e1]
  clear e1 HMA
  go_wp2_with fail
  refine (HS0.out _).mono ?_
  rintro _ w1 ⟨rfl, e1⟩
  rw [e1]
  clear e1 HS0
  go_wp2_with fail
  refine (HS1.out _).mono ?_
  rintro _ w1 ⟨rfl, e1⟩
  rw [e1]
  clear e1 HS1
  go_wp2_with fail
  have HX : Hid (∀ W, Calls Tryz.prog 12 #[.float .f64 r1, .float .f64 r2] W fun e w' => e = .returned (.bool true) ∧ w' = W) := Lib.hid (fun W => by
    have h := k12 r1 r2 W
    rw [HR11.out.same HR12.out] at h
    exact h)
  have HY : Hid (∀ W, Calls Tryz.prog 12 #[.float .f64 r3, .float .f64 r4] W fun e w' => e = .returned (.bool true) ∧ w' = W) := Lib.hid (fun W => by
    have h := k12 r3 r4 W
    rw [HR13.out.same HR14.out] at h
    exact h)
  refine (HX.out _).mono ?_
  rintro _ w1 ⟨rfl, e1⟩
  rw [e1]
  clear e1 HX
  go_wp2_with fail
  refine (HY.out _).mono ?_
  rintro _ w1 ⟨rfl, e1⟩
  rw [e1]
  clear e1 HY
  go_wp2_with fail
  refine (n11 w14 (HG.out.below HB14.out)).mono ?_
  rintro _ w15 ⟨rfl, hb⟩
  have HB15 := Lib.hid (HB14.out.trans (hb.mono HB14.out.size))
  clear hb
  go_wp2_with fail
  go_ret
  exact ⟨rfl, HB15.out⟩
set_option maxRecDepth 100000 in
set_option maxHeartbeats 4000000 in
theorem w4_tt (n m : Nat) (hn : n < 18446744073709551616) (hna : nanB n = true) (hnb : nanB m = true) (hL : (ord n m == some Ordering.lt) = false) (hM : ((ord m n == some Ordering.lt) || (ord m n == some Ordering.eq)) = false) (hl : mm true n m = 9221120237041090561) (hh : mm false n m = 9221120237041090561) (hs0 : smB 9221120237041090561 n = true) (hs1 : smB 9221120237041090561 m = true) (w : World) (hg : Gn w) :
    Calls Tryz.prog 4 #[.int .u64 (n : Int), .int .u64 (m : Int)] w fun e w' => e = .returned (.bool true) ∧ Below w.heap.size w w' := by
  have HG := Lib.hid hg
  have h5 := x5
  have ea : (FloatKind.f64.format.order n n == some Ordering.eq) = false := beq_of_nan hna
  have eb : (FloatKind.f64.format.order m m == some Ordering.eq) = false := beq_of_nan hnb
  have ena : (FloatKind.f64.format.order n n != some Ordering.eq) = true := hna
  have enb : (FloatKind.f64.format.order m m != some Ordering.eq) = true := hnb
  have HL : Hid (∀ W, Calls Tryz.prog 8 #[.int .u8 1, .float .f64 n, .float .f64 m] W fun e w' => e = .returned (.tuple #[.bool false, .int .i64 0]) ∧ w' = W) := Lib.hid (fun W => by
    have h := k8 1 n m W
    have e : IsV 1 n m = ((ord n m == some Ordering.lt), 0) := rfl
    rw [e, hL] at h
    exact h)
  have HM : Hid (∀ W, Calls Tryz.prog 8 #[.int .u8 2, .float .f64 m, .float .f64 n] W fun e w' => e = .returned (.tuple #[.bool false, .int .i64 0]) ∧ w' = W) := Lib.hid (fun W => by
    have h := k8 2 m n W
    have e : IsV 2 m n = ((ord m n == some Ordering.lt) || (ord m n == some Ordering.eq), 0) := rfl
    rw [e, hM] at h
    exact h)
  have HA := Lib.hid (fun W => k6_1 n m W)
  have HA2 := Lib.hid (fun W => k6_1 m n W)
  have HP := Lib.hid (fun W => k6_3 n m W)
  have HP2 := Lib.hid (fun W => k6_3 m n W)
  rw [add_comm' m n] at HA2
  rw [mul_comm' m n] at HP2
  have HMI : Hid (∀ W, Calls Tryz.prog 6 #[.int .u8 5, .float .f64 n, .float .f64 m] W fun e w' => e = .returned (.tuple #[.float .f64 9221120237041090561, .int .i64 0]) ∧ w' = W) := Lib.hid (fun W => by
    have h := k6_5 n m hn W
    rw [hl] at h
    exact h)
  have HMA : Hid (∀ W, Calls Tryz.prog 6 #[.int .u8 6, .float .f64 n, .float .f64 m] W fun e w' => e = .returned (.tuple #[.float .f64 9221120237041090561, .int .i64 0]) ∧ w' = W) := Lib.hid (fun W => by
    have h := k6_6 n m hn W
    rw [hh] at h
    exact h)
  have HS0 : Hid (∀ W, Calls Tryz.prog 12 #[.float .f64 9221120237041090561, .float .f64 n] W fun e w' => e = .returned (.bool true) ∧ w' = W) := Lib.hid (fun W => by
    have h := k12 9221120237041090561 n W
    rw [hs0] at h
    exact h)
  have HS1 : Hid (∀ W, Calls Tryz.prog 12 #[.float .f64 9221120237041090561, .float .f64 m] W fun e w' => e = .returned (.bool true) ∧ w' = W) := Lib.hid (fun W => by
    have h := k12 9221120237041090561 m W
    rw [hs1] at h
    exact h)
  have hs1' : ((n : Int)).toNat = n := Int.toNat_natCast n
  have hs2' : ((m : Int)).toNat = m := Int.toNat_natCast m
  clear hg hn hna hnb hL hM hl hh hs0 hs1
  go_enter Tryz.func4, Tryz.ntmps4
  go_wp2_with fail
  refine (HL.out _).mono ?_
  rintro _ w1 ⟨rfl, e1⟩
  rw [e1]
  clear e1 HL
  go_wp2_with fail
  refine (HM.out _).mono ?_
  rintro _ w1 ⟨rfl, e1⟩
  rw [e1]
  clear e1 HM
  go_wp2_with fail
  refine (HA.out _).mono ?_
  rintro _ w11 ⟨r1, rfl, hp, hb⟩
  have HR11 := Lib.hid hp
  have HB11 := Lib.hid (hb)
  clear hp hb HA
  go_wp2_with fail
  refine (HA2.out _).mono ?_
  rintro _ w12 ⟨r2, rfl, hp, hb⟩
  have HR12 := Lib.hid hp
  have HB12 := Lib.hid (HB11.out.trans (hb.mono HB11.out.size))
  clear hp hb HA2
  go_wp2_with fail
  refine (HP.out _).mono ?_
  rintro _ w13 ⟨r3, rfl, hp, hb⟩
  have HR13 := Lib.hid hp
  have HB13 := Lib.hid (HB12.out.trans (hb.mono HB12.out.size))
  clear hp hb HP
  go_wp2_with fail
  refine (HP2.out _).mono ?_
  rintro _ w14 ⟨r4, rfl, hp, hb⟩
  have HR14 := Lib.hid hp
  have HB14 := Lib.hid (HB13.out.trans (hb.mono HB13.out.size))
  clear hp hb HP2
  go_wp2_with fail
  refine (HMI.out _).mono ?_
  rintro _ w1 ⟨rfl, e1⟩
  rw [e1]
  clear e1 HMI
  go_wp2_with fail
  refine (HMA.out _).mono ?_
  rintro _ w1 ⟨rfl, e1⟩
  rw [e1]
  clear e1 HMA
  go_wp2_with fail
  refine (HS0.out _).mono ?_
  rintro _ w1 ⟨rfl, e1⟩
  rw [e1]
  clear e1 HS0
  go_wp2_with fail
  refine (HS1.out _).mono ?_
  rintro _ w1 ⟨rfl, e1⟩
  rw [e1]
  clear e1 HS1
  go_wp2_with fail
  have HX : Hid (∀ W, Calls Tryz.prog 12 #[.float .f64 r1, .float .f64 r2] W fun e w' => e = .returned (.bool true) ∧ w' = W) := Lib.hid (fun W => by
    have h := k12 r1 r2 W
    rw [HR11.out.same HR12.out] at h
    exact h)
  have HY : Hid (∀ W, Calls Tryz.prog 12 #[.float .f64 r3, .float .f64 r4] W fun e w' => e = .returned (.bool true) ∧ w' = W) := Lib.hid (fun W => by
    have h := k12 r3 r4 W
    rw [HR13.out.same HR14.out] at h
    exact h)
  refine (HX.out _).mono ?_
  rintro _ w1 ⟨rfl, e1⟩
  rw [e1]
  clear e1 HX
  go_wp2_with fail
  refine (HY.out _).mono ?_
  rintro _ w1 ⟨rfl, e1⟩
  rw [e1]
  clear e1 HY
  go_wp2_with fail
  refine (n11 w14 (HG.out.below HB14.out)).mono ?_
  rintro _ w15 ⟨rfl, hb⟩
  have HB15 := Lib.hid (HB14.out.trans (hb.mono HB14.out.size))
  clear hb
  go_wp2_with fail
  go_ret
  exact ⟨rfl, HB15.out⟩
set_option maxRecDepth 100000 in
set_option maxHeartbeats 4000000 in
theorem w4_tf (n m : Nat) (hn : n < 18446744073709551616) (hna : nanB n = true) (hnb : nanB m = false) (hL : (ord n m == some Ordering.lt) = false) (hM : ((ord m n == some Ordering.lt) || (ord m n == some Ordering.eq)) = false) (hl : mm true n m = 9221120237041090561) (hh : mm false n m = 9221120237041090561) (hs0 : smB 9221120237041090561 n = true) (hs1 : smB 9221120237041090561 m = false) (hs2 : smB 9221120237041090561 m = false) (w : World) (hg : Gn w) :
    Calls Tryz.prog 4 #[.int .u64 (n : Int), .int .u64 (m : Int)] w fun e w' => e = .returned (.bool true) ∧ Below w.heap.size w w' := by
  have HG := Lib.hid hg
  have h5 := x5
  have ea : (FloatKind.f64.format.order n n == some Ordering.eq) = false := beq_of_nan hna
  have eb : (FloatKind.f64.format.order m m == some Ordering.eq) = true := beq_of_nan hnb
  have ena : (FloatKind.f64.format.order n n != some Ordering.eq) = true := hna
  have enb : (FloatKind.f64.format.order m m != some Ordering.eq) = false := hnb
  have HL : Hid (∀ W, Calls Tryz.prog 8 #[.int .u8 1, .float .f64 n, .float .f64 m] W fun e w' => e = .returned (.tuple #[.bool false, .int .i64 0]) ∧ w' = W) := Lib.hid (fun W => by
    have h := k8 1 n m W
    have e : IsV 1 n m = ((ord n m == some Ordering.lt), 0) := rfl
    rw [e, hL] at h
    exact h)
  have HM : Hid (∀ W, Calls Tryz.prog 8 #[.int .u8 2, .float .f64 m, .float .f64 n] W fun e w' => e = .returned (.tuple #[.bool false, .int .i64 0]) ∧ w' = W) := Lib.hid (fun W => by
    have h := k8 2 m n W
    have e : IsV 2 m n = ((ord m n == some Ordering.lt) || (ord m n == some Ordering.eq), 0) := rfl
    rw [e, hM] at h
    exact h)
  have HA := Lib.hid (fun W => k6_1 n m W)
  have HA2 := Lib.hid (fun W => k6_1 m n W)
  have HP := Lib.hid (fun W => k6_3 n m W)
  have HP2 := Lib.hid (fun W => k6_3 m n W)
  rw [add_comm' m n] at HA2
  rw [mul_comm' m n] at HP2
  have HMI : Hid (∀ W, Calls Tryz.prog 6 #[.int .u8 5, .float .f64 n, .float .f64 m] W fun e w' => e = .returned (.tuple #[.float .f64 9221120237041090561, .int .i64 0]) ∧ w' = W) := Lib.hid (fun W => by
    have h := k6_5 n m hn W
    rw [hl] at h
    exact h)
  have HMA : Hid (∀ W, Calls Tryz.prog 6 #[.int .u8 6, .float .f64 n, .float .f64 m] W fun e w' => e = .returned (.tuple #[.float .f64 9221120237041090561, .int .i64 0]) ∧ w' = W) := Lib.hid (fun W => by
    have h := k6_6 n m hn W
    rw [hh] at h
    exact h)
  have HS0 : Hid (∀ W, Calls Tryz.prog 12 #[.float .f64 9221120237041090561, .float .f64 n] W fun e w' => e = .returned (.bool true) ∧ w' = W) := Lib.hid (fun W => by
    have h := k12 9221120237041090561 n W
    rw [hs0] at h
    exact h)
  have HS1 : Hid (∀ W, Calls Tryz.prog 12 #[.float .f64 9221120237041090561, .float .f64 m] W fun e w' => e = .returned (.bool false) ∧ w' = W) := Lib.hid (fun W => by
    have h := k12 9221120237041090561 m W
    rw [hs1] at h
    exact h)
  have HS2 : Hid (∀ W, Calls Tryz.prog 12 #[.float .f64 9221120237041090561, .float .f64 m] W fun e w' => e = .returned (.bool false) ∧ w' = W) := Lib.hid (fun W => by
    have h := k12 9221120237041090561 m W
    rw [hs2] at h
    exact h)
  have hs1' : ((n : Int)).toNat = n := Int.toNat_natCast n
  have hs2' : ((m : Int)).toNat = m := Int.toNat_natCast m
  clear hg hn hna hnb hL hM hl hh hs0 hs1 hs2
  go_enter Tryz.func4, Tryz.ntmps4
  go_wp2_with fail
  refine (HL.out _).mono ?_
  rintro _ w1 ⟨rfl, e1⟩
  rw [e1]
  clear e1 HL
  go_wp2_with fail
  refine (HM.out _).mono ?_
  rintro _ w1 ⟨rfl, e1⟩
  rw [e1]
  clear e1 HM
  go_wp2_with fail
  refine (HA.out _).mono ?_
  rintro _ w11 ⟨r1, rfl, hp, hb⟩
  have HR11 := Lib.hid hp
  have HB11 := Lib.hid (hb)
  clear hp hb HA
  go_wp2_with fail
  refine (HA2.out _).mono ?_
  rintro _ w12 ⟨r2, rfl, hp, hb⟩
  have HR12 := Lib.hid hp
  have HB12 := Lib.hid (HB11.out.trans (hb.mono HB11.out.size))
  clear hp hb HA2
  go_wp2_with fail
  refine (HP.out _).mono ?_
  rintro _ w13 ⟨r3, rfl, hp, hb⟩
  have HR13 := Lib.hid hp
  have HB13 := Lib.hid (HB12.out.trans (hb.mono HB12.out.size))
  clear hp hb HP
  go_wp2_with fail
  refine (HP2.out _).mono ?_
  rintro _ w14 ⟨r4, rfl, hp, hb⟩
  have HR14 := Lib.hid hp
  have HB14 := Lib.hid (HB13.out.trans (hb.mono HB13.out.size))
  clear hp hb HP2
  go_wp2_with fail
  refine (HMI.out _).mono ?_
  rintro _ w1 ⟨rfl, e1⟩
  rw [e1]
  clear e1 HMI
  go_wp2_with fail
  refine (HMA.out _).mono ?_
  rintro _ w1 ⟨rfl, e1⟩
  rw [e1]
  clear e1 HMA
  go_wp2_with fail
  refine (HS0.out _).mono ?_
  rintro _ w1 ⟨rfl, e1⟩
  rw [e1]
  clear e1 HS0
  go_wp2_with fail
  refine (HS1.out _).mono ?_
  rintro _ w1 ⟨rfl, e1⟩
  rw [e1]
  clear e1 HS1
  go_wp2_with fail
  refine (HS2.out _).mono ?_
  rintro _ w1 ⟨rfl, e1⟩
  rw [e1]
  clear e1 HS2
  go_wp2_with fail
  have HX : Hid (∀ W, Calls Tryz.prog 12 #[.float .f64 r1, .float .f64 r2] W fun e w' => e = .returned (.bool true) ∧ w' = W) := Lib.hid (fun W => by
    have h := k12 r1 r2 W
    rw [HR11.out.same HR12.out] at h
    exact h)
  have HY : Hid (∀ W, Calls Tryz.prog 12 #[.float .f64 r3, .float .f64 r4] W fun e w' => e = .returned (.bool true) ∧ w' = W) := Lib.hid (fun W => by
    have h := k12 r3 r4 W
    rw [HR13.out.same HR14.out] at h
    exact h)
  refine (HX.out _).mono ?_
  rintro _ w1 ⟨rfl, e1⟩
  rw [e1]
  clear e1 HX
  go_wp2_with fail
  refine (HY.out _).mono ?_
  rintro _ w1 ⟨rfl, e1⟩
  rw [e1]
  clear e1 HY
  go_wp2_with fail
  refine (n11 w14 (HG.out.below HB14.out)).mono ?_
  rintro _ w15 ⟨rfl, hb⟩
  have HB15 := Lib.hid (HB14.out.trans (hb.mono HB14.out.size))
  clear hb
  go_wp2_with fail
  go_ret
  exact ⟨rfl, HB15.out⟩
set_option maxRecDepth 100000 in
set_option maxHeartbeats 4000000 in
theorem w4_ft (n m : Nat) (hn : n < 18446744073709551616) (hna : nanB n = false) (hnb : nanB m = true) (hL : (ord n m == some Ordering.lt) = false) (hM : ((ord m n == some Ordering.lt) || (ord m n == some Ordering.eq)) = false) (hl : mm true n m = 9221120237041090561) (hh : mm false n m = 9221120237041090561) (hs0 : smB 9221120237041090561 n = false) (hs1 : smB 9221120237041090561 m = true) (hs2 : smB 9221120237041090561 n = false) (w : World) (hg : Gn w) :
    Calls Tryz.prog 4 #[.int .u64 (n : Int), .int .u64 (m : Int)] w fun e w' => e = .returned (.bool true) ∧ Below w.heap.size w w' := by
  have HG := Lib.hid hg
  have h5 := x5
  have ea : (FloatKind.f64.format.order n n == some Ordering.eq) = true := beq_of_nan hna
  have eb : (FloatKind.f64.format.order m m == some Ordering.eq) = false := beq_of_nan hnb
  have ena : (FloatKind.f64.format.order n n != some Ordering.eq) = false := hna
  have enb : (FloatKind.f64.format.order m m != some Ordering.eq) = true := hnb
  have HL : Hid (∀ W, Calls Tryz.prog 8 #[.int .u8 1, .float .f64 n, .float .f64 m] W fun e w' => e = .returned (.tuple #[.bool false, .int .i64 0]) ∧ w' = W) := Lib.hid (fun W => by
    have h := k8 1 n m W
    have e : IsV 1 n m = ((ord n m == some Ordering.lt), 0) := rfl
    rw [e, hL] at h
    exact h)
  have HM : Hid (∀ W, Calls Tryz.prog 8 #[.int .u8 2, .float .f64 m, .float .f64 n] W fun e w' => e = .returned (.tuple #[.bool false, .int .i64 0]) ∧ w' = W) := Lib.hid (fun W => by
    have h := k8 2 m n W
    have e : IsV 2 m n = ((ord m n == some Ordering.lt) || (ord m n == some Ordering.eq), 0) := rfl
    rw [e, hM] at h
    exact h)
  have HA := Lib.hid (fun W => k6_1 n m W)
  have HA2 := Lib.hid (fun W => k6_1 m n W)
  have HP := Lib.hid (fun W => k6_3 n m W)
  have HP2 := Lib.hid (fun W => k6_3 m n W)
  rw [add_comm' m n] at HA2
  rw [mul_comm' m n] at HP2
  have HMI : Hid (∀ W, Calls Tryz.prog 6 #[.int .u8 5, .float .f64 n, .float .f64 m] W fun e w' => e = .returned (.tuple #[.float .f64 9221120237041090561, .int .i64 0]) ∧ w' = W) := Lib.hid (fun W => by
    have h := k6_5 n m hn W
    rw [hl] at h
    exact h)
  have HMA : Hid (∀ W, Calls Tryz.prog 6 #[.int .u8 6, .float .f64 n, .float .f64 m] W fun e w' => e = .returned (.tuple #[.float .f64 9221120237041090561, .int .i64 0]) ∧ w' = W) := Lib.hid (fun W => by
    have h := k6_6 n m hn W
    rw [hh] at h
    exact h)
  have HS0 : Hid (∀ W, Calls Tryz.prog 12 #[.float .f64 9221120237041090561, .float .f64 n] W fun e w' => e = .returned (.bool false) ∧ w' = W) := Lib.hid (fun W => by
    have h := k12 9221120237041090561 n W
    rw [hs0] at h
    exact h)
  have HS1 : Hid (∀ W, Calls Tryz.prog 12 #[.float .f64 9221120237041090561, .float .f64 m] W fun e w' => e = .returned (.bool true) ∧ w' = W) := Lib.hid (fun W => by
    have h := k12 9221120237041090561 m W
    rw [hs1] at h
    exact h)
  have HS2 : Hid (∀ W, Calls Tryz.prog 12 #[.float .f64 9221120237041090561, .float .f64 n] W fun e w' => e = .returned (.bool false) ∧ w' = W) := Lib.hid (fun W => by
    have h := k12 9221120237041090561 n W
    rw [hs2] at h
    exact h)
  have hs1' : ((n : Int)).toNat = n := Int.toNat_natCast n
  have hs2' : ((m : Int)).toNat = m := Int.toNat_natCast m
  clear hg hn hna hnb hL hM hl hh hs0 hs1 hs2
  go_enter Tryz.func4, Tryz.ntmps4
  go_wp2_with fail
  refine (HL.out _).mono ?_
  rintro _ w1 ⟨rfl, e1⟩
  rw [e1]
  clear e1 HL
  go_wp2_with fail
  refine (HM.out _).mono ?_
  rintro _ w1 ⟨rfl, e1⟩
  rw [e1]
  clear e1 HM
  go_wp2_with fail
  refine (HA.out _).mono ?_
  rintro _ w11 ⟨r1, rfl, hp, hb⟩
  have HR11 := Lib.hid hp
  have HB11 := Lib.hid (hb)
  clear hp hb HA
  go_wp2_with fail
  refine (HA2.out _).mono ?_
  rintro _ w12 ⟨r2, rfl, hp, hb⟩
  have HR12 := Lib.hid hp
  have HB12 := Lib.hid (HB11.out.trans (hb.mono HB11.out.size))
  clear hp hb HA2
  go_wp2_with fail
  refine (HP.out _).mono ?_
  rintro _ w13 ⟨r3, rfl, hp, hb⟩
  have HR13 := Lib.hid hp
  have HB13 := Lib.hid (HB12.out.trans (hb.mono HB12.out.size))
  clear hp hb HP
  go_wp2_with fail
  refine (HP2.out _).mono ?_
  rintro _ w14 ⟨r4, rfl, hp, hb⟩
  have HR14 := Lib.hid hp
  have HB14 := Lib.hid (HB13.out.trans (hb.mono HB13.out.size))
  clear hp hb HP2
  go_wp2_with fail
  refine (HMI.out _).mono ?_
  rintro _ w1 ⟨rfl, e1⟩
  rw [e1]
  clear e1 HMI
  go_wp2_with fail
  refine (HMA.out _).mono ?_
  rintro _ w1 ⟨rfl, e1⟩
  rw [e1]
  clear e1 HMA
  go_wp2_with fail
  refine (HS0.out _).mono ?_
  rintro _ w1 ⟨rfl, e1⟩
  rw [e1]
  clear e1 HS0
  go_wp2_with fail
  refine (HS1.out _).mono ?_
  rintro _ w1 ⟨rfl, e1⟩
  rw [e1]
  clear e1 HS1
  go_wp2_with fail
  refine (HS2.out _).mono ?_
  rintro _ w1 ⟨rfl, e1⟩
  rw [e1]
  clear e1 HS2
  go_wp2_with fail
  have HX : Hid (∀ W, Calls Tryz.prog 12 #[.float .f64 r1, .float .f64 r2] W fun e w' => e = .returned (.bool true) ∧ w' = W) := Lib.hid (fun W => by
    have h := k12 r1 r2 W
    rw [HR11.out.same HR12.out] at h
    exact h)
  have HY : Hid (∀ W, Calls Tryz.prog 12 #[.float .f64 r3, .float .f64 r4] W fun e w' => e = .returned (.bool true) ∧ w' = W) := Lib.hid (fun W => by
    have h := k12 r3 r4 W
    rw [HR13.out.same HR14.out] at h
    exact h)
  refine (HX.out _).mono ?_
  rintro _ w1 ⟨rfl, e1⟩
  rw [e1]
  clear e1 HX
  go_wp2_with fail
  refine (HY.out _).mono ?_
  rintro _ w1 ⟨rfl, e1⟩
  rw [e1]
  clear e1 HY
  go_wp2_with fail
  refine (n11 w14 (HG.out.below HB14.out)).mono ?_
  rintro _ w15 ⟨rfl, hb⟩
  have HB15 := Lib.hid (HB14.out.trans (hb.mono HB14.out.size))
  clear hb
  go_wp2_with fail
  go_ret
  exact ⟨rfl, HB15.out⟩
theorem nanB_K : nanB 9221120237041090561 = true := by kernel_rfl
theorem smB_K (x : Nat) : smB 9221120237041090561 x = nanB x := by
  unfold smB
  rw [nanB_K]
  simp
theorem smB_symm (x y : Nat) : smB x y = smB y x := by
  unfold smB
  cases nanB x <;> cases nanB y <;> simp
  rw [Bool.eq_iff_iff]
  simp
  exact eq_comm
theorem mm_t {n m : Nat} {c : Bool} (hna : nanB n = false) (hnb : nanB m = false) (hb : bel n m = true) : mm true n m = n ∧ mm false n m = m := by
  unfold mm
  rw [hna, hnb, hb]
  exact ⟨rfl, rfl⟩
theorem mm_f {n m : Nat} (hna : nanB n = false) (hnb : nanB m = false) (hb : bel n m = false) : mm true n m = m ∧ mm false n m = n := by
  unfold mm
  rw [hna, hnb, hb]
  exact ⟨rfl, rfl⟩
theorem mm_n {n m : Nat} (h : nanB n = true ∨ nanB m = true) (c : Bool) : mm c n m = 9221120237041090561 := by
  unfold mm
  rcases h with h | h
  · rw [h]; rfl
  · rw [h]; simp
/-- NumOrder -/
theorem w4 (n m : Nat) (hn : n < 18446744073709551616) (w : World) (hg : Gn w) : Calls Tryz.prog 4 #[.int .u64 (n : Int), .int .u64 (m : Int)] w fun e w' => e = .returned (.bool true) ∧ Below w.heap.size w w' := by
  cases hna : nanB n <;> cases hnb : nanB m
  · obtain ⟨q, hq⟩ := ord_some n m hna hnb
    have hq2 : ord m n = some q.swap := by rw [ord_swap, hq]; rfl
    cases hb : bel n m
    · obtain ⟨h1, h2⟩ := mm_f hna hnb hb
      cases hs : smB m n
      · cases q
        · exact w4_tb n m hn hna hnb (by rw [hq]; rfl) (by rw [hq2]; rfl) h1 h2 hs (smB_refl _) (smB_refl _) w hg
        · exact w4_fb n m hn hna hnb (by rw [hq]; rfl) (by rw [hq2]; rfl) h1 h2 hs (smB_refl _) (smB_refl _) w hg
        · exact w4_fb n m hn hna hnb (by rw [hq]; rfl) (by rw [hq2]; rfl) h1 h2 hs (smB_refl _) (smB_refl _) w hg
      · have hs2 : smB n m = true := by rw [smB_symm]; exact hs
        cases q
        · exact w4_tc n m hn hna hnb (by rw [hq]; rfl) (by rw [hq2]; rfl) h1 h2 hs hs2 w hg
        · exact w4_fc n m hn hna hnb (by rw [hq]; rfl) (by rw [hq2]; rfl) h1 h2 hs hs2 w hg
        · exact w4_fc n m hn hna hnb (by rw [hq]; rfl) (by rw [hq2]; rfl) h1 h2 hs hs2 w hg
    · obtain ⟨h1, h2⟩ := mm_t (c := true) hna hnb hb
      cases q
      · exact w4_ta n m hn hna hnb (by rw [hq]; rfl) (by rw [hq2]; rfl) h1 h2 (smB_refl _) (smB_refl _) w hg
      · exact w4_fa n m hn hna hnb (by rw [hq]; rfl) (by rw [hq2]; rfl) h1 h2 (smB_refl _) (smB_refl _) w hg
      · exact w4_fa n m hn hna hnb (by rw [hq]; rfl) (by rw [hq2]; rfl) h1 h2 (smB_refl _) (smB_refl _) w hg
  · exact w4_ft n m hn hna hnb (by rw [ord_none n m (Or.inr hnb)]; rfl) (by rw [ord_none m n (Or.inl hnb)]; rfl) (mm_n (Or.inr hnb) true) (mm_n (Or.inr hnb) false) (by rw [smB_K]; exact hna) (by rw [smB_K]; exact hnb) (by rw [smB_K]; exact hna) w hg
  · exact w4_tf n m hn hna hnb (by rw [ord_none n m (Or.inl hna)]; rfl) (by rw [ord_none m n (Or.inr hna)]; rfl) (mm_n (Or.inl hna) true) (mm_n (Or.inl hna) false) (by rw [smB_K]; exact hna) (by rw [smB_K]; exact hnb) (by rw [smB_K]; exact hnb) w hg
  · exact w4_tt n m hn hna hnb (by rw [ord_none n m (Or.inl hna)]; rfl) (by rw [ord_none m n (Or.inr hna)]; rfl) (mm_n (Or.inl hna) true) (mm_n (Or.inl hna) false) (by rw [smB_K]; exact hna) (by rw [smB_K]; exact hnb) w hg
end Go.Proofs.YtakkkblopjbegaaGreatDoor
