import Derived.Test.YtakkkblopjbegaaGreatDoorH
import Derived.Lib.AtoiErrMem
namespace Go.Proofs.YtakkkblopjbegaaGreatDoor
open Go.ChangeShapes Go.WideShapes Go.ChangeAt Go.RowKit
set_option linter.unusedVariables false
set_option linter.unusedSimpArgs false
theorem k40 (w : World) : Calls Tryz.prog 40 #[.string ⟨#[49]⟩, .string ⟨#[46]⟩, .string ⟨#[]⟩, .int .i64 1] w fun e w' => e = .returned (.string ⟨#[49]⟩) ∧ w' = w := by
  have H : Hid (∀ W, Calls Tryz.prog 59 #[.string ⟨#[49]⟩, .string ⟨#[46]⟩] W fun e w' => e = .returned (.int .i64 0) ∧ w' = W) := Lib.hid (fun W => by
    have h := Tryz.strings_Count_one ⟨#[49]⟩ 46 W
    have e : (Lib.countByte (⟨#[49]⟩ : ByteArray).data.toList 46 : Int) = 0 := by kernel_rfl
    rw [e] at h
    exact h)
  go_enter Tryz.func40, Tryz.ntmps40
  go_wp2_with fail
  refine (H.out _).mono ?_
  rintro _ w1 ⟨rfl, e1⟩
  rw [e1]
  clear e1 H
  go_wp2_with fail
  go_ret
  exact ⟨rfl, rfl⟩
theorem k28 (w : World) : Calls Tryz.prog 28 #[.string ⟨#[49]⟩, .int .i64 1] w fun e w' => e = .returned (.string ⟨#[49]⟩) ∧ w' = w := by
  have H := Lib.hid (fun W => Tryz.strings_Repeat_zero ⟨#[48]⟩ W)
  have e : (⟨#[49]⟩ : ByteArray) ++ ⟨#[]⟩ = ⟨#[49]⟩ := by kernel_rfl
  go_enter Tryz.func28, Tryz.ntmps28
  go_wp2_with fail
  refine (H.out _).mono ?_
  rintro _ w1 ⟨rfl, e1⟩
  rw [e1]
  clear e1 H
  go_wp2_with fail
  go_ret
  exact ⟨rfl, rfl⟩
set_option maxRecDepth 100000 in
theorem k27_0 (w : World) (hg : Gn w) : Calls Tryz.prog 27 #[.float .f64 4591870180066957722] w fun e w' => e = .returned (.tuple #[.string ⟨#[49]⟩, .int .i64 (-1)]) ∧ Below w.heap.size w w' := by
  have HG := Lib.hid hg
  have H38 := Lib.hid (k38_0 w hg)
  have H37 : Hid (∀ W, Below w.heap.size w W → Calls Tryz.prog 37 #[.string ⟨#[49, 101, 45, 48, 49]⟩, .string ⟨#[101]⟩] W fun e w' => e = .returned (.tuple #[.string ⟨#[49]⟩, .string ⟨#[45, 48, 49]⟩, .bool true]) ∧ Below w.heap.size w w') := Lib.hid (fun W hW => by
    obtain ⟨ev, m, -, -, hm, -, -⟩ := (hg.below hW).1
    have h := Tryz.strings_Cut ⟨#[49, 101, 45, 48, 49]⟩ ⟨#[101]⟩ m W (by decide) hm
    have e1 : (⟨(Lib.cut (⟨#[49, 101, 45, 48, 49]⟩ : ByteArray).data.toList (⟨#[101]⟩ : ByteArray).data.toList).1.toArray⟩ : ByteArray) = ⟨#[49]⟩ := by kernel_rfl
    have e2 : (⟨(Lib.cut (⟨#[49, 101, 45, 48, 49]⟩ : ByteArray).data.toList (⟨#[101]⟩ : ByteArray).data.toList).2.1.toArray⟩ : ByteArray) = ⟨#[45, 48, 49]⟩ := by kernel_rfl
    have e3 : (Lib.cut (⟨#[49, 101, 45, 48, 49]⟩ : ByteArray).data.toList (⟨#[101]⟩ : ByteArray).data.toList).2.2 = true := by kernel_rfl
    rw [e1, e2, e3] at h
    refine h.mono ?_
    rintro e w' ⟨h1, n, rfl⟩
    exact ⟨h1, below_drewN hW n⟩)
  have H39 : Hid (∀ W, Below w.heap.size w W → Calls Tryz.prog 39 #[.string ⟨#[45, 48, 49]⟩] W fun e w' => e = .returned (.tuple #[.int .i64 (-1), .nilIface]) ∧ Below w.heap.size w w') := Lib.hid (fun W hW => by
    refine (Tryz.strconv_Atoi ⟨#[45, 48, 49]⟩ (-1) (by decide) (by kernel_rfl) W).mono ?_
    rintro e w' ⟨h1, t, rfl⟩
    exact ⟨h1, hW.trans ((Lib.bytesWorld_below W 5 t).mono hW.size)⟩)
  have H40 := Lib.hid k40
  clear hg
  go_enter Tryz.func27, Tryz.ntmps27
  go_wp2_with fail
  refine H38.out.mono ?_
  rintro _ w1 ⟨rfl, hb⟩
  have HB1 := Lib.hid hb
  clear hb H38
  go_wp2_with fail
  refine (H37.out _ HB1.out).mono ?_
  rintro _ w2 ⟨rfl, hb⟩
  have HB2 := Lib.hid hb
  clear hb H37
  go_wp2_with fail
  refine (H39.out _ HB2.out).mono ?_
  rintro _ w3 ⟨rfl, hb⟩
  have HB3 := Lib.hid hb
  clear hb H39
  go_wp2_with fail
  refine (H40.out _).mono ?_
  rintro _ w4 ⟨rfl, e4⟩
  rw [e4]
  clear e4 H40
  go_wp2_with fail
  go_ret2
  exact ⟨rfl, HB3.out⟩
theorem k26_0 (w : World) : Calls Tryz.prog 26 #[.float .f64 4591870180066957722] w fun e w' => e = .returned (.string ⟨#[]⟩) ∧ w' = w := by
  have e : decide (wrap64 ((4591870180066957722 : Nat) : Int) < 0) = false := by kernel_rfl
  have H := Lib.hid (k20 4591870180066957722 w)
  rw [e] at H
  clear e
  go_enter Tryz.func26, Tryz.ntmps26
  go_wp2_with fail
  refine H.out.mono ?_
  rintro _ w1 ⟨rfl, e1⟩
  rw [e1]
  clear e1 H
  go_wp2_with fail
  go_ret
  exact ⟨rfl, rfl⟩
theorem k25_0 (w : World) : Calls Tryz.prog 25 #[.float .f64 4591870180066957722] w fun e w' => e = .returned (.float .f64 4591870180066957722) ∧ w' = w := by
  have h16 := x16
  have h5 := x5
  have hb : bits BinOp.andNot IntKind.u64 4591870180066957722 9223372036854775808 = 4591870180066957722 := by kernel_rfl
  go_enter Tryz.func25, Tryz.ntmps25
  go_wp2
  go_ret
  exact ⟨rfl, rfl⟩
theorem k19_0 (w : World) : Calls Tryz.prog 19 #[.float .f64 4591870180066957722, .int .i64 0] w fun e w' => e = .returned (.bool false) ∧ w' = w := by
  have h : FloatKind.f64.format.order 4591870180066957722 9218868437227405311 = some Ordering.lt := by kernel_rfl
  have h2 : FloatKind.f64.format.order 9218868437227405311 4591870180066957722 = some Ordering.gt := by kernel_rfl
  have H := Lib.hid k25_0
  go_enter Tryz.func19, Tryz.ntmps19
  go_wp2_with fail
  refine (H.out _).mono ?_
  rintro _ w1 ⟨rfl, e1⟩
  rw [e1]
  clear e1 H
  go_wp2_with fail
  go_ret
  exact ⟨rfl, rfl⟩
theorem k13_0 (w : World) : Calls Tryz.prog 13 #[.float .f64 4591870180066957722] w fun e w' => e = .returned (.bool false) ∧ w' = w := by
  have e : (FloatKind.f64.format.order 4591870180066957722 4591870180066957722 != some Ordering.eq) = false := by kernel_rfl
  have h := k13 4591870180066957722 w
  rw [e] at h
  exact h
set_option maxRecDepth 100000 in
theorem k21_0 (w : World) (hg : Gn w) : Calls Tryz.prog 21 #[.float .f64 4591870180066957722] w fun e w' => e = .returned (.string ⟨#[48, 46, 49]⟩) ∧ Below w.heap.size w w' := by
  have H26 := Lib.hid k26_0
  have H13 := Lib.hid k13_0
  have H19 := Lib.hid k19_0
  have H25 := Lib.hid k25_0
  have H27 := Lib.hid (k27_0 w hg)
  have H30 := Lib.hid (fun W => Tryz.strings_Repeat_zero ⟨#[48]⟩ W)
  have e1 : (⟨#[]⟩ : ByteArray) ++ ⟨#[48, 46]⟩ = ⟨#[48, 46]⟩ := by kernel_rfl
  have e2 : (⟨#[48, 46]⟩ : ByteArray) ++ ⟨#[]⟩ = ⟨#[48, 46]⟩ := by kernel_rfl
  have e3 : (⟨#[48, 46]⟩ : ByteArray) ++ ⟨#[49]⟩ = ⟨#[48, 46, 49]⟩ := by kernel_rfl
  clear hg
  go_enter Tryz.func21, Tryz.ntmps21
  go_wp2_with fail
  refine (H26.out _).mono ?_
  rintro _ w1 ⟨rfl, q1⟩
  rw [q1]
  clear q1
  go_wp2_with fail
  refine (H13.out _).mono ?_
  rintro _ w1 ⟨rfl, q1⟩
  rw [q1]
  clear q1
  go_wp2_with fail
  refine (H19.out _).mono ?_
  rintro _ w1 ⟨rfl, q1⟩
  rw [q1]
  clear q1
  go_wp2_with fail
  refine (H25.out _).mono ?_
  rintro _ w1 ⟨rfl, q1⟩
  rw [q1]
  clear q1
  go_wp2_with fail
  refine H27.out.mono ?_
  rintro _ w2 ⟨rfl, hb⟩
  have HB := Lib.hid hb
  clear hb H27
  go_wp2_with fail
  refine (H30.out _).mono ?_
  rintro _ w1 ⟨rfl, q1⟩
  rw [q1]
  clear q1
  go_wp2_with fail
  go_ret
  exact ⟨rfl, HB.out⟩
set_option maxRecDepth 100000 in
theorem k27_1 (w : World) (hg : Gn w) : Calls Tryz.prog 27 #[.float .f64 4921056587992461136] w fun e w' => e = .returned (.tuple #[.string ⟨#[49]⟩, .int .i64 21]) ∧ Below w.heap.size w w' := by
  have HG := Lib.hid hg
  have H38 := Lib.hid (k38_1 w hg)
  have H37 : Hid (∀ W, Below w.heap.size w W → Calls Tryz.prog 37 #[.string ⟨#[49, 101, 43, 50, 49]⟩, .string ⟨#[101]⟩] W fun e w' => e = .returned (.tuple #[.string ⟨#[49]⟩, .string ⟨#[43, 50, 49]⟩, .bool true]) ∧ Below w.heap.size w w') := Lib.hid (fun W hW => by
    obtain ⟨ev, m, -, -, hm, -, -⟩ := (hg.below hW).1
    have h := Tryz.strings_Cut ⟨#[49, 101, 43, 50, 49]⟩ ⟨#[101]⟩ m W (by decide) hm
    have e1 : (⟨(Lib.cut (⟨#[49, 101, 43, 50, 49]⟩ : ByteArray).data.toList (⟨#[101]⟩ : ByteArray).data.toList).1.toArray⟩ : ByteArray) = ⟨#[49]⟩ := by kernel_rfl
    have e2 : (⟨(Lib.cut (⟨#[49, 101, 43, 50, 49]⟩ : ByteArray).data.toList (⟨#[101]⟩ : ByteArray).data.toList).2.1.toArray⟩ : ByteArray) = ⟨#[43, 50, 49]⟩ := by kernel_rfl
    have e3 : (Lib.cut (⟨#[49, 101, 43, 50, 49]⟩ : ByteArray).data.toList (⟨#[101]⟩ : ByteArray).data.toList).2.2 = true := by kernel_rfl
    rw [e1, e2, e3] at h
    refine h.mono ?_
    rintro e w' ⟨h1, n, rfl⟩
    exact ⟨h1, below_drewN hW n⟩)
  have H39 : Hid (∀ W, Below w.heap.size w W → Calls Tryz.prog 39 #[.string ⟨#[43, 50, 49]⟩] W fun e w' => e = .returned (.tuple #[.int .i64 21, .nilIface]) ∧ Below w.heap.size w w') := Lib.hid (fun W hW => by
    refine (Tryz.strconv_Atoi ⟨#[43, 50, 49]⟩ 21 (by decide) (by kernel_rfl) W).mono ?_
    rintro e w' ⟨h1, t, rfl⟩
    exact ⟨h1, hW.trans ((Lib.bytesWorld_below W 5 t).mono hW.size)⟩)
  have H40 := Lib.hid k40
  clear hg
  go_enter Tryz.func27, Tryz.ntmps27
  go_wp2_with fail
  refine H38.out.mono ?_
  rintro _ w1 ⟨rfl, hb⟩
  have HB1 := Lib.hid hb
  clear hb H38
  go_wp2_with fail
  refine (H37.out _ HB1.out).mono ?_
  rintro _ w2 ⟨rfl, hb⟩
  have HB2 := Lib.hid hb
  clear hb H37
  go_wp2_with fail
  refine (H39.out _ HB2.out).mono ?_
  rintro _ w3 ⟨rfl, hb⟩
  have HB3 := Lib.hid hb
  clear hb H39
  go_wp2_with fail
  refine (H40.out _).mono ?_
  rintro _ w4 ⟨rfl, e4⟩
  rw [e4]
  clear e4 H40
  go_wp2_with fail
  go_ret2
  exact ⟨rfl, HB3.out⟩
theorem k26_1 (w : World) : Calls Tryz.prog 26 #[.float .f64 4921056587992461136] w fun e w' => e = .returned (.string ⟨#[]⟩) ∧ w' = w := by
  have e : decide (wrap64 ((4921056587992461136 : Nat) : Int) < 0) = false := by kernel_rfl
  have H := Lib.hid (k20 4921056587992461136 w)
  rw [e] at H
  clear e
  go_enter Tryz.func26, Tryz.ntmps26
  go_wp2_with fail
  refine H.out.mono ?_
  rintro _ w1 ⟨rfl, e1⟩
  rw [e1]
  clear e1 H
  go_wp2_with fail
  go_ret
  exact ⟨rfl, rfl⟩
theorem k25_1 (w : World) : Calls Tryz.prog 25 #[.float .f64 4921056587992461136] w fun e w' => e = .returned (.float .f64 4921056587992461136) ∧ w' = w := by
  have h16 := x16
  have h5 := x5
  have hb : bits BinOp.andNot IntKind.u64 4921056587992461136 9223372036854775808 = 4921056587992461136 := by kernel_rfl
  go_enter Tryz.func25, Tryz.ntmps25
  go_wp2
  go_ret
  exact ⟨rfl, rfl⟩
theorem k19_1 (w : World) : Calls Tryz.prog 19 #[.float .f64 4921056587992461136, .int .i64 0] w fun e w' => e = .returned (.bool false) ∧ w' = w := by
  have h : FloatKind.f64.format.order 4921056587992461136 9218868437227405311 = some Ordering.lt := by kernel_rfl
  have h2 : FloatKind.f64.format.order 9218868437227405311 4921056587992461136 = some Ordering.gt := by kernel_rfl
  have H := Lib.hid k25_1
  go_enter Tryz.func19, Tryz.ntmps19
  go_wp2_with fail
  refine (H.out _).mono ?_
  rintro _ w1 ⟨rfl, e1⟩
  rw [e1]
  clear e1 H
  go_wp2_with fail
  go_ret
  exact ⟨rfl, rfl⟩
theorem k13_1 (w : World) : Calls Tryz.prog 13 #[.float .f64 4921056587992461136] w fun e w' => e = .returned (.bool false) ∧ w' = w := by
  have e : (FloatKind.f64.format.order 4921056587992461136 4921056587992461136 != some Ordering.eq) = false := by kernel_rfl
  have h := k13 4921056587992461136 w
  rw [e] at h
  exact h
set_option maxRecDepth 100000 in
theorem k21_1 (w : World) (hg : Gn w) : Calls Tryz.prog 21 #[.float .f64 4921056587992461136] w fun e w' => e = .returned (.string ⟨#[49, 101, 50, 49]⟩) ∧ Below w.heap.size w w' := by
  have H26 := Lib.hid k26_1
  have H13 := Lib.hid k13_1
  have H19 := Lib.hid k19_1
  have H25 := Lib.hid k25_1
  have H27 := Lib.hid (k27_1 w hg)
  have H28 := Lib.hid k28
  have H29 : Hid (∀ W, Calls Tryz.prog 29 #[.int .i64 21] W fun e w' => e = .returned (.string ⟨#[50, 49]⟩) ∧ Below W.heap.size W w') := Lib.hid (fun W => by
    have h := Tryz.strconv_Itoa_small 21 (by decide) W
    have e : (⟨(Lib.decDigits 21).toArray⟩ : ByteArray) = ⟨#[50, 49]⟩ := by kernel_rfl
    rw [e] at h
    refine h.mono ?_
    rintro e w' ⟨h1, rfl⟩
    exact ⟨h1, Below.refl _ _⟩)
  have e1 : (⟨#[]⟩ : ByteArray) ++ ⟨#[49]⟩ = ⟨#[49]⟩ := by kernel_rfl
  have e2 : (⟨#[49]⟩ : ByteArray) ++ ⟨#[101]⟩ = ⟨#[49, 101]⟩ := by kernel_rfl
  have e3 : (⟨#[49, 101]⟩ : ByteArray) ++ ⟨#[50, 49]⟩ = ⟨#[49, 101, 50, 49]⟩ := by kernel_rfl
  clear hg
  go_enter Tryz.func21, Tryz.ntmps21
  go_wp2_with fail
  refine (H26.out _).mono ?_
  rintro _ w1 ⟨rfl, q1⟩
  rw [q1]
  clear q1
  go_wp2_with fail
  refine (H13.out _).mono ?_
  rintro _ w1 ⟨rfl, q1⟩
  rw [q1]
  clear q1
  go_wp2_with fail
  refine (H19.out _).mono ?_
  rintro _ w1 ⟨rfl, q1⟩
  rw [q1]
  clear q1
  go_wp2_with fail
  refine (H25.out _).mono ?_
  rintro _ w1 ⟨rfl, q1⟩
  rw [q1]
  clear q1
  go_wp2_with fail
  refine H27.out.mono ?_
  rintro _ w2 ⟨rfl, hb⟩
  have HB := Lib.hid hb
  clear hb H27
  go_wp2_with fail
  refine (H28.out _).mono ?_
  rintro _ w1 ⟨rfl, q1⟩
  rw [q1]
  clear q1
  go_wp2_with fail
  refine (H29.out _).mono ?_
  rintro _ w3 ⟨rfl, hb⟩
  have HB3 := Lib.hid (HB.out.trans (hb.mono HB.out.size))
  clear hb
  go_wp2_with fail
  go_ret
  exact ⟨rfl, HB3.out⟩
end Go.Proofs.YtakkkblopjbegaaGreatDoor
