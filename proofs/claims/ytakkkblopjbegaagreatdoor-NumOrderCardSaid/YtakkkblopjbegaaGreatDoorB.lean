import Derived.Test.YtakkkblopjbegaaGreatDoorA
namespace Go.Proofs.YtakkkblopjbegaaGreatDoor
open Go.ChangeShapes Go.WideShapes Go.ChangeAt Go.RowKit
set_option linter.unusedVariables false
set_option linter.unusedSimpArgs false
theorem k48 (s : ByteArray) (w : World) : Calls Tryz.prog 48 #[.string s, .string ⟨#[48, 49, 50, 51, 52, 53, 54, 55, 56, 57]⟩] w fun e w' => e = .returned (.string ⟨(Lib.trimLeftS s.data.toList [48, 49, 50, 51, 52, 53, 54, 55, 56, 57]).toArray⟩) ∧ Below w.heap.size w w' :=
  Any.strings_TrimLeft_laid Tryz.lays161 (by kernel_rfl) s ⟨#[48, 49, 50, 51, 52, 53, 54, 55, 56, 57]⟩ w (by decide) (ascii_of_all (by decide))
theorem k31_0 (w : World) : Calls Tryz.prog 31 #[.string ⟨#[49, 101, 52, 48, 48]⟩] w fun e w' => e = .returned (.tuple #[.string ⟨#[49]⟩, .string ⟨#[101, 52, 48, 48]⟩]) ∧ Below w.heap.size w w' := by
  have h : (⟨(Lib.trimLeftS (⟨#[49, 101, 52, 48, 48]⟩ : ByteArray).data.toList [48, 49, 50, 51, 52, 53, 54, 55, 56, 57]).toArray⟩ : ByteArray) = ⟨#[101, 52, 48, 48]⟩ := by kernel_rfl
  have HC := Lib.hid (k48 ⟨#[49, 101, 52, 48, 48]⟩ w)
  rw [h] at HC
  clear h
  go_enter Tryz.func31, Tryz.ntmps31
  go_wp2_with fail
  refine HC.out.mono ?_
  rintro _ w1 ⟨rfl, hb⟩
  have HB := Lib.hid hb
  clear hb HC
  go_wp2_with fail
  go_ret2
  exact ⟨rfl, HB.out⟩
theorem k31_1 (w : World) : Calls Tryz.prog 31 #[.string ⟨#[52, 48, 48]⟩] w fun e w' => e = .returned (.tuple #[.string ⟨#[52, 48, 48]⟩, .string ⟨#[]⟩]) ∧ Below w.heap.size w w' := by
  have h : (⟨(Lib.trimLeftS (⟨#[52, 48, 48]⟩ : ByteArray).data.toList [48, 49, 50, 51, 52, 53, 54, 55, 56, 57]).toArray⟩ : ByteArray) = ⟨#[]⟩ := by kernel_rfl
  have HC := Lib.hid (k48 ⟨#[52, 48, 48]⟩ w)
  rw [h] at HC
  clear h
  go_enter Tryz.func31, Tryz.ntmps31
  go_wp2_with fail
  refine HC.out.mono ?_
  rintro _ w1 ⟨rfl, hb⟩
  have HB := Lib.hid hb
  clear hb HC
  go_wp2_with fail
  go_ret2
  exact ⟨rfl, HB.out⟩
theorem k31_2 (w : World) : Calls Tryz.prog 31 #[.string ⟨#[48]⟩] w fun e w' => e = .returned (.tuple #[.string ⟨#[48]⟩, .string ⟨#[]⟩]) ∧ Below w.heap.size w w' := by
  have h : (⟨(Lib.trimLeftS (⟨#[48]⟩ : ByteArray).data.toList [48, 49, 50, 51, 52, 53, 54, 55, 56, 57]).toArray⟩ : ByteArray) = ⟨#[]⟩ := by kernel_rfl
  have HC := Lib.hid (k48 ⟨#[48]⟩ w)
  rw [h] at HC
  clear h
  go_enter Tryz.func31, Tryz.ntmps31
  go_wp2_with fail
  refine HC.out.mono ?_
  rintro _ w1 ⟨rfl, hb⟩
  have HB := Lib.hid hb
  clear hb HC
  go_wp2_with fail
  go_ret2
  exact ⟨rfl, HB.out⟩
theorem k31_3 (w : World) : Calls Tryz.prog 31 #[.string ⟨#[48, 49]⟩] w fun e w' => e = .returned (.tuple #[.string ⟨#[48, 49]⟩, .string ⟨#[]⟩]) ∧ Below w.heap.size w w' := by
  have h : (⟨(Lib.trimLeftS (⟨#[48, 49]⟩ : ByteArray).data.toList [48, 49, 50, 51, 52, 53, 54, 55, 56, 57]).toArray⟩ : ByteArray) = ⟨#[]⟩ := by kernel_rfl
  have HC := Lib.hid (k48 ⟨#[48, 49]⟩ w)
  rw [h] at HC
  clear h
  go_enter Tryz.func31, Tryz.ntmps31
  go_wp2_with fail
  refine HC.out.mono ?_
  rintro _ w1 ⟨rfl, hb⟩
  have HB := Lib.hid hb
  clear hb HC
  go_wp2_with fail
  go_ret2
  exact ⟨rfl, HB.out⟩
theorem k33_0 (w : World) : Calls Tryz.prog 33 #[.string ⟨#[101, 52, 48, 48]⟩] w fun e w' => e = .returned (.tuple #[.string ⟨#[]⟩, .string ⟨#[101, 52, 48, 48]⟩, .bool true]) ∧ w' = w := by
  have h1 : ((⟨#[101, 52, 48, 48]⟩ : ByteArray).extract 0 1).toList = [101] := by kernel_rfl
  have h1' : (⟨#[101, 52, 48, 48]⟩ : ByteArray).extract 0 1 = ⟨#[101]⟩ := by kernel_rfl
  go_enter Tryz.func33, Tryz.ntmps33
  go_wp2
  go_ret3
  exact ⟨rfl, rfl⟩
theorem k33_1 (w : World) : Calls Tryz.prog 33 #[.string ⟨#[]⟩] w fun e w' => e = .returned (.tuple #[.string ⟨#[]⟩, .string ⟨#[]⟩, .bool true]) ∧ w' = w := by
  go_enter Tryz.func33, Tryz.ntmps33
  go_wp2
  go_ret3
  exact ⟨rfl, rfl⟩
theorem k32_0 (w : World) : Calls Tryz.prog 32 #[.string ⟨#[49, 101, 52, 48, 48]⟩, .string ⟨#[45]⟩] w fun e w' => e = .returned (.string ⟨#[49, 101, 52, 48, 48]⟩) ∧ w' = w := by
  have h1 : ((⟨#[49, 101, 52, 48, 48]⟩ : ByteArray).extract 0 1).toList = [49] := by kernel_rfl
  have h1' : (⟨#[49, 101, 52, 48, 48]⟩ : ByteArray).extract 0 1 = ⟨#[49]⟩ := by kernel_rfl
  go_enter Tryz.func32, Tryz.ntmps32
  go_wp2
  go_ret
  exact ⟨rfl, rfl⟩
theorem k32_1 (w : World) : Calls Tryz.prog 32 #[.string ⟨#[52, 48, 48]⟩, .string ⟨#[45]⟩] w fun e w' => e = .returned (.string ⟨#[52, 48, 48]⟩) ∧ w' = w := by
  have h1 : ((⟨#[52, 48, 48]⟩ : ByteArray).extract 0 1).toList = [52] := by kernel_rfl
  have h1' : (⟨#[52, 48, 48]⟩ : ByteArray).extract 0 1 = ⟨#[52]⟩ := by kernel_rfl
  go_enter Tryz.func32, Tryz.ntmps32
  go_wp2
  go_ret
  exact ⟨rfl, rfl⟩
theorem k32_2 (w : World) : Calls Tryz.prog 32 #[.string ⟨#[45, 48]⟩, .string ⟨#[45]⟩] w fun e w' => e = .returned (.string ⟨#[48]⟩) ∧ w' = w := by
  have h1 : ((⟨#[45, 48]⟩ : ByteArray).extract 0 1).toList = [45] := by kernel_rfl
  have h1' : (⟨#[45, 48]⟩ : ByteArray).extract 0 1 = ⟨#[45]⟩ := by kernel_rfl
  have h2 : ((⟨#[45, 48]⟩ : ByteArray).extract 1 2).toList = [48] := by kernel_rfl
  have h2' : (⟨#[45, 48]⟩ : ByteArray).extract 1 2 = ⟨#[48]⟩ := by kernel_rfl
  go_enter Tryz.func32, Tryz.ntmps32
  go_wp2
  go_ret
  exact ⟨rfl, rfl⟩
theorem k32_3 (w : World) : Calls Tryz.prog 32 #[.string ⟨#[48, 49]⟩, .string ⟨#[45]⟩] w fun e w' => e = .returned (.string ⟨#[48, 49]⟩) ∧ w' = w := by
  have h1 : ((⟨#[48, 49]⟩ : ByteArray).extract 0 1).toList = [48] := by kernel_rfl
  have h1' : (⟨#[48, 49]⟩ : ByteArray).extract 0 1 = ⟨#[48]⟩ := by kernel_rfl
  go_enter Tryz.func32, Tryz.ntmps32
  go_wp2
  go_ret
  exact ⟨rfl, rfl⟩
theorem k50_0 (w : World) : Calls Tryz.prog 50 #[.string ⟨#[101, 52, 48, 48]⟩, .string ⟨#[101]⟩] w fun e w' => e = .returned (.tuple #[.string ⟨#[52, 48, 48]⟩, .bool true]) ∧ w' = w := by
  have h1 : ((⟨#[101, 52, 48, 48]⟩ : ByteArray).extract 0 1).toList = [101] := by kernel_rfl
  have h1' : (⟨#[101, 52, 48, 48]⟩ : ByteArray).extract 0 1 = ⟨#[101]⟩ := by kernel_rfl
  have h2 : ((⟨#[101, 52, 48, 48]⟩ : ByteArray).extract 1 4).toList = [52, 48, 48] := by kernel_rfl
  have h2' : (⟨#[101, 52, 48, 48]⟩ : ByteArray).extract 1 4 = ⟨#[52, 48, 48]⟩ := by kernel_rfl
  go_enter Tryz.func50, Tryz.ntmps50
  go_wp2
  go_ret2
  exact ⟨rfl, rfl⟩
theorem k34_0 (w : World) : Calls Tryz.prog 34 #[.string ⟨#[]⟩] w fun e w' => e = .returned (.bool true) ∧ w' = w := by
  go_enter Tryz.func34, Tryz.ntmps34
  go_wp2
  go_ret
  exact ⟨rfl, rfl⟩
theorem k34_1 (w : World) : Calls Tryz.prog 34 #[.string ⟨#[101, 52, 48, 48]⟩] w fun e w' => e = .returned (.bool true) ∧ Below w.heap.size w w' := by
  have H50 := Lib.hid (k50_0)
  have H32 := Lib.hid (k32_1)
  have H31 := Lib.hid (k31_1)
  go_enter Tryz.func34, Tryz.ntmps34
  go_wp2_with fail
  refine (H50.out w).mono ?_
  rintro _ _ ⟨rfl, rfl⟩
  go_wp2_with fail
  refine (H32.out _).mono ?_
  rintro _ _ ⟨rfl, rfl⟩
  go_wp2_with fail
  refine (H31.out _).mono ?_
  rintro _ w1 ⟨rfl, hb⟩
  have HB := Lib.hid hb
  clear hb
  go_wp2_with fail
  go_ret
  exact ⟨rfl, HB.out⟩
theorem k23_0 (w : World) : Calls Tryz.prog 23 #[.string ⟨#[49, 101, 52, 48, 48]⟩] w fun e w' => e = .returned (.bool true) ∧ Below w.heap.size w w' := by
  have H32 := Lib.hid k32_0
  have H31 := Lib.hid k31_0
  have HK := Lib.hid k33_0
  have HE := Lib.hid k34_1
  go_enter Tryz.func23, Tryz.ntmps23
  go_wp2_with fail
  refine (H32.out _).mono ?_
  rintro _ _ ⟨rfl, rfl⟩
  go_wp2_with fail
  refine (H31.out _).mono ?_
  rintro _ w1 ⟨rfl, hb⟩
  have HB := Lib.hid hb
  clear hb
  go_wp2_with fail
  refine (HK.out _).mono ?_
  rintro _ _ ⟨rfl, rfl⟩
  go_wp2_with fail
  refine (HE.out _).mono ?_
  rintro _ w2 ⟨rfl, hb⟩
  have HB2 := Lib.hid (HB.out.trans (hb.mono HB.out.size))
  clear hb
  go_wp2_with fail
  go_ret
  exact ⟨rfl, HB2.out⟩
theorem k23_1 (w : World) : Calls Tryz.prog 23 #[.string ⟨#[45, 48]⟩] w fun e w' => e = .returned (.bool true) ∧ Below w.heap.size w w' := by
  have H32 := Lib.hid k32_2
  have H31 := Lib.hid k31_2
  have HK := Lib.hid k33_1
  have HE := Lib.hid k34_0
  go_enter Tryz.func23, Tryz.ntmps23
  go_wp2_with fail
  refine (H32.out _).mono ?_
  rintro _ _ ⟨rfl, rfl⟩
  go_wp2_with fail
  refine (H31.out _).mono ?_
  rintro _ w1 ⟨rfl, hb⟩
  have HB := Lib.hid hb
  clear hb
  go_wp2_with fail
  refine (HK.out _).mono ?_
  rintro _ _ ⟨rfl, rfl⟩
  go_wp2_with fail
  refine (HE.out _).mono ?_
  rintro _ w2 ⟨rfl, rfl⟩
  have HB2 := Lib.hid (HB.out)
  go_wp2_with fail
  go_ret
  exact ⟨rfl, HB2.out⟩
theorem k23_2 (w : World) : Calls Tryz.prog 23 #[.string ⟨#[48, 49]⟩] w fun e w' => e = .returned (.bool false) ∧ Below w.heap.size w w' := by
  have H32 := Lib.hid k32_3
  have H31 := Lib.hid k31_3
  have HK := Lib.hid k33_1
  have HE := Lib.hid k34_0
  go_enter Tryz.func23, Tryz.ntmps23
  go_wp2_with fail
  refine (H32.out _).mono ?_
  rintro _ _ ⟨rfl, rfl⟩
  go_wp2_with fail
  refine (H31.out _).mono ?_
  rintro _ w1 ⟨rfl, hb⟩
  have HB := Lib.hid hb
  clear hb
  go_wp2_with fail
  go_ret
  exact ⟨rfl, HB.out⟩
end Go.Proofs.YtakkkblopjbegaaGreatDoor
