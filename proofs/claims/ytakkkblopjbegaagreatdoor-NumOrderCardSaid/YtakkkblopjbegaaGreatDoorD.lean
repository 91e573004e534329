import Derived.Test.YtakkkblopjbegaaGreatDoorC
import Derived.Test.YtakkkblopjbegaaGreatDoorSi
namespace Go.Proofs.YtakkkblopjbegaaGreatDoor
open Go.ChangeShapes Go.WideShapes Go.ChangeAt Go.RowKit
set_option linter.unusedVariables false
set_option linter.unusedSimpArgs false
theorem x102 (n : Int) (w : World) : (callFunc 102 #[.int .u64 n]).run Tryz.prog w = .ok (.value (.float .f64 n.toNat)) w := by kernel_rfl
theorem x110 (n : Nat) (w : World) : (callFunc 110 #[.float .f64 n]).run Tryz.prog w = .ok (.value (.int .u64 (n : Int))) w := by kernel_rfl
/-- the variables that a text's number wants -/
def Gr (w : World) : Prop := ∃ ev m, w.cell? ⟨2, 0, none⟩ = some ev ∧ (ev = .nilIface ∨ ∃ te pe, ev = .iface te pe) ∧ w.cell? ⟨6, 0, none⟩ = some (.int .i64 m) ∧ w.cell? ⟨4, 0, none⟩ = some (.bool true) ∧ 16 < w.heap.size
theorem Gr.below {w w' : World} (h : Gr w) (hb : Below w.heap.size w w') : Gr w' := by
  obtain ⟨ev, m, h1, h2, h3, h4, h5⟩ := h
  exact ⟨ev, m, (hb.cell (p := ⟨2, 0, none⟩) (by show 2 < _; omega)).trans h1, h2, (hb.cell (p := ⟨6, 0, none⟩) (by show 6 < _; omega)).trans h3, (hb.cell (p := ⟨4, 0, none⟩) (by show 4 < _; omega)).trans h4, Nat.lt_of_lt_of_le h5 hb.size⟩
set_option maxRecDepth 100000 in
set_option maxHeartbeats 4000000 in
theorem k74_0 (w : World) (hw : w.cell? ⟨4, 0, none⟩ = some (.bool true)) : Calls Tryz.prog 74 #[.string ⟨#[49, 101, 52, 48, 48]⟩] w fun e w' => e = .returned (.tuple #[.float .f64 9218868437227405312, .int .i64 5, .iface 80 (.int .i64 1)]) ∧ w' = w := by
  have H92 := Lib.hid k92_0
  have H93 := Lib.hid k93_0
  have h102 := x102
  go_enter Tryz.func74, Tryz.ntmps74
  go_wp2_with fail
  refine (H92.out _).mono ?_
  rintro _ w1 ⟨rfl, e1⟩
  rw [e1]
  clear e1
  go_wp2_with fail
  refine (H93.out _).mono ?_
  rintro _ w1 ⟨rfl, e1⟩
  rw [e1]
  clear e1 H92 H93
  go_wp2
  go_ret3
  exact ⟨rfl, rfl⟩
theorem k51_0 (w : World) (hw : w.cell? ⟨4, 0, none⟩ = some (.bool true)) : Calls Tryz.prog 51 #[.string ⟨#[49, 101, 52, 48, 48]⟩, .int .i64 64] w fun e w' => e = .returned (.tuple #[.float .f64 9218868437227405312, .int .i64 5, .iface 80 (.int .i64 1)]) ∧ w' = w := by
  have H := Lib.hid (k74_0 w hw)
  clear hw
  go_enter Tryz.func51, Tryz.ntmps51
  go_wp2_with fail
  refine H.out.mono ?_
  rintro _ w1 ⟨rfl, e1⟩
  rw [e1]
  clear e1 H
  go_wp2_with fail
  go_ret3
  exact ⟨rfl, rfl⟩
theorem k35_0 (w : World) (hw : w.cell? ⟨4, 0, none⟩ = some (.bool true)) : Calls Tryz.prog 35 #[.string ⟨#[49, 101, 52, 48, 48]⟩, .int .i64 64] w fun e w' => e = .returned (.tuple #[.float .f64 9218868437227405312, .iface 80 (.int .i64 1)]) ∧ w' = w := by
  have H := Lib.hid (k51_0 w hw)
  clear hw
  go_enter Tryz.func35, Tryz.ntmps35
  go_wp2_with fail
  refine H.out.mono ?_
  rintro _ w1 ⟨rfl, e1⟩
  rw [e1]
  clear e1 H
  go_wp2_with fail
  go_ret2
  exact ⟨rfl, rfl⟩
set_option maxRecDepth 100000 in
set_option maxHeartbeats 4000000 in
theorem k74_1 (w : World) (hw : w.cell? ⟨4, 0, none⟩ = some (.bool true)) : Calls Tryz.prog 74 #[.string ⟨#[45, 48]⟩] w fun e w' => e = .returned (.tuple #[.float .f64 9223372036854775808, .int .i64 2, .nilIface]) ∧ w' = w := by
  have H92 := Lib.hid k92_1
  have H93 := Lib.hid k93_1
  have h102 := x102
  go_enter Tryz.func74, Tryz.ntmps74
  go_wp2_with fail
  refine (H92.out _).mono ?_
  rintro _ w1 ⟨rfl, e1⟩
  rw [e1]
  clear e1
  go_wp2_with fail
  refine (H93.out _).mono ?_
  rintro _ w1 ⟨rfl, e1⟩
  rw [e1]
  clear e1 H92 H93
  go_wp2
  go_ret3
  exact ⟨rfl, rfl⟩
theorem k51_1 (w : World) (hw : w.cell? ⟨4, 0, none⟩ = some (.bool true)) : Calls Tryz.prog 51 #[.string ⟨#[45, 48]⟩, .int .i64 64] w fun e w' => e = .returned (.tuple #[.float .f64 9223372036854775808, .int .i64 2, .nilIface]) ∧ w' = w := by
  have H := Lib.hid (k74_1 w hw)
  clear hw
  go_enter Tryz.func51, Tryz.ntmps51
  go_wp2_with fail
  refine H.out.mono ?_
  rintro _ w1 ⟨rfl, e1⟩
  rw [e1]
  clear e1 H
  go_wp2_with fail
  go_ret3
  exact ⟨rfl, rfl⟩
theorem k35_1 (w : World) (hw : w.cell? ⟨4, 0, none⟩ = some (.bool true)) : Calls Tryz.prog 35 #[.string ⟨#[45, 48]⟩, .int .i64 64] w fun e w' => e = .returned (.tuple #[.float .f64 9223372036854775808, .nilIface]) ∧ w' = w := by
  have H := Lib.hid (k51_1 w hw)
  clear hw
  go_enter Tryz.func35, Tryz.ntmps35
  go_wp2_with fail
  refine H.out.mono ?_
  rintro _ w1 ⟨rfl, e1⟩
  rw [e1]
  clear e1 H
  go_wp2_with fail
  go_ret2
  exact ⟨rfl, rfl⟩
theorem k24_0 (w : World) (hg : Gr w) : Calls Tryz.prog 24 #[.string ⟨#[49, 101, 52, 48, 48]⟩, .int .i64 64] w fun e w' => (∃ v, e = .returned (.tuple #[.float .f64 9218868437227405312, v])) ∧ Below w.heap.size w w' := by
  obtain ⟨ev, m, h1, h2, h3, h4, h5⟩ := hg
  have H := Lib.hid (k35_0 w h4)
  have HE := Lib.hid (Tryz.strconv_toError_range ⟨#[80, 97, 114, 115, 101, 70, 108, 111, 97, 116]⟩ ⟨#[49, 101, 52, 48, 48]⟩ 0 64 ev w (by decide) h1 h2)
  clear h1 h2 h3 h4 h5
  go_enter Tryz.func24, Tryz.ntmps24
  go_wp2_with fail
  refine H.out.mono ?_
  rintro _ w1 ⟨rfl, e1⟩
  rw [e1]
  clear e1 H
  go_wp2_with fail
  refine HE.out.mono ?_
  rintro _ w1 ⟨N, rfl, -, -, hb⟩
  have HB := Lib.hid hb
  clear hb HE
  go_wp2_with fail
  go_ret2
  exact ⟨⟨_, rfl⟩, HB.out⟩
theorem k24_1 (w : World) (hg : Gr w) : Calls Tryz.prog 24 #[.string ⟨#[45, 48]⟩, .int .i64 64] w fun e w' => (∃ v, e = .returned (.tuple #[.float .f64 9223372036854775808, v])) ∧ Below w.heap.size w w' := by
  obtain ⟨ev, m, h1, h2, h3, h4, h5⟩ := hg
  have H := Lib.hid (k35_1 w h4)
  clear h1 h2 h3 h4 h5
  go_enter Tryz.func24, Tryz.ntmps24
  go_wp2_with fail
  refine H.out.mono ?_
  rintro _ w1 ⟨rfl, e1⟩
  rw [e1]
  clear e1 H
  go_wp2_with fail
  go_ret2
  exact ⟨⟨_, rfl⟩, Below.refl _ _⟩
theorem k17_0 (w : World) (hg : Gr w) : Calls Tryz.prog 17 #[.string ⟨#[49, 101, 52, 48, 48]⟩] w fun e w' => e = .returned (.tuple #[.float .f64 9218868437227405312, .int .i64 0]) ∧ Below w.heap.size w w' := by
  have HG := Lib.hid hg
  have H := Lib.hid (k23_0 w)
  clear hg
  go_enter Tryz.func17, Tryz.ntmps17
  go_wp2_with fail
  refine H.out.mono ?_
  rintro _ w1 ⟨rfl, hb⟩
  have HB := Lib.hid hb
  clear hb H
  have HP := Lib.hid (k24_0 w1 (HG.out.below HB.out))
  go_wp2_with fail
  refine HP.out.mono ?_
  rintro _ w2 ⟨⟨v, rfl⟩, hb⟩
  have HB2 := Lib.hid (HB.out.trans (hb.mono HB.out.size))
  clear hb HP
  go_wp2_with fail
  go_ret2
  exact ⟨rfl, HB2.out⟩
theorem k17_1 (w : World) (hg : Gr w) : Calls Tryz.prog 17 #[.string ⟨#[45, 48]⟩] w fun e w' => e = .returned (.tuple #[.float .f64 9223372036854775808, .int .i64 0]) ∧ Below w.heap.size w w' := by
  have HG := Lib.hid hg
  have H := Lib.hid (k23_1 w)
  clear hg
  go_enter Tryz.func17, Tryz.ntmps17
  go_wp2_with fail
  refine H.out.mono ?_
  rintro _ w1 ⟨rfl, hb⟩
  have HB := Lib.hid hb
  clear hb H
  have HP := Lib.hid (k24_1 w1 (HG.out.below HB.out))
  go_wp2_with fail
  refine HP.out.mono ?_
  rintro _ w2 ⟨⟨v, rfl⟩, hb⟩
  have HB2 := Lib.hid (HB.out.trans (hb.mono HB.out.size))
  clear hb HP
  go_wp2_with fail
  go_ret2
  exact ⟨rfl, HB2.out⟩
theorem k17_2 (w : World) (hg : Gr w) : Calls Tryz.prog 17 #[.string ⟨#[48, 49]⟩] w fun e w' => e = .returned (.tuple #[.float .f64 0, .int .i64 5]) ∧ Below w.heap.size w w' := by
  have HG := Lib.hid hg
  have H := Lib.hid (k23_2 w)
  clear hg
  go_enter Tryz.func17, Tryz.ntmps17
  go_wp2_with fail
  refine H.out.mono ?_
  rintro _ w1 ⟨rfl, hb⟩
  have HB := Lib.hid hb
  clear hb H
  go_wp2_with fail
  go_ret2
  exact ⟨rfl, HB.out⟩
end Go.Proofs.YtakkkblopjbegaaGreatDoor
