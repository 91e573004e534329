import Derived.Test.YtakkkblopjbegaaGreatDoorB
import Derived.LoopN
import Derived.WalkMore
namespace Go.Proofs.YtakkkblopjbegaaGreatDoor
open Go.ChangeShapes Go.WideShapes Go.ChangeAt Go.RowKit
set_option linter.unusedVariables false
set_option linter.unusedSimpArgs false
theorem results_tmp7 {fn : Func} {t1 t2 t3 t4 t5 t6 t7 : Tmp} (h : fn.results = #[.tmp t1, .tmp t2, .tmp t3, .tmp t4, .tmp t5, .tmp t6, .tmp t7]) (tmps : Array Value) (P : Program) (w : World) :
    (results fn tmps).run P w = .ok (.tuple #[tmps.getD t1 undef, tmps.getD t2 undef, tmps.getD t3 undef, tmps.getD t4 undef, tmps.getD t5 undef, tmps.getD t6 undef, tmps.getD t7 undef]) w := by
  simp [results, h]
theorem k128 (w : World) : Calls Tryz.prog 128 #[.string ⟨#[48]⟩, .string ⟨#[105, 110, 102, 105, 110, 105, 116, 121]⟩] w fun e w' => e = .returned (.int .i64 0) ∧ w' = w := by
  go_enter Tryz.func128, Tryz.ntmps128
  go_wp2_with fail
  refine wp_loop_rounds 1 ?_
  rw [rounds_succ]
  go_wp2_with fail
  go_ret
  exact ⟨rfl, rfl⟩
theorem k92_0 (w : World) : Calls Tryz.prog 92 #[.string ⟨#[49, 101, 52, 48, 48]⟩] w fun e w' => e = .returned (.tuple #[.float .f64 0, .int .i64 0, .bool false]) ∧ w' = w := by
  go_enter Tryz.func92, Tryz.ntmps92
  go_wp2_with fail
  go_ret3
  exact ⟨rfl, rfl⟩
theorem k92_1 (w : World) : Calls Tryz.prog 92 #[.string ⟨#[45, 48]⟩] w fun e w' => e = .returned (.tuple #[.float .f64 0, .int .i64 0, .bool false]) ∧ w' = w := by
  have h2 : ((⟨#[45, 48]⟩ : ByteArray).extract 1 2).toList = [48] := by kernel_rfl
  have h2' : (⟨#[45, 48]⟩ : ByteArray).extract 1 2 = ⟨#[48]⟩ := by kernel_rfl
  have H := Lib.hid k128
  go_enter Tryz.func92, Tryz.ntmps92
  go_wp2_with fail
  refine (H.out _).mono ?_
  rintro _ _ ⟨rfl, rfl⟩
  go_wp2_with fail
  go_ret3
  exact ⟨rfl, rfl⟩
set_option maxRecDepth 100000 in
set_option maxHeartbeats 4000000 in
theorem k93_0 (w : World) : Calls Tryz.prog 93 #[.string ⟨#[49, 101, 52, 48, 48]⟩] w fun e w' => e = .returned (.tuple #[.int .u64 1, .int .i64 400, .bool false, .bool false, .bool false, .int .i64 5, .bool true]) ∧ w' = w := by
  have g0 : ∀ h, ((⟨#[49, 101, 52, 48, 48]⟩ : ByteArray)[0]'h).toNat = 49 := fun _ => rfl
  have g1 : ∀ h, ((⟨#[49, 101, 52, 48, 48]⟩ : ByteArray)[1]'h).toNat = 101 := fun _ => rfl
  have g2 : ∀ h, ((⟨#[49, 101, 52, 48, 48]⟩ : ByteArray)[2]'h).toNat = 52 := fun _ => rfl
  have g3 : ∀ h, ((⟨#[49, 101, 52, 48, 48]⟩ : ByteArray)[3]'h).toNat = 48 := fun _ => rfl
  have g4 : ∀ h, ((⟨#[49, 101, 52, 48, 48]⟩ : ByteArray)[4]'h).toNat = 48 := fun _ => rfl
  go_enter Tryz.func93, Tryz.ntmps93
  go_wp2
  go_step3
  go_wp2
  go_step3
  go_wp2
  refine wp_loop_rounds 6 ?_
  rw [rounds_succ]
  go_wp2
  rw [rounds_succ]
  go_wp2
  refine wp_loop_rounds 4 ?_
  rw [rounds_succ]
  go_wp2
  rw [rounds_succ]
  go_wp2
  rw [rounds_succ]
  go_wp2
  rw [rounds_succ]
  go_wp2
  rw [Exit.noGoto_ret]
  refine bodyPost_ret (results_tmp7 rfl _ _ _) rfl ?_
  exact ⟨rfl, rfl⟩
set_option maxRecDepth 100000 in
set_option maxHeartbeats 4000000 in
theorem k93_1 (w : World) : Calls Tryz.prog 93 #[.string ⟨#[45, 48]⟩] w fun e w' => e = .returned (.tuple #[.int .u64 0, .int .i64 0, .bool true, .bool false, .bool false, .int .i64 2, .bool true]) ∧ w' = w := by
  have g0 : ∀ h, ((⟨#[45, 48]⟩ : ByteArray)[0]'h).toNat = 45 := fun _ => rfl
  have g1 : ∀ h, ((⟨#[45, 48]⟩ : ByteArray)[1]'h).toNat = 48 := fun _ => rfl
  go_enter Tryz.func93, Tryz.ntmps93
  go_wp2
  go_step3
  go_wp2
  go_step3
  go_wp2
  refine wp_loop_rounds 3 ?_
  rw [rounds_succ]
  go_wp2
  rw [rounds_succ]
  go_wp2
  rw [Exit.noGoto_ret]
  refine bodyPost_ret (results_tmp7 rfl _ _ _) rfl ?_
  exact ⟨rfl, rfl⟩
end Go.Proofs.YtakkkblopjbegaaGreatDoor
