import Derived.Test.YtakkkblopjbegaaGreatDoorSh
import Derived.Shelf.Strings.SlTrimAscii
import Derived.WalkKit
import Derived.ProofKit
import Derived.OpenShut
import Derived.Below
import Derived.WalkSmall
import Derived.BigQuiet
import Derived.Deep.QuietTactic
import Derived.LoopTactic
import Derived.Lib.Hide
import Derived.Laws.BitsAllLaws
import Derived.Laws.FloatArith
namespace Go.Proofs.YtakkkblopjbegaaGreatDoor
open Go.ChangeShapes Go.WideShapes Go.ChangeAt Go.RowKit
set_option linter.unusedVariables false
set_option linter.unusedSimpArgs false
theorem x5 (n : Int) (w : World) : (callFunc 5 #[.int .u64 n]).run Tryz.prog w = .ok (.value (.float .f64 n.toNat)) w := by kernel_rfl
theorem x16 (n : Nat) (w : World) : (callFunc 16 #[.float .f64 n]).run Tryz.prog w = .ok (.value (.int .u64 (n : Int))) w := by kernel_rfl
theorem k14 (w : World) : Calls Tryz.prog 14 #[] w fun e w' => e = .returned (.float .f64 9221120237041090561) ∧ w' = w := by
  have h := x5
  go_enter Tryz.func14, Tryz.ntmps14
  go_wp2
  go_ret
  exact ⟨rfl, rfl⟩
theorem k13 (x : Nat) (w : World) : Calls Tryz.prog 13 #[.float .f64 x] w fun e w' => e = .returned (.bool (FloatKind.f64.format.order x x != some Ordering.eq)) ∧ w' = w := by
  go_enter Tryz.func13, Tryz.ntmps13
  go_wp2
  go_ret
  exact ⟨rfl, rfl⟩
theorem k20 (x : Nat) (w : World) : Calls Tryz.prog 20 #[.float .f64 x] w fun e w' => e = .returned (.bool (decide (wrap64 (x : Int) < 0))) ∧ w' = w := by
  have h := x16
  go_enter Tryz.func20, Tryz.ntmps20
  go_wp2
  go_ret
  exact ⟨rfl, rfl⟩
theorem k18 (w : World) : Calls Tryz.prog 18 #[.float .f64 0, .float .f64 13830554455654793216] w fun e w' => e = .returned (.float .f64 9223372036854775808) ∧ w' = w := by
  have h := x16
  have h5 := x5
  go_enter Tryz.func18, Tryz.ntmps18
  go_wp2
  go_ret
  exact ⟨rfl, rfl⟩
theorem k19 (w : World) : Calls Tryz.prog 19 #[.float .f64 9218868437227405312, .int .i64 1] w fun e w' => e = .returned (.bool true) ∧ w' = w := by
  have h : FloatKind.f64.format.order 9218868437227405312 9218868437227405311 = some Ordering.gt := by kernel_rfl
  have h2 : FloatKind.f64.format.order 9218868437227405311 9218868437227405312 = some Ordering.lt := by kernel_rfl
  go_enter Tryz.func19, Tryz.ntmps19
  go_wp2
  go_ret
  exact ⟨rfl, rfl⟩
theorem o00 : FloatKind.f64.format.order 0 0 = some Ordering.eq := by kernel_rfl
theorem onn : FloatKind.f64.format.order 9223372036854775808 9223372036854775808 = some Ordering.eq := by kernel_rfl
theorem o0n : FloatKind.f64.format.order 0 9223372036854775808 = some Ordering.eq := by kernel_rfl
theorem on0 : FloatKind.f64.format.order 9223372036854775808 0 = some Ordering.eq := by kernel_rfl
theorem k6n (w : World) : Calls Tryz.prog 6 #[.int .u8 5, .float .f64 0, .float .f64 9223372036854775808] w fun e w' => e = .returned (.tuple #[.float .f64 9223372036854775808, .int .i64 0]) ∧ Below w.heap.size w w' := by
  have h1 := o00
  have h2 := onn
  have h3 := o0n
  have h4 := x16
  go_enter Tryz.func6, Tryz.ntmps6
  go_wp2
  go_ret2
  exact ⟨rfl, Below.refl _ _⟩
end Go.Proofs.YtakkkblopjbegaaGreatDoor
