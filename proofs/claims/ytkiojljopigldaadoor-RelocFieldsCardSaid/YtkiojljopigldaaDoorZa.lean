import Derived.Test.YtkiojljopigldaaDoorM
import Derived.Test.YtkiojljopigldaaDoorU
import Derived.Deep.Cut
import Derived.Deep.CutRange
namespace Go.Proofs.YtkiojljopigldaaDoor
open Go.ChangeShapes Go.WideShapes Go.ChangeAt Go.RowKit
set_option linter.unusedVariables false
theorem sg12 (n : Nat) (hn : n < 4096) (w : World) : Calls Tryd.prog 21 #[.int .u32 (n : Int), .int .u64 12] w fun en w' => en = .returned (.int .i32 (sgn n 2048)) ∧ w = w' := by
  go_enter Tryd.func21, Tryd.ntmps21
  go_wp2
  go_ret
  refine ⟨ret1 ?_, rfl⟩
  unfold sgn wrap32
  split <;> omega
theorem sg13 (n : Nat) (hn : n < 8192) (w : World) : Calls Tryd.prog 21 #[.int .u32 (n : Int), .int .u64 13] w fun en w' => en = .returned (.int .i32 (sgn n 4096)) ∧ w = w' := by
  go_enter Tryd.func21, Tryd.ntmps21
  go_wp2
  go_ret
  refine ⟨ret1 ?_, rfl⟩
  unfold sgn wrap32
  split <;> omega
theorem sg21 (n : Nat) (hn : n < 2097152) (w : World) : Calls Tryd.prog 21 #[.int .u32 (n : Int), .int .u64 21] w fun en w' => en = .returned (.int .i32 (sgn n 1048576)) ∧ w = w' := by
  go_enter Tryd.func21, Tryd.ntmps21
  go_wp2
  go_ret
  refine ⟨ret1 ?_, rfl⟩
  unfold sgn wrap32
  split <;> omega
end Go.Proofs.YtkiojljopigldaaDoor
