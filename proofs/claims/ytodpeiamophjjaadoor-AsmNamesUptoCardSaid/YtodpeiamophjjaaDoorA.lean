import Derived.Test.YtodpeiamophjjaaDoorProg
import Derived.WalkKit
import Derived.ProofKit
import Derived.OpenShut
import Derived.Below
import Derived.WalkSmall
import Derived.LoopTactic
import Derived.Lib.Hide
import Derived.LaidEql
import Derived.Stop.Asserts
import Derived.RowKitTokens
import Derived.Laws.Strings
import Derived.Laws.Strings2
import Derived.Laws.Strings3
namespace Go.Proofs.YtodpeiamophjjaaDoor
open Go.ChangeShapes Go.WideShapes Go.ChangeAt Go.RowKit
set_option linter.unusedVariables false
theorem cf36 (v : Value) (w : World) : (callFunc 36 #[.iface 25 v]).run Tryd.prog w = .ok (.value (.iface 85 (.agg #[.pointer (some ⟨3, 25, none⟩)]))) w := by kernel_rfl
theorem cf66 (w : World) : (callFunc 66 #[.agg #[.pointer (some ⟨3, 25, none⟩)]]).run Tryd.prog w = .ok (.value (.bool true)) w := by kernel_rfl
theorem mComp (v : Value) (w : World) : (Go.method 228 85 v "Comparable").run Tryd.prog w = .ok (66, v) w := by kernel_rfl
theorem mUnw (v : Value) (w : World) : (Go.method 228 76 v "Unwrap").run Tryd.prog w = .ok (62, v) w := by kernel_rfl
theorem noIs76 (v : Value) (xT : TypeId) (w : World) : (Instr.typeAssert (.iface 76 v) xT 87 true).run Tryd.prog w = .ok (.tuple #[.nilIface, .bool false]) w := run_typeAssert_lacksB Tryd.underlying87 (by kernel_rfl) (by kernel_rfl) v xT w
theorem noIs25 (v : Value) (xT : TypeId) (w : World) : (Instr.typeAssert (.iface 25 v) xT 87 true).run Tryd.prog w = .ok (.tuple #[.nilIface, .bool false]) w := run_typeAssert_lacksB Tryd.underlying87 (by kernel_rfl) (by kernel_rfl) v xT w
theorem noUn25 (v : Value) (xT : TypeId) (w : World) : (Instr.typeAssert (.iface 25 v) xT 90 true).run Tryd.prog w = .ok (.tuple #[.nilIface, .bool false]) w := run_typeAssert_lacksB Tryd.underlying90 (by kernel_rfl) (by kernel_rfl) v xT w
theorem noUns25 (v : Value) (xT : TypeId) (w : World) : (Instr.typeAssert (.iface 25 v) xT 92 true).run Tryd.prog w = .ok (.tuple #[.nilIface, .bool false]) w := run_typeAssert_lacksB Tryd.underlying92 (by kernel_rfl) (by kernel_rfl) v xT w
theorem hasUn76 (v : Value) (xT : TypeId) (w : World) : (Instr.typeAssert (.iface 76 v) xT 90 true).run Tryd.prog w = .ok (.tuple #[.iface 76 v, .bool true]) w := run_typeAssert_hasB Tryd.underlying90 (by kernel_rfl) v xT w
/-- what is wrong, and with which line -/
def errAt (k : Int) (e : Int) : Value := .iface 76 (.agg #[.int .i64 k, .iface 25 (.int .i64 e)])
set_option maxRecDepth 100000 in
set_option maxHeartbeats 4000000 in
theorem is_77 (k : Int) (w : World) : Calls Tryd.prog 20 #[.iface 76 (.agg #[.int .i64 k, .iface 25 (.int .i64 7)]), .iface 25 (.int .i64 7)] w fun en w' => en = .returned (.bool true) ∧ Below w.heap.size w w' := by
  have h36 := cf36
  have h66 := cf66
  have m1 := mComp
  have m2 := mUnw
  have hty := run_eql_iface_types (P := Tryd.prog) 76 25 (.agg #[.int .i64 k, .iface 25 (.int .i64 7)]) (.int .i64 7) Tryd.underlying44 (by decide) w
  have heq : ∀ w, (binOp .eql 44 (.iface 25 (.int .i64 7)) (.iface 25 (.int .i64 7))).run Tryd.prog w = .ok (.bool true) w := fun w => by kernel_rfl
  have n1 := noIs76
  have n2 := hasUn76
  have n3 := noIs25
  have n4 := noUn25
  have n5 := noUns25
  go_enter Tryd.func20, Tryd.ntmps20
  go_wp2
  refine wp_loop_rounds 2 ?_
  rw [rounds_succ]
  go_wp2
  rw [rounds_succ]
  go_wp2
  go_ret
  exact ⟨rfl, (Below.refl _ _).alloc (Nat.le_refl _) _⟩
set_option maxRecDepth 100000 in
set_option maxHeartbeats 4000000 in
theorem is_67 (k : Int) (w : World) : Calls Tryd.prog 20 #[.iface 76 (.agg #[.int .i64 k, .iface 25 (.int .i64 6)]), .iface 25 (.int .i64 7)] w fun en w' => en = .returned (.bool false) ∧ Below w.heap.size w w' := by
  have h36 := cf36
  have h66 := cf66
  have m1 := mComp
  have m2 := mUnw
  have hty := run_eql_iface_types (P := Tryd.prog) 76 25 (.agg #[.int .i64 k, .iface 25 (.int .i64 6)]) (.int .i64 7) Tryd.underlying44 (by decide) w
  have heq : ∀ w, (binOp .eql 44 (.iface 25 (.int .i64 6)) (.iface 25 (.int .i64 7))).run Tryd.prog w = .ok (.bool false) w := fun w => by kernel_rfl
  have n1 := noIs76
  have n2 := hasUn76
  have n3 := noIs25
  have n4 := noUn25
  have n5 := noUns25
  go_enter Tryd.func20, Tryd.ntmps20
  go_wp2
  refine wp_loop_rounds 2 ?_
  rw [rounds_succ]
  go_wp2
  rw [rounds_succ]
  go_wp2
  go_ret
  exact ⟨rfl, (Below.refl _ _).alloc (Nat.le_refl _) _⟩
set_option maxRecDepth 100000 in
set_option maxHeartbeats 4000000 in
theorem is_66 (k : Int) (w : World) : Calls Tryd.prog 20 #[.iface 76 (.agg #[.int .i64 k, .iface 25 (.int .i64 6)]), .iface 25 (.int .i64 6)] w fun en w' => en = .returned (.bool true) ∧ Below w.heap.size w w' := by
  have h36 := cf36
  have h66 := cf66
  have m1 := mComp
  have m2 := mUnw
  have hty := run_eql_iface_types (P := Tryd.prog) 76 25 (.agg #[.int .i64 k, .iface 25 (.int .i64 6)]) (.int .i64 6) Tryd.underlying44 (by decide) w
  have heq : ∀ w, (binOp .eql 44 (.iface 25 (.int .i64 6)) (.iface 25 (.int .i64 6))).run Tryd.prog w = .ok (.bool true) w := fun w => by kernel_rfl
  have n1 := noIs76
  have n2 := hasUn76
  have n3 := noIs25
  have n4 := noUn25
  have n5 := noUns25
  go_enter Tryd.func20, Tryd.ntmps20
  go_wp2
  refine wp_loop_rounds 2 ?_
  rw [rounds_succ]
  go_wp2
  rw [rounds_succ]
  go_wp2
  go_ret
  exact ⟨rfl, (Below.refl _ _).alloc (Nat.le_refl _) _⟩
set_option maxRecDepth 100000 in
set_option maxHeartbeats 4000000 in
theorem is_27 (k : Int) (w : World) : Calls Tryd.prog 20 #[.iface 76 (.agg #[.int .i64 k, .iface 25 (.int .i64 2)]), .iface 25 (.int .i64 7)] w fun en w' => en = .returned (.bool false) ∧ Below w.heap.size w w' := by
  have h36 := cf36
  have h66 := cf66
  have m1 := mComp
  have m2 := mUnw
  have hty := run_eql_iface_types (P := Tryd.prog) 76 25 (.agg #[.int .i64 k, .iface 25 (.int .i64 2)]) (.int .i64 7) Tryd.underlying44 (by decide) w
  have heq : ∀ w, (binOp .eql 44 (.iface 25 (.int .i64 2)) (.iface 25 (.int .i64 7))).run Tryd.prog w = .ok (.bool false) w := fun w => by kernel_rfl
  have n1 := noIs76
  have n2 := hasUn76
  have n3 := noIs25
  have n4 := noUn25
  have n5 := noUns25
  go_enter Tryd.func20, Tryd.ntmps20
  go_wp2
  refine wp_loop_rounds 2 ?_
  rw [rounds_succ]
  go_wp2
  rw [rounds_succ]
  go_wp2
  go_ret
  exact ⟨rfl, (Below.refl _ _).alloc (Nat.le_refl _) _⟩
set_option maxRecDepth 100000 in
set_option maxHeartbeats 4000000 in
theorem is_26 (k : Int) (w : World) : Calls Tryd.prog 20 #[.iface 76 (.agg #[.int .i64 k, .iface 25 (.int .i64 2)]), .iface 25 (.int .i64 6)] w fun en w' => en = .returned (.bool false) ∧ Below w.heap.size w w' := by
  have h36 := cf36
  have h66 := cf66
  have m1 := mComp
  have m2 := mUnw
  have hty := run_eql_iface_types (P := Tryd.prog) 76 25 (.agg #[.int .i64 k, .iface 25 (.int .i64 2)]) (.int .i64 6) Tryd.underlying44 (by decide) w
  have heq : ∀ w, (binOp .eql 44 (.iface 25 (.int .i64 2)) (.iface 25 (.int .i64 6))).run Tryd.prog w = .ok (.bool false) w := fun w => by kernel_rfl
  have n1 := noIs76
  have n2 := hasUn76
  have n3 := noIs25
  have n4 := noUn25
  have n5 := noUns25
  go_enter Tryd.func20, Tryd.ntmps20
  go_wp2
  refine wp_loop_rounds 2 ?_
  rw [rounds_succ]
  go_wp2
  rw [rounds_succ]
  go_wp2
  go_ret
  exact ⟨rfl, (Below.refl _ _).alloc (Nat.le_refl _) _⟩
/-- the code of what is wrong -/
theorem c12_nil (w : World) : Calls Tryd.prog 12 #[.nilIface] w fun en w' => en = .returned (.int .i64 0) ∧ w = w' := by
  go_enter Tryd.func12, Tryd.ntmps12
  go_wp2
  go_ret
  exact ⟨rfl, rfl⟩
theorem c12_7 (k : Int) (w : World) : Calls Tryd.prog 12 #[errAt k 7] w fun en w' => en = .returned (.int .i64 7) ∧ Below w.heap.size w w' := by
  unfold errAt
  go_enter Tryd.func12, Tryd.ntmps12
  go_wp2_with fail
  refine (is_77 k _).mono ?_
  rintro _ w1 ⟨rfl, b1⟩
  go_wp2_with fail
  go_ret
  exact ⟨rfl, b1⟩
theorem c12_6 (k : Int) (w : World) : Calls Tryd.prog 12 #[errAt k 6] w fun en w' => en = .returned (.int .i64 6) ∧ Below w.heap.size w w' := by
  unfold errAt
  go_enter Tryd.func12, Tryd.ntmps12
  go_wp2_with fail
  refine (is_67 k _).mono ?_
  rintro _ w1 ⟨rfl, b1⟩
  go_wp2_with fail
  refine (is_66 k _).mono ?_
  rintro _ w2 ⟨rfl, b2⟩
  go_wp2_with fail
  go_ret
  exact ⟨rfl, b1.trans (b2.mono b1.size)⟩
theorem c12_2 (k : Int) (w : World) : Calls Tryd.prog 12 #[errAt k 2] w fun en w' => en = .returned (.int .i64 2) ∧ Below w.heap.size w w' := by
  unfold errAt
  go_enter Tryd.func12, Tryd.ntmps12
  go_wp2_with fail
  refine (is_27 k _).mono ?_
  rintro _ w1 ⟨rfl, b1⟩
  go_wp2_with fail
  refine (is_26 k _).mono ?_
  rintro _ w2 ⟨rfl, b2⟩
  go_wp2_with fail
  go_ret
  exact ⟨rfl, b1.trans (b2.mono b1.size)⟩
end Go.Proofs.YtodpeiamophjjaaDoor
