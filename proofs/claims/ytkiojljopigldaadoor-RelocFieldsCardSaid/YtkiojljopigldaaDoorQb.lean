import Derived.Test.YtkiojljopigldaaDoorQa
namespace Go.Proofs.YtkiojljopigldaaDoor.Rel
open Go.ChangeShapes Go.WideShapes Go.ChangeAt Go.RowKit
set_option linter.unusedVariables false
def fe (n : Nat) (edge step : Int) : Bool := decide (-edge ≤ wrap32 (n : Int)) && (decide (wrap32 (n : Int) < edge) && (((wrap32 (n : Int)).tmod step) == 0))
def ckV (b : Bool) (n : Nat) : Value := if b then .tuple #[.int .i32 (wrap32 (n : Int)), .int .i64 0] else .tuple #[.int .i32 0, .int .i64 3]
theorem retb' {a b : Bool} (h : a = b) : Ending.returned (.bool a) = .returned (.bool b) := by rw [h]
theorem fits13 (n : Nat) (hn : n < 4294967296) (w : World) : Calls Tryd.prog 28 #[.int .u32 (n : Int), .int .u64 13, .int .i32 2] w fun en w' => en = .returned (.bool (fe n 4096 2)) ∧ w = w' := by
  unfold fe
  have l1 : -2147483648 ≤ wrap32 (n : Int) ∧ wrap32 (n : Int) ≤ 2147483647 := by unfold wrap32; omega
  obtain ⟨l1, l2⟩ := l1
  generalize hv : wrap32 (n : Int) = v at *
  by_cases g1 : -4096 ≤ v
  · by_cases g2 : v < 4096
    · go_enter Tryd.func28, Tryd.ntmps28
      go_wp2
      go_ret
      exact ⟨retb' (by simp only [decide_eq_true g1, decide_eq_true g2, Bool.true_and]), rfl⟩
    · go_enter Tryd.func28, Tryd.ntmps28
      go_wp2
      go_ret
      exact ⟨retb' (by rw [Bool.eq_iff_iff]; simp; omega), rfl⟩
  · go_enter Tryd.func28, Tryd.ntmps28
    go_wp2
    go_ret
    exact ⟨retb' (by rw [Bool.eq_iff_iff]; simp; omega), rfl⟩
theorem fits21 (n : Nat) (hn : n < 4294967296) (w : World) : Calls Tryd.prog 28 #[.int .u32 (n : Int), .int .u64 21, .int .i32 2] w fun en w' => en = .returned (.bool (fe n 1048576 2)) ∧ w = w' := by
  unfold fe
  have l1 : -2147483648 ≤ wrap32 (n : Int) ∧ wrap32 (n : Int) ≤ 2147483647 := by unfold wrap32; omega
  obtain ⟨l1, l2⟩ := l1
  generalize hv : wrap32 (n : Int) = v at *
  by_cases g1 : -1048576 ≤ v
  · by_cases g2 : v < 1048576
    · go_enter Tryd.func28, Tryd.ntmps28
      go_wp2
      go_ret
      exact ⟨retb' (by simp only [decide_eq_true g1, decide_eq_true g2, Bool.true_and]), rfl⟩
    · go_enter Tryd.func28, Tryd.ntmps28
      go_wp2
      go_ret
      exact ⟨retb' (by rw [Bool.eq_iff_iff]; simp; omega), rfl⟩
  · go_enter Tryd.func28, Tryd.ntmps28
    go_wp2
    go_ret
    exact ⟨retb' (by rw [Bool.eq_iff_iff]; simp; omega), rfl⟩
theorem fits12 (n : Nat) (hn : n < 4294967296) (w : World) : Calls Tryd.prog 28 #[.int .u32 (n : Int), .int .u64 12, .int .i32 1] w fun en w' => en = .returned (.bool (fe n 2048 1)) ∧ w = w' := by
  unfold fe
  have l1 : -2147483648 ≤ wrap32 (n : Int) ∧ wrap32 (n : Int) ≤ 2147483647 := by unfold wrap32; omega
  obtain ⟨l1, l2⟩ := l1
  generalize hv : wrap32 (n : Int) = v at *
  by_cases g1 : -2048 ≤ v
  · by_cases g2 : v < 2048
    · go_enter Tryd.func28, Tryd.ntmps28
      go_wp2
      go_ret
      exact ⟨retb' (by simp only [decide_eq_true g1, decide_eq_true g2, Bool.true_and]; simp), rfl⟩
    · go_enter Tryd.func28, Tryd.ntmps28
      go_wp2
      go_ret
      exact ⟨retb' (by rw [Bool.eq_iff_iff]; simp; omega), rfl⟩
  · go_enter Tryd.func28, Tryd.ntmps28
    go_wp2
    go_ret
    exact ⟨retb' (by rw [Bool.eq_iff_iff]; simp; omega), rfl⟩
theorem chk10 (n : Nat) (b : Bool) (hn : n < 4294967296) (w : World) : Calls Tryd.prog 27 #[.int .u32 (n : Int), .bool b] w fun en w' => en = .returned (ckV b n) ∧ w = w' := by
  cases b
  · rw [show ckV false n = .tuple #[.int .i32 0, .int .i64 3] from rfl]
    go_enter Tryd.func27, Tryd.ntmps27
    go_wp2
    go_ret2
    exact ⟨rfl, rfl⟩
  · rw [show ckV true n = .tuple #[.int .i32 (wrap32 (n : Int)), .int .i64 0] from rfl]
    go_enter Tryd.func27, Tryd.ntmps27
    go_wp2
    go_ret2
    exact ⟨rfl, rfl⟩
theorem near_H (n : Nat) (hn : n < 4294967296) : near (wrap32 (n : Int)) = wrap32 (H n : Int) := by
  unfold near
  rw [show ((wrap32 (n : Int)) % 4294967296).toNat = n by unfold wrap32; omega]
end Go.Proofs.YtkiojljopigldaaDoor.Rel
