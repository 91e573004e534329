import Derived.Test.YtojjdhohhonheabProg
import Derived.WalkKit
import Derived.ProofKit
import Derived.OpenShut
import Derived.Below
import Derived.WalkSmall
import Derived.BigQuiet
import Derived.Deep.QuietTactic
import Derived.Deep.RegionHeld3
import Derived.LoopTactic
import Derived.Lib.Hide
import Derived.Laws.BitsAllLaws
namespace Go.Proofs.Ytojjdhohhonheab
open Go.ChangeShapes Go.WideShapes Go.ChangeAt Go.RowKit
set_option linter.unusedVariables false
theorem ret1 {k : IntKind} {a b : Int} (h : a = b) : Ending.returned (.int k a) = .returned (.int k b) := by rw [h]
theorem retb {a b : Bool} (h : a = b) : Ending.returned (.bool a) = .returned (.bool b) := by rw [h]
theorem and31 (b : Nat) (hb : b < 4294967296) : bits .and .u32 (b : Int) 31 = ((b % 32 : Nat) : Int) := by
  have h := u32_and_nat b 31 hb (by omega)
  rw [nat_mask5] at h; exact h
def b2i (p : Bool) : Int := if p then 1 else 0
theorem flag12 (p : Bool) (w : World) : Calls Try.prog 12 #[.bool p] w fun en w' => en = .returned (.int .u32 (b2i p)) ∧ w = w' := by
  cases p
  all_goals
    go_enter Try.func12, Try.ntmps12
    go_wp2
    go_ret
    exact ⟨rfl, rfl⟩
theorem worth20 (a : Nat) (w : World) : Calls Try.prog 20 #[.int .u32 (a : Int)] w fun en w' => en = .returned (.int .i64 (wrap32 (a : Int))) ∧ w = w' := by
  have l1 : -2147483648 ≤ wrap32 (a : Int) ∧ wrap32 (a : Int) ≤ 2147483647 := by unfold wrap32; omega
  obtain ⟨l1, l2⟩ := l1
  go_enter Try.func20, Try.ntmps20
  go_wp2
  go_ret
  exact ⟨rfl, rfl⟩
theorem ret2 {k1 k2 : IntKind} {a b c d : Int} (h : a = b) (h2 : c = d) : Ending.returned (.tuple #[.int k1 a, .int k2 c]) = .returned (.tuple #[.int k1 b, .int k2 d]) := by rw [h, h2]
theorem retp {k2 : IntKind} {a b : Bool} {c d : Int} (h : a = b) (h2 : c = d) : Ending.returned (.tuple #[.bool a, .int k2 c]) = .returned (.tuple #[.bool b, .int k2 d]) := by rw [h, h2]
theorem is5 (a b : Nat) (ha : a < 4294967296) (hb : b < 4294967296) (w : World) : Calls Try.prog 9 #[.int .u8 5, .int .u32 (a : Int), .int .u32 (b : Int)] w fun en w' => en = .returned (.tuple #[.bool ((a : Int) == (b : Int)), .int .i64 0]) ∧ w = w' := by
  go_enter Try.func9, Try.ntmps9
  go_wp2
  go_ret2
  exact ⟨retp rfl rfl, rfl⟩
theorem is6 (a b : Nat) (ha : a < 4294967296) (hb : b < 4294967296) (w : World) : Calls Try.prog 9 #[.int .u8 6, .int .u32 (a : Int), .int .u32 (b : Int)] w fun en w' => en = .returned (.tuple #[.bool ((a : Int) != (b : Int)), .int .i64 0]) ∧ w = w' := by
  go_enter Try.func9, Try.ntmps9
  go_wp2
  go_ret2
  exact ⟨retp rfl rfl, rfl⟩
theorem is7 (a b : Nat) (ha : a < 4294967296) (hb : b < 4294967296) (w : World) : Calls Try.prog 9 #[.int .u8 7, .int .u32 (a : Int), .int .u32 (b : Int)] w fun en w' => en = .returned (.tuple #[.bool (decide (wrap32 (a : Int) < wrap32 (b : Int))), .int .i64 0]) ∧ w = w' := by
  go_enter Try.func9, Try.ntmps9
  go_wp2
  go_ret2
  exact ⟨retp rfl rfl, rfl⟩
theorem is8 (a b : Nat) (ha : a < 4294967296) (hb : b < 4294967296) (w : World) : Calls Try.prog 9 #[.int .u8 8, .int .u32 (a : Int), .int .u32 (b : Int)] w fun en w' => en = .returned (.tuple #[.bool (decide (wrap32 (b : Int) ≤ wrap32 (a : Int))), .int .i64 0]) ∧ w = w' := by
  go_enter Try.func9, Try.ntmps9
  go_wp2
  go_ret2
  exact ⟨retp rfl rfl, rfl⟩
theorem is9 (a b : Nat) (ha : a < 4294967296) (hb : b < 4294967296) (w : World) : Calls Try.prog 9 #[.int .u8 9, .int .u32 (a : Int), .int .u32 (b : Int)] w fun en w' => en = .returned (.tuple #[.bool (decide (a < b)), .int .i64 0]) ∧ w = w' := by
  go_enter Try.func9, Try.ntmps9
  go_wp2
  go_ret2
  exact ⟨retp rfl rfl, rfl⟩
theorem is10 (a b : Nat) (ha : a < 4294967296) (hb : b < 4294967296) (w : World) : Calls Try.prog 9 #[.int .u8 10, .int .u32 (a : Int), .int .u32 (b : Int)] w fun en w' => en = .returned (.tuple #[.bool (decide (b ≤ a)), .int .i64 0]) ∧ w = w' := by
  go_enter Try.func9, Try.ntmps9
  go_wp2
  go_ret2
  exact ⟨retp rfl rfl, rfl⟩
end Go.Proofs.Ytojjdhohhonheab
