import Derived.Test.YtkiojljopigldaaDoorProg
import Derived.WalkKit
import Derived.ProofKit
import Derived.OpenShut
import Derived.Below
import Derived.WalkSmall
import Derived.BigQuiet
import Derived.Deep.QuietTactic
import Derived.Deep.RegionHeld3
import Derived.LoopTactic
import Derived.Lib.Hide
import Derived.Laws.BitsAllLaws
namespace Go.Proofs.YtkiojljopigldaaDoor.Rel
open Go.ChangeShapes Go.WideShapes Go.ChangeAt Go.RowKit
set_option linter.unusedVariables false
theorem ret1 {k : IntKind} {a b : Int} (h : a = b) : Ending.returned (.int k a) = .returned (.int k b) := by rw [h]
theorem retb {a b : Bool} (h : a = b) : Ending.returned (.bool a) = .returned (.bool b) := by rw [h]

def H (n : Nat) : Nat := (n + 2048) % 4294967296 / 4096 * 4096
theorem H_lt (n : Nat) : H n < 4294967296 := by unfold H; omega
def near (d : Int) : Int := wrap32 (H (d % 4294967296).toNat : Int)
def fit (n bits : Nat) (step : Int) : Bool := decide (-(2 ^ (bits - 1)) ≤ wrap32 (n : Int) ∧ wrap32 (n : Int) < 2 ^ (bits - 1) ∧ (wrap32 (n : Int)).tmod step = 0)
def chk (n : Nat) (may : Bool) : Int × Int := if may then (wrap32 (n : Int), 0) else (0, 3)
theorem ret2 {k1 k2 : IntKind} {a b c d : Int} (h : a = b) (h2 : c = d) : Ending.returned (.tuple #[.int k1 a, .int k2 c]) = .returned (.tuple #[.int k1 b, .int k2 d]) := by rw [h, h2]
theorem andNot (n : Nat) (hn : n < 4294967296) : bits .andNot .u32 (n : Int) 4095 = ((n / 4096 * 4096 : Nat) : Int) := by
  have h := u32_andNot_nat n 4095 hn (by omega)
  rw [show ((4095 : Nat) : Int) = 4095 from rfl] at h
  rw [h]
  rw [show (4294967295 - 4095 : Nat) = 4294963200 from rfl, nat_hi32_12]
  omega
theorem high12 (n : Nat) (hn : n < 4294967296) (w : World) : Calls Tryd.prog 29 #[.int .u32 (n : Int)] w fun en w' => en = .returned (.int .u32 (H n : Int)) ∧ w = w' := by
  have k := andNot ((n + 2048) % 4294967296) (by omega)
  have e : ((H n : Nat) : Int) = (((n + 2048) % 4294967296 / 4096 * 4096 : Nat) : Int) := rfl
  rw [← e] at k
  have e2 : ((n : Int) + 2048) % 4294967296 = (((n + 2048) % 4294967296 : Nat) : Int) := by omega
  generalize (n + 2048) % 4294967296 = m at *
  clear e
  generalize H n = r at *
  go_enter Tryd.func29, Tryd.ntmps29
  go_wp2
  go_ret
  exact ⟨ret1 rfl, rfl⟩
end Go.Proofs.YtkiojljopigldaaDoor.Rel