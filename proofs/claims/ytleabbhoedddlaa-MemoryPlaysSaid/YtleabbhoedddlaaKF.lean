import Derived.Test.YtleabbhoedddlaaKE
namespace Go.Proofs.Ytleabbhoedddlaa.Cp
open Go.ChangeShapes Go.WideShapes Go.ChangeAt Go.RowKit
set_option linter.unusedVariables false
theorem and8 (p : Nat) (hp : p < 256) : bits .and .u8 (p : Int) 8 = ((p / 8 % 2 * 8 : Nat) : Int) := by
  have h := u8_and_nat p 8 hp (by omega)
  rw [nat_bit3] at h; exact h
theorem and7 (t : Nat) (ht : t < 4294967296) : bits .and .u32 (t : Int) 7 = ((t % 8 : Nat) : Int) := by
  have h := u32_and_nat t 7 ht (by omega)
  rw [nat_mask3] at h; exact h
end Go.Proofs.Ytleabbhoedddlaa.Cp
