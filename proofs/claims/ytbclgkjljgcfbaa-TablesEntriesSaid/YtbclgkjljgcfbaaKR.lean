import Derived.Test.YtbclgkjljgcfbaaKQ
namespace Go.Proofs.Ytbclgkjljgcfbaa.Cp
open Go.ChangeShapes Go.WideShapes Go.ChangeAt Go.RowKit
set_option linter.unusedVariables false
theorem pself : ∀ p, p < 256 → p &&& (255 - p) = 0 := by decide +kernel
theorem pmask : ∀ p, p < 256 → ∀ q, q < 256 → (p &&& (255 - q) = 0 ↔ p &&& q = p) := by decide +kernel
theorem tp_lt (e b t a : Nat) (ha : a < 4294967296) : tp e b t a < 8589934592 := by
  unfold tp
  have hA := bs_lt (e % 16) (b % 512) a (by omega) (by omega) ha
  have hL := ln_le (e % 16) (b % 512) (t % 512) (by omega)
  omega
def subs (g1 : Bool) (a1 p1 e1 b1 t1 : Nat) (g2 : Bool) (a2 p2 e2 b2 t2 : Nat) : Bool := sub g1 p1 (bs (e1 % 16) (b1 % 512) a1) (tp e1 b1 t1 a1) g2 p2 (bs (e2 % 16) (b2 % 512) a2) (tp e2 b2 t2 a2)
theorem subs_self (g : Bool) (a p e b t : Nat) (hp : p < 256) : subs g a p e b t g a p e b t = true := by
  unfold subs sub
  rw [pself p hp]
  simp
end Go.Proofs.Ytbclgkjljgcfbaa.Cp
