import Derived.Test.YtbclgkjljgcfbaaKJ
namespace Go.Proofs.Ytbclgkjljgcfbaa.Cp
open Go.ChangeShapes Go.WideShapes Go.ChangeAt Go.RowKit
set_option linter.unusedVariables false
def sbV (g : Bool) (a p y e b t n : Nat) : Value := if (decide (y = 0) && wi (e % 16) (b % 512) (t % 512) a a n && decide ((ex a (a + n)).2.2.2 = 0)) = true then cp g a p y (ex a (a + n)).1 (ex a (a + n)).2.1 (ex a (a + n)).2.2.1 else cp false a p y e b t
theorem ex_lt (b t : Nat) : (ex b t).1 < 256 ∧ (ex b t).2.1 < 65536 ∧ (ex b t).2.2.1 < 65536 ∧ (ex b t).2.2.2 < 256 := by
  rcases ex_err b t with ⟨h1, h2, h3, h4, h5, h6⟩ | ⟨h1, h2, h3, h4⟩ <;> omega
end Go.Proofs.Ytbclgkjljgcfbaa.Cp
