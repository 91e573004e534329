import Derived.Test.YtgmifaadlaigdaaGreatDoorF
namespace Go.Proofs.YtgmifaadlaigdaaGreatDoor
open Go.ChangeShapes Go.WideShapes Go.ChangeAt Go.RowKit
set_option linter.unusedVariables false
/-- four bytes as a number, the highest first -/
def bigN (f : Nat → Nat) (at' : Nat) : Nat := ((f at' * 256 + f (at' + 1)) * 256 + f (at' + 2)) * 256 + f (at' + 3)
set_option maxRecDepth 100000 in
set_option maxHeartbeats 4000000 in
theorem c59 (b o n c k : Nat) (f : Nat → Nat) (w : World) (hB : Bs w b o n f) (hn : n ≤ 16777216) (hk : k + 3 < n) : Calls Tryz.prog 59 #[.slice (some ⟨b, o, none⟩) n c, .int .i64 (k : Int)] w fun e w' => e = .returned (.int .i64 (bigN f k : Int)) ∧ ∃ q, w' = w.drewN q := by
  obtain ⟨g0, h0⟩ := hB.2 k (by omega)
  obtain ⟨g1, h1⟩ := hB.2 (k + 1) (by omega)
  obtain ⟨g2, h2⟩ := hB.2 (k + 2) (by omega)
  obtain ⟨g3, h3⟩ := hB.2 (k + 3) (by omega)
  have HQ : Hid (bigN f k = ((f k * 256 + f (k + 1)) * 256 + f (k + 2)) * 256 + f (k + 3)) := Lib.hid rfl
  clear hB
  generalize f k = x0 at *
  generalize f (k + 1) = x1 at *
  generalize f (k + 2) = x2 at *
  generalize f (k + 3) = x3 at *
  generalize bigN f k = q at *
  go_enter Tryz.func59, Tryz.ntmps59
  go_wp2_with fail
  go_quiet (fail)
  go_wp2
  go_ret
  exact ⟨by rw [HQ.out]; go_num, _, rfl⟩
end Go.Proofs.YtgmifaadlaigdaaGreatDoor
