import Derived.Test.YtlomlgmajcdccaaDoorF
namespace Go.Proofs.YtlomlgmajcdccaaDoor
open Go.ChangeShapes Go.WideShapes Go.ChangeAt Go.RowKit
set_option linter.unusedVariables false
theorem putV_two (g : Nat → Wl) (n : Nat) : ∃ s e, putV g n = .tuple #[.string s, .int .i64 e] := by
  unfold putV
  split
  · exact ⟨_, _, rfl⟩
  · split <;> exact ⟨_, _, rfl⟩
set_option maxHeartbeats 1000000 in
theorem walk4 (G : World → Prop) (hG : ∀ w w', G w → Below w.heap.size w w' → G w') (A : Option Addr) (n c : Nat) (g : Nat → Wl) (w : World) (hg : G w) (hA : Ws w A n g)
    (K13 : Hid (∀ w : World, G w → Calls Tryd.prog 13 #[] w fun en w' => en = .returned (.bool true) ∧ Below w.heap.size w w'))
    (K14 : Hid (∀ w : World, Ws w A n g → Calls Tryd.prog 14 #[.slice A n c] w fun en w' => en = .returned (putV g n) ∧ Below w.heap.size w w'))
    (K15 : Hid (∀ w : World, Ws w A n g → Calls Tryd.prog 15 #[.slice A n c] w fun en w' => en = .returned (putV g n) ∧ w = w')) :
    Calls Tryd.prog 4 #[.slice A n c] w fun en w' => en = .returned (.bool true) ∧ Below w.heap.size w w' := by
  have HG := Lib.hid hg
  have HA := Lib.hid hA
  have HGG := Lib.hid hG
  clear hg hA hG
  obtain ⟨s, e, hp⟩ := putV_two g n
  rw [hp] at K14 K15
  clear hp
  go_enter Tryd.func4, Tryd.ntmps4
  go_wp2_with fail
  refine (K14.out _ HA.out).mono ?_
  rintro _ w1 ⟨rfl, q1⟩
  have g1 := Lib.hid q1
  clear q1
  go_wp2_with fail
  refine (K15.out _ (HA.out.below g1.out)).mono ?_
  rintro _ w2 ⟨rfl, rfl⟩
  have HG1 := Lib.hid (HGG.out _ _ HG.out g1.out)
  go_wp2_with fail
  refine (K13.out _ HG1.out).mono ?_
  rintro _ w6 ⟨rfl, q6⟩
  go_wp2_with fail
  go_ret
  exact ⟨rfl, g1.out.trans (q6.mono g1.out.size)⟩
end Go.Proofs.YtlomlgmajcdccaaDoor
