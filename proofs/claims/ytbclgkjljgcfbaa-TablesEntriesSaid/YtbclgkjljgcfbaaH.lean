import Derived.Test.YtbclgkjljgcfbaaF
namespace Go.Proofs.Ytbclgkjljgcfbaa
open Go.ChangeShapes Go.WideShapes Go.ChangeAt Go.RowKit
open Cp (Blk cp bs ln ex ex_err rootV set7 set7a bcell cellAlloc)
set_option linter.unusedVariables false
theorem fills0 (w : World) : Calls Try.prog 14 #[.slice none 0 0, .slice none 0 0] w fun en w' => en = .returned (.bool true) ∧ Below w.heap.size w w' := by
  go_enter Try.func14, Try.ntmps14
  go_wp2_with fail
  go_loopw [5] (fun i wr => i = .int .i64 0 ∧ wr = w) (fun i _ => 0)
  case atStart => exact ⟨rfl, rfl⟩
  case round =>
    obtain ⟨rfl, rfl⟩ := hrel
    go_wp2_with fail
    go_ret
    exact ⟨rfl, Below.refl _ _⟩
def LF (w : World) (i : Value) (wr : World) : Prop := ∃ k : Nat, k ≤ 2 ∧ i = .int .i64 (k : Int) ∧ Below w.heap.size w wr
set_option maxHeartbeats 8000000 in
theorem fills2 (b1 b2 : Nat) (d E1 B1 T1 a2 E2 B2 T2 : Nat) (w : World) (h1 : Blk w b1 61 (fl d E1 B1 T1 a2 E2 B2 T2)) (h2 : Blk w b2 61 (fl d E1 B1 T1 a2 E2 B2 T2)) :
    Calls Try.prog 14 #[.slice (some ⟨b1, 0, none⟩) 2 2, .slice (some ⟨b2, 0, none⟩) 2 2] w fun en w' => en = .returned (.bool true) ∧ Below w.heap.size w w' := by
  have HH := Lib.hid (And.intro h1 h2)
  clear h1 h2
  go_enter Try.func14, Try.ntmps14
  go_wp2_with fail
  go_loopw [5] (fun i wr => LF w i wr) (fun i _ => 2 - (intOf i).toNat)
  case atStart => exact ⟨0, by omega, rfl, Below.refl _ _⟩
  case round =>
    obtain ⟨k, hk, rfl, hb⟩ := hrel
    have hk3 : k = 0 ∨ k = 1 ∨ k = 2 := by omega
    have g1 := HH.out.1.below hb HH.out.1.lt
    have g2 := HH.out.2.below hb HH.out.2.lt
    have HB := Lib.hid hb
    clear hk hb
    rcases hk3 with rfl | rfl | rfl
    · have c1 := fun j => g1.cell j
      have c2 := fun j => g2.cell j
      have p0 := c1 0; have p1 := c1 1; have p2 := c1 2; have p3 := c1 3; have p4 := c1 4; have p5 := c1 5; have p6 := c1 6; have p7 := c1 7
      have q0 := c2 0; have q1 := c2 1; have q2 := c2 2; have q3 := c2 3; have q4 := c2 4; have q5 := c2 5; have q6 := c2 6; have q7 := c2 7
      simp only [List.getElem?_toArray, List.getElem?_cons_zero, List.getElem?_cons_succ] at p0 p1 p2 p3 p4 p5 p6 p7 q0 q1 q2 q3 q4 q5 q6 q7
      clear c1 c2 g1 g2
      go_wp2
      go_quiet (fail)
      go_wp2_with fail
      go_roundw
      case rel => exact ⟨1, by omega, rfl, below_drewN HB.out _⟩
      case measure => simp [intOf]
    · have c1 := fun j => g1.cell j
      have c2 := fun j => g2.cell j
      have p0 := c1 8; have p1 := c1 9; have p2 := c1 10; have p3 := c1 11; have p4 := c1 12; have p5 := c1 13; have p6 := c1 14; have p7 := c1 15
      have q0 := c2 8; have q1 := c2 9; have q2 := c2 10; have q3 := c2 11; have q4 := c2 12; have q5 := c2 13; have q6 := c2 14; have q7 := c2 15
      simp only [List.getElem?_toArray, List.getElem?_cons_zero, List.getElem?_cons_succ] at p0 p1 p2 p3 p4 p5 p6 p7 q0 q1 q2 q3 q4 q5 q6 q7
      clear c1 c2 g1 g2
      go_wp2
      go_quiet (fail)
      go_wp2_with fail
      go_roundw
      case rel => exact ⟨2, by omega, rfl, below_drewN HB.out _⟩
      case measure => simp [intOf]
    · go_wp2_with fail
      go_ret
      exact ⟨rfl, HB.out⟩
end Go.Proofs.Ytbclgkjljgcfbaa
