import Derived.Test.YtkiojljopigldaaDoorQe
import Derived.Test.YtkiojljopigldaaDoorYd
import Derived.Test.YtkiojljopigldaaDoorZ
namespace Go.Proofs.YtkiojljopigldaaDoor.Rel
open Go.ChangeShapes Go.WideShapes Go.ChangeAt Go.RowKit
set_option linter.unusedVariables false
theorem pAA (k m o d a b W : Nat) (n v : Int) (w : World) (hg : Glob w)
    (t0 : ((k : Int) == 0) = false) (t1 : ((k : Int) == 1) = false) (t51 : ((k : Int) == 51) = false)
    (KI : Hid (∀ w : World, Calls Tryd.prog 10 #[.int .u8 (k : Int)] w fun en w' => en = .returned (.bool true) ∧ w = w'))
    (KG : Hid (∀ w : World, Glob w → Calls Tryd.prog 11 #[.int .u32 (m : Int)] w fun en w' => en = .returned (.tuple #[.agg #[.int .u8 (o : Int), .int .u8 (d : Int), .int .u8 (a : Int), .int .u8 (b : Int), .int .i32 n], .int .i64 0]) ∧ Below w.heap.size w w'))
    (KH : Hid (∀ w : World, Calls Tryd.prog 12 #[.int .u8 (k : Int), .int .u8 (o : Int)] w fun en w' => en = .returned (.bool true) ∧ w = w'))
    (KP : Hid (∀ w : World, Glob w → Calls Tryd.prog 13 #[.agg #[.int .u8 (o : Int), .int .u8 (d : Int), .int .u8 (a : Int), .int .u8 (b : Int), .int .i32 v]] w fun en w' => en = .returned (.tuple #[.int .u32 (W : Int), .int .i64 0]) ∧ Below w.heap.size w w'))
    : Calls Tryd.prog 5 #[.int .u8 (k : Int), .int .u32 (m : Int), .int .i32 v] w fun en w' => en = .returned (.tuple #[.int .u32 (W : Int), .int .i64 0]) ∧ Below w.heap.size w w' := by
  have G := Lib.hid hg
  have hs := hg.size
  clear hg
  go_enter Tryd.func5, Tryd.ntmps5
  go_wp2_with fail
  refine (KI.out _).mono ?_
  rintro _ _ ⟨rfl, rfl⟩
  go_wp2_with fail
  refine (KG.out _ G.out).mono ?_
  rintro _ w1 ⟨rfl, q1⟩
  have z1 := q1.size
  have l1 : w.heap.size < w1.heap.size + 1 := by omega
  have g1 : Below w.heap.size w (w1.alloc (.cells #[.int .u8 (o : Int), .int .u8 (d : Int), .int .u8 (a : Int), .int .u8 (b : Int), .int .i32 n] 30)) := q1.alloc z1 _
  have gv : Below w.heap.size w (w1.alloc (.cells #[.int .u8 (o : Int), .int .u8 (d : Int), .int .u8 (a : Int), .int .u8 (b : Int), .int .i32 v] 30)) := q1.alloc z1 _
  clear q1
  go_wp2_with fail
  refine (KH.out _).mono ?_
  rintro _ _ ⟨rfl, rfl⟩
  go_wp2_with fail
  refine (KP.out _ ?_).mono ?_
  · exact G.out.below gv hs
  rintro _ w2 ⟨rfl, q2⟩
  have z2 := q2.size
  simp at z2
  have g2 : Below w.heap.size w w2 := gv.trans (q2.mono (by simp; omega))
  clear q2
  go_wp2_with fail
  go_ret2
  exact ⟨rfl, g2⟩
theorem pAB (k m o d a b W : Nat) (n v : Int) (w : World) (hg : Glob w)
    (t0 : ((k : Int) == 0) = false) (t1 : ((k : Int) == 1) = false) (t51 : ((k : Int) == 51) = false)
    (KI : Hid (∀ w : World, Calls Tryd.prog 10 #[.int .u8 (k : Int)] w fun en w' => en = .returned (.bool true) ∧ w = w'))
    (KG : Hid (∀ w : World, Glob w → Calls Tryd.prog 11 #[.int .u32 (m : Int)] w fun en w' => en = .returned (.tuple #[.agg #[.int .u8 (o : Int), .int .u8 (d : Int), .int .u8 (a : Int), .int .u8 (b : Int), .int .i32 n], .int .i64 0]) ∧ Below w.heap.size w w'))
    (KH : Hid (∀ w : World, Calls Tryd.prog 12 #[.int .u8 (k : Int), .int .u8 (o : Int)] w fun en w' => en = .returned (.bool true) ∧ w = w'))
    (KP : Hid (∀ w : World, Glob w → Calls Tryd.prog 13 #[.agg #[.int .u8 (o : Int), .int .u8 (d : Int), .int .u8 (a : Int), .int .u8 (b : Int), .int .i32 v]] w fun en w' => en = .returned (.tuple #[.int .u32 0, .int .i64 2]) ∧ Below w.heap.size w w'))
    : Calls Tryd.prog 5 #[.int .u8 (k : Int), .int .u32 (m : Int), .int .i32 v] w fun en w' => en = .returned (.tuple #[.int .u32 0, .int .i64 3]) ∧ Below w.heap.size w w' := by
  have G := Lib.hid hg
  have hs := hg.size
  clear hg
  go_enter Tryd.func5, Tryd.ntmps5
  go_wp2_with fail
  refine (KI.out _).mono ?_
  rintro _ _ ⟨rfl, rfl⟩
  go_wp2_with fail
  refine (KG.out _ G.out).mono ?_
  rintro _ w1 ⟨rfl, q1⟩
  have z1 := q1.size
  have l1 : w.heap.size < w1.heap.size + 1 := by omega
  have g1 : Below w.heap.size w (w1.alloc (.cells #[.int .u8 (o : Int), .int .u8 (d : Int), .int .u8 (a : Int), .int .u8 (b : Int), .int .i32 n] 30)) := q1.alloc z1 _
  have gv : Below w.heap.size w (w1.alloc (.cells #[.int .u8 (o : Int), .int .u8 (d : Int), .int .u8 (a : Int), .int .u8 (b : Int), .int .i32 v] 30)) := q1.alloc z1 _
  clear q1
  go_wp2_with fail
  refine (KH.out _).mono ?_
  rintro _ _ ⟨rfl, rfl⟩
  go_wp2_with fail
  refine (KP.out _ ?_).mono ?_
  · exact G.out.below gv hs
  rintro _ w2 ⟨rfl, q2⟩
  have z2 := q2.size
  simp at z2
  have g2 : Below w.heap.size w w2 := gv.trans (q2.mono (by simp; omega))
  clear q2
  go_wp2_with fail
  go_ret2
  exact ⟨rfl, g2⟩
theorem pAN (k m o d a b W : Nat) (n v : Int) (w : World) (hg : Glob w)
    (t0 : ((k : Int) == 0) = false) (t1 : ((k : Int) == 1) = false) (t51 : ((k : Int) == 51) = false)
    (KI : Hid (∀ w : World, Calls Tryd.prog 10 #[.int .u8 (k : Int)] w fun en w' => en = .returned (.bool true) ∧ w = w'))
    (KG : Hid (∀ w : World, Glob w → Calls Tryd.prog 11 #[.int .u32 (m : Int)] w fun en w' => en = .returned (.tuple #[.agg #[.int .u8 (o : Int), .int .u8 (d : Int), .int .u8 (a : Int), .int .u8 (b : Int), .int .i32 n], .int .i64 0]) ∧ Below w.heap.size w w'))
    (KH : Hid (∀ w : World, Calls Tryd.prog 12 #[.int .u8 (k : Int), .int .u8 (o : Int)] w fun en w' => en = .returned (.bool false) ∧ w = w'))
    : Calls Tryd.prog 5 #[.int .u8 (k : Int), .int .u32 (m : Int), .int .i32 v] w fun en w' => en = .returned (.tuple #[.int .u32 0, .int .i64 5]) ∧ Below w.heap.size w w' := by
  have G := Lib.hid hg
  have hs := hg.size
  clear hg
  go_enter Tryd.func5, Tryd.ntmps5
  go_wp2_with fail
  refine (KI.out _).mono ?_
  rintro _ _ ⟨rfl, rfl⟩
  go_wp2_with fail
  refine (KG.out _ G.out).mono ?_
  rintro _ w1 ⟨rfl, q1⟩
  have z1 := q1.size
  have l1 : w.heap.size < w1.heap.size + 1 := by omega
  have g1 : Below w.heap.size w (w1.alloc (.cells #[.int .u8 (o : Int), .int .u8 (d : Int), .int .u8 (a : Int), .int .u8 (b : Int), .int .i32 n] 30)) := q1.alloc z1 _
  have gv : Below w.heap.size w (w1.alloc (.cells #[.int .u8 (o : Int), .int .u8 (d : Int), .int .u8 (a : Int), .int .u8 (b : Int), .int .i32 v] 30)) := q1.alloc z1 _
  clear q1
  go_wp2_with fail
  refine (KH.out _).mono ?_
  rintro _ _ ⟨rfl, rfl⟩
  go_wp2_with fail
  go_ret2
  exact ⟨rfl, g1⟩
theorem pE (k m o d a b W : Nat) (n v : Int) (w : World) (hg : Glob w)
    (t0 : ((k : Int) == 0) = false) (t1 : ((k : Int) == 1) = false) (t51 : ((k : Int) == 51) = false)
    (KI : Hid (∀ w : World, Calls Tryd.prog 10 #[.int .u8 (k : Int)] w fun en w' => en = .returned (.bool true) ∧ w = w'))
    (KG : Hid (∀ w : World, Glob w → Calls Tryd.prog 11 #[.int .u32 (m : Int)] w fun en w' => en = .returned (.tuple #[.agg #[.int .u8 0, .int .u8 0, .int .u8 0, .int .u8 0, .int .i32 0], .int .i64 5]) ∧ Below w.heap.size w w'))
    : Calls Tryd.prog 5 #[.int .u8 (k : Int), .int .u32 (m : Int), .int .i32 v] w fun en w' => en = .returned (.tuple #[.int .u32 0, .int .i64 5]) ∧ Below w.heap.size w w' := by
  have G := Lib.hid hg
  have hs := hg.size
  clear hg
  go_enter Tryd.func5, Tryd.ntmps5
  go_wp2_with fail
  refine (KI.out _).mono ?_
  rintro _ _ ⟨rfl, rfl⟩
  go_wp2_with fail
  refine (KG.out _ G.out).mono ?_
  rintro _ w1 ⟨rfl, q1⟩
  have z1 := q1.size
  have l1 : w.heap.size < w1.heap.size + 1 := by omega
  have g1 : Below w.heap.size w (w1.alloc (.cells #[.int .u8 0, .int .u8 0, .int .u8 0, .int .u8 0, .int .i32 0] 30)) := q1.alloc z1 _
  have gv : Below w.heap.size w (w1.alloc (.cells #[.int .u8 0, .int .u8 0, .int .u8 0, .int .u8 0, .int .i32 0] 30)) := q1.alloc z1 _
  clear q1
  go_wp2_with fail
  go_ret2
  exact ⟨rfl, g1⟩
theorem pNo (k m o d a b W : Nat) (n v : Int) (w : World) (hg : Glob w)
    (KI : Hid (∀ w : World, Calls Tryd.prog 10 #[.int .u8 (k : Int)] w fun en w' => en = .returned (.bool false) ∧ w = w'))
    : Calls Tryd.prog 5 #[.int .u8 (k : Int), .int .u32 (m : Int), .int .i32 v] w fun en w' => en = .returned (.tuple #[.int .u32 0, .int .i64 5]) ∧ Below w.heap.size w w' := by
  have G := Lib.hid hg
  have hs := hg.size
  clear hg
  go_enter Tryd.func5, Tryd.ntmps5
  go_wp2_with fail
  refine (KI.out _).mono ?_
  rintro _ _ ⟨rfl, rfl⟩
  go_wp2_with fail
  go_ret2
  exact ⟨rfl, Below.refl _ _⟩
theorem rAA (k m o d a b W : Nat) (n v : Int) (w : World) (hg : Glob w)
    (t0 : ((k : Int) == 0) = false) (t1 : ((k : Int) == 1) = false) (t51 : ((k : Int) == 51) = false)
    (KI : Hid (∀ w : World, Calls Tryd.prog 14 #[.int .u8 (k : Int)] w fun en w' => en = .returned (.bool true) ∧ w = w'))
    (KG : Hid (∀ w : World, Glob w → Calls Tryd.prog 9 #[.int .u32 (m : Int)] w fun en w' => en = .returned (.tuple #[.agg #[.int .u8 (o : Int), .int .u8 (d : Int), .int .u8 (a : Int), .int .u8 (b : Int), .int .i32 n], .int .i64 0]) ∧ Below w.heap.size w w'))
    (KH : Hid (∀ w : World, Calls Tryd.prog 15 #[.int .u8 (k : Int), .int .u8 (o : Int)] w fun en w' => en = .returned (.bool true) ∧ w = w'))
    (KP : Hid (∀ w : World, Glob w → Calls Tryd.prog 8 #[.agg #[.int .u8 (o : Int), .int .u8 (d : Int), .int .u8 (a : Int), .int .u8 (b : Int), .int .i32 v]] w fun en w' => en = .returned (.tuple #[.int .u32 (W : Int), .int .i64 0]) ∧ Below w.heap.size w w'))
    : Calls Tryd.prog 6 #[.int .u8 (k : Int), .int .u32 (m : Int), .int .i32 v] w fun en w' => en = .returned (.tuple #[.int .u32 (W : Int), .int .i64 0]) ∧ Below w.heap.size w w' := by
  have G := Lib.hid hg
  have hs := hg.size
  clear hg
  go_enter Tryd.func6, Tryd.ntmps6
  go_wp2_with fail
  refine (KG.out _ G.out).mono ?_
  rintro _ w1 ⟨rfl, q1⟩
  have z1 := q1.size
  have l1 : w.heap.size < w1.heap.size + 1 := by omega
  have g1 : Below w.heap.size w (w1.alloc (.cells #[.int .u8 (o : Int), .int .u8 (d : Int), .int .u8 (a : Int), .int .u8 (b : Int), .int .i32 n] 30)) := q1.alloc z1 _
  have gv : Below w.heap.size w (w1.alloc (.cells #[.int .u8 (o : Int), .int .u8 (d : Int), .int .u8 (a : Int), .int .u8 (b : Int), .int .i32 v] 30)) := q1.alloc z1 _
  clear q1
  go_wp2_with fail
  refine (KI.out _).mono ?_
  rintro _ _ ⟨rfl, rfl⟩
  go_wp2_with fail
  refine (KH.out _).mono ?_
  rintro _ _ ⟨rfl, rfl⟩
  go_wp2_with fail
  refine (KP.out _ ?_).mono ?_
  · exact G.out.below gv hs
  rintro _ w2 ⟨rfl, q2⟩
  have z2 := q2.size
  simp at z2
  have g2 : Below w.heap.size w w2 := gv.trans (q2.mono (by simp; omega))
  clear q2
  go_wp2_with fail
  go_ret2
  exact ⟨rfl, g2⟩
theorem rAB (k m o d a b W : Nat) (n v : Int) (w : World) (hg : Glob w)
    (t0 : ((k : Int) == 0) = false) (t1 : ((k : Int) == 1) = false) (t51 : ((k : Int) == 51) = false)
    (KI : Hid (∀ w : World, Calls Tryd.prog 14 #[.int .u8 (k : Int)] w fun en w' => en = .returned (.bool true) ∧ w = w'))
    (KG : Hid (∀ w : World, Glob w → Calls Tryd.prog 9 #[.int .u32 (m : Int)] w fun en w' => en = .returned (.tuple #[.agg #[.int .u8 (o : Int), .int .u8 (d : Int), .int .u8 (a : Int), .int .u8 (b : Int), .int .i32 n], .int .i64 0]) ∧ Below w.heap.size w w'))
    (KH : Hid (∀ w : World, Calls Tryd.prog 15 #[.int .u8 (k : Int), .int .u8 (o : Int)] w fun en w' => en = .returned (.bool true) ∧ w = w'))
    (KP : Hid (∀ w : World, Glob w → Calls Tryd.prog 8 #[.agg #[.int .u8 (o : Int), .int .u8 (d : Int), .int .u8 (a : Int), .int .u8 (b : Int), .int .i32 v]] w fun en w' => en = .returned (.tuple #[.int .u32 0, .int .i64 2]) ∧ Below w.heap.size w w'))
    : Calls Tryd.prog 6 #[.int .u8 (k : Int), .int .u32 (m : Int), .int .i32 v] w fun en w' => en = .returned (.tuple #[.int .u32 0, .int .i64 3]) ∧ Below w.heap.size w w' := by
  have G := Lib.hid hg
  have hs := hg.size
  clear hg
  go_enter Tryd.func6, Tryd.ntmps6
  go_wp2_with fail
  refine (KG.out _ G.out).mono ?_
  rintro _ w1 ⟨rfl, q1⟩
  have z1 := q1.size
  have l1 : w.heap.size < w1.heap.size + 1 := by omega
  have g1 : Below w.heap.size w (w1.alloc (.cells #[.int .u8 (o : Int), .int .u8 (d : Int), .int .u8 (a : Int), .int .u8 (b : Int), .int .i32 n] 30)) := q1.alloc z1 _
  have gv : Below w.heap.size w (w1.alloc (.cells #[.int .u8 (o : Int), .int .u8 (d : Int), .int .u8 (a : Int), .int .u8 (b : Int), .int .i32 v] 30)) := q1.alloc z1 _
  clear q1
  go_wp2_with fail
  refine (KI.out _).mono ?_
  rintro _ _ ⟨rfl, rfl⟩
  go_wp2_with fail
  refine (KH.out _).mono ?_
  rintro _ _ ⟨rfl, rfl⟩
  go_wp2_with fail
  refine (KP.out _ ?_).mono ?_
  · exact G.out.below gv hs
  rintro _ w2 ⟨rfl, q2⟩
  have z2 := q2.size
  simp at z2
  have g2 : Below w.heap.size w w2 := gv.trans (q2.mono (by simp; omega))
  clear q2
  go_wp2_with fail
  go_ret2
  exact ⟨rfl, g2⟩
theorem rAN (k m o d a b W : Nat) (n v : Int) (w : World) (hg : Glob w)
    (t0 : ((k : Int) == 0) = false) (t1 : ((k : Int) == 1) = false) (t51 : ((k : Int) == 51) = false)
    (KI : Hid (∀ w : World, Calls Tryd.prog 14 #[.int .u8 (k : Int)] w fun en w' => en = .returned (.bool true) ∧ w = w'))
    (KG : Hid (∀ w : World, Glob w → Calls Tryd.prog 9 #[.int .u32 (m : Int)] w fun en w' => en = .returned (.tuple #[.agg #[.int .u8 (o : Int), .int .u8 (d : Int), .int .u8 (a : Int), .int .u8 (b : Int), .int .i32 n], .int .i64 0]) ∧ Below w.heap.size w w'))
    (KH : Hid (∀ w : World, Calls Tryd.prog 15 #[.int .u8 (k : Int), .int .u8 (o : Int)] w fun en w' => en = .returned (.bool false) ∧ w = w'))
    : Calls Tryd.prog 6 #[.int .u8 (k : Int), .int .u32 (m : Int), .int .i32 v] w fun en w' => en = .returned (.tuple #[.int .u32 0, .int .i64 5]) ∧ Below w.heap.size w w' := by
  have G := Lib.hid hg
  have hs := hg.size
  clear hg
  go_enter Tryd.func6, Tryd.ntmps6
  go_wp2_with fail
  refine (KG.out _ G.out).mono ?_
  rintro _ w1 ⟨rfl, q1⟩
  have z1 := q1.size
  have l1 : w.heap.size < w1.heap.size + 1 := by omega
  have g1 : Below w.heap.size w (w1.alloc (.cells #[.int .u8 (o : Int), .int .u8 (d : Int), .int .u8 (a : Int), .int .u8 (b : Int), .int .i32 n] 30)) := q1.alloc z1 _
  have gv : Below w.heap.size w (w1.alloc (.cells #[.int .u8 (o : Int), .int .u8 (d : Int), .int .u8 (a : Int), .int .u8 (b : Int), .int .i32 v] 30)) := q1.alloc z1 _
  clear q1
  go_wp2_with fail
  refine (KI.out _).mono ?_
  rintro _ _ ⟨rfl, rfl⟩
  go_wp2_with fail
  refine (KH.out _).mono ?_
  rintro _ _ ⟨rfl, rfl⟩
  go_wp2_with fail
  go_ret2
  exact ⟨rfl, g1⟩
theorem rE (k m o d a b W : Nat) (n v : Int) (w : World) (hg : Glob w)
    (t0 : ((k : Int) == 0) = false) (t1 : ((k : Int) == 1) = false) (t51 : ((k : Int) == 51) = false)
    (KI : Hid (∀ w : World, Calls Tryd.prog 14 #[.int .u8 (k : Int)] w fun en w' => en = .returned (.bool true) ∧ w = w'))
    (KG : Hid (∀ w : World, Glob w → Calls Tryd.prog 9 #[.int .u32 (m : Int)] w fun en w' => en = .returned (.tuple #[.agg #[.int .u8 0, .int .u8 0, .int .u8 0, .int .u8 0, .int .i32 0], .int .i64 5]) ∧ Below w.heap.size w w'))
    : Calls Tryd.prog 6 #[.int .u8 (k : Int), .int .u32 (m : Int), .int .i32 v] w fun en w' => en = .returned (.tuple #[.int .u32 0, .int .i64 5]) ∧ Below w.heap.size w w' := by
  have G := Lib.hid hg
  have hs := hg.size
  clear hg
  go_enter Tryd.func6, Tryd.ntmps6
  go_wp2_with fail
  refine (KG.out _ G.out).mono ?_
  rintro _ w1 ⟨rfl, q1⟩
  have z1 := q1.size
  have l1 : w.heap.size < w1.heap.size + 1 := by omega
  have g1 : Below w.heap.size w (w1.alloc (.cells #[.int .u8 0, .int .u8 0, .int .u8 0, .int .u8 0, .int .i32 0] 30)) := q1.alloc z1 _
  have gv : Below w.heap.size w (w1.alloc (.cells #[.int .u8 0, .int .u8 0, .int .u8 0, .int .u8 0, .int .i32 0] 30)) := q1.alloc z1 _
  clear q1
  go_wp2_with fail
  refine (KI.out _).mono ?_
  rintro _ _ ⟨rfl, rfl⟩
  go_wp2_with fail
  go_ret2
  exact ⟨rfl, g1⟩
theorem rNoA (k m o d a b W : Nat) (n v : Int) (w : World) (hg : Glob w)
    (t0 : ((k : Int) == 0) = false) (t1 : ((k : Int) == 1) = false) (t51 : ((k : Int) == 51) = false)
    (KI : Hid (∀ w : World, Calls Tryd.prog 14 #[.int .u8 (k : Int)] w fun en w' => en = .returned (.bool false) ∧ w = w'))
    (KG : Hid (∀ w : World, Glob w → Calls Tryd.prog 9 #[.int .u32 (m : Int)] w fun en w' => en = .returned (.tuple #[.agg #[.int .u8 (o : Int), .int .u8 (d : Int), .int .u8 (a : Int), .int .u8 (b : Int), .int .i32 n], .int .i64 0]) ∧ Below w.heap.size w w'))
    : Calls Tryd.prog 6 #[.int .u8 (k : Int), .int .u32 (m : Int), .int .i32 v] w fun en w' => en = .returned (.tuple #[.int .u32 0, .int .i64 5]) ∧ Below w.heap.size w w' := by
  have G := Lib.hid hg
  have hs := hg.size
  clear hg
  go_enter Tryd.func6, Tryd.ntmps6
  go_wp2_with fail
  refine (KG.out _ G.out).mono ?_
  rintro _ w1 ⟨rfl, q1⟩
  have z1 := q1.size
  have l1 : w.heap.size < w1.heap.size + 1 := by omega
  have g1 : Below w.heap.size w (w1.alloc (.cells #[.int .u8 (o : Int), .int .u8 (d : Int), .int .u8 (a : Int), .int .u8 (b : Int), .int .i32 n] 30)) := q1.alloc z1 _
  have gv : Below w.heap.size w (w1.alloc (.cells #[.int .u8 (o : Int), .int .u8 (d : Int), .int .u8 (a : Int), .int .u8 (b : Int), .int .i32 v] 30)) := q1.alloc z1 _
  clear q1
  go_wp2_with fail
  refine (KI.out _).mono ?_
  rintro _ _ ⟨rfl, rfl⟩
  go_wp2_with fail
  go_ret2
  exact ⟨rfl, g1⟩
theorem rNoE (k m o d a b W : Nat) (n v : Int) (w : World) (hg : Glob w)
    (t0 : ((k : Int) == 0) = false) (t1 : ((k : Int) == 1) = false) (t51 : ((k : Int) == 51) = false)
    (KI : Hid (∀ w : World, Calls Tryd.prog 14 #[.int .u8 (k : Int)] w fun en w' => en = .returned (.bool false) ∧ w = w'))
    (KG : Hid (∀ w : World, Glob w → Calls Tryd.prog 9 #[.int .u32 (m : Int)] w fun en w' => en = .returned (.tuple #[.agg #[.int .u8 0, .int .u8 0, .int .u8 0, .int .u8 0, .int .i32 0], .int .i64 5]) ∧ Below w.heap.size w w'))
    : Calls Tryd.prog 6 #[.int .u8 (k : Int), .int .u32 (m : Int), .int .i32 v] w fun en w' => en = .returned (.tuple #[.int .u32 0, .int .i64 5]) ∧ Below w.heap.size w w' := by
  have G := Lib.hid hg
  have hs := hg.size
  clear hg
  go_enter Tryd.func6, Tryd.ntmps6
  go_wp2_with fail
  refine (KG.out _ G.out).mono ?_
  rintro _ w1 ⟨rfl, q1⟩
  have z1 := q1.size
  have l1 : w.heap.size < w1.heap.size + 1 := by omega
  have g1 : Below w.heap.size w (w1.alloc (.cells #[.int .u8 0, .int .u8 0, .int .u8 0, .int .u8 0, .int .i32 0] 30)) := q1.alloc z1 _
  have gv : Below w.heap.size w (w1.alloc (.cells #[.int .u8 0, .int .u8 0, .int .u8 0, .int .u8 0, .int .i32 0] 30)) := q1.alloc z1 _
  clear q1
  go_wp2_with fail
  refine (KI.out _).mono ?_
  rintro _ _ ⟨rfl, rfl⟩
  go_wp2_with fail
  go_ret2
  exact ⟨rfl, g1⟩
theorem p0 (m : Nat) (v : Int) (w : World)
    (KI : Hid (∀ w : World, Calls Tryd.prog 10 #[.int .u8 0] w fun en w' => en = .returned (.bool true) ∧ w = w'))
    : Calls Tryd.prog 5 #[.int .u8 0, .int .u32 (m : Int), .int .i32 v] w fun en w' => en = .returned (.tuple #[.int .u32 (m : Int), .int .i64 0]) ∧ Below w.heap.size w w' := by
  go_enter Tryd.func5, Tryd.ntmps5
  go_wp2_with fail
  refine (KI.out _).mono ?_
  rintro _ _ ⟨rfl, rfl⟩
  go_wp2_with fail
  go_ret2
  exact ⟨rfl, Below.refl _ _⟩
theorem p51 (m : Nat) (v : Int) (w : World)
    (KI : Hid (∀ w : World, Calls Tryd.prog 10 #[.int .u8 51] w fun en w' => en = .returned (.bool true) ∧ w = w'))
    : Calls Tryd.prog 5 #[.int .u8 51, .int .u32 (m : Int), .int .i32 v] w fun en w' => en = .returned (.tuple #[.int .u32 (m : Int), .int .i64 0]) ∧ Below w.heap.size w w' := by
  go_enter Tryd.func5, Tryd.ntmps5
  go_wp2_with fail
  refine (KI.out _).mono ?_
  rintro _ _ ⟨rfl, rfl⟩
  go_wp2_with fail
  go_ret2
  exact ⟨rfl, Below.refl _ _⟩
theorem p1 (m : Nat) (v : Int) (w : World)
    (KI : Hid (∀ w : World, Calls Tryd.prog 10 #[.int .u8 1] w fun en w' => en = .returned (.bool true) ∧ w = w'))
    : Calls Tryd.prog 5 #[.int .u8 1, .int .u32 (m : Int), .int .i32 v] w fun en w' => en = .returned (.tuple #[.int .u32 (v % 4294967296), .int .i64 0]) ∧ Below w.heap.size w w' := by
  go_enter Tryd.func5, Tryd.ntmps5
  go_wp2_with fail
  refine (KI.out _).mono ?_
  rintro _ _ ⟨rfl, rfl⟩
  go_wp2_with fail
  go_ret2
  exact ⟨rfl, Below.refl _ _⟩
theorem r0 (m : Nat) (v : Int) (w : World)
    : Calls Tryd.prog 6 #[.int .u8 0, .int .u32 (m : Int), .int .i32 v] w fun en w' => en = .returned (.tuple #[.int .u32 (m : Int), .int .i64 0]) ∧ Below w.heap.size w w' := by
  go_enter Tryd.func6, Tryd.ntmps6
  go_wp2_with fail
  go_ret2
  exact ⟨rfl, Below.refl _ _⟩
theorem r51 (m : Nat) (v : Int) (w : World)
    : Calls Tryd.prog 6 #[.int .u8 51, .int .u32 (m : Int), .int .i32 v] w fun en w' => en = .returned (.tuple #[.int .u32 (m : Int), .int .i64 0]) ∧ Below w.heap.size w w' := by
  go_enter Tryd.func6, Tryd.ntmps6
  go_wp2_with fail
  go_ret2
  exact ⟨rfl, Below.refl _ _⟩
theorem r1 (m : Nat) (v : Int) (w : World)
    : Calls Tryd.prog 6 #[.int .u8 1, .int .u32 (m : Int), .int .i32 v] w fun en w' => en = .returned (.tuple #[.int .u32 (v % 4294967296), .int .i64 0]) ∧ Below w.heap.size w w' := by
  go_enter Tryd.func6, Tryd.ntmps6
  go_wp2_with fail
  go_ret2
  exact ⟨rfl, Below.refl _ _⟩
end Go.Proofs.YtkiojljopigldaaDoor.Rel
