import Derived.Test.YtkiojljopigldaaDoorQh
namespace Go.Proofs.YtkiojljopigldaaDoor.Rel
open Go.ChangeShapes Go.WideShapes Go.ChangeAt Go.RowKit
set_option linter.unusedVariables false
theorem l4E (k o d a b W X : Nat) (n v : Int) (w : World) (hg : Glob w)
    (KP : Hid (∀ w : World, Glob w → Calls Tryd.prog 8 #[.agg #[.int .u8 (o : Int), .int .u8 (d : Int), .int .u8 (a : Int), .int .u8 (b : Int), .int .i32 n]] w fun en w' => en = .returned (.tuple #[.int .u32 0, .int .i64 2]) ∧ Below w.heap.size w w'))
    : Calls Tryd.prog 4 #[.int .u8 (k : Int), .agg #[.int .u8 (o : Int), .int .u8 (d : Int), .int .u8 (a : Int), .int .u8 (b : Int), .int .i32 n], .int .i32 v] w fun en w' => en = .returned (.bool true) ∧ Below w.heap.size w w' := by
  have G := Lib.hid hg
  have hs := hg.size
  clear hg
  have a0 : Below w.heap.size w (w.alloc (.cells #[.int .u8 (o : Int), .int .u8 (d : Int), .int .u8 (a : Int), .int .u8 (b : Int), .int .i32 n] 30)) := (Below.refl _ _).alloc (Nat.le_refl _) _
  have l0 : w.heap.size < w.heap.size + 1 := by omega
  go_enter Tryd.func4, Tryd.ntmps4
  go_wp2_with fail
  refine (KP.out _ (G.out.below a0 hs)).mono ?_
  rintro _ w1 ⟨rfl, q1⟩
  have z1 := q1.size
  simp at z1
  have l1 : w.heap.size < w1.heap.size := by omega
  have g1 : Below w.heap.size w w1 := a0.trans (q1.mono (by simp))
  have G1 := Lib.hid (G.out.below g1 hs)
  obtain ⟨hc1, hf1⟩ := bcell q1
  clear q1 a0
  go_wp2_with fail
  refine (works _).mono ?_
  rintro _ _ ⟨rfl, rfl⟩
  go_wp2_with fail
  go_ret
  exact ⟨rfl, g1⟩
theorem l4F5 (k o d a b W X : Nat) (n v : Int) (w : World) (hg : Glob w)
    (KP : Hid (∀ w : World, Glob w → Calls Tryd.prog 8 #[.agg #[.int .u8 (o : Int), .int .u8 (d : Int), .int .u8 (a : Int), .int .u8 (b : Int), .int .i32 n]] w fun en w' => en = .returned (.tuple #[.int .u32 (W : Int), .int .i64 0]) ∧ Below w.heap.size w w'))
    (KF : Hid (∀ w : World, Glob w → Calls Tryd.prog 5 #[.int .u8 (k : Int), .int .u32 (W : Int), .int .i32 v] w fun en w' => en = .returned (.tuple #[.int .u32 0, .int .i64 5]) ∧ Below w.heap.size w w'))
    : Calls Tryd.prog 4 #[.int .u8 (k : Int), .agg #[.int .u8 (o : Int), .int .u8 (d : Int), .int .u8 (a : Int), .int .u8 (b : Int), .int .i32 n], .int .i32 v] w fun en w' => en = .returned (.bool true) ∧ Below w.heap.size w w' := by
  have G := Lib.hid hg
  have hs := hg.size
  clear hg
  have a0 : Below w.heap.size w (w.alloc (.cells #[.int .u8 (o : Int), .int .u8 (d : Int), .int .u8 (a : Int), .int .u8 (b : Int), .int .i32 n] 30)) := (Below.refl _ _).alloc (Nat.le_refl _) _
  have l0 : w.heap.size < w.heap.size + 1 := by omega
  go_enter Tryd.func4, Tryd.ntmps4
  go_wp2_with fail
  refine (KP.out _ (G.out.below a0 hs)).mono ?_
  rintro _ w1 ⟨rfl, q1⟩
  have z1 := q1.size
  simp at z1
  have l1 : w.heap.size < w1.heap.size := by omega
  have g1 : Below w.heap.size w w1 := a0.trans (q1.mono (by simp))
  have G1 := Lib.hid (G.out.below g1 hs)
  obtain ⟨hc1, hf1⟩ := bcell q1
  clear q1 a0
  go_wp2_with fail
  refine (KF.out _ G1.out).mono ?_
  rintro _ w2 ⟨rfl, q2⟩
  have z2 := q2.size
  have l2 : w.heap.size < w2.heap.size := by omega
  have g2 : Below w.heap.size w w2 := g1.trans (q2.mono (by omega))
  have G2 := Lib.hid (G.out.below g2 hs)
  obtain ⟨hc2, hf2⟩ := bcell q2
  clear q2
  go_wp2_with fail
  refine (works _).mono ?_
  rintro _ _ ⟨rfl, rfl⟩
  go_wp2_with fail
  go_ret
  exact ⟨rfl, g2⟩
theorem l4F3 (k o d a b W X : Nat) (n v : Int) (w : World) (hg : Glob w)
    (KP : Hid (∀ w : World, Glob w → Calls Tryd.prog 8 #[.agg #[.int .u8 (o : Int), .int .u8 (d : Int), .int .u8 (a : Int), .int .u8 (b : Int), .int .i32 n]] w fun en w' => en = .returned (.tuple #[.int .u32 (W : Int), .int .i64 0]) ∧ Below w.heap.size w w'))
    (KF : Hid (∀ w : World, Glob w → Calls Tryd.prog 5 #[.int .u8 (k : Int), .int .u32 (W : Int), .int .i32 v] w fun en w' => en = .returned (.tuple #[.int .u32 0, .int .i64 3]) ∧ Below w.heap.size w w'))
    : Calls Tryd.prog 4 #[.int .u8 (k : Int), .agg #[.int .u8 (o : Int), .int .u8 (d : Int), .int .u8 (a : Int), .int .u8 (b : Int), .int .i32 n], .int .i32 v] w fun en w' => en = .returned (.bool true) ∧ Below w.heap.size w w' := by
  have G := Lib.hid hg
  have hs := hg.size
  clear hg
  have a0 : Below w.heap.size w (w.alloc (.cells #[.int .u8 (o : Int), .int .u8 (d : Int), .int .u8 (a : Int), .int .u8 (b : Int), .int .i32 n] 30)) := (Below.refl _ _).alloc (Nat.le_refl _) _
  have l0 : w.heap.size < w.heap.size + 1 := by omega
  go_enter Tryd.func4, Tryd.ntmps4
  go_wp2_with fail
  refine (KP.out _ (G.out.below a0 hs)).mono ?_
  rintro _ w1 ⟨rfl, q1⟩
  have z1 := q1.size
  simp at z1
  have l1 : w.heap.size < w1.heap.size := by omega
  have g1 : Below w.heap.size w w1 := a0.trans (q1.mono (by simp))
  have G1 := Lib.hid (G.out.below g1 hs)
  obtain ⟨hc1, hf1⟩ := bcell q1
  clear q1 a0
  go_wp2_with fail
  refine (KF.out _ G1.out).mono ?_
  rintro _ w2 ⟨rfl, q2⟩
  have z2 := q2.size
  have l2 : w.heap.size < w2.heap.size := by omega
  have g2 : Below w.heap.size w w2 := g1.trans (q2.mono (by omega))
  have G2 := Lib.hid (G.out.below g2 hs)
  obtain ⟨hc2, hf2⟩ := bcell q2
  clear q2
  go_wp2_with fail
  refine (works _).mono ?_
  rintro _ _ ⟨rfl, rfl⟩
  go_wp2_with fail
  go_ret
  exact ⟨rfl, g2⟩
theorem l4_0 (o d a b W X : Nat) (n v : Int) (w : World) (hg : Glob w)
    (KP : Hid (∀ w : World, Glob w → Calls Tryd.prog 8 #[.agg #[.int .u8 (o : Int), .int .u8 (d : Int), .int .u8 (a : Int), .int .u8 (b : Int), .int .i32 n]] w fun en w' => en = .returned (.tuple #[.int .u32 (W : Int), .int .i64 0]) ∧ Below w.heap.size w w'))
    (KF : Hid (∀ w : World, Glob w → Calls Tryd.prog 5 #[.int .u8 0, .int .u32 (W : Int), .int .i32 v] w fun en w' => en = .returned (.tuple #[.int .u32 (W : Int), .int .i64 0]) ∧ Below w.heap.size w w'))
    : Calls Tryd.prog 4 #[.int .u8 0, .agg #[.int .u8 (o : Int), .int .u8 (d : Int), .int .u8 (a : Int), .int .u8 (b : Int), .int .i32 n], .int .i32 v] w fun en w' => en = .returned (.bool true) ∧ Below w.heap.size w w' := by
  have G := Lib.hid hg
  have hs := hg.size
  clear hg
  have a0 : Below w.heap.size w (w.alloc (.cells #[.int .u8 (o : Int), .int .u8 (d : Int), .int .u8 (a : Int), .int .u8 (b : Int), .int .i32 n] 30)) := (Below.refl _ _).alloc (Nat.le_refl _) _
  have l0 : w.heap.size < w.heap.size + 1 := by omega
  go_enter Tryd.func4, Tryd.ntmps4
  go_wp2_with fail
  refine (KP.out _ (G.out.below a0 hs)).mono ?_
  rintro _ w1 ⟨rfl, q1⟩
  have z1 := q1.size
  simp at z1
  have l1 : w.heap.size < w1.heap.size := by omega
  have g1 : Below w.heap.size w w1 := a0.trans (q1.mono (by simp))
  have G1 := Lib.hid (G.out.below g1 hs)
  obtain ⟨hc1, hf1⟩ := bcell q1
  clear q1 a0
  go_wp2_with fail
  refine (KF.out _ G1.out).mono ?_
  rintro _ w2 ⟨rfl, q2⟩
  have z2 := q2.size
  have l2 : w.heap.size < w2.heap.size := by omega
  have g2 : Below w.heap.size w w2 := g1.trans (q2.mono (by omega))
  have G2 := Lib.hid (G.out.below g2 hs)
  obtain ⟨hc2, hf2⟩ := bcell q2
  clear q2
  go_wp2_with fail
  refine (works _).mono ?_
  rintro _ _ ⟨rfl, rfl⟩
  go_wp2_with fail
  go_ret
  exact ⟨rfl, g2⟩
theorem l4_51 (o d a b W X : Nat) (n v : Int) (w : World) (hg : Glob w)
    (KP : Hid (∀ w : World, Glob w → Calls Tryd.prog 8 #[.agg #[.int .u8 (o : Int), .int .u8 (d : Int), .int .u8 (a : Int), .int .u8 (b : Int), .int .i32 n]] w fun en w' => en = .returned (.tuple #[.int .u32 (W : Int), .int .i64 0]) ∧ Below w.heap.size w w'))
    (KF : Hid (∀ w : World, Glob w → Calls Tryd.prog 5 #[.int .u8 51, .int .u32 (W : Int), .int .i32 v] w fun en w' => en = .returned (.tuple #[.int .u32 (W : Int), .int .i64 0]) ∧ Below w.heap.size w w'))
    : Calls Tryd.prog 4 #[.int .u8 51, .agg #[.int .u8 (o : Int), .int .u8 (d : Int), .int .u8 (a : Int), .int .u8 (b : Int), .int .i32 n], .int .i32 v] w fun en w' => en = .returned (.bool true) ∧ Below w.heap.size w w' := by
  have G := Lib.hid hg
  have hs := hg.size
  clear hg
  have a0 : Below w.heap.size w (w.alloc (.cells #[.int .u8 (o : Int), .int .u8 (d : Int), .int .u8 (a : Int), .int .u8 (b : Int), .int .i32 n] 30)) := (Below.refl _ _).alloc (Nat.le_refl _) _
  have l0 : w.heap.size < w.heap.size + 1 := by omega
  go_enter Tryd.func4, Tryd.ntmps4
  go_wp2_with fail
  refine (KP.out _ (G.out.below a0 hs)).mono ?_
  rintro _ w1 ⟨rfl, q1⟩
  have z1 := q1.size
  simp at z1
  have l1 : w.heap.size < w1.heap.size := by omega
  have g1 : Below w.heap.size w w1 := a0.trans (q1.mono (by simp))
  have G1 := Lib.hid (G.out.below g1 hs)
  obtain ⟨hc1, hf1⟩ := bcell q1
  clear q1 a0
  go_wp2_with fail
  refine (KF.out _ G1.out).mono ?_
  rintro _ w2 ⟨rfl, q2⟩
  have z2 := q2.size
  have l2 : w.heap.size < w2.heap.size := by omega
  have g2 : Below w.heap.size w w2 := g1.trans (q2.mono (by omega))
  have G2 := Lib.hid (G.out.below g2 hs)
  obtain ⟨hc2, hf2⟩ := bcell q2
  clear q2
  go_wp2_with fail
  refine (works _).mono ?_
  rintro _ _ ⟨rfl, rfl⟩
  go_wp2_with fail
  go_ret
  exact ⟨rfl, g2⟩
theorem l4_1 (o d a b W X : Nat) (n v : Int) (w : World) (hg : Glob w) (hv : v % 4294967296 = (X : Int))
    (KP : Hid (∀ w : World, Glob w → Calls Tryd.prog 8 #[.agg #[.int .u8 (o : Int), .int .u8 (d : Int), .int .u8 (a : Int), .int .u8 (b : Int), .int .i32 n]] w fun en w' => en = .returned (.tuple #[.int .u32 (W : Int), .int .i64 0]) ∧ Below w.heap.size w w'))
    (KF : Hid (∀ w : World, Glob w → Calls Tryd.prog 5 #[.int .u8 1, .int .u32 (W : Int), .int .i32 v] w fun en w' => en = .returned (.tuple #[.int .u32 (X : Int), .int .i64 0]) ∧ Below w.heap.size w w'))
    : Calls Tryd.prog 4 #[.int .u8 1, .agg #[.int .u8 (o : Int), .int .u8 (d : Int), .int .u8 (a : Int), .int .u8 (b : Int), .int .i32 n], .int .i32 v] w fun en w' => en = .returned (.bool true) ∧ Below w.heap.size w w' := by
  have G := Lib.hid hg
  have hs := hg.size
  clear hg
  have a0 : Below w.heap.size w (w.alloc (.cells #[.int .u8 (o : Int), .int .u8 (d : Int), .int .u8 (a : Int), .int .u8 (b : Int), .int .i32 n] 30)) := (Below.refl _ _).alloc (Nat.le_refl _) _
  have l0 : w.heap.size < w.heap.size + 1 := by omega
  go_enter Tryd.func4, Tryd.ntmps4
  go_wp2_with fail
  refine (KP.out _ (G.out.below a0 hs)).mono ?_
  rintro _ w1 ⟨rfl, q1⟩
  have z1 := q1.size
  simp at z1
  have l1 : w.heap.size < w1.heap.size := by omega
  have g1 : Below w.heap.size w w1 := a0.trans (q1.mono (by simp))
  have G1 := Lib.hid (G.out.below g1 hs)
  obtain ⟨hc1, hf1⟩ := bcell q1
  clear q1 a0
  go_wp2_with fail
  refine (KF.out _ G1.out).mono ?_
  rintro _ w2 ⟨rfl, q2⟩
  have z2 := q2.size
  have l2 : w.heap.size < w2.heap.size := by omega
  have g2 : Below w.heap.size w w2 := g1.trans (q2.mono (by omega))
  have G2 := Lib.hid (G.out.below g2 hs)
  obtain ⟨hc2, hf2⟩ := bcell q2
  clear q2
  go_wp2_with fail
  refine (works _).mono ?_
  rintro _ _ ⟨rfl, rfl⟩
  go_wp2_with fail
  go_ret
  exact ⟨rfl, g2⟩
theorem l4A (k o d a b W X : Nat) (n v : Int) (w : World) (hg : Glob w) (t0 : ((k : Int) == 0) = false) (t1 : ((k : Int) == 1) = false) (t51 : ((k : Int) == 51) = false)
    (KP : Hid (∀ w : World, Glob w → Calls Tryd.prog 8 #[.agg #[.int .u8 (o : Int), .int .u8 (d : Int), .int .u8 (a : Int), .int .u8 (b : Int), .int .i32 n]] w fun en w' => en = .returned (.tuple #[.int .u32 (W : Int), .int .i64 0]) ∧ Below w.heap.size w w'))
    (KF : Hid (∀ w : World, Glob w → Calls Tryd.prog 5 #[.int .u8 (k : Int), .int .u32 (W : Int), .int .i32 v] w fun en w' => en = .returned (.tuple #[.int .u32 (X : Int), .int .i64 0]) ∧ Below w.heap.size w w'))
    (KG : Hid (∀ w : World, Glob w → Calls Tryd.prog 9 #[.int .u32 (X : Int)] w fun en w' => en = .returned (.tuple #[.agg #[.int .u8 (o : Int), .int .u8 (d : Int), .int .u8 (a : Int), .int .u8 (b : Int), .int .i32 v], .int .i64 0]) ∧ Below w.heap.size w w'))
    (KE : Hid (∀ wz : World, (Op.equalIn 10000 30 (.agg #[.int .u8 (o : Int), .int .u8 (d : Int), .int .u8 (a : Int), .int .u8 (b : Int), .int .i32 v]) (.agg #[.int .u8 (o : Int), .int .u8 (d : Int), .int .u8 (a : Int), .int .u8 (b : Int), .int .i32 v])).run Tryd.prog wz = .ok true wz))
    : Calls Tryd.prog 4 #[.int .u8 (k : Int), .agg #[.int .u8 (o : Int), .int .u8 (d : Int), .int .u8 (a : Int), .int .u8 (b : Int), .int .i32 n], .int .i32 v] w fun en w' => en = .returned (.bool true) ∧ Below w.heap.size w w' := by
  have G := Lib.hid hg
  have hs := hg.size
  clear hg
  have a0 : Below w.heap.size w (w.alloc (.cells #[.int .u8 (o : Int), .int .u8 (d : Int), .int .u8 (a : Int), .int .u8 (b : Int), .int .i32 n] 30)) := (Below.refl _ _).alloc (Nat.le_refl _) _
  have l0 : w.heap.size < w.heap.size + 1 := by omega
  go_enter Tryd.func4, Tryd.ntmps4
  go_wp2_with fail
  refine (KP.out _ (G.out.below a0 hs)).mono ?_
  rintro _ w1 ⟨rfl, q1⟩
  have z1 := q1.size
  simp at z1
  have l1 : w.heap.size < w1.heap.size := by omega
  have g1 : Below w.heap.size w w1 := a0.trans (q1.mono (by simp))
  have G1 := Lib.hid (G.out.below g1 hs)
  obtain ⟨hc1, hf1⟩ := bcell q1
  clear q1 a0
  go_wp2_with fail
  refine (KF.out _ G1.out).mono ?_
  rintro _ w2 ⟨rfl, q2⟩
  have z2 := q2.size
  have l2 : w.heap.size < w2.heap.size := by omega
  have g2 : Below w.heap.size w w2 := g1.trans (q2.mono (by omega))
  have G2 := Lib.hid (G.out.below g2 hs)
  obtain ⟨hc2, hf2⟩ := bcell q2
  clear q2
  go_wp2_with fail
  refine (KG.out _ G2.out).mono ?_
  rintro _ w3 ⟨rfl, q3⟩
  have z3 := q3.size
  have l3 : w.heap.size < w3.heap.size := by omega
  have l4 : w3.heap.size < w3.heap.size + 1 := by omega
  have l5 : w.heap.size ≠ w3.heap.size := by omega
  have g3 : Below w.heap.size w w3 := g2.trans (q3.mono (by omega))
  obtain ⟨hc3, hf3⟩ := bcell q3
  clear q3
  have kE := KE.out
  go_wp2_with fail
  refine (works _).mono ?_
  rintro _ _ ⟨rfl, rfl⟩
  go_wp2_with fail
  go_ret
  exact ⟨rfl, (g3.setCell (Nat.le_refl _) _).alloc (by simp; omega) _⟩
theorem law4 (k o d a b : Nat) (n v : Int) (hk : k < 256) (ho : o < 256) (hd : d < 256) (ha : a < 256) (hb : b < 256) (hn : i32 n) (hv : i32 v) (w : World) (hg : Glob w) :
    Calls Tryd.prog 4 #[.int .u8 (k : Int), .agg #[.int .u8 (o : Int), .int .u8 (d : Int), .int .u8 (a : Int), .int .u8 (b : Int), .int .i32 n], .int .i32 v] w fun en w' => en = .returned (.bool true) ∧ Below w.heap.size w w' := by
  have hP := fun (w : World) (_ : Glob w) => c8 o d a b n ho hd ha hb hn w
  rcases put_err o d a b n with ⟨W, hW⟩ | hW
  · rw [hW] at hP
    obtain ⟨hWl, hgW⟩ := put_get o d a b n hn W hW
    have hF := pField k W v hk hWl hv
    have hI := field_is k W v
    generalize fieldM k W v = r at *
    have KP := Lib.hid hP
    rcases hI with h | h | ⟨c0, c51, c1, h⟩ | ⟨h, hi⟩ | ⟨i, h, hi, hh⟩ | ⟨i, h, hi, hh, hp⟩ | ⟨i, x, h, hi, hh, hp⟩
    · rcases h with rfl | rfl
      · exact l4_0 o d a b W 0 n v w hg KP (Lib.hid hF)
      · exact l4_51 o d a b W 0 n v w hg KP (Lib.hid hF)
    · subst h
      exact l4_1 o d a b W (u32 v) n v w hg (u32_cast v) KP (Lib.hid hF)
    · exact l4F5 k o d a b W 0 n v w hg KP (Lib.hid hF)
    · exact l4F5 k o d a b W 0 n v w hg KP (Lib.hid hF)
    · exact l4F5 k o d a b W 0 n v w hg KP (Lib.hid hF)
    · exact l4F3 k o d a b W 0 n v w hg KP (Lib.hid hF)
    · obtain rfl : i = ⟨o, d, a, b, n⟩ := (Prod.mk.inj (hi.symm.trans hgW)).1
      obtain ⟨c0, c51, c1⟩ := isT_ne h
      obtain ⟨hxl, hgx⟩ := put_get o d a b v hv x hp
      have hG := fun (w : World) (_ : Glob w) => c10 (fun o d a b n h1 h2 h3 h4 h5 w => c8 o d a b n h1 h2 h3 h4 h5 w) x hxl w
      rw [hgx] at hG
      exact l4A k o d a b W x n v w hg (beqF k 0 c0) (beqF k 1 c1) (beqF k 51 c51) KP (Lib.hid hF) (Lib.hid hG) (Lib.hid (eqSame o d a b v))
  · rw [hW] at hP
    exact l4E k o d a b 0 0 n v w hg (Lib.hid hP)
end Go.Proofs.YtkiojljopigldaaDoor.Rel
