import Derived.Test.YtkiojljopigldaaDoorQf
import Derived.Test.YtkiojljopigldaaDoorQg
import Derived.Test.YtkiojljopigldaaDoorM
namespace Go.Proofs.YtkiojljopigldaaDoor.Rel
open Go.ChangeShapes Go.WideShapes Go.ChangeAt Go.RowKit
set_option linter.unusedVariables false
theorem get_b (w : Nat) (hw : w < 4294967296) (i : Ins) (h : get w = (i, 0)) : i.o < 256 ∧ i.d < 256 ∧ i.a < 256 ∧ i.b < 256 ∧ i32 i.m := by
  have hob := opL_b w 68 (by omega)
  unfold get at h
  split at h
  · exact absurd (Prod.mk.inj h).2 (by decide)
  · split at h
    · rw [← (Prod.mk.inj h).1]
      exact ⟨by show opL w 68 - 1 + 1 < 256; omega, regN_lt _ _ _, regN_lt _ _ _, regN_lt _ _ _, getF_b _ _ hw⟩
    · exact absurd (Prod.mk.inj h).2 (by decide)
theorem eqSame (o d a b : Nat) (n : Int) (wz : World) : (Op.equalIn 10000 30 (.agg #[.int .u8 (o : Int), .int .u8 (d : Int), .int .u8 (a : Int), .int .u8 (b : Int), .int .i32 n]) (.agg #[.int .u8 (o : Int), .int .u8 (d : Int), .int .u8 (a : Int), .int .u8 (b : Int), .int .i32 n])).run Tryd.prog wz = .ok true wz := by go_simp
def isT (k : Nat) : Prop := k = 16 ∨ k = 17 ∨ k = 23 ∨ k = 24 ∨ k = 25 ∨ k = 26 ∨ k = 27 ∨ k = 28 ∨ k = 193 ∨ k = 194
instance isTdec (k : Nat) : Decidable (isT k) := by unfold isT; infer_instance
theorem kI (k : Nat) (h : isT k) (w : World) : Calls Tryd.prog 10 #[.int .u8 (k : Int)] w fun en w' => en = .returned (.bool true) ∧ w = w' := by
  rcases h with rfl | rfl | rfl | rfl | rfl | rfl | rfl | rfl | rfl | rfl
  · exact is16 w
  · exact is17 w
  · exact is23 w
  · exact is24 w
  · exact is25 w
  · exact is26 w
  · exact is27 w
  · exact is28 w
  · exact is193 w
  · exact is194 w
theorem rI (k : Nat) (h : isT k) (w : World) : Calls Tryd.prog 14 #[.int .u8 (k : Int)] w fun en w' => en = .returned (.bool true) ∧ w = w' := by
  rcases h with rfl | rfl | rfl | rfl | rfl | rfl | rfl | rfl | rfl | rfl
  · exact ris16 w
  · exact ris17 w
  · exact ris23 w
  · exact ris24 w
  · exact ris25 w
  · exact ris26 w
  · exact ris27 w
  · exact ris28 w
  · exact ris193 w
  · exact ris194 w
theorem kH (k o : Nat) (h : isT k) (ho : o < 256) (w : World) : Calls Tryd.prog 12 #[.int .u8 (k : Int), .int .u8 (o : Int)] w fun en w' => en = .returned (.bool (hasK k o)) ∧ w = w' := by
  rcases h with rfl | rfl | rfl | rfl | rfl | rfl | rfl | rfl | rfl | rfl
  · exact has16 o ho w
  · exact has17 o ho w
  · exact has23 o ho w
  · exact has24 o ho w
  · exact has25 o ho w
  · exact has26 o ho w
  · exact has27 o ho w
  · exact has28 o ho w
  · exact has193 o ho w
  · exact has194 o ho w
theorem rH (k o : Nat) (h : isT k) (ho : o < 256) (w : World) : Calls Tryd.prog 15 #[.int .u8 (k : Int), .int .u8 (o : Int)] w fun en w' => en = .returned (.bool (hasK k o)) ∧ w = w' := by
  rcases h with rfl | rfl | rfl | rfl | rfl | rfl | rfl | rfl | rfl | rfl
  · exact form16 o ho w
  · exact form17 o ho w
  · exact form23 o ho w
  · exact form24 o ho w
  · exact form25 o ho w
  · exact form26 o ho w
  · exact form27 o ho w
  · exact form28 o ho w
  · exact form193 o ho w
  · exact form194 o ho w
/-- the word of a field in which v stands, and the error -/
def fieldM (k m : Nat) (v : Int) : Nat × Nat :=
  if k = 0 ∨ k = 51 then (m, 0) else if k = 1 then (u32 v, 0) else if ¬ isT k then (0, 5) else
  if (get m).2 ≠ 0 ∨ hasK k (get m).1.o = false then (0, 5) else
  if (put (get m).1.o (get m).1.d (get m).1.a (get m).1.b v).2 ≠ 0 then (0, 3) else ((put (get m).1.o (get m).1.d (get m).1.a (get m).1.b v).1, 0)
/-- what a field becomes, case by case -/
inductive FieldIs (k m : Nat) (v : Int) : Nat × Nat → Prop
  | none : (k = 0 ∨ k = 51) → FieldIs k m v (m, 0)
  | word : k = 1 → FieldIs k m v (u32 v, 0)
  | no : k ≠ 0 → k ≠ 51 → k ≠ 1 → ¬ isT k → FieldIs k m v (0, 5)
  | bad : isT k → get m = (Ins.zero, 5) → FieldIs k m v (0, 5)
  | other (i : Ins) : isT k → get m = (i, 0) → hasK k i.o = false → FieldIs k m v (0, 5)
  | far (i : Ins) : isT k → get m = (i, 0) → hasK k i.o = true → put i.o i.d i.a i.b v = (0, 2) → FieldIs k m v (0, 3)
  | good (i : Ins) (x : Nat) : isT k → get m = (i, 0) → hasK k i.o = true → put i.o i.d i.a i.b v = (x, 0) → FieldIs k m v (x, 0)
theorem isT_ne {k : Nat} (h : isT k) : k ≠ 0 ∧ k ≠ 51 ∧ k ≠ 1 := by unfold isT at h; omega
theorem field_is (k m : Nat) (v : Int) : FieldIs k m v (fieldM k m v) := by
  unfold fieldM
  by_cases h0 : k = 0 ∨ k = 51
  · rw [if_pos h0]; exact .none h0
  rw [if_neg h0]
  by_cases h1 : k = 1
  · rw [if_pos h1]; exact .word h1
  rw [if_neg h1]
  by_cases hT : isT k
  · rw [if_neg (fun h => h hT)]
    rcases get_err m with ⟨i, hi⟩ | hi
    · simp only [hi]
      by_cases hh : hasK k i.o = true
      · rw [if_neg (by simp [hh])]
        rcases put_err i.o i.d i.a i.b v with ⟨x, hx⟩ | hx
        · simp only [hx]
          exact .good i x hT hi hh hx
        · simp only [hx]
          exact .far i hT hi hh hx
      · rw [if_pos (Or.inr (by simpa using hh))]
        exact .other i hT hi (by simpa using hh)
    · simp only [hi]
      exact .bad hT hi
  · rw [if_pos hT]
    exact .no (fun h => h0 (Or.inl h)) (fun h => h0 (Or.inr h)) h1 hT
theorem beqF (k c : Nat) (h : k ≠ c) : ((k : Int) == (c : Int)) = false := by simp; omega
theorem u32v (v : Int) : (.int .u32 (v % 4294967296) : Value) = .int .u32 (u32 v : Int) := by rw [u32_cast]
theorem pField (k m : Nat) (v : Int) (hk : k < 256) (hm : m < 4294967296) (hv : i32 v) (w : World) (hg : Glob w) :
    Calls Tryd.prog 5 #[.int .u8 (k : Int), .int .u32 (m : Int), .int .i32 v] w fun en w' => en = .returned (weV (fieldM k m v)) ∧ Below w.heap.size w w' := by
  have hG := fun w h => c9 m hm w h
  have hP : ∀ i : Ins, get m = (i, 0) → ∀ w : World, Glob w → Calls Tryd.prog 13 #[insV i.o i.d i.a i.b v] w fun en w' => en = .returned (weV (put i.o i.d i.a i.b v)) ∧ Below w.heap.size w w' := fun i hi => by
    obtain ⟨g1, g2, g3, g4, g5⟩ := get_b m hm i hi
    exact fun w h => c7 i.o i.d i.a i.b v g1 g2 g3 g4 hv w h
  have hF := field_is k m v
  generalize fieldM k m v = r at *
  rcases hF with h | h | ⟨c0, c51, c1, h⟩ | ⟨h, hi⟩ | ⟨i, h, hi, hh⟩ | ⟨i, h, hi, hh, hp⟩ | ⟨i, x, h, hi, hh, hp⟩
  · rcases h with rfl | rfl
    · exact p0 m v w (Lib.hid is0)
    · exact p51 m v w (Lib.hid is51)
  · subst h
    have := p1 m v w (Lib.hid is1)
    rw [u32v] at this
    exact this
  · have h' := h
    unfold isT at h'
    simp only [not_or] at h'
    obtain ⟨k16, k17, k23, k24, k25, k26, k27, k28, k193, k194⟩ := h'
    exact pNo k m 0 0 0 0 0 0 v w hg (Lib.hid fun w => isNo k c0 c1 k16 k17 k23 k24 k25 k26 k27 k28 c51 k193 k194 w)
  all_goals
    obtain ⟨c0, c51, c1⟩ := isT_ne h
    have t0 := beqF k 0 c0
    have t1 := beqF k 1 c1
    have t51 := beqF k 51 c51
    have KI := Lib.hid (kI k h)
    rw [hi] at hG
    have KG := Lib.hid hG
  · exact pE k m 0 0 0 0 0 0 v w hg t0 t1 t51 KI KG
  · have KH := Lib.hid (kH k i.o h (get_b m hm i hi).1)
    rw [hh] at KH
    exact pAN k m i.o i.d i.a i.b 0 i.m v w hg t0 t1 t51 KI KG KH
  · have KH := Lib.hid (kH k i.o h (get_b m hm i hi).1)
    have KP := Lib.hid (hP i hi)
    rw [hh] at KH
    rw [hp] at KP
    exact pAB k m i.o i.d i.a i.b 0 i.m v w hg t0 t1 t51 KI KG KH KP
  · have KH := Lib.hid (kH k i.o h (get_b m hm i hi).1)
    have KP := Lib.hid (hP i hi)
    rw [hh] at KH
    rw [hp] at KP
    exact pAA k m i.o i.d i.a i.b x i.m v w hg t0 t1 t51 KI KG KH KP
theorem rField (k m : Nat) (v : Int) (hk : k < 256) (hm : m < 4294967296) (hv : i32 v) (w : World) (hg : Glob w) :
    Calls Tryd.prog 6 #[.int .u8 (k : Int), .int .u32 (m : Int), .int .i32 v] w fun en w' => en = .returned (weV (fieldM k m v)) ∧ Below w.heap.size w w' := by
  have hG := fun (w : World) (_ : Glob w) => c10 (fun o d a b n h1 h2 h3 h4 h5 w => c8 o d a b n h1 h2 h3 h4 h5 w) m hm w
  have hP : ∀ i : Ins, get m = (i, 0) → ∀ w : World, Glob w → Calls Tryd.prog 8 #[insV i.o i.d i.a i.b v] w fun en w' => en = .returned (weV (put i.o i.d i.a i.b v)) ∧ Below w.heap.size w w' := fun i hi => by
    obtain ⟨g1, g2, g3, g4, g5⟩ := get_b m hm i hi
    exact fun w _ => c8 i.o i.d i.a i.b v g1 g2 g3 g4 hv w
  have hF := field_is k m v
  generalize fieldM k m v = r at *
  rcases hF with h | h | ⟨c0, c51, c1, h⟩ | ⟨h, hi⟩ | ⟨i, h, hi, hh⟩ | ⟨i, h, hi, hh, hp⟩ | ⟨i, x, h, hi, hh, hp⟩
  · rcases h with rfl | rfl
    · exact r0 m v w
    · exact r51 m v w
  · subst h
    have := r1 m v w
    rw [u32v] at this
    exact this
  · have h' := h
    unfold isT at h'
    simp only [not_or] at h'
    obtain ⟨k16, k17, k23, k24, k25, k26, k27, k28, k193, k194⟩ := h'
    have KN := Lib.hid fun w => risNo k c0 c1 k16 k17 k23 k24 k25 k26 k27 k28 c51 k193 k194 w
    rcases get_err m with ⟨i, hi⟩ | hi
    · rw [hi] at hG
      exact rNoA k m i.o i.d i.a i.b 0 i.m v w hg (beqF k 0 c0) (beqF k 1 c1) (beqF k 51 c51) KN (Lib.hid hG)
    · rw [hi] at hG
      exact rNoE k m 0 0 0 0 0 0 v w hg (beqF k 0 c0) (beqF k 1 c1) (beqF k 51 c51) KN (Lib.hid hG)
  all_goals
    obtain ⟨c0, c51, c1⟩ := isT_ne h
    have t0 := beqF k 0 c0
    have t1 := beqF k 1 c1
    have t51 := beqF k 51 c51
    have KI := Lib.hid (rI k h)
    rw [hi] at hG
    have KG := Lib.hid hG
  · exact rE k m 0 0 0 0 0 0 v w hg t0 t1 t51 KI KG
  · have KH := Lib.hid (rH k i.o h (get_b m hm i hi).1)
    rw [hh] at KH
    exact rAN k m i.o i.d i.a i.b 0 i.m v w hg t0 t1 t51 KI KG KH
  · have KH := Lib.hid (rH k i.o h (get_b m hm i hi).1)
    have KP := Lib.hid (hP i hi)
    rw [hh] at KH
    rw [hp] at KP
    exact rAB k m i.o i.d i.a i.b 0 i.m v w hg t0 t1 t51 KI KG KH KP
  · have KH := Lib.hid (rH k i.o h (get_b m hm i hi).1)
    have KP := Lib.hid (hP i hi)
    rw [hh] at KH
    rw [hp] at KP
    exact rAA k m i.o i.d i.a i.b x i.m v w hg t0 t1 t51 KI KG KH KP
theorem walk3 (k m X E : Nat) (v : Int) (w : World) (hg : Glob w)
    (K5 : Hid (∀ w : World, Glob w → Calls Tryd.prog 5 #[.int .u8 (k : Int), .int .u32 (m : Int), .int .i32 v] w fun en w' => en = .returned (.tuple #[.int .u32 (X : Int), .int .i64 (E : Int)]) ∧ Below w.heap.size w w'))
    (K6 : Hid (∀ w : World, Glob w → Calls Tryd.prog 6 #[.int .u8 (k : Int), .int .u32 (m : Int), .int .i32 v] w fun en w' => en = .returned (.tuple #[.int .u32 (X : Int), .int .i64 (E : Int)]) ∧ Below w.heap.size w w')) :
    Calls Tryd.prog 3 #[.int .u8 (k : Int), .int .u32 (m : Int), .int .i32 v] w fun en w' => en = .returned (.bool true) ∧ Below w.heap.size w w' := by
  have G := Lib.hid hg
  have hs := hg.size
  clear hg
  go_enter Tryd.func3, Tryd.ntmps3
  go_wp2_with fail
  refine (K5.out _ G.out).mono ?_
  rintro _ w1 ⟨rfl, q1⟩
  have G1 := Lib.hid (G.out.below q1 hs)
  have Q1 := Lib.hid q1
  clear q1
  go_wp2_with fail
  refine (K6.out _ G1.out).mono ?_
  rintro _ w2 ⟨rfl, q2⟩
  have Q2 := Lib.hid (Q1.out.trans (q2.mono Q1.out.size))
  clear q2
  go_wp2_with fail
  refine (works _).mono ?_
  rintro _ _ ⟨rfl, rfl⟩
  go_wp2_with fail
  go_ret
  exact ⟨rfl, Q2.out⟩
theorem law3 (k m : Nat) (v : Int) (hk : k < 256) (hm : m < 4294967296) (hv : i32 v) (w : World) (hg : Glob w) :
    Calls Tryd.prog 3 #[.int .u8 (k : Int), .int .u32 (m : Int), .int .i32 v] w fun en w' => en = .returned (.bool true) ∧ Below w.heap.size w w' := by
  have h5 := pField k m v hk hm hv
  have h6 := rField k m v hk hm hv
  generalize fieldM k m v = r at *
  obtain ⟨X, E⟩ := r
  exact walk3 k m X E v w hg (Lib.hid h5) (Lib.hid h6)
end Go.Proofs.YtkiojljopigldaaDoor.Rel
