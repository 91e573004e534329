import Derived.Test.YtbclgkjljgcfbaaG
import Derived.Test.YtbclgkjljgcfbaaH
namespace Go.Proofs.Ytbclgkjljgcfbaa
open Go.ChangeShapes Go.WideShapes Go.ChangeAt Go.RowKit
open Cp (Blk cp bs ln ex ex_err rootV set7 set7a bcell cellAlloc)
set_option linter.unusedVariables false
set_option maxHeartbeats 8000000 in
theorem walk4a (l : Value) (o : Int) (d : Nat) (s t : Int) (e : Int) (w : World)
    (K12 : Hid (∀ w', Below w.heap.size w w' → Calls Try.prog 12 #[l, .int .i64 o, .int .u32 (d : Int), .int .i64 s, .int .i64 t] w' fun en w'' => en = en3 (.slice none 0 0) 0 e ∧ Below w'.heap.size w' w''))
    (K13 : Hid (∀ w', Below w.heap.size w w' → Calls Try.prog 13 #[l, .int .i64 o, .int .u32 (d : Int), .int .i64 s, .int .i64 t] w' fun en w'' => en = en3 (.slice none 0 0) 0 e ∧ Below w'.heap.size w' w'')) :
    Calls Try.prog 4 #[l, .int .i64 o, .int .u32 (d : Int), .int .i64 s, .int .i64 t] w fun en w' => en = .returned (.bool true) ∧ Below w.heap.size w w' := by
  go_enter Try.func4, Try.ntmps4
  go_wp2_with fail
  refine (K12.out _ (Below.refl _ _)).mono ?_
  rintro en w1 ⟨rfl, hb1⟩
  go_wp2_with fail
  refine (K13.out _ hb1).mono ?_
  rintro en w2 ⟨rfl, hb2⟩
  have hB2 : Below w.heap.size w w2 := hb1.trans (hb2.mono hb1.size)
  go_wp2_with fail
  refine (fills0 _).mono ?_
  rintro en w3 ⟨rfl, hb3⟩
  have hB3 : Below w.heap.size w w3 := hB2.trans (hb3.mono hB2.size)
  go_wp2_with fail
  refine (works _).mono ?_
  rintro en w4 ⟨rfl, hb4⟩
  have hB4 : Below w.heap.size w w4 := hB3.trans (hb4.mono hB3.size)
  go_wp2_with fail
  go_ret
  exact ⟨rfl, hB4⟩
set_option maxHeartbeats 8000000 in
theorem walk4b (l : Value) (o : Int) (d : Nat) (s t : Int) (v : Int) (E1 B1 T1 a2 E2 B2 T2 : Nat) (w : World)
    (K12 : Hid (∀ w', Below w.heap.size w w' → Calls Try.prog 12 #[l, .int .i64 o, .int .u32 (d : Int), .int .i64 s, .int .i64 t] w' fun en w'' => Below w'.heap.size w' w'' ∧ ∃ b, en = en3 (.slice (some ⟨b, 0, none⟩) 2 2) v 0 ∧ Blk w'' b 61 (fl d E1 B1 T1 a2 E2 B2 T2)))
    (K13 : Hid (∀ w', Below w.heap.size w w' → Calls Try.prog 13 #[l, .int .i64 o, .int .u32 (d : Int), .int .i64 s, .int .i64 t] w' fun en w'' => Below w'.heap.size w' w'' ∧ ∃ b, en = en3 (.slice (some ⟨b, 0, none⟩) 2 2) v 0 ∧ Blk w'' b 61 (fl d E1 B1 T1 a2 E2 B2 T2))) :
    Calls Try.prog 4 #[l, .int .i64 o, .int .u32 (d : Int), .int .i64 s, .int .i64 t] w fun en w' => en = .returned (.bool true) ∧ Below w.heap.size w w' := by
  go_enter Try.func4, Try.ntmps4
  go_wp2_with fail
  refine (K12.out _ (Below.refl _ _)).mono ?_
  rintro en w1 ⟨hb1, b1, rfl, q1⟩
  go_wp2_with fail
  refine (K13.out _ hb1).mono ?_
  rintro en w2 ⟨hb2, b2, rfl, q2⟩
  have hB2 : Below w.heap.size w w2 := hb1.trans (hb2.mono hb1.size)
  have q3 := q1.below hb2 q1.lt
  have Q := Lib.hid (And.intro q3 q2)
  clear q1 q2 q3
  go_wp2_with fail
  refine (fills2 b1 b2 d E1 B1 T1 a2 E2 B2 T2 _ Q.out.1 Q.out.2).mono ?_
  rintro en w3 ⟨rfl, hb3⟩
  have hB3 : Below w.heap.size w w3 := hB2.trans (hb3.mono hB2.size)
  go_wp2_with fail
  refine (works _).mono ?_
  rintro en w4 ⟨rfl, hb4⟩
  have hB4 : Below w.heap.size w w4 := hB3.trans (hb4.mono hB3.size)
  go_wp2_with fail
  go_ret
  exact ⟨rfl, hB4⟩
theorem law4 (A : Option Addr) (n c : Nat) (f : Nat → Rg) (o : Int) (d : Nat) (s t : Int) (w : World)
    (hA : Rgs w A n f) (hn : n ≤ 9223372036854775807) (hnc : n ≤ c) (hd : d < 4294967296) :
    Calls Try.prog 4 #[.slice A n c, .int .i64 o, .int .u32 (d : Int), .int .i64 s, .int .i64 t] w fun en w' => en = .returned (.bool true) ∧ Below w.heap.size w w' := by
  have k5 := fun (k : Nat) (w' : World) (hb : Below w.heap.size w w') => c5 A n c k o f w' (hA.below hb) hn hnc
  have k6 := fun (k : Nat) (w' : World) (hb : Below w.heap.size w w') => c6 A n c k o f w' (hA.below hb) hn hnc
  have hok : ∀ k j, fst f k o n = some j → (f j).ok := fun k j hj => by
    have hlt := fst_lt f k o n j hj
    obtain ⟨_, _, _, _, hc⟩ := hA (by omega)
    exact (hc j hlt).1
  have form : ∀ k, ∃ (x : Rg) (h : Bool), rgV f (fst f k o n) = .tuple #[x.v, .bool h] ∧ (h = true → x.ok) := fun k => by
    cases e : fst f k o n with
    | none => exact ⟨⟨0, 0, 0, 0⟩, false, rfl, fun h => by cases h⟩
    | some j => exact ⟨f j, true, rfl, fun _ => hok k j e⟩
  obtain ⟨x, h6, e6, o6⟩ := form 6
  obtain ⟨y, h7, e7, o7⟩ := form 7
  have p6 := k5 6; have p7 := k5 7; have r6 := k6 6; have r7 := k6 7
  rw [e6] at p6 r6
  rw [e7] at p7 r7
  have P6 : ∀ w0, Below w.heap.size w w0 → Hid (∀ w', Below w0.heap.size w0 w' → Calls Try.prog 5 #[.slice A n c, .int .u8 6, .int .i64 o] w' fun en w'' => en = .returned (.tuple #[x.v, .bool h6]) ∧ Below w'.heap.size w' w'') := fun w0 hb => Lib.hid fun w' h => p6 w' (hb.trans (h.mono hb.size))
  have P7 : ∀ w0, Below w.heap.size w w0 → Hid (∀ w', Below w0.heap.size w0 w' → Calls Try.prog 5 #[.slice A n c, .int .u8 7, .int .i64 o] w' fun en w'' => en = .returned (.tuple #[y.v, .bool h7]) ∧ Below w'.heap.size w' w'') := fun w0 hb => Lib.hid fun w' h => p7 w' (hb.trans (h.mono hb.size))
  have R6 : ∀ w0, Below w.heap.size w w0 → Hid (∀ w', Below w0.heap.size w0 w' → Calls Try.prog 6 #[.slice A n c, .int .u8 6, .int .i64 o] w' fun en w'' => en = .returned (.tuple #[x.v, .bool h6]) ∧ Below w'.heap.size w' w'') := fun w0 hb => Lib.hid fun w' h => r6 w' (hb.trans (h.mono hb.size))
  have R7 : ∀ w0, Below w.heap.size w w0 → Hid (∀ w', Below w0.heap.size w0 w' → Calls Try.prog 6 #[.slice A n c, .int .u8 7, .int .i64 o] w' fun en w'' => en = .returned (.tuple #[y.v, .bool h7]) ∧ Below w'.heap.size w' w'') := fun w0 hb => Lib.hid fun w' h => r7 w' (hb.trans (h.mono hb.size))
  clear p6 p7 r6 r7 k5 k6 e6 e7 form hok
  by_cases hh : (h6 && h7) = true
  · have h6t : h6 = true := by cases h6 <;> simp_all
    have h7t : h7 = true := by cases h7 <;> simp_all
    subst h6t h7t
    have ox := o6 rfl
    have oy := o7 rfl
    obtain ⟨x1, x2, x3⟩ := ox
    obtain ⟨y1, y2, y3⟩ := oy
    have kx := c17 x.a x.n 29 x2 x3 (by omega)
    have ky := c17 y.a y.n 23 y2 y3 (by omega)
    have jx := c8 x.k x.o x.a x.n 29 x.a x2 x3 (by omega) x2
    have jy := c8 y.k y.o y.a y.n 23 y.a y2 y3 (by omega) y2
    rw [cpV_self] at jx jy
    have sx := c18s x.k x.o x.a x.n x2 x3
    have sy := c18s y.k y.o y.a y.n y2 y3
    by_cases hr : (ex x.a (x.a + x.n)).2.2.2 = 0 ∧ (ex y.a (y.a + y.n)).2.2.2 = 0
    · obtain ⟨hr1, hr2⟩ := hr
      obtain ⟨m, hm⟩ : ∃ m : Nat, m = if x.a ≤ d then (if d - x.a < x.n then (if s < 0 then 2 else if 6 < s then 2 else if t < 0 then 2 else if 4088 < t then 2 else 0) else 2) else 2 := ⟨_, rfl⟩
      have hin : m = 0 → x.a ≤ d ∧ d - x.a < x.n := fun h0 => by
        rw [h0] at hm
        by_cases h1 : x.a ≤ d
        · rw [if_pos h1] at hm
          by_cases h2 : d - x.a < x.n
          · exact ⟨h1, h2⟩
          · rw [if_neg h2] at hm; omega
        · rw [if_neg h1] at hm; omega
      unfold rtV at kx ky jx jy
      rw [if_pos hr1] at kx jx
      rw [if_pos hr2] at ky jy
      have hE : (ex x.a (x.a + x.n)).1 < 256 ∧ (ex x.a (x.a + x.n)).2.1 < 65536 ∧ (ex x.a (x.a + x.n)).2.2.1 < 65536 := by
        rcases ex_err x.a (x.a + x.n) with ⟨h0, h1, h2, h3, h4, h5⟩ | ⟨h1, h2, h3, h4⟩
        · exact ⟨by omega, by omega, by omega⟩
        · omega
      have jk : m = 0 → ∀ w, Calls Try.prog 8 #[x.v, .int .u8 29, .int .u32 (d : Int)] w fun en w' => en = .returned (.tuple #[cp true d 29 0 (ex x.a (x.a + x.n)).1 (ex x.a (x.a + x.n)).2.1 (ex x.a (x.a + x.n)).2.2.1, .int .i64 0]) ∧ Below w.heap.size w w' := fun h0 w => by
        have hi := hin h0
        have hk := keeps x.a x.n d hr1 hi.1 (by omega)
        have := c8 x.k x.o x.a x.n 29 d x2 x3 (by omega) hd w
        unfold cpV at this
        rw [if_pos hr1, if_pos hk] at this
        exact this
      have pk : m = 0 → ∀ w, Calls Try.prog 20 #[cp true x.a 29 0 (ex x.a (x.a + x.n)).1 (ex x.a (x.a + x.n)).2.1 (ex x.a (x.a + x.n)).2.2.1, .int .u32 (d : Int)] w fun en w' => en = .returned (cp true d 29 0 (ex x.a (x.a + x.n)).1 (ex x.a (x.a + x.n)).2.1 (ex x.a (x.a + x.n)).2.2.1) ∧ Below w.heap.size w w' := fun h0 w => by
        have hi := hin h0
        have hk := keeps x.a x.n d hr1 hi.1 (by omega)
        have := Cp.c18b true x.a 29 0 (ex x.a (x.a + x.n)).1 (ex x.a (x.a + x.n)).2.1 (ex x.a (x.a + x.n)).2.2.1 d x2 (by omega) hE.1 hE.2.1 hE.2.2 hd w
        rw [decide_eq_true hk] at this
        exact this
      by_cases hm0 : m = 0
      · refine walk4b _ o d s t (s + 256 * t) (ex x.a (x.a + x.n)).1 (ex x.a (x.a + x.n)).2.1 (ex x.a (x.a + x.n)).2.2.1 y.a (ex y.a (y.a + y.n)).1 (ex y.a (y.a + y.n)).2.1 (ex y.a (y.a + y.n)).2.2.1 w (Lib.hid fun w0 hb => ?_) (Lib.hid fun w0 hb => ?_)
        · refine (pRest (.slice A n c) o d s t x y hd x2 x3 m w0 hm (P6 w0 hb) (P7 w0 hb) (Lib.hid sx) (Lib.hid sy) _ _ _ _ _ _ (Lib.hid kx) (Lib.hid ky) (Lib.hid pk) (Lib.hid (c25s true d 29 _ _ _))).mono ?_
          rintro en w1 ⟨h1, h2⟩
          rw [if_pos hm0] at h2
          exact ⟨h1, h2⟩
        · refine (rRest (.slice A n c) o d s t x y hd x2 x3 m w0 hm (R6 w0 hb) (R7 w0 hb) _ _ _ _ _ _ (Lib.hid jx) (Lib.hid jy) (Lib.hid jk) (Lib.hid (c26s true d 29 _ _ _))).mono ?_
          rintro en w1 ⟨h1, h2⟩
          rw [if_pos hm0] at h2
          exact ⟨h1, h2⟩
      · refine walk4a _ o d s t 2 w (Lib.hid fun w0 hb => ?_) (Lib.hid fun w0 hb => ?_)
        · refine (pRest (.slice A n c) o d s t x y hd x2 x3 m w0 hm (P6 w0 hb) (P7 w0 hb) (Lib.hid sx) (Lib.hid sy) _ _ _ _ _ _ (Lib.hid kx) (Lib.hid ky) (Lib.hid pk) (Lib.hid (c25s true d 29 _ _ _))).mono ?_
          rintro en w1 ⟨h1, h2⟩
          rw [if_neg hm0] at h2
          exact ⟨h2, h1⟩
        · refine (rRest (.slice A n c) o d s t x y hd x2 x3 m w0 hm (R6 w0 hb) (R7 w0 hb) _ _ _ _ _ _ (Lib.hid jx) (Lib.hid jy) (Lib.hid jk) (Lib.hid (c26s true d 29 _ _ _))).mono ?_
          rintro en w1 ⟨h1, h2⟩
          rw [if_neg hm0] at h2
          exact ⟨h2, h1⟩
    · have form : ∀ a n m, ∃ (r : Bool) (g : Bool) (a' p y e b t : Nat), rtV a n m = .tuple #[cp g a' p y e b t, .int .i64 (bif r then 0 else 5)] ∧ (r = true ↔ (ex a (a + n)).2.2.2 = 0) := fun a n m => by
        unfold rtV
        by_cases h0 : (ex a (a + n)).2.2.2 = 0
        · rw [if_pos h0]; exact ⟨true, _, _, _, 0, _, _, _, rfl, by simp [h0]⟩
        · rw [if_neg h0]; exact ⟨false, _, _, _, _, _, _, _, rfl, by simp [h0]⟩
      obtain ⟨b1, g1, a1, p1, z1, u1, v1, t1, e1, i1⟩ := form x.a x.n 29
      obtain ⟨b2, g2, a2, p2, z2, u2, v2, t2, e2, i2⟩ := form y.a y.n 23
      rw [e1] at kx jx
      rw [e2] at ky jy
      have hb : (b1 && b2) = false := by
        cases b1 <;> cases b2 <;> first | rfl | exact absurd ⟨i1.1 rfl, i2.1 rfl⟩ hr
      exact walk4a _ o d s t 5 w (Lib.hid fun w0 hb0 => pForm (.slice A n c) o d s t x y b1 b2 (.bool true) (.bool true) hb w0 (P6 w0 hb0) (P7 w0 hb0) (Lib.hid sx) (Lib.hid sy) g1 a1 p1 z1 u1 v1 t1 g2 a2 p2 z2 u2 v2 t2 (Lib.hid kx) (Lib.hid ky))
        (Lib.hid fun w0 hb0 => rForm (.slice A n c) o d s t x y b1 b2 hb w0 (R6 w0 hb0) (R7 w0 hb0) g1 a1 p1 z1 u1 v1 t1 g2 a2 p2 z2 u2 v2 t2 (Lib.hid jx) (Lib.hid jy))
  · have hf : (h6 && h7) = false := by simpa using hh
    exact walk4a _ o d s t 6 w (Lib.hid fun w0 hb0 => pNone (.slice A n c) o d s t h6 h7 x y hf w0 (P6 w0 hb0) (P7 w0 hb0)) (Lib.hid fun w0 hb0 => rNone (.slice A n c) o d s t h6 h7 x y hf w0 (R6 w0 hb0) (R7 w0 hb0))
theorem law4f {w0 : World} {P Q R : Prop} (A : Option Addr) (n c : Nat) (f : Nat → Rg) (o : Int) (d : Nat) (s t : Int)
    (hA : Rgs w0 A n f) (hn : n ≤ 9223372036854775807) (hnc : n ≤ c) (ho : P) (hd : d < 4294967296) (hs : Q) (ht : R) (w : World) (hw : w0 = w := by rfl) :
    Calls Try.prog 4 #[.slice A n c, .int .i64 o, .int .u32 (d : Int), .int .i64 s, .int .i64 t] w fun en w' => en = .returned (.bool true) ∧ Below w.heap.size w w' := by
  subst hw
  exact law4 A n c f o d s t _ hA hn hnc hd
end Go.Proofs.Ytbclgkjljgcfbaa
