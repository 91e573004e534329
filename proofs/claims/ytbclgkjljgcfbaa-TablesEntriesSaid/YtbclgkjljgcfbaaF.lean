import Derived.Test.YtbclgkjljgcfbaaE
import Derived.Deep.RegionHeld3
namespace Go.Proofs.Ytbclgkjljgcfbaa
open Go.ChangeShapes Go.WideShapes Go.ChangeAt Go.RowKit
open Cp (Blk cp bs ln ex ex_err rootV set7 set7a bcell cellAlloc)
set_option linter.unusedVariables false
/-- the two fills of an entry -/
abbrev fl (d E1 B1 T1 a2 E2 B2 T2 : Nat) : Array Value := #[.int .u32 0, .bool true, .int .u32 (d : Int), .int .u8 29, .int .u8 3, .int .u8 (E1 : Int), .int .u16 (B1 : Int), .int .u16 (T1 : Int), .int .u32 8, .bool true, .int .u32 (a2 : Int), .int .u8 23, .int .u8 0, .int .u8 (E2 : Int), .int .u16 (B2 : Int), .int .u16 (T2 : Int)]
abbrev en3 (v : Value) (n e : Int) : Ending := .returned (.tuple #[v, .int .u32 n, .int .i64 e])
set_option maxHeartbeats 8000000 in
theorem pNone (l : Value) (o : Int) (at_ : Nat) (s t : Int) (h6 h7 : Bool) (x y : Rg) (hh : (h6 && h7) = false) (w : World)
    (K6 : Hid (∀ w', Below w.heap.size w w' → Calls Try.prog 5 #[l, .int .u8 6, .int .i64 o] w' fun en w'' => en = .returned (.tuple #[x.v, .bool h6]) ∧ Below w'.heap.size w' w''))
    (K7 : Hid (∀ w', Below w.heap.size w w' → Calls Try.prog 5 #[l, .int .u8 7, .int .i64 o] w' fun en w'' => en = .returned (.tuple #[y.v, .bool h7]) ∧ Below w'.heap.size w' w'')) :
    Calls Try.prog 12 #[l, .int .i64 o, .int .u32 (at_ : Int), .int .i64 s, .int .i64 t] w fun en w' => en = en3 (.slice none 0 0) 0 6 ∧ Below w.heap.size w w' := by
  cases h6 <;> cases h7 <;> first | (exact absurd hh (by decide)) | skip
  all_goals
    clear hh
    go_enter Try.func12, Try.ntmps12
    go_wp2_with fail
    refine (K6.out _ (Below.refl _ _)).mono ?_
    rintro en w1 ⟨rfl, hb1⟩
    go_wp2_with fail
    refine (K7.out _ (hb1.alloc hb1.size _)).mono ?_
    rintro en w2 ⟨rfl, hb2⟩
    have hB2 : Below w.heap.size w w2 := (hb1.alloc hb1.size _).trans (hb2.mono (by have := hb1.size; simp; omega))
    go_wp2_with fail
    go_ret3
    exact ⟨rfl, hB2.alloc hB2.size _⟩
set_option maxHeartbeats 8000000 in
theorem pForm (l : Value) (o : Int) (at_ : Nat) (s t : Int) (x y : Rg) (r1 r2 : Bool) (u1 u2 : Value) (hh : (r1 && r2) = false) (w : World)
    (K6 : Hid (∀ w', Below w.heap.size w w' → Calls Try.prog 5 #[l, .int .u8 6, .int .i64 o] w' fun en w'' => en = .returned (.tuple #[x.v, .bool true]) ∧ Below w'.heap.size w' w''))
    (K7 : Hid (∀ w', Below w.heap.size w w' → Calls Try.prog 5 #[l, .int .u8 7, .int .i64 o] w' fun en w'' => en = .returned (.tuple #[y.v, .bool true]) ∧ Below w'.heap.size w' w''))
    (Ka : Hid (∀ w, Calls Try.prog 18 #[x.v] w fun en w' => en = .returned (sp x.a x.n) ∧ Below w.heap.size w w'))
    (Kb : Hid (∀ w, Calls Try.prog 18 #[y.v] w fun en w' => en = .returned (sp y.a y.n) ∧ Below w.heap.size w w'))
    (g1 : Bool) (a1 p1 y1 e1 b1 t1 : Nat) (g2 : Bool) (a2 p2 y2 e2 b2 t2 : Nat)
    (Kc : Hid (∀ w, Calls Try.prog 17 #[sp x.a x.n, .int .u8 29] w fun en w' => en = .returned (.tuple #[cp g1 a1 p1 y1 e1 b1 t1, .int .i64 (bif r1 then 0 else 5)]) ∧ Below w.heap.size w w'))
    (Kd : Hid (∀ w, Calls Try.prog 17 #[sp y.a y.n, .int .u8 23] w fun en w' => en = .returned (.tuple #[cp g2 a2 p2 y2 e2 b2 t2, .int .i64 (bif r2 then 0 else 5)]) ∧ Below w.heap.size w w')) :
    Calls Try.prog 12 #[l, .int .i64 o, .int .u32 (at_ : Int), .int .i64 s, .int .i64 t] w fun en w' => en = en3 (.slice none 0 0) 0 5 ∧ Below w.heap.size w w' := by
  cases r1 <;> cases r2 <;> first | (exact absurd hh (by decide)) | skip
  all_goals
    clear hh
    simp only [cond_true, cond_false] at Kc Kd
    go_enter Try.func12, Try.ntmps12
    go_wp2_with fail
    refine (K6.out _ (Below.refl _ _)).mono ?_
    rintro en w1 ⟨rfl, hb1⟩
    have A1 : Blk (w1.alloc (.cells #[.int .u8 (x.k : Int), .int .i64 x.o, .int .u32 (x.a : Int), .int .u32 (x.n : Int)] 25)) w1.heap.size 25 #[.int .u8 (x.k : Int), .int .i64 x.o, .int .u32 (x.a : Int), .int .u32 (x.n : Int)] := Blk.new w1 25 _
    go_wp2_with fail
    refine (K7.out _ (hb1.alloc hb1.size _)).mono ?_
    rintro en w2 ⟨rfl, hb2⟩
    have hz2 : w1.heap.size < w2.heap.size := by have := hb2.size; simp at this; omega
    have hB2 : Below w.heap.size w w2 := (hb1.alloc hb1.size _).trans (hb2.mono (by have := hb1.size; simp; omega))
    have A2 := A1.below hb2 (by simp)
    have B2 : Blk (w2.alloc (.cells #[.int .u8 (y.k : Int), .int .i64 y.o, .int .u32 (y.a : Int), .int .u32 (y.n : Int)] 25)) w2.heap.size 25 #[.int .u8 (y.k : Int), .int .i64 y.o, .int .u32 (y.a : Int), .int .u32 (y.n : Int)] := Blk.new w2 25 _
    obtain ⟨x0, x1, x2, x3⟩ := blk4 A2
    clear A1
    go_wp2_with fail
    refine (Ka.out _).mono ?_
    rintro en w3 ⟨rfl, hb3⟩
    have hz3 : w2.heap.size < w3.heap.size := by have := hb3.size; simp at this; omega
    have hB3 : Below w.heap.size w w3 := (hB2.alloc hB2.size _).trans (hb3.mono (by have := hB2.size; simp; omega))
    have B3 := B2.below hb3 (by simp)
    go_wp2_with fail
    refine (Kc.out _).mono ?_
    rintro en w4 ⟨rfl, hb4⟩
    have hz4 : w3.heap.size ≤ w4.heap.size := hb4.size
    have hB4 : Below w.heap.size w w4 := hB3.trans (hb4.mono hB3.size)
    have B4 := B3.below hb4 hz3
    obtain ⟨z0, z1, z2, z3⟩ := blk4 B4
    have hl : w2.heap.size < w4.heap.size := by omega
    clear x0 x1 x2 x3 A2 B2 B3 hB2 hB3
    go_wp2_with fail
    first
    | (go_ret3; exact ⟨rfl, hB4.alloc hB4.size _⟩)
    | (refine (Kb.out _).mono ?_
       rintro en w5 ⟨rfl, hb5⟩
       have hB5 : Below w.heap.size w w5 := (hB4.alloc hB4.size _).trans (hb5.mono (by have := hB4.size; simp; omega))
       go_wp2_with fail
       refine (Kd.out _).mono ?_
       rintro en w6 ⟨rfl, hb6⟩
       have hB6 : Below w.heap.size w w6 := hB5.trans (hb6.mono hB5.size)
       go_wp2_with fail
       go_ret3
       exact ⟨rfl, hB6.alloc hB6.size _⟩)
theorem kE {w W W' : World} {X Y : Nat} {u0 u1 u2 u3 u4 u5 u6 v0 v1 v2 v3 v4 v5 v6 : Value} (h : Below w.heap.size w W ∧ X < W.heap.size ∧ Y < W.heap.size ∧ W.cell? ⟨X, 0, none⟩ = some (u0) ∧ W.cell? ⟨X, 1, none⟩ = some (u1) ∧ W.cell? ⟨X, 2, none⟩ = some (u2) ∧ W.cell? ⟨X, 3, none⟩ = some (u3) ∧ W.cell? ⟨X, 4, none⟩ = some (u4) ∧ W.cell? ⟨X, 5, none⟩ = some (u5) ∧ W.cell? ⟨X, 6, none⟩ = some (u6) ∧ W.cell? ⟨Y, 0, none⟩ = some (v0) ∧ W.cell? ⟨Y, 1, none⟩ = some (v1) ∧ W.cell? ⟨Y, 2, none⟩ = some (v2) ∧ W.cell? ⟨Y, 3, none⟩ = some (v3) ∧ W.cell? ⟨Y, 4, none⟩ = some (v4) ∧ W.cell? ⟨Y, 5, none⟩ = some (v5) ∧ W.cell? ⟨Y, 6, none⟩ = some (v6)) (hb : Below W.heap.size W W') : Below w.heap.size w W' ∧ X < W'.heap.size ∧ Y < W'.heap.size ∧ W'.cell? ⟨X, 0, none⟩ = some (u0) ∧ W'.cell? ⟨X, 1, none⟩ = some (u1) ∧ W'.cell? ⟨X, 2, none⟩ = some (u2) ∧ W'.cell? ⟨X, 3, none⟩ = some (u3) ∧ W'.cell? ⟨X, 4, none⟩ = some (u4) ∧ W'.cell? ⟨X, 5, none⟩ = some (u5) ∧ W'.cell? ⟨X, 6, none⟩ = some (u6) ∧ W'.cell? ⟨Y, 0, none⟩ = some (v0) ∧ W'.cell? ⟨Y, 1, none⟩ = some (v1) ∧ W'.cell? ⟨Y, 2, none⟩ = some (v2) ∧ W'.cell? ⟨Y, 3, none⟩ = some (v3) ∧ W'.cell? ⟨Y, 4, none⟩ = some (v4) ∧ W'.cell? ⟨Y, 5, none⟩ = some (v5) ∧ W'.cell? ⟨Y, 6, none⟩ = some (v6) := by
  obtain ⟨h1, h2, h3, h⟩ := h
  refine ⟨h1.trans (hb.mono h1.size), Nat.lt_of_lt_of_le h2 hb.size, Nat.lt_of_lt_of_le h3 hb.size, ?_⟩
  have zx : ∀ j, W'.cell? ⟨X, j, none⟩ = W.cell? ⟨X, j, none⟩ := fun j => hb.cell (p := ⟨X, j, none⟩) h2
  have zy : ∀ j, W'.cell? ⟨Y, j, none⟩ = W.cell? ⟨Y, j, none⟩ := fun j => hb.cell (p := ⟨Y, j, none⟩) h3
  simp only [zx, zy]
  exact h
theorem sE {w w6 : World} {X : Nat} {u0 u1 u2 u3 u4 u5 u6 v0 v1 v2 v3 v4 v5 v6 : Value} (h1 : Below w.heap.size w w6) (h2 : Blk w6 X 34 #[u0, u1, u2, u3, u4, u5, u6]) : Below w.heap.size w (w6.alloc (.cells #[v0, v1, v2, v3, v4, v5, v6] 34)) ∧ X < (w6.alloc (.cells #[v0, v1, v2, v3, v4, v5, v6] 34)).heap.size ∧ w6.heap.size < (w6.alloc (.cells #[v0, v1, v2, v3, v4, v5, v6] 34)).heap.size ∧ (w6.alloc (.cells #[v0, v1, v2, v3, v4, v5, v6] 34)).cell? ⟨X, 0, none⟩ = some (u0) ∧ (w6.alloc (.cells #[v0, v1, v2, v3, v4, v5, v6] 34)).cell? ⟨X, 1, none⟩ = some (u1) ∧ (w6.alloc (.cells #[v0, v1, v2, v3, v4, v5, v6] 34)).cell? ⟨X, 2, none⟩ = some (u2) ∧ (w6.alloc (.cells #[v0, v1, v2, v3, v4, v5, v6] 34)).cell? ⟨X, 3, none⟩ = some (u3) ∧ (w6.alloc (.cells #[v0, v1, v2, v3, v4, v5, v6] 34)).cell? ⟨X, 4, none⟩ = some (u4) ∧ (w6.alloc (.cells #[v0, v1, v2, v3, v4, v5, v6] 34)).cell? ⟨X, 5, none⟩ = some (u5) ∧ (w6.alloc (.cells #[v0, v1, v2, v3, v4, v5, v6] 34)).cell? ⟨X, 6, none⟩ = some (u6) ∧ (w6.alloc (.cells #[v0, v1, v2, v3, v4, v5, v6] 34)).cell? ⟨w6.heap.size, 0, none⟩ = some (v0) ∧ (w6.alloc (.cells #[v0, v1, v2, v3, v4, v5, v6] 34)).cell? ⟨w6.heap.size, 1, none⟩ = some (v1) ∧ (w6.alloc (.cells #[v0, v1, v2, v3, v4, v5, v6] 34)).cell? ⟨w6.heap.size, 2, none⟩ = some (v2) ∧ (w6.alloc (.cells #[v0, v1, v2, v3, v4, v5, v6] 34)).cell? ⟨w6.heap.size, 3, none⟩ = some (v3) ∧ (w6.alloc (.cells #[v0, v1, v2, v3, v4, v5, v6] 34)).cell? ⟨w6.heap.size, 4, none⟩ = some (v4) ∧ (w6.alloc (.cells #[v0, v1, v2, v3, v4, v5, v6] 34)).cell? ⟨w6.heap.size, 5, none⟩ = some (v5) ∧ (w6.alloc (.cells #[v0, v1, v2, v3, v4, v5, v6] 34)).cell? ⟨w6.heap.size, 6, none⟩ = some (v6) := by
  have h3 := (h2.alloc (.cells #[v0, v1, v2, v3, v4, v5, v6] 34)).cells7
  have h4 := (Blk.new w6 34 #[v0, v1, v2, v3, v4, v5, v6]).cells7
  have hl := h2.lt
  obtain ⟨a0, a1, a2, a3, a4, a5, a6⟩ := h3
  obtain ⟨b0, b1, b2, b3, b4, b5, b6⟩ := h4
  exact ⟨h1.alloc h1.size _, by simp; omega, by simp, a0, a1, a2, a3, a4, a5, a6, b0, b1, b2, b3, b4, b5, b6⟩
set_option maxHeartbeats 16000000 in
theorem pRest (l : Value) (o : Int) (d : Nat) (s t : Int) (x y : Rg) (hd : d < 4294967296) (hx1 : x.a < 4294967296) (hx2 : x.n < 4294967296) (m : Nat) (w : World)
    (hm : m = if x.a ≤ d then (if d - x.a < x.n then (if s < 0 then 2 else if 6 < s then 2 else if t < 0 then 2 else if 4088 < t then 2 else 0) else 2) else 2)
    (K6 : Hid (∀ w', Below w.heap.size w w' → Calls Try.prog 5 #[l, .int .u8 6, .int .i64 o] w' fun en w'' => en = .returned (.tuple #[x.v, .bool true]) ∧ Below w'.heap.size w' w''))
    (K7 : Hid (∀ w', Below w.heap.size w w' → Calls Try.prog 5 #[l, .int .u8 7, .int .i64 o] w' fun en w'' => en = .returned (.tuple #[y.v, .bool true]) ∧ Below w'.heap.size w' w''))
    (Ka : Hid (∀ w, Calls Try.prog 18 #[x.v] w fun en w' => en = .returned (sp x.a x.n) ∧ Below w.heap.size w w'))
    (Kb : Hid (∀ w, Calls Try.prog 18 #[y.v] w fun en w' => en = .returned (sp y.a y.n) ∧ Below w.heap.size w w'))
    (e1 b1 t1 e2 b2 t2 : Nat)
    (Kc : Hid (∀ w, Calls Try.prog 17 #[sp x.a x.n, .int .u8 29] w fun en w' => en = .returned (.tuple #[cp true x.a 29 0 e1 b1 t1, .int .i64 0]) ∧ Below w.heap.size w w'))
    (Kd : Hid (∀ w, Calls Try.prog 17 #[sp y.a y.n, .int .u8 23] w fun en w' => en = .returned (.tuple #[cp true y.a 23 0 e2 b2 t2, .int .i64 0]) ∧ Below w.heap.size w w'))
    (Ke : Hid (m = 0 → ∀ w, Calls Try.prog 20 #[cp true x.a 29 0 e1 b1 t1, .int .u32 (d : Int)] w fun en w' => en = .returned (cp true d 29 0 e1 b1 t1) ∧ Below w.heap.size w w'))
    (Kf : Hid (∀ w, Calls Try.prog 25 #[.int .u32 3, cp true d 29 0 e1 b1 t1] w fun en w' => en = .returned (cp true d 29 3 e1 b1 t1) ∧ Below w.heap.size w w')) :
    Calls Try.prog 12 #[l, .int .i64 o, .int .u32 (d : Int), .int .i64 s, .int .i64 t] w fun en w' => Below w.heap.size w w' ∧ if m = 0 then ∃ b, en = en3 (.slice (some ⟨b, 0, none⟩) 2 2) (s + 256 * t) 0 ∧ Blk w' b 61 (fl d e1 b1 t1 y.a e2 b2 t2) else en = en3 (.slice none 0 0) 0 2 := by
  go_enter Try.func12, Try.ntmps12
  go_wp2_with fail
  refine (K6.out _ (Below.refl _ _)).mono ?_
  rintro en w1 ⟨rfl, hb1⟩
  have A1 : Blk (w1.alloc (.cells #[.int .u8 (x.k : Int), .int .i64 x.o, .int .u32 (x.a : Int), .int .u32 (x.n : Int)] 25)) w1.heap.size 25 #[.int .u8 (x.k : Int), .int .i64 x.o, .int .u32 (x.a : Int), .int .u32 (x.n : Int)] := Blk.new w1 25 _
  go_wp2_with fail
  refine (K7.out _ (hb1.alloc hb1.size _)).mono ?_
  rintro en w2 ⟨rfl, hb2⟩
  have hz2 : w1.heap.size < w2.heap.size := by have := hb2.size; simp at this; omega
  have hB2 : Below w.heap.size w w2 := (hb1.alloc hb1.size _).trans (hb2.mono (by have := hb1.size; simp; omega))
  have A2 := A1.below hb2 (by simp)
  have B2 : Blk (w2.alloc (.cells #[.int .u8 (y.k : Int), .int .i64 y.o, .int .u32 (y.a : Int), .int .u32 (y.n : Int)] 25)) w2.heap.size 25 #[.int .u8 (y.k : Int), .int .i64 y.o, .int .u32 (y.a : Int), .int .u32 (y.n : Int)] := Blk.new w2 25 _
  obtain ⟨x0, x1, x2, x3⟩ := blk4 A2
  clear A1
  go_wp2_with fail
  refine (Ka.out _).mono ?_
  rintro en w3 ⟨rfl, hb3⟩
  have hz3 : w2.heap.size < w3.heap.size := by have := hb3.size; simp at this; omega
  have hB3 : Below w.heap.size w w3 := (hB2.alloc hB2.size _).trans (hb3.mono (by have := hB2.size; simp; omega))
  have A3 := (A2.alloc _).below hb3 (by simp; omega)
  have B3 := B2.below hb3 (by simp)
  go_wp2_with fail
  refine (Kc.out _).mono ?_
  rintro en w4 ⟨rfl, hb4⟩
  have hz4 : w3.heap.size ≤ w4.heap.size := hb4.size
  have hB4 : Below w.heap.size w w4 := hB3.trans (hb4.mono hB3.size)
  have A4 := A3.below hb4 (by omega)
  have B4 := B3.below hb4 hz3
  obtain ⟨z0, z1, z2, z3⟩ := blk4 B4
  have hl : w2.heap.size < w4.heap.size := by omega
  clear x0 x1 x2 x3 A2 B2 B3 hB2 hB3 A3
  have C4 : Blk (w4.alloc (.cells #[.bool true, .int .u32 (x.a : Int), .int .u8 29, .int .u8 0, .int .u8 (e1 : Int), .int .u16 (b1 : Int), .int .u16 (t1 : Int)] 34)) w4.heap.size 34 #[.bool true, .int .u32 (x.a : Int), .int .u8 29, .int .u8 0, .int .u8 (e1 : Int), .int .u16 (b1 : Int), .int .u16 (t1 : Int)] := Blk.new w4 34 _
  go_wp2_with fail
  refine (Kb.out _).mono ?_
  rintro en w5 ⟨rfl, hb5⟩
  have hz5 : w4.heap.size < w5.heap.size := by have := hb5.size; simp at this; omega
  have hB5 : Below w.heap.size w w5 := (hB4.alloc hB4.size _).trans (hb5.mono (by have := hB4.size; simp; omega))
  have A5 := (A4.alloc _).below hb5 (by simp; omega)
  have C5 := C4.below hb5 (by simp)
  clear z0 z1 z2 z3 A4 B4 C4 hB4
  go_wp2_with fail
  refine (Kd.out _).mono ?_
  rintro en w6 ⟨rfl, hb6⟩
  have hz6 : w5.heap.size ≤ w6.heap.size := hb6.size
  have hB6 : Below w.heap.size w w6 := hB5.trans (hb6.mono hB5.size)
  have A6 := A5.below hb6 (by omega)
  have C6 := C5.below hb6 (by omega)
  obtain ⟨x0, x1, x2, x3⟩ := blk4 A6
  have hl1 : w1.heap.size < w6.heap.size := by omega
  clear hb1 hb2 hb3 hb4 hb5 hb6 A5 C5 hB5 hl
  have HB6 := Lib.hid hB6
  have HC6 := Lib.hid C6
  have HA6 := Lib.hid A6
  clear hB6 C6 A6
  have no : ∀ (P Q : Prop), m ≠ 0 → Q → (if m = 0 then P else Q) := fun P Q h q => by rw [if_neg h]; exact q
  by_cases h1 : x.a ≤ d
  · by_cases h2 : d - x.a < x.n
    · have q1 : ((d : Int) - (x.a : Int)) < (x.n : Int) := by omega
      have q0 : (x.a : Int) ≤ (d : Int) := by omega
      rw [if_pos h1, if_pos h2] at hm
      by_cases h3 : s < 0
      · rw [if_pos h3] at hm
        have hm2 : m ≠ 0 := by omega
        go_wp2_with fail
        go_ret3
        exact ⟨HB6.out.alloc HB6.out.size _, rfl⟩
      · rw [if_neg h3] at hm
        have h3' : 0 ≤ s := by omega
        clear h3
        by_cases h4 : 6 < s
        · rw [if_pos h4] at hm
          have hm2 : m ≠ 0 := by omega
          go_wp2_with fail
          go_ret3
          exact ⟨HB6.out.alloc HB6.out.size _, rfl⟩
        · rw [if_neg h4] at hm
          have h4' : s ≤ 6 := by omega
          clear h4
          by_cases h5 : t < 0
          · rw [if_pos h5] at hm
            have hm2 : m ≠ 0 := by omega
            go_wp2_with fail
            go_ret3
            exact ⟨HB6.out.alloc HB6.out.size _, rfl⟩
          · rw [if_neg h5] at hm
            have h5' : 0 ≤ t := by omega
            clear h5
            by_cases h6 : 4088 < t
            · rw [if_pos h6] at hm
              have hm2 : m ≠ 0 := by omega
              go_wp2_with fail
              go_ret3
              exact ⟨HB6.out.alloc HB6.out.size _, rfl⟩
            · rw [if_neg h6] at hm
              have h6' : t ≤ 4088 := by omega
              clear h6
              have Ke2 : Hid (∀ w, Calls Try.prog 20 #[.agg #[.bool true, .int .u32 (x.a : Int), .int .u8 29, .int .u8 0, .int .u8 (e1 : Int), .int .u16 (b1 : Int), .int .u16 (t1 : Int)], .int .u32 (d : Int)] w fun en w' => en = .returned (.agg #[.bool true, .int .u32 (d : Int), .int .u8 29, .int .u8 0, .int .u8 (e1 : Int), .int .u16 (b1 : Int), .int .u16 (t1 : Int)]) ∧ Below w.heap.size w w') := Lib.hid (Ke.out hm)
              have Kf2 : Hid (∀ w, Calls Try.prog 25 #[.int .u32 3, .agg #[.bool true, .int .u32 (d : Int), .int .u8 29, .int .u8 0, .int .u8 (e1 : Int), .int .u16 (b1 : Int), .int .u16 (t1 : Int)]] w fun en w' => en = .returned (.agg #[.bool true, .int .u32 (d : Int), .int .u8 29, .int .u8 3, .int .u8 (e1 : Int), .int .u16 (b1 : Int), .int .u16 (t1 : Int)]) ∧ Below w.heap.size w w') := Lib.hid Kf.out
              go_wp2_with fail
              have hS : Below w.heap.size w (w6.alloc (.cells #[.bool true, .int .u32 (y.a : Int), .int .u8 23, .int .u8 0, .int .u8 (e2 : Int), .int .u16 (b2 : Int), .int .u16 (t2 : Int)] 34)) ∧ w4.heap.size < (w6.alloc (.cells #[.bool true, .int .u32 (y.a : Int), .int .u8 23, .int .u8 0, .int .u8 (e2 : Int), .int .u16 (b2 : Int), .int .u16 (t2 : Int)] 34)).heap.size ∧ w6.heap.size < (w6.alloc (.cells #[.bool true, .int .u32 (y.a : Int), .int .u8 23, .int .u8 0, .int .u8 (e2 : Int), .int .u16 (b2 : Int), .int .u16 (t2 : Int)] 34)).heap.size ∧ (w6.alloc (.cells #[.bool true, .int .u32 (y.a : Int), .int .u8 23, .int .u8 0, .int .u8 (e2 : Int), .int .u16 (b2 : Int), .int .u16 (t2 : Int)] 34)).cell? ⟨w4.heap.size, 0, none⟩ = some (.bool true) ∧ (w6.alloc (.cells #[.bool true, .int .u32 (y.a : Int), .int .u8 23, .int .u8 0, .int .u8 (e2 : Int), .int .u16 (b2 : Int), .int .u16 (t2 : Int)] 34)).cell? ⟨w4.heap.size, 1, none⟩ = some (.int .u32 (x.a : Int)) ∧ (w6.alloc (.cells #[.bool true, .int .u32 (y.a : Int), .int .u8 23, .int .u8 0, .int .u8 (e2 : Int), .int .u16 (b2 : Int), .int .u16 (t2 : Int)] 34)).cell? ⟨w4.heap.size, 2, none⟩ = some (.int .u8 29) ∧ (w6.alloc (.cells #[.bool true, .int .u32 (y.a : Int), .int .u8 23, .int .u8 0, .int .u8 (e2 : Int), .int .u16 (b2 : Int), .int .u16 (t2 : Int)] 34)).cell? ⟨w4.heap.size, 3, none⟩ = some (.int .u8 0) ∧ (w6.alloc (.cells #[.bool true, .int .u32 (y.a : Int), .int .u8 23, .int .u8 0, .int .u8 (e2 : Int), .int .u16 (b2 : Int), .int .u16 (t2 : Int)] 34)).cell? ⟨w4.heap.size, 4, none⟩ = some (.int .u8 (e1 : Int)) ∧ (w6.alloc (.cells #[.bool true, .int .u32 (y.a : Int), .int .u8 23, .int .u8 0, .int .u8 (e2 : Int), .int .u16 (b2 : Int), .int .u16 (t2 : Int)] 34)).cell? ⟨w4.heap.size, 5, none⟩ = some (.int .u16 (b1 : Int)) ∧ (w6.alloc (.cells #[.bool true, .int .u32 (y.a : Int), .int .u8 23, .int .u8 0, .int .u8 (e2 : Int), .int .u16 (b2 : Int), .int .u16 (t2 : Int)] 34)).cell? ⟨w4.heap.size, 6, none⟩ = some (.int .u16 (t1 : Int)) ∧ (w6.alloc (.cells #[.bool true, .int .u32 (y.a : Int), .int .u8 23, .int .u8 0, .int .u8 (e2 : Int), .int .u16 (b2 : Int), .int .u16 (t2 : Int)] 34)).cell? ⟨w6.heap.size, 0, none⟩ = some (.bool true) ∧ (w6.alloc (.cells #[.bool true, .int .u32 (y.a : Int), .int .u8 23, .int .u8 0, .int .u8 (e2 : Int), .int .u16 (b2 : Int), .int .u16 (t2 : Int)] 34)).cell? ⟨w6.heap.size, 1, none⟩ = some (.int .u32 (y.a : Int)) ∧ (w6.alloc (.cells #[.bool true, .int .u32 (y.a : Int), .int .u8 23, .int .u8 0, .int .u8 (e2 : Int), .int .u16 (b2 : Int), .int .u16 (t2 : Int)] 34)).cell? ⟨w6.heap.size, 2, none⟩ = some (.int .u8 23) ∧ (w6.alloc (.cells #[.bool true, .int .u32 (y.a : Int), .int .u8 23, .int .u8 0, .int .u8 (e2 : Int), .int .u16 (b2 : Int), .int .u16 (t2 : Int)] 34)).cell? ⟨w6.heap.size, 3, none⟩ = some (.int .u8 0) ∧ (w6.alloc (.cells #[.bool true, .int .u32 (y.a : Int), .int .u8 23, .int .u8 0, .int .u8 (e2 : Int), .int .u16 (b2 : Int), .int .u16 (t2 : Int)] 34)).cell? ⟨w6.heap.size, 4, none⟩ = some (.int .u8 (e2 : Int)) ∧ (w6.alloc (.cells #[.bool true, .int .u32 (y.a : Int), .int .u8 23, .int .u8 0, .int .u8 (e2 : Int), .int .u16 (b2 : Int), .int .u16 (t2 : Int)] 34)).cell? ⟨w6.heap.size, 5, none⟩ = some (.int .u16 (b2 : Int)) ∧ (w6.alloc (.cells #[.bool true, .int .u32 (y.a : Int), .int .u8 23, .int .u8 0, .int .u8 (e2 : Int), .int .u16 (b2 : Int), .int .u16 (t2 : Int)] 34)).cell? ⟨w6.heap.size, 6, none⟩ = some (.int .u16 (t2 : Int)) := sE HB6.out HC6.out
              generalize (w6.alloc (.cells #[.bool true, .int .u32 (y.a : Int), .int .u8 23, .int .u8 0, .int .u8 (e2 : Int), .int .u16 (b2 : Int), .int .u16 (t2 : Int)] 34)) = W at *
              generalize w4.heap.size = X at *
              generalize w6.heap.size = Y at *
              clear HB6 HC6 HA6 x0 x1 x2 x3
              go_region_held3 (fun w' => Below w.heap.size w w' ∧ X < w'.heap.size ∧ Y < w'.heap.size ∧ w'.cell? ⟨X, 0, none⟩ = some (.bool true) ∧ w'.cell? ⟨X, 1, none⟩ = some (.int .u32 (x.a : Int)) ∧ w'.cell? ⟨X, 2, none⟩ = some (.int .u8 29) ∧ w'.cell? ⟨X, 3, none⟩ = some (.int .u8 0) ∧ w'.cell? ⟨X, 4, none⟩ = some (.int .u8 (e1 : Int)) ∧ w'.cell? ⟨X, 5, none⟩ = some (.int .u16 (b1 : Int)) ∧ w'.cell? ⟨X, 6, none⟩ = some (.int .u16 (t1 : Int)) ∧ w'.cell? ⟨Y, 0, none⟩ = some (.bool true) ∧ w'.cell? ⟨Y, 1, none⟩ = some (.int .u32 (y.a : Int)) ∧ w'.cell? ⟨Y, 2, none⟩ = some (.int .u8 23) ∧ w'.cell? ⟨Y, 3, none⟩ = some (.int .u8 0) ∧ w'.cell? ⟨Y, 4, none⟩ = some (.int .u8 (e2 : Int)) ∧ w'.cell? ⟨Y, 5, none⟩ = some (.int .u16 (b2 : Int)) ∧ w'.cell? ⟨Y, 6, none⟩ = some (.int .u16 (t2 : Int)))
                (first | assumption | exact kE (by assumption) ((Below.refl _ _).drew) | exact kE (by assumption) hbx | exact kE (by assumption) ((Below.refl _ _).alloc (Nat.le_refl _) _) | exact kE (by assumption) (((Below.refl _ _).alloc (Nat.le_refl _) _).drew))
                (first | (go_at_call 20; (with_reducible refine (Ke2.out _).mono ?_); rintro _ wx ⟨rfl, hbx⟩) | ((with_reducible refine (Kf2.out _).mono ?_); rintro _ wx ⟨rfl, hbx⟩))
              all_goals
                go_wp2_with fail
                go_ret3
                exact ⟨And.left (by assumption), wx.heap.size, rfl, Blk.new wx 61 _⟩
    · rw [if_pos h1, if_neg h2] at hm
      have q1 : (x.n : Int) ≤ ((d : Int) - (x.a : Int)) := by omega
      have q0 : (x.a : Int) ≤ (d : Int) := by omega
      have hm2 : m ≠ 0 := by omega
      go_wp2_with fail
      go_ret3
      exact ⟨HB6.out.alloc HB6.out.size _, rfl⟩
  · rw [if_neg h1] at hm
    have q0 : (d : Int) < (x.a : Int) := by omega
    have hm2 : m ≠ 0 := by omega
    go_wp2_with fail
    go_ret3
    exact ⟨HB6.out.alloc HB6.out.size _, rfl⟩
end Go.Proofs.Ytbclgkjljgcfbaa
