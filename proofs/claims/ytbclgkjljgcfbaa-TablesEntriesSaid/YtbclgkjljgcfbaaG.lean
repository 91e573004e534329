import Derived.Test.YtbclgkjljgcfbaaF
namespace Go.Proofs.Ytbclgkjljgcfbaa
open Go.ChangeShapes Go.WideShapes Go.ChangeAt Go.RowKit
open Cp (Blk cp bs ln ex ex_err rootV set7 set7a bcell cellAlloc)
set_option linter.unusedVariables false
set_option maxHeartbeats 8000000 in
theorem rNone (l : Value) (o : Int) (at_ : Nat) (s t : Int) (h6 h7 : Bool) (x y : Rg) (hh : (h6 && h7) = false) (w : World)
    (K6 : Hid (∀ w', Below w.heap.size w w' → Calls Try.prog 6 #[l, .int .u8 6, .int .i64 o] w' fun en w'' => en = .returned (.tuple #[x.v, .bool h6]) ∧ Below w'.heap.size w' w''))
    (K7 : Hid (∀ w', Below w.heap.size w w' → Calls Try.prog 6 #[l, .int .u8 7, .int .i64 o] w' fun en w'' => en = .returned (.tuple #[y.v, .bool h7]) ∧ Below w'.heap.size w' w'')) :
    Calls Try.prog 13 #[l, .int .i64 o, .int .u32 (at_ : Int), .int .i64 s, .int .i64 t] w fun en w' => en = en3 (.slice none 0 0) 0 6 ∧ Below w.heap.size w w' := by
  cases h6 <;> cases h7 <;> first | (exact absurd hh (by decide)) | skip
  all_goals
    clear hh
    go_enter Try.func13, Try.ntmps13
    go_wp2_with fail
    refine (K6.out _ (Below.refl _ _)).mono ?_
    rintro en w1 ⟨rfl, hb1⟩
    go_wp2_with fail
    refine (K7.out _ (hb1.alloc hb1.size _)).mono ?_
    rintro en w2 ⟨rfl, hb2⟩
    have hB2 : Below w.heap.size w w2 := (hb1.alloc hb1.size _).trans (hb2.mono (by have := hb1.size; simp; omega))
    go_wp2_with fail
    go_ret3
    exact ⟨rfl, hB2.alloc hB2.size _⟩
set_option maxHeartbeats 8000000 in
theorem rForm (l : Value) (o : Int) (at_ : Nat) (s t : Int) (x y : Rg) (r1 r2 : Bool) (hh : (r1 && r2) = false) (w : World)
    (K6 : Hid (∀ w', Below w.heap.size w w' → Calls Try.prog 6 #[l, .int .u8 6, .int .i64 o] w' fun en w'' => en = .returned (.tuple #[x.v, .bool true]) ∧ Below w'.heap.size w' w''))
    (K7 : Hid (∀ w', Below w.heap.size w w' → Calls Try.prog 6 #[l, .int .u8 7, .int .i64 o] w' fun en w'' => en = .returned (.tuple #[y.v, .bool true]) ∧ Below w'.heap.size w' w''))
    (g1 : Bool) (a1 p1 y1 e1 b1 t1 : Nat) (g2 : Bool) (a2 p2 y2 e2 b2 t2 : Nat)
    (Kc : Hid (∀ w, Calls Try.prog 8 #[x.v, .int .u8 29, .int .u32 (x.a : Int)] w fun en w' => en = .returned (.tuple #[cp g1 a1 p1 y1 e1 b1 t1, .int .i64 (bif r1 then 0 else 5)]) ∧ Below w.heap.size w w'))
    (Kd : Hid (∀ w, Calls Try.prog 8 #[y.v, .int .u8 23, .int .u32 (y.a : Int)] w fun en w' => en = .returned (.tuple #[cp g2 a2 p2 y2 e2 b2 t2, .int .i64 (bif r2 then 0 else 5)]) ∧ Below w.heap.size w w')) :
    Calls Try.prog 13 #[l, .int .i64 o, .int .u32 (at_ : Int), .int .i64 s, .int .i64 t] w fun en w' => en = en3 (.slice none 0 0) 0 5 ∧ Below w.heap.size w w' := by
  cases r1 <;> cases r2 <;> first | (exact absurd hh (by decide)) | skip
  all_goals
    clear hh
    simp only [cond_true, cond_false] at Kc Kd
    go_enter Try.func13, Try.ntmps13
    go_wp2_with fail
    refine (K6.out _ (Below.refl _ _)).mono ?_
    rintro en w1 ⟨rfl, hb1⟩
    have A1 : Blk (w1.alloc (.cells #[.int .u8 (x.k : Int), .int .i64 x.o, .int .u32 (x.a : Int), .int .u32 (x.n : Int)] 25)) w1.heap.size 25 #[.int .u8 (x.k : Int), .int .i64 x.o, .int .u32 (x.a : Int), .int .u32 (x.n : Int)] := Blk.new w1 25 _
    go_wp2_with fail
    refine (K7.out _ (hb1.alloc hb1.size _)).mono ?_
    rintro en w2 ⟨rfl, hb2⟩
    have hz2 : w1.heap.size < w2.heap.size := by have := hb2.size; simp at this; omega
    have hB2 : Below w.heap.size w w2 := (hb1.alloc hb1.size _).trans (hb2.mono (by have := hb1.size; simp; omega))
    have A2 := A1.below hb2 (by simp)
    have B2 : Blk (w2.alloc (.cells #[.int .u8 (y.k : Int), .int .i64 y.o, .int .u32 (y.a : Int), .int .u32 (y.n : Int)] 25)) w2.heap.size 25 #[.int .u8 (y.k : Int), .int .i64 y.o, .int .u32 (y.a : Int), .int .u32 (y.n : Int)] := Blk.new w2 25 _
    obtain ⟨x0, x1, x2, x3⟩ := blk4 A2
    clear A1
    go_wp2_with fail
    refine (Kc.out _).mono ?_
    rintro en w4 ⟨rfl, hb4⟩
    have hz4 : w2.heap.size < w4.heap.size := by have := hb4.size; simp at this; omega
    have hB4 : Below w.heap.size w w4 := (hB2.alloc hB2.size _).trans (hb4.mono (by have := hB2.size; simp; omega))
    have A4 := (A2.alloc _).below hb4 (by simp; omega)
    have B4 := B2.below hb4 (by simp)
    obtain ⟨z0, z1, z2, z3⟩ := blk4 B4
    clear x0 x1 x2 x3 A2 B2 hB2
    go_wp2_with fail
    refine (Kd.out _).mono ?_
    rintro en w6 ⟨rfl, hb6⟩
    have hz6 : w4.heap.size < w6.heap.size := by have := hb6.size; simp at this; omega
    have hB6 : Below w.heap.size w w6 := (hB4.alloc hB4.size _).trans (hb6.mono (by have := hB4.size; simp; omega))
    go_wp2_with fail
    go_ret3
    exact ⟨rfl, hB6.alloc hB6.size _⟩
theorem rwv (s t : Int) (h1 : 0 ≤ s) (h2 : s ≤ 6) (h3 : 0 ≤ t) (h4 : t ≤ 4088) : IntKind.u32.wrap (IntKind.i64.wrap (s + IntKind.i64.wrap (256 * t))) = s + 256 * t := by
  simp only [IntKind.wrap_i64, IntKind.wrap_u32]
  omega
set_option maxHeartbeats 16000000 in
theorem rRest (l : Value) (o : Int) (d : Nat) (s t : Int) (x y : Rg) (hd : d < 4294967296) (hx1 : x.a < 4294967296) (hx2 : x.n < 4294967296) (m : Nat) (w : World)
    (hm : m = if x.a ≤ d then (if d - x.a < x.n then (if s < 0 then 2 else if 6 < s then 2 else if t < 0 then 2 else if 4088 < t then 2 else 0) else 2) else 2)
    (K6 : Hid (∀ w', Below w.heap.size w w' → Calls Try.prog 6 #[l, .int .u8 6, .int .i64 o] w' fun en w'' => en = .returned (.tuple #[x.v, .bool true]) ∧ Below w'.heap.size w' w''))
    (K7 : Hid (∀ w', Below w.heap.size w w' → Calls Try.prog 6 #[l, .int .u8 7, .int .i64 o] w' fun en w'' => en = .returned (.tuple #[y.v, .bool true]) ∧ Below w'.heap.size w' w''))
    (e1 b1 t1 e2 b2 t2 : Nat)
    (Kc : Hid (∀ w, Calls Try.prog 8 #[x.v, .int .u8 29, .int .u32 (x.a : Int)] w fun en w' => en = .returned (.tuple #[cp true x.a 29 0 e1 b1 t1, .int .i64 0]) ∧ Below w.heap.size w w'))
    (Kd : Hid (∀ w, Calls Try.prog 8 #[y.v, .int .u8 23, .int .u32 (y.a : Int)] w fun en w' => en = .returned (.tuple #[cp true y.a 23 0 e2 b2 t2, .int .i64 0]) ∧ Below w.heap.size w w'))
    (Ke : Hid (m = 0 → ∀ w, Calls Try.prog 8 #[x.v, .int .u8 29, .int .u32 (d : Int)] w fun en w' => en = .returned (.tuple #[cp true d 29 0 e1 b1 t1, .int .i64 0]) ∧ Below w.heap.size w w'))
    (Kf : Hid (∀ w, Calls Try.prog 26 #[cp true d 29 0 e1 b1 t1, .int .u32 3] w fun en w' => en = .returned (cp true d 29 3 e1 b1 t1) ∧ Below w.heap.size w w')) :
    Calls Try.prog 13 #[l, .int .i64 o, .int .u32 (d : Int), .int .i64 s, .int .i64 t] w fun en w' => Below w.heap.size w w' ∧ if m = 0 then ∃ b, en = en3 (.slice (some ⟨b, 0, none⟩) 2 2) (s + 256 * t) 0 ∧ Blk w' b 61 (fl d e1 b1 t1 y.a e2 b2 t2) else en = en3 (.slice none 0 0) 0 2 := by
  have k1 := u64id d (by omega)
  have k2 := u64id x.a (by omega)
  have k3 := u64id x.n (by omega)
  obtain ⟨q, hq⟩ : ∃ q : Nat, q = x.a + x.n := ⟨_, rfl⟩
  have k4 : (x.a : Int) + (x.n : Int) = (q : Int) := by omega
  have k5 : q < 8589934592 := by omega
  have HQ := Lib.hid hq
  clear hq
  go_enter Try.func13, Try.ntmps13
  go_wp2_with fail
  refine (K6.out _ (Below.refl _ _)).mono ?_
  rintro en w1 ⟨rfl, hb1⟩
  have A1 : Blk (w1.alloc (.cells #[.int .u8 (x.k : Int), .int .i64 x.o, .int .u32 (x.a : Int), .int .u32 (x.n : Int)] 25)) w1.heap.size 25 #[.int .u8 (x.k : Int), .int .i64 x.o, .int .u32 (x.a : Int), .int .u32 (x.n : Int)] := Blk.new w1 25 _
  go_wp2_with fail
  refine (K7.out _ (hb1.alloc hb1.size _)).mono ?_
  rintro en w2 ⟨rfl, hb2⟩
  have hz2 : w1.heap.size < w2.heap.size := by have := hb2.size; simp at this; omega
  have hB2 : Below w.heap.size w w2 := (hb1.alloc hb1.size _).trans (hb2.mono (by have := hb1.size; simp; omega))
  have A2 := A1.below hb2 (by simp)
  have B2 : Blk (w2.alloc (.cells #[.int .u8 (y.k : Int), .int .i64 y.o, .int .u32 (y.a : Int), .int .u32 (y.n : Int)] 25)) w2.heap.size 25 #[.int .u8 (y.k : Int), .int .i64 y.o, .int .u32 (y.a : Int), .int .u32 (y.n : Int)] := Blk.new w2 25 _
  obtain ⟨x0, x1, x2, x3⟩ := blk4 A2
  clear A1
  go_wp2_with fail
  refine (Kc.out _).mono ?_
  rintro en w4 ⟨rfl, hb4⟩
  have hz4 : w2.heap.size < w4.heap.size := by have := hb4.size; simp at this; omega
  have hB4 : Below w.heap.size w w4 := (hB2.alloc hB2.size _).trans (hb4.mono (by have := hB2.size; simp; omega))
  have A4 := (A2.alloc _).below hb4 (by simp; omega)
  have B4 := B2.below hb4 (by simp)
  obtain ⟨z0, z1, z2, z3⟩ := blk4 B4
  clear x0 x1 x2 x3 A2 B2 hB2
  go_wp2_with fail
  refine (Kd.out _).mono ?_
  rintro en w6 ⟨rfl, hb6⟩
  have hz6 : w4.heap.size < w6.heap.size := by have := hb6.size; simp at this; omega
  have hB6 : Below w.heap.size w w6 := (hB4.alloc hB4.size _).trans (hb6.mono (by have := hB4.size; simp; omega))
  have A6 := (A4.alloc _).below hb6 (by simp; omega)
  have C6 : Blk w6 w4.heap.size 34 #[.bool true, .int .u32 (x.a : Int), .int .u8 29, .int .u8 0, .int .u8 (e1 : Int), .int .u16 (b1 : Int), .int .u16 (t1 : Int)] := (Blk.new w4 34 _).below hb6 (by simp)
  obtain ⟨x0, x1, x2, x3⟩ := blk4 A6
  have hl1 : w1.heap.size < w6.heap.size := by omega
  clear hb1 hb2 hb4 hb6 A4 B4 hB4 z0 z1 z2 z3
  have HB6 := Lib.hid hB6
  have HA6 := Lib.hid A6
  clear hB6 A6
  have no : ∀ (P Q : Prop), m ≠ 0 → Q → (if m = 0 then P else Q) := fun P Q h q => by rw [if_neg h]; exact q
  by_cases h1 : x.a ≤ d
  · by_cases h2 : d - x.a < x.n
    · have q1 : (d : Int) < (q : Int) := by have := HQ.out; omega
      have q0 : (x.a : Int) ≤ (d : Int) := by omega
      rw [if_pos h1, if_pos h2] at hm
      by_cases h3 : s < 0
      · rw [if_pos h3] at hm
        have hm2 : m ≠ 0 := by omega
        go_wp2_with fail
        go_ret3
        exact ⟨HB6.out.alloc HB6.out.size _, rfl⟩
      · rw [if_neg h3] at hm
        have h3' : 0 ≤ s := by omega
        clear h3
        by_cases h4 : 6 < s
        · rw [if_pos h4] at hm
          have hm2 : m ≠ 0 := by omega
          go_wp2_with fail
          go_ret3
          exact ⟨HB6.out.alloc HB6.out.size _, rfl⟩
        · rw [if_neg h4] at hm
          have h4' : s ≤ 6 := by omega
          clear h4
          by_cases h5 : t < 0
          · rw [if_pos h5] at hm
            have hm2 : m ≠ 0 := by omega
            go_wp2_with fail
            go_ret3
            exact ⟨HB6.out.alloc HB6.out.size _, rfl⟩
          · rw [if_neg h5] at hm
            have h5' : 0 ≤ t := by omega
            clear h5
            by_cases h6 : 4088 < t
            · rw [if_pos h6] at hm
              have hm2 : m ≠ 0 := by omega
              go_wp2_with fail
              go_ret3
              exact ⟨HB6.out.alloc HB6.out.size _, rfl⟩
            · rw [if_neg h6] at hm
              have h6' : t ≤ 4088 := by omega
              clear h6
              have Ke2 : Hid (∀ w, Calls Try.prog 8 #[x.v, .int .u8 29, .int .u32 (d : Int)] w fun en w' => en = .returned (.tuple #[.agg #[.bool true, .int .u32 (d : Int), .int .u8 29, .int .u8 0, .int .u8 (e1 : Int), .int .u16 (b1 : Int), .int .u16 (t1 : Int)], .int .i64 0]) ∧ Below w.heap.size w w') := Lib.hid (Ke.out hm)
              go_wp2_with fail
              refine (Ke2.out _).mono ?_
              rintro en w7 ⟨rfl, hb7⟩
              have hz7 : w6.heap.size < w7.heap.size := by have := hb7.size; simp at this; omega
              have hB7 : Below w.heap.size w w7 := (HB6.out.alloc HB6.out.size _).trans (hb7.mono (by have := HB6.out.size; simp; omega))
              have D7 : Blk w7 w6.heap.size 34 #[.bool true, .int .u32 (y.a : Int), .int .u8 23, .int .u8 0, .int .u8 (e2 : Int), .int .u16 (b2 : Int), .int .u16 (t2 : Int)] := (Blk.new w6 34 _).below hb7 (by simp)
              clear hb7
              have Kf2 : Hid (∀ w, Calls Try.prog 26 #[.agg #[.bool true, .int .u32 (d : Int), .int .u8 29, .int .u8 0, .int .u8 (e1 : Int), .int .u16 (b1 : Int), .int .u16 (t1 : Int)], .int .u32 3] w fun en w' => en = .returned (.agg #[.bool true, .int .u32 (d : Int), .int .u8 29, .int .u8 3, .int .u8 (e1 : Int), .int .u16 (b1 : Int), .int .u16 (t1 : Int)]) ∧ Below w.heap.size w w') := Lib.hid Kf.out
              go_wp2_with fail
              have hS : Below w.heap.size w (w7.alloc (.cells #[.bool true, .int .u32 (d : Int), .int .u8 29, .int .u8 0, .int .u8 (e1 : Int), .int .u16 (b1 : Int), .int .u16 (t1 : Int)] 34)) ∧ w6.heap.size < (w7.alloc (.cells #[.bool true, .int .u32 (d : Int), .int .u8 29, .int .u8 0, .int .u8 (e1 : Int), .int .u16 (b1 : Int), .int .u16 (t1 : Int)] 34)).heap.size ∧ w7.heap.size < (w7.alloc (.cells #[.bool true, .int .u32 (d : Int), .int .u8 29, .int .u8 0, .int .u8 (e1 : Int), .int .u16 (b1 : Int), .int .u16 (t1 : Int)] 34)).heap.size ∧ (w7.alloc (.cells #[.bool true, .int .u32 (d : Int), .int .u8 29, .int .u8 0, .int .u8 (e1 : Int), .int .u16 (b1 : Int), .int .u16 (t1 : Int)] 34)).cell? ⟨w6.heap.size, 0, none⟩ = some (.bool true) ∧ (w7.alloc (.cells #[.bool true, .int .u32 (d : Int), .int .u8 29, .int .u8 0, .int .u8 (e1 : Int), .int .u16 (b1 : Int), .int .u16 (t1 : Int)] 34)).cell? ⟨w6.heap.size, 1, none⟩ = some (.int .u32 (y.a : Int)) ∧ (w7.alloc (.cells #[.bool true, .int .u32 (d : Int), .int .u8 29, .int .u8 0, .int .u8 (e1 : Int), .int .u16 (b1 : Int), .int .u16 (t1 : Int)] 34)).cell? ⟨w6.heap.size, 2, none⟩ = some (.int .u8 23) ∧ (w7.alloc (.cells #[.bool true, .int .u32 (d : Int), .int .u8 29, .int .u8 0, .int .u8 (e1 : Int), .int .u16 (b1 : Int), .int .u16 (t1 : Int)] 34)).cell? ⟨w6.heap.size, 3, none⟩ = some (.int .u8 0) ∧ (w7.alloc (.cells #[.bool true, .int .u32 (d : Int), .int .u8 29, .int .u8 0, .int .u8 (e1 : Int), .int .u16 (b1 : Int), .int .u16 (t1 : Int)] 34)).cell? ⟨w6.heap.size, 4, none⟩ = some (.int .u8 (e2 : Int)) ∧ (w7.alloc (.cells #[.bool true, .int .u32 (d : Int), .int .u8 29, .int .u8 0, .int .u8 (e1 : Int), .int .u16 (b1 : Int), .int .u16 (t1 : Int)] 34)).cell? ⟨w6.heap.size, 5, none⟩ = some (.int .u16 (b2 : Int)) ∧ (w7.alloc (.cells #[.bool true, .int .u32 (d : Int), .int .u8 29, .int .u8 0, .int .u8 (e1 : Int), .int .u16 (b1 : Int), .int .u16 (t1 : Int)] 34)).cell? ⟨w6.heap.size, 6, none⟩ = some (.int .u16 (t2 : Int)) ∧ (w7.alloc (.cells #[.bool true, .int .u32 (d : Int), .int .u8 29, .int .u8 0, .int .u8 (e1 : Int), .int .u16 (b1 : Int), .int .u16 (t1 : Int)] 34)).cell? ⟨w7.heap.size, 0, none⟩ = some (.bool true) ∧ (w7.alloc (.cells #[.bool true, .int .u32 (d : Int), .int .u8 29, .int .u8 0, .int .u8 (e1 : Int), .int .u16 (b1 : Int), .int .u16 (t1 : Int)] 34)).cell? ⟨w7.heap.size, 1, none⟩ = some (.int .u32 (d : Int)) ∧ (w7.alloc (.cells #[.bool true, .int .u32 (d : Int), .int .u8 29, .int .u8 0, .int .u8 (e1 : Int), .int .u16 (b1 : Int), .int .u16 (t1 : Int)] 34)).cell? ⟨w7.heap.size, 2, none⟩ = some (.int .u8 29) ∧ (w7.alloc (.cells #[.bool true, .int .u32 (d : Int), .int .u8 29, .int .u8 0, .int .u8 (e1 : Int), .int .u16 (b1 : Int), .int .u16 (t1 : Int)] 34)).cell? ⟨w7.heap.size, 3, none⟩ = some (.int .u8 0) ∧ (w7.alloc (.cells #[.bool true, .int .u32 (d : Int), .int .u8 29, .int .u8 0, .int .u8 (e1 : Int), .int .u16 (b1 : Int), .int .u16 (t1 : Int)] 34)).cell? ⟨w7.heap.size, 4, none⟩ = some (.int .u8 (e1 : Int)) ∧ (w7.alloc (.cells #[.bool true, .int .u32 (d : Int), .int .u8 29, .int .u8 0, .int .u8 (e1 : Int), .int .u16 (b1 : Int), .int .u16 (t1 : Int)] 34)).cell? ⟨w7.heap.size, 5, none⟩ = some (.int .u16 (b1 : Int)) ∧ (w7.alloc (.cells #[.bool true, .int .u32 (d : Int), .int .u8 29, .int .u8 0, .int .u8 (e1 : Int), .int .u16 (b1 : Int), .int .u16 (t1 : Int)] 34)).cell? ⟨w7.heap.size, 6, none⟩ = some (.int .u16 (t1 : Int)) := sE hB7 D7
              generalize (w7.alloc (.cells #[.bool true, .int .u32 (d : Int), .int .u8 29, .int .u8 0, .int .u8 (e1 : Int), .int .u16 (b1 : Int), .int .u16 (t1 : Int)] 34)) = W at *
              generalize w6.heap.size = X at *
              generalize w7.heap.size = Y at *
              clear HA6 x0 x1 x2 x3 D7 hB7
              have WV := Lib.hid rwv
              go_region_held3 (fun w' => Below w.heap.size w w' ∧ X < w'.heap.size ∧ Y < w'.heap.size ∧ w'.cell? ⟨X, 0, none⟩ = some (.bool true) ∧ w'.cell? ⟨X, 1, none⟩ = some (.int .u32 (y.a : Int)) ∧ w'.cell? ⟨X, 2, none⟩ = some (.int .u8 23) ∧ w'.cell? ⟨X, 3, none⟩ = some (.int .u8 0) ∧ w'.cell? ⟨X, 4, none⟩ = some (.int .u8 (e2 : Int)) ∧ w'.cell? ⟨X, 5, none⟩ = some (.int .u16 (b2 : Int)) ∧ w'.cell? ⟨X, 6, none⟩ = some (.int .u16 (t2 : Int)) ∧ w'.cell? ⟨Y, 0, none⟩ = some (.bool true) ∧ w'.cell? ⟨Y, 1, none⟩ = some (.int .u32 (d : Int)) ∧ w'.cell? ⟨Y, 2, none⟩ = some (.int .u8 29) ∧ w'.cell? ⟨Y, 3, none⟩ = some (.int .u8 0) ∧ w'.cell? ⟨Y, 4, none⟩ = some (.int .u8 (e1 : Int)) ∧ w'.cell? ⟨Y, 5, none⟩ = some (.int .u16 (b1 : Int)) ∧ w'.cell? ⟨Y, 6, none⟩ = some (.int .u16 (t1 : Int)))
                (first | assumption | exact kE (by assumption) ((Below.refl _ _).drew) | exact kE (by assumption) hbx | exact kE (by assumption) ((Below.refl _ _).alloc (Nat.le_refl _) _) | exact kE (by assumption) (((Below.refl _ _).alloc (Nat.le_refl _) _).drew))
                (first | (go_at_call 26; (with_reducible refine (Kf2.out _).mono ?_); rintro _ wx ⟨rfl, hbx⟩))
              all_goals
                go_wp2_with fail
                go_ret3
                exact ⟨And.left (by assumption), wx.heap.size, congrArg (fun z => en3 (.slice (some ⟨wx.heap.size, 0, none⟩) 2 2) z 0) (WV.out s t h3' h4' h5' h6'), Blk.new wx 61 _⟩
    · rw [if_pos h1, if_neg h2] at hm
      have q1 : (q : Int) ≤ (d : Int) := by have := HQ.out; omega
      have q0 : (x.a : Int) ≤ (d : Int) := by omega
      have hm2 : m ≠ 0 := by omega
      go_wp2_with fail
      go_ret3
      exact ⟨HB6.out.alloc HB6.out.size _, rfl⟩
  · rw [if_neg h1] at hm
    have q0 : (d : Int) < (x.a : Int) := by omega
    have hm2 : m ≠ 0 := by omega
    go_wp2_with fail
    go_ret3
    exact ⟨HB6.out.alloc HB6.out.size _, rfl⟩
end Go.Proofs.Ytbclgkjljgcfbaa
