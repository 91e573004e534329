import Derived.Test.YtmanoheofloimaaGreatDoorRlz
namespace Go.Proofs.YtmanoheofloimaaGreatDoor
open Go.ChangeShapes Go.WideShapes Go.ChangeAt Go.RowKit
set_option linter.unusedVariables false
set_option maxRecDepth 100000
/-- Step's region 3 -/
def O3 : Array Oper := #[{ dst := some 14, op := Op.move (Operand.tmp 0), type := 25, pos := "run.go:43", after := #[], guard := none }, { dst := some 15, op := Op.nilCheck (Operand.tmp 14), type := 0, pos := "run.go:43", after := #[{ on := 0, ground := Ground.data }], guard := none }, { dst := some 16, op := Op.fieldAddr 36 (Operand.tmp 15) 0, type := 0, pos := "run.go:43", after := #[{ on := 1, ground := Ground.data }], guard := none }, { dst := some 17, op := Op.load 26 (Operand.tmp 16), type := 26, pos := "run.go:43", after := #[{ on := 2, ground := Ground.data }], guard := none }, { dst := some 18, op := Op.move (Operand.tmp 0), type := 25, pos := "run.go:43", after := #[], guard := none }, { dst := some 19, op := Op.nilCheck (Operand.tmp 18), type := 0, pos := "run.go:43", after := #[{ on := 4, ground := Ground.data }], guard := none }, { dst := some 20, op := Op.fieldAddr 36 (Operand.tmp 19) 1, type := 0, pos := "run.go:43", after := #[{ on := 5, ground := Ground.data }], guard := none }, { dst := some 21, op := Op.load 34 (Operand.tmp 20), type := 34, pos := "run.go:43", after := #[{ on := 6, ground := Ground.data }], guard := none }, { dst := some 22, op := Op.fieldAddr 24 (Operand.tmp 3) 0, type := 0, pos := "run.go:43", after := #[], guard := none }, { dst := some 23, op := Op.load 4 (Operand.tmp 22), type := 4, pos := "run.go:43", after := #[{ on := 8, ground := Ground.data }], guard := none }, { dst := some 24, op := Op.fieldAddr 24 (Operand.tmp 3) 1, type := 0, pos := "run.go:43", after := #[], guard := none }, { dst := some 25, op := Op.load 22 (Operand.tmp 24), type := 22, pos := "run.go:43", after := #[{ on := 10, ground := Ground.data }], guard := none }, { dst := some 26, op := Op.call { callee := Callee.value (Operand.func 11), args := #[Operand.tmp 17, Operand.tmp 21, Operand.tmp 23, Operand.tmp 25], argTypes := #[26, 34, 4, 22] }, type := 52, pos := "run.go:43", after := #[{ on := 3, ground := Ground.data }, { on := 7, ground := Ground.data }, { on := 9, ground := Ground.data }, { on := 11, ground := Ground.data }], guard := none }, { dst := some 13, op := Op.move (Operand.tmp 26), type := 52, pos := "run.go:43", after := #[{ on := 12, ground := Ground.data }], guard := none }, { dst := some 27, op := Op.extract (Operand.tmp 13) 0, type := 34, pos := "run.go:43", after := #[{ on := 13, ground := Ground.data }], guard := none }, { dst := some 28, op := Op.extract (Operand.tmp 13) 1, type := 39, pos := "run.go:43", after := #[{ on := 13, ground := Ground.data }, { on := 19, ground := Ground.gcOnly Departure.lateStores }], guard := none }, { dst := some 29, op := Op.extract (Operand.tmp 13) 2, type := 40, pos := "run.go:43", after := #[{ on := 13, ground := Ground.data }, { on := 20, ground := Ground.gcOnly Departure.lateStores }], guard := none }, { dst := some 6, op := Op.alloc 34, type := 0, pos := "run.go:43", after := #[], guard := none }, { dst := some 7, op := Op.alloc 39, type := 0, pos := "run.go:43", after := #[], guard := none }, { dst := none, op := Op.store 34 (Operand.tmp 6) (Operand.tmp 27), type := 0, pos := "run.go:43", after := #[{ on := 17, ground := Ground.data }, { on := 14, ground := Ground.data }, { on := 12, ground := Ground.chain }, { on := 0, ground := Ground.phase }, { on := 1, ground := Ground.phase }, { on := 2, ground := Ground.phase }, { on := 3, ground := Ground.phase }, { on := 4, ground := Ground.phase }, { on := 5, ground := Ground.phase }, { on := 6, ground := Ground.phase }, { on := 7, ground := Ground.phase }, { on := 8, ground := Ground.phase }, { on := 9, ground := Ground.phase }, { on := 10, ground := Ground.phase }, { on := 11, ground := Ground.phase }, { on := 12, ground := Ground.phase }, { on := 13, ground := Ground.phase }, { on := 14, ground := Ground.phase }, { on := 15, ground := Ground.textOnly Departure.lateStores }, { on := 16, ground := Ground.textOnly Departure.lateStores }, { on := 17, ground := Ground.phase }, { on := 18, ground := Ground.phase }], guard := none }, { dst := none, op := Op.store 39 (Operand.tmp 7) (Operand.tmp 28), type := 0, pos := "run.go:43", after := #[{ on := 18, ground := Ground.data }, { on := 15, ground := Ground.data }, { on := 19, ground := Ground.chain }, { on := 0, ground := Ground.phase }, { on := 1, ground := Ground.phase }, { on := 2, ground := Ground.phase }, { on := 3, ground := Ground.phase }, { on := 4, ground := Ground.phase }, { on := 5, ground := Ground.phase }, { on := 6, ground := Ground.phase }, { on := 7, ground := Ground.phase }, { on := 8, ground := Ground.phase }, { on := 9, ground := Ground.phase }, { on := 10, ground := Ground.phase }, { on := 11, ground := Ground.phase }, { on := 12, ground := Ground.phase }, { on := 13, ground := Ground.phase }, { on := 14, ground := Ground.phase }, { on := 15, ground := Ground.phase }, { on := 16, ground := Ground.textOnly Departure.lateStores }, { on := 17, ground := Ground.phase }, { on := 18, ground := Ground.phase }, { on := 19, ground := Ground.phase }], guard := none }, { dst := some 8, op := Op.assign (Operand.tmp 29), type := 40, pos := "run.go:43", after := #[{ on := 16, ground := Ground.data }, { on := 20, ground := Ground.chain }, { on := 0, ground := Ground.phase }, { on := 1, ground := Ground.phase }, { on := 2, ground := Ground.phase }, { on := 3, ground := Ground.phase }, { on := 4, ground := Ground.phase }, { on := 5, ground := Ground.phase }, { on := 6, ground := Ground.phase }, { on := 7, ground := Ground.phase }, { on := 8, ground := Ground.phase }, { on := 9, ground := Ground.phase }, { on := 10, ground := Ground.phase }, { on := 11, ground := Ground.phase }, { on := 12, ground := Ground.phase }, { on := 13, ground := Ground.phase }, { on := 14, ground := Ground.phase }, { on := 15, ground := Ground.phase }, { on := 16, ground := Ground.phase }, { on := 17, ground := Ground.phase }, { on := 18, ground := Ground.phase }, { on := 19, ground := Ground.phase }, { on := 20, ground := Ground.phase }], guard := none }]
theorem o3_rank : rankOk O3 id = true := by kernel_rfl
abbrev P (b i : Nat) : Value := .pointer (some ⟨b, i, none⟩)
def T3 (x rb b : Nat) (SL NL DL : List Value) (tm : Bool) (y : Int) : List (Nat × Nat × Value) := [(0, 14, P x 0), (1, 15, P x 0), (2, 16, P x 0), (3, 17, P b 0), (4, 18, P x 0), (5, 19, P x 0), (6, 20, P x 1), (7, 21, .agg SL.toArray), (8, 22, P rb 0), (9, 23, .bool tm), (10, 24, P rb 1), (11, 25, .int .u32 y), (12, 26, .tuple #[.agg NL.toArray, .agg DL.toArray, .int .i64 0]), (13, 13, .tuple #[.agg NL.toArray, .agg DL.toArray, .int .i64 0]), (14, 27, .agg NL.toArray), (15, 28, .agg DL.toArray), (16, 29, .int .i64 0), (21, 8, .int .i64 0)]
def F3 (x rb rd : Nat) : List (Nat × Value) := [(0, P x 0), (3, P rb 0), (4, P rd 0), (5, .int .i64 0)]
structure J3 (x rb b rd B : Nat) (SL NL DL : List Value) (tm : Bool) (y : Int) (MA RA : Array Value) (M : Nat → Nat) (G : Nat → Bool) (w0 : World) (l : Array Bool) (a : Act) (w : World) : Prop where
  sz : a.tmps.size = 52
  df : a.defers = []
  fx : Fx (F3 x rb rd) a
  tv : Tv (T3 x rb b SL NL DL tm y) l a
  mm : Mem w b M G
  mx : Blk w x 36 MA
  mr : Blk w rb 24 RA
  a6 : l.getD 17 false = true → ∃ r C, a.tmps.getD 6 undef = P r 0 ∧ B ≤ r ∧ Blk w r 34 C ∧ C.size = 151 ∧ (l.getD 19 false = true → C = NL.toArray)
  a7 : l.getD 18 false = true → ∃ r C, a.tmps.getD 7 undef = P r 0 ∧ B ≤ r ∧ Blk w r 39 C ∧ C.size = 5 ∧ (l.getD 20 false = true → C = DL.toArray)
  b6 : l.getD 19 false = true → l.getD 17 false = true
  b7 : l.getD 20 false = true → l.getD 18 false = true
  o : Below B w0 w
theorem J3.pure {x rb b rd B : Nat} {SL NL DL : List Value} {tm : Bool} {y : Int} {MA RA : Array Value} {M : Nat → Nat} {G : Nat → Bool} {w0 : World} {l : Array Bool} {a : Act} {w : World} (h : J3 x rb b rd B SL NL DL tm y MA RA M G w0 l a w) (hl : l.size = 22) (i d : Nat) (v : Value) (hi : i < 22) (hd : d < 52)
    (h1 : ((F3 x rb rd).all fun e => decide (e.1 ≠ d)) = true) (h2 : ∀ e ∈ T3 x rb b SL NL DL tm y, e.2.1 = d → e = (i, d, v)) (h3 : ∀ e ∈ T3 x rb b SL NL DL tm y, e.1 = i → e = (i, d, v)) (h4 : d ≠ 6 ∧ d ≠ 7 ∧ i ≠ 17 ∧ i ≠ 18 ∧ i ≠ 19 ∧ i ≠ 20) :
    J3 x rb b rd B SL NL DL tm y MA RA M G w0 (l.setIfInBounds i true) (a.put (some d) v) w :=
  { sz := by rw [put_size]; exact h.sz
    df := h.df
    fx := h.fx.put d v h1
    tv := h.tv.put i d v (by omega) (by rw [h.sz]; exact hd) h2 h3
    mm := h.mm, mx := h.mx, mr := h.mr, o := h.o
    b6 := fun q => by rw [set_at, if_neg (by omega)] at q ⊢; exact h.b6 q
    b7 := fun q => by rw [set_at, if_neg (by omega)] at q ⊢; exact h.b7 q
    a6 := fun q => by
      rw [set_at, if_neg (by omega)] at q
      obtain ⟨r, C, c1, c2, c3, c4, c5⟩ := h.a6 q
      exact ⟨r, C, by rw [put_at, if_neg (by omega)]; exact c1, c2, c3, c4, fun q => c5 (by rw [set_at, if_neg (by omega)] at q; exact q)⟩
    a7 := fun q => by
      rw [set_at, if_neg (by omega)] at q
      obtain ⟨r, C, c1, c2, c3, c4, c5⟩ := h.a7 q
      exact ⟨r, C, by rw [put_at, if_neg (by omega)]; exact c1, c2, c3, c4, fun q => c5 (by rw [set_at, if_neg (by omega)] at q; exact q)⟩ }
end Go.Proofs.YtmanoheofloimaaGreatDoor
namespace Go.Proofs.YtmanoheofloimaaGreatDoor
open Go.ChangeShapes Go.WideShapes Go.ChangeAt Go.RowKit
set_option linter.unusedVariables false
set_option maxRecDepth 100000
theorem J3.world {x rb b rd B : Nat} {SL NL DL : List Value} {tm : Bool} {y : Int} {MA RA : Array Value} {M : Nat → Nat} {G : Nat → Bool} {w0 : World} {l : Array Bool} {a : Act} {w : World} {w' : World} (h : J3 x rb b rd B SL NL DL tm y MA RA M G w0 l a w) (hb : Below w.heap.size w w') (hB : B ≤ w0.heap.size) : J3 x rb b rd B SL NL DL tm y MA RA M G w0 l a w' :=
  { sz := h.sz, df := h.df, fx := h.fx, tv := h.tv, mm := h.mm.below hb h.mm.lt, mx := h.mx.below hb h.mx.lt, mr := h.mr.below hb h.mr.lt, b6 := h.b6, b7 := h.b7
    a6 := fun q => by
      obtain ⟨r, C, c1, c2, c3, c4, c5⟩ := h.a6 q
      exact ⟨r, C, c1, c2, c3.below hb c3.lt, c4, c5⟩
    a7 := fun q => by
      obtain ⟨r, C, c1, c2, c3, c4, c5⟩ := h.a7 q
      exact ⟨r, C, c1, c2, c3.below hb c3.lt, c4, c5⟩
    o := h.o.trans (hb.mono (Nat.le_trans hB h.o.size)) }
theorem J3.al6 {x rb b rd B : Nat} {SL NL DL : List Value} {tm : Bool} {y : Int} {MA RA : Array Value} {M : Nat → Nat} {G : Nat → Bool} {w0 : World} {l : Array Bool} {a : Act} {w : World} (h : J3 x rb b rd B SL NL DL tm y MA RA M G w0 l a w) (hl : l.size = 22) (hB : B ≤ w0.heap.size) (Z : Array Value) (hZ : Z.size = 151) (hu : l.getD 17 false = false) :
    J3 x rb b rd B SL NL DL tm y MA RA M G w0 (l.setIfInBounds 17 true) (a.put (some 6) (P w.heap.size 0)) (w.alloc (.cells Z 34)) := by
  have hw := h.world (hb := (Below.refl _ w).alloc (Nat.le_refl _) (.cells Z 34)) hB
  have hs := h.o.size
  have h0 : l.getD 19 false = false := by
    cases hq : l.getD 19 false with
    | false => rfl
    | true => rw [h.b6 hq] at hu; cases hu
  exact {
           sz := by rw [put_size]; exact hw.sz
           df := hw.df
           fx := hw.fx.put 6 _ (by rfl)
           tv := fun e he hb => by
             have hne : 6 ≠ e.2.1 ∧ 17 ≠ e.1 := by
               simp only [T3, List.mem_cons, List.not_mem_nil, or_false] at he
               rcases he with rfl | rfl | rfl | rfl | rfl | rfl | rfl | rfl | rfl | rfl | rfl | rfl | rfl | rfl | rfl | rfl | rfl | rfl <;> exact ⟨by simp, by simp⟩
             rw [set_at, if_neg (by omega)] at hb
             rw [put_at, if_neg (by omega)]
             exact hw.tv e he hb
           mm := hw.mm, mx := hw.mx, mr := hw.mr, o := hw.o
           b6 := fun _ => by rw [set_at, if_pos ⟨rfl, by omega⟩]
           b7 := fun q => by rw [set_at, if_neg (by omega)] at q ⊢; exact h.b7 q
           a6 := fun q => ⟨w.heap.size, Z, by rw [put_at, if_pos ⟨rfl, by rw [h.sz]; decide⟩], by omega, Blk.new _ _ _, hZ, fun q => by rw [set_at, if_neg (by omega), h0] at q; cases q⟩
           a7 := fun q => by
             rw [set_at, if_neg (by omega)] at q
             obtain ⟨r, C, c1, c2, c3, c4, c5⟩ := hw.a7 q
             exact ⟨r, C, by rw [put_at, if_neg (by omega)]; exact c1, c2, c3, c4, fun q => c5 (by rw [set_at, if_neg (by omega)] at q; exact q)⟩ }
theorem J3.al7 {x rb b rd B : Nat} {SL NL DL : List Value} {tm : Bool} {y : Int} {MA RA : Array Value} {M : Nat → Nat} {G : Nat → Bool} {w0 : World} {l : Array Bool} {a : Act} {w : World} (h : J3 x rb b rd B SL NL DL tm y MA RA M G w0 l a w) (hl : l.size = 22) (hB : B ≤ w0.heap.size) (Z : Array Value) (hZ : Z.size = 5) (hu : l.getD 18 false = false) :
    J3 x rb b rd B SL NL DL tm y MA RA M G w0 (l.setIfInBounds 18 true) (a.put (some 7) (P w.heap.size 0)) (w.alloc (.cells Z 39)) := by
  have hw := h.world (hb := (Below.refl _ w).alloc (Nat.le_refl _) (.cells Z 39)) hB
  have hs := h.o.size
  have h0 : l.getD 20 false = false := by
    cases hq : l.getD 20 false with
    | false => rfl
    | true => rw [h.b7 hq] at hu; cases hu
  exact {
           sz := by rw [put_size]; exact hw.sz
           df := hw.df
           fx := hw.fx.put 7 _ (by rfl)
           tv := fun e he hb => by
             have hne : 7 ≠ e.2.1 ∧ 18 ≠ e.1 := by
               simp only [T3, List.mem_cons, List.not_mem_nil, or_false] at he
               rcases he with rfl | rfl | rfl | rfl | rfl | rfl | rfl | rfl | rfl | rfl | rfl | rfl | rfl | rfl | rfl | rfl | rfl | rfl <;> exact ⟨by simp, by simp⟩
             rw [set_at, if_neg (by omega)] at hb
             rw [put_at, if_neg (by omega)]
             exact hw.tv e he hb
           mm := hw.mm, mx := hw.mx, mr := hw.mr, o := hw.o
           b7 := fun _ => by rw [set_at, if_pos ⟨rfl, by omega⟩]
           b6 := fun q => by rw [set_at, if_neg (by omega)] at q ⊢; exact h.b6 q
           a6 := fun q => by
             rw [set_at, if_neg (by omega)] at q
             obtain ⟨r, C, c1, c2, c3, c4, c5⟩ := hw.a6 q
             exact ⟨r, C, by rw [put_at, if_neg (by omega)]; exact c1, c2, c3, c4, fun q => c5 (by rw [set_at, if_neg (by omega)] at q; exact q)⟩
           a7 := fun q => ⟨w.heap.size, Z, by rw [put_at, if_pos ⟨rfl, by rw [h.sz]; decide⟩], by omega, Blk.new _ _ _, hZ, fun q => by rw [set_at, if_neg (by omega), h0] at q; cases q⟩ }
theorem J3.st6 {x rb b rd B : Nat} {SL NL DL : List Value} {tm : Bool} {y : Int} {MA RA : Array Value} {M : Nat → Nat} {G : Nat → Bool} {w0 : World} {l : Array Bool} {a : Act} {w : World} (h : J3 x rb b rd B SL NL DL tm y MA RA M G w0 l a w) (hl : l.size = 22) (hxB : x < B) (hrB : rb < B) (hbB : b < B) (r : Nat) (C : Array Value) (c2 : B ≤ r) (c3 : Blk w r 34 C) (hr : ∀ i, i = 17 → a.tmps.getD 6 undef = P r 0) (hL : NL.length = 151) (hu : l.getD 17 false = true) :
    J3 x rb b rd B SL NL DL tm y MA RA M G w0 (l.setIfInBounds 19 true) a (w.setRow r NL.toArray) :=
  { sz := h.sz, df := h.df, fx := h.fx
    tv := h.tv.set 19 (by rfl)
    mm := h.mm.far (only_row w r _) (by omega)
    mx := (only_row w r _).blk (by omega) h.mx
    mr := (only_row w r _).blk (by omega) h.mr
    a6 := fun q => ⟨r, NL.toArray, hr _ rfl, c2, blk_row c3 _, by rw [List.size_toArray, hL], fun _ => rfl⟩
    a7 := fun q => by
      rw [set_at, if_neg (by omega)] at q
      obtain ⟨r', C', d1, d2, d3, d4, d5⟩ := h.a7 q
      have hne : r' ≠ r := fun e => by
        subst e
        have := d3.symm.trans c3
        injection this with this
        injection this with _ h2
        exact absurd h2 (by decide)
      exact ⟨r', C', d1, d2, (only_row w r _).blk hne d3, d4, fun q => d5 (by rw [set_at, if_neg (by omega)] at q; exact q)⟩
    b6 := fun _ => by rw [set_at, if_neg (by omega)]; exact hu
    b7 := fun q => by rw [set_at, if_neg (by omega)] at q ⊢; exact h.b7 q
    o := below_setRow h.o c2 _ }
theorem J3.st7 {x rb b rd B : Nat} {SL NL DL : List Value} {tm : Bool} {y : Int} {MA RA : Array Value} {M : Nat → Nat} {G : Nat → Bool} {w0 : World} {l : Array Bool} {a : Act} {w : World} (h : J3 x rb b rd B SL NL DL tm y MA RA M G w0 l a w) (hl : l.size = 22) (hxB : x < B) (hrB : rb < B) (hbB : b < B) (r : Nat) (C : Array Value) (c2 : B ≤ r) (c3 : Blk w r 39 C) (hr : ∀ i, i = 18 → a.tmps.getD 7 undef = P r 0) (hL : DL.length = 5) (hu : l.getD 18 false = true) :
    J3 x rb b rd B SL NL DL tm y MA RA M G w0 (l.setIfInBounds 20 true) a (w.setRow r DL.toArray) :=
  { sz := h.sz, df := h.df, fx := h.fx
    tv := h.tv.set 20 (by rfl)
    mm := h.mm.far (only_row w r _) (by omega)
    mx := (only_row w r _).blk (by omega) h.mx
    mr := (only_row w r _).blk (by omega) h.mr
    a7 := fun q => ⟨r, DL.toArray, hr _ rfl, c2, blk_row c3 _, by rw [List.size_toArray, hL], fun _ => rfl⟩
    a6 := fun q => by
      rw [set_at, if_neg (by omega)] at q
      obtain ⟨r', C', d1, d2, d3, d4, d5⟩ := h.a6 q
      have hne : r' ≠ r := fun e => by
        subst e
        have := d3.symm.trans c3
        injection this with this
        injection this with _ h2
        exact absurd h2 (by decide)
      exact ⟨r', C', d1, d2, (only_row w r _).blk hne d3, d4, fun q => d5 (by rw [set_at, if_neg (by omega)] at q; exact q)⟩
    b7 := fun _ => by rw [set_at, if_neg (by omega)]; exact hu
    b6 := fun q => by rw [set_at, if_neg (by omega)] at q ⊢; exact h.b6 q
    o := below_setRow h.o c2 _ }
end Go.Proofs.YtmanoheofloimaaGreatDoor
