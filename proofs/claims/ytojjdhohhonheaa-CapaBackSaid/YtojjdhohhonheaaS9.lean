import Derived.Test.YtojjdhohhonheaaL7
import Derived.Test.YtojjdhohhonheaaI
import Derived.Test.YtojjdhohhonheaaHE
import Derived.Deep.DeepCutAuto
import Derived.Deep.CutBlock
import Derived.IntWalk
import Derived.Laws.Rows
import Derived.Laws.OwnMore
import Derived.Deep.Draws
namespace Go.Proofs.Ytojjdhohhonheaa
open Go.ChangeShapes Go.WideShapes Go.ChangeAt Go.RowKit
set_option linter.unusedVariables false
def Blk (w : World) (g : Nat) (t : TypeId) (cs : Array Value) : Prop := w.heap[g]? = some (.cells cs t (0, 0))
section
variable {w w' : World} {g : Nat} {t : TypeId} {cs : Array Value}
theorem Blk.lt (h : Blk w g t cs) : g < w.heap.size := by
  rcases Nat.lt_or_ge g w.heap.size with hlt | hge
  · exact hlt
  · unfold Blk at h; rw [Array.getElem?_eq_none hge] at h; cases h
theorem Blk.cell (h : Blk w g t cs) (i : Nat) : w.cell? ⟨g, i, none⟩ = cs[i]? := cell_of_row w g i cs t (0, 0) h
theorem Blk.frozen (h : Blk w g t cs) (i : Nat) : w.frozen? ⟨g, i, none⟩ = false := by
  unfold Blk at h
  simp [World.frozen?, h]
theorem Blk.new (w : World) (t : TypeId) (cs : Array Value) : Blk (w.alloc (.cells cs t)) w.heap.size t cs := heap_alloc_new w _
theorem Blk.drew (h : Blk w g t cs) : Blk w.drew g t cs := h
theorem Blk.alloc (h : Blk w g t cs) (o : Obj) : Blk (w.alloc o) g t cs := (Below.heap_alloc w o g h.lt).trans h
theorem Blk.set_ (h : Blk w g t cs) (i : Nat) (u : Value) : Blk (w.setCell ⟨g, i, none⟩ u) g t (cs.setIfInBounds i u) := by
  unfold Blk at h ⊢
  simp [World.setCell, Array.getElem?_modify, h]
theorem Blk.far (h : Blk w g t cs) {p : Addr} (hp : g ≠ p.block) (u : Value) : Blk (w.setCell p u) g t cs := (Below.heap_setCell w p u g hp).trans h
theorem Blk.below {B : Nat} (h : Blk w g t cs) (hb : Below B w w') (hg : g < B) : Blk w' g t cs := (hb.block g hg).trans h
theorem Blk.cells7 {v0 v1 v2 v3 v4 v5 v6 : Value} (h : Blk w g t #[v0, v1, v2, v3, v4, v5, v6]) : w.cell? ⟨g, 0, none⟩ = some v0 ∧ w.cell? ⟨g, 1, none⟩ = some v1 ∧ w.cell? ⟨g, 2, none⟩ = some v2 ∧ w.cell? ⟨g, 3, none⟩ = some v3 ∧ w.cell? ⟨g, 4, none⟩ = some v4 ∧ w.cell? ⟨g, 5, none⟩ = some v5 ∧ w.cell? ⟨g, 6, none⟩ = some v6 :=
  ⟨h.cell 0, h.cell 1, h.cell 2, h.cell 3, h.cell 4, h.cell 5, h.cell 6⟩
theorem Blk.frozen7 (h : Blk w g t cs) : w.frozen? ⟨g, 0, none⟩ = false ∧ w.frozen? ⟨g, 1, none⟩ = false ∧ w.frozen? ⟨g, 2, none⟩ = false ∧ w.frozen? ⟨g, 3, none⟩ = false ∧ w.frozen? ⟨g, 4, none⟩ = false ∧ w.frozen? ⟨g, 5, none⟩ = false ∧ w.frozen? ⟨g, 6, none⟩ = false :=
  ⟨h.frozen 0, h.frozen 1, h.frozen 2, h.frozen 3, h.frozen 4, h.frozen 5, h.frozen 6⟩
theorem Blk.set7 {v0 v1 v2 v3 v4 v5 v6 : Value} (h : Blk w g t #[v0, v1, v2, v3, v4, v5, v6]) (u0 u1 u2 u3 u4 u5 u6 : Value) :
    Blk (((((((w.setCell ⟨g, 0, none⟩ u0).setCell ⟨g, 1, none⟩ u1).setCell ⟨g, 2, none⟩ u2).setCell ⟨g, 3, none⟩ u3).setCell ⟨g, 4, none⟩ u4).setCell ⟨g, 5, none⟩ u5).setCell ⟨g, 6, none⟩ u6) g t #[u0, u1, u2, u3, u4, u5, u6] := by
  have := ((((((h.set_ 0 u0).set_ 1 u1).set_ 2 u2).set_ 3 u3).set_ 4 u4).set_ 5 u5).set_ 6 u6
  simpa using this
theorem Blk.far7 {g' : Nat} (h : Blk w g t cs) (hp : g ≠ g') (u0 u1 u2 u3 u4 u5 u6 : Value) :
    Blk (((((((w.setCell ⟨g', 0, none⟩ u0).setCell ⟨g', 1, none⟩ u1).setCell ⟨g', 2, none⟩ u2).setCell ⟨g', 3, none⟩ u3).setCell ⟨g', 4, none⟩ u4).setCell ⟨g', 5, none⟩ u5).setCell ⟨g', 6, none⟩ u6) g t cs :=
  ((((((h.far hp u0).far hp u1).far hp u2).far hp u3).far hp u4).far hp u5).far hp u6
theorem below7 {w0 : World} {g' : Nat} (h : Below w0.heap.size w0 w) (hp : w0.heap.size ≤ g') (u0 u1 u2 u3 u4 u5 u6 : Value) :
    Below w0.heap.size w0 (((((((w.setCell ⟨g', 0, none⟩ u0).setCell ⟨g', 1, none⟩ u1).setCell ⟨g', 2, none⟩ u2).setCell ⟨g', 3, none⟩ u3).setCell ⟨g', 4, none⟩ u4).setCell ⟨g', 5, none⟩ u5).setCell ⟨g', 6, none⟩ u6) :=
  ((((((h.setCell hp u0).setCell hp u1).setCell hp u2).setCell hp u3).setCell hp u4).setCell hp u5).setCell hp u6
end
theorem keepS {w0 wa wb : World} {g1 g2 bl o : Nat} {t1 t2 : TypeId} {c1 c2 : Array Value} {v : Value} (h : Below w0.heap.size w0 wa ∧ Blk wa g1 t1 c1 ∧ Blk wa g2 t2 c2 ∧ wa.cell? ⟨bl, o, none⟩ = some v) (hb : Below wa.heap.size wa wb) :
    Below w0.heap.size w0 wb ∧ Blk wb g1 t1 c1 ∧ Blk wb g2 t2 c2 ∧ wb.cell? ⟨bl, o, none⟩ = some v := by
  obtain ⟨h1, h2, h3, h4⟩ := h
  exact ⟨h1.trans (hb.mono h1.size), h2.below hb h2.lt, h3.below hb h3.lt, (hb.cell (World.block_lt_of_cell? wa _ h4)).trans h4⟩
def In (pq b8 E0 B0 T0 a p e b t : Nat) : Prop := p &&& (255 - pq) = 0 ∧ bs (E0 % 16) (B0 % 512) b8 ≤ bs (e % 16) (b % 512) a ∧ tp e b t a ≤ tp E0 B0 T0 b8
theorem u32w (z : Int) : ∃ n : Nat, IntKind.u32.wrap z = (n : Int) ∧ n < 4294967296 := ⟨(z % 4294967296).toNat, by show z % 4294967296 = _; omega, by omega⟩
theorem stA {pq b8 E0 B0 T0 : Nat} (g : Bool) (a p e b t n : Nat) (ha : a < 4294967296) (he : e < 256) (hb : b < 65536) (ht : t < 65536) (hn : n < 4294967296) (hI : g = true → In pq b8 E0 B0 T0 a p e b t) :
    ∃ g', (∀ w : World, Calls Try.prog 18 #[cp g a p 0 e b t, .int .u32 (n : Int)] w fun en w' => en = .returned (cp g' n p 0 e b t) ∧ Below w.heap.size w w') ∧ (g' = true → In pq b8 E0 B0 T0 n p e b t) := by
  refine ⟨_, fun w => c18b g a p 0 e b t n ha (by omega) he hb ht hn w, fun h => ?_⟩
  simp only [Bool.and_eq_true, decide_eq_true_eq] at h
  obtain ⟨h1, _, h3⟩ := h
  obtain ⟨q1, q2, q3⟩ := hI h1
  refine ⟨q1, by rw [← h3]; exact q2, ?_⟩
  unfold tp at q3 ⊢
  rw [← h3]
  exact q3
theorem stB {pq b8 E0 B0 T0 : Nat} (g : Bool) (a p e b t l : Nat) (ha : a < 4294967296) (he : e < 256) (hb : b < 65536) (ht : t < 65536) (hl : l < 4294967296) (hI : g = true → In pq b8 E0 B0 T0 a p e b t) :
    ∃ (g' : Bool) (e' b' t' : Nat), e' < 256 ∧ b' < 65536 ∧ t' < 65536 ∧ (∀ w : World, Calls Try.prog 20 #[cp g a p 0 e b t, .int .u32 (l : Int)] w fun en w' => en = .returned (cp g' a p 0 e' b' t') ∧ Below w.heap.size w w') ∧ (g' = true → In pq b8 E0 B0 T0 a p e' b' t') := by
  obtain ⟨gb, eb, bb, tb, hsb, he', hb', ht', hF1⟩ := sbForm2 g a p 0 e b t l he hb ht
  have k2 := c20s g a p 0 e b t l ha (by omega) he hb ht hl
  rw [hsb] at k2
  refine ⟨gb, eb, bb, tb, he', hb', ht', k2, fun h => ?_⟩
  obtain ⟨h1, _, h3, h4⟩ := hF1 h
  obtain ⟨q1, q2, q3⟩ := hI h1
  exact ⟨q1, Nat.le_trans q2 h3, Nat.le_trans h4 q3⟩
theorem and_lt (p s : Nat) (hp : p < 256) : p &&& s < 256 := Nat.lt_of_le_of_lt Nat.and_le_left hp
theorem stC {pq b8 E0 B0 T0 : Nat} (g : Bool) (a p e b t s : Nat) (hp : p < 256) (hs : s < 4294967296) (hI : g = true → In pq b8 E0 B0 T0 a p e b t) :
    ∃ (g' : Bool) (p' : Nat), p' < 256 ∧ (∀ w : World, Calls Try.prog 22 #[cp g a p 0 e b t, .int .u32 (s : Int)] w fun en w' => en = .returned (cp g' a p' 0 e b t) ∧ Below w.heap.size w w') ∧ (g' = true → In pq b8 E0 B0 T0 a p' e b t) := by
  refine ⟨_, _, and_lt _ _ hp, fun w => c22 g a p 0 e b t s hp (by omega) hs w, fun h => ?_⟩
  simp only [Bool.and_eq_true, decide_eq_true_eq] at h
  obtain ⟨q1, q2, q3⟩ := hI h.1
  refine ⟨?_, q2, q3⟩
  rw [Nat.and_assoc, Nat.and_comm (s % 256), ← Nat.and_assoc, q1, Nat.zero_and]
def LQ (w0 wr : World) (br : Nat) (pq b8 E0 B0 T0 : Nat) : Prop := Below w0.heap.size w0 wr ∧ Blk wr br 27 #[.bool true, .int .u32 (b8 : Int), .int .u8 (pq : Int), .int .u8 0, .int .u8 (E0 : Int), .int .u16 (B0 : Int), .int .u16 (T0 : Int)] ∧
  ∃ (gc : Bool) (ac pc ec bc tc : Nat), ac < 4294967296 ∧ pc < 256 ∧ ec < 256 ∧ bc < 65536 ∧ tc < 65536 ∧ (gc = true → In pq b8 E0 B0 T0 ac pc ec bc tc) ∧ Blk wr (br + 1) 27 #[.bool gc, .int .u32 (ac : Int), .int .u8 (pc : Int), .int .u8 0, .int .u8 (ec : Int), .int .u16 (bc : Int), .int .u16 (tc : Int)]
theorem LQ.below {w0 wa wb : World} {br pq b8 E0 B0 T0 : Nat} (h : LQ w0 wa br pq b8 E0 B0 T0) (hb : Below wa.heap.size wa wb) : LQ w0 wb br pq b8 E0 B0 T0 := by
  obtain ⟨h1, h2, gc, ac, pc, ec, bc, tc, q1, q2, q3, q4, q5, q6, q7⟩ := h
  exact ⟨h1.trans (hb.mono h1.size), h2.below hb h2.lt, gc, ac, pc, ec, bc, tc, q1, q2, q3, q4, q5, q6, q7.below hb q7.lt⟩
def LR (w0 : World) (br : Nat) (pq b8 E0 B0 T0 : Nat) (i : Value) (wr : World) : Prop := ∃ k : Nat, k ≤ 31 ∧ i = .int .i64 (k : Int) ∧ LQ w0 wr br pq b8 E0 B0 T0
theorem LQ.start {w0 w1 : World} {pq b8 E0 B0 T0 : Nat} (h : Below w0.heap.size w0 w1) (h1 : b8 < 4294967296) (h2 : pq < 256) (h3 : E0 < 256) (h4 : B0 < 65536) (h5 : T0 < 65536) :
    LQ w0 ((w1.alloc (.cells #[.bool true, .int .u32 (b8 : Int), .int .u8 (pq : Int), .int .u8 0, .int .u8 (E0 : Int), .int .u16 (B0 : Int), .int .u16 (T0 : Int)] 27)).alloc (.cells #[.bool true, .int .u32 (b8 : Int), .int .u8 (pq : Int), .int .u8 0, .int .u8 (E0 : Int), .int .u16 (B0 : Int), .int .u16 (T0 : Int)] 27)) w1.heap.size pq b8 E0 B0 T0 := by
  refine ⟨(h.alloc h.size _).alloc (by have := h.size; simp; omega) _, (Blk.new _ _ _).alloc _, true, b8, pq, E0, B0, T0, h1, h2, h3, h4, h5, fun _ => ⟨pself pq h2, Nat.le_refl _, Nat.le_refl _⟩, ?_⟩
  have := Blk.new (w1.alloc (.cells #[.bool true, .int .u32 (b8 : Int), .int .u8 (pq : Int), .int .u8 0, .int .u8 (E0 : Int), .int .u16 (B0 : Int), .int .u16 (T0 : Int)] 27)) 27 #[.bool true, .int .u32 (b8 : Int), .int .u8 (pq : Int), .int .u8 0, .int .u8 (E0 : Int), .int .u16 (B0 : Int), .int .u16 (T0 : Int)]
  simpa using this
end Go.Proofs.Ytojjdhohhonheaa
