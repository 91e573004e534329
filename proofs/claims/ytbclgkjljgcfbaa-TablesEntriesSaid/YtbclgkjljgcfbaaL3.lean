import Derived.Test.YtbclgkjljgcfbaaD
namespace Go.Proofs.Ytbclgkjljgcfbaa
open Go.ChangeShapes Go.WideShapes Go.ChangeAt Go.RowKit
open Cp (Blk cp bs ln ex ex_err rootV set7 set7a bcell cellAlloc)
set_option linter.unusedVariables false
theorem blk4 {w : World} {g : Nat} {t : TypeId} {v0 v1 v2 v3 : Value} (h : Blk w g t #[v0, v1, v2, v3]) : w.cell? ⟨g, 0, none⟩ = some v0 ∧ w.cell? ⟨g, 1, none⟩ = some v1 ∧ w.cell? ⟨g, 2, none⟩ = some v2 ∧ w.cell? ⟨g, 3, none⟩ = some v3 :=
  ⟨h.cell 0, h.cell 1, h.cell 2, h.cell 3⟩
theorem blk3 {w : World} {g : Nat} {t : TypeId} {v0 v1 v2 : Value} (h : Blk w g t #[v0, v1, v2]) : w.cell? ⟨g, 0, none⟩ = some v0 ∧ w.cell? ⟨g, 1, none⟩ = some v1 ∧ w.cell? ⟨g, 2, none⟩ = some v2 :=
  ⟨h.cell 0, h.cell 1, h.cell 2⟩
set_option maxHeartbeats 16000000 in
theorem walk3 (l : Value) (k : Nat) (o : Int) (q : Nat) (qo : Int) (qa qn m d : Nat) (s : ByteArray) (da dn : Nat)
    (u : Nat) (uo : Int) (ua un : Nat) (h : Bool)
    (g1 : Bool) (a1 p1 y1 e1 b1 t1 r1 : Nat) (g2 : Bool) (a2 p2 y2 e2 b2 t2 r2 : Nat) (w : World)
    (K5 : Hid (∀ w', Below w.heap.size w w' → Calls Try.prog 5 #[l, .int .u8 (k : Int), .int .i64 o] w' fun en w'' => en = .returned (.tuple #[rg u uo ua un, .bool h]) ∧ Below w'.heap.size w' w''))
    (K6 : Hid (∀ w', Below w.heap.size w w' → Calls Try.prog 6 #[l, .int .u8 (k : Int), .int .i64 o] w' fun en w'' => en = .returned (.tuple #[rg u uo ua un, .bool h]) ∧ Below w'.heap.size w' w''))
    (K7 : Hid (∀ w, Calls Try.prog 7 #[rg q qo qa qn, .int .u8 (m : Int), .int .u32 (d : Int)] w fun en w' => en = .returned (.tuple #[cp g1 a1 p1 y1 e1 b1 t1, .int .i64 (r1 : Int)]) ∧ Below w.heap.size w w'))
    (K8 : Hid (∀ w, Calls Try.prog 8 #[rg q qo qa qn, .int .u8 (m : Int), .int .u32 (d : Int)] w fun en w' => en = .returned (.tuple #[cp g1 a1 p1 y1 e1 b1 t1, .int .i64 (r1 : Int)]) ∧ Below w.heap.size w w'))
    (K9 : Hid (∀ w, Calls Try.prog 9 #[.agg #[.string s, .int .u32 (da : Int), .int .u32 (dn : Int)]] w fun en w' => en = .returned (.tuple #[cp g2 a2 p2 y2 e2 b2 t2, .int .i64 (r2 : Int)]) ∧ Below w.heap.size w w'))
    (K10 : Hid (∀ w, Calls Try.prog 10 #[.agg #[.string s, .int .u32 (da : Int), .int .u32 (dn : Int)]] w fun en w' => en = .returned (.tuple #[cp g2 a2 p2 y2 e2 b2 t2, .int .i64 (r2 : Int)]) ∧ Below w.heap.size w w')) :
    Calls Try.prog 3 #[l, .int .u8 (k : Int), .int .i64 o, rg q qo qa qn, .int .u8 (m : Int), .int .u32 (d : Int), .agg #[.string s, .int .u32 (da : Int), .int .u32 (dn : Int)]] w fun en w' => en = .returned (.bool true) ∧ Below w.heap.size w w' := by
  go_enter Try.func3, Try.ntmps3
  go_wp2_with fail
  have HX : Hid (Below w.heap.size w ((w.alloc (.cells #[.int .u8 (q : Int), .int .i64 qo, .int .u32 (qa : Int), .int .u32 (qn : Int)] 25)).alloc (.cells #[.string s, .int .u32 (da : Int), .int .u32 (dn : Int)] 27))) := Lib.hid (((Below.refl _ _).alloc (Nat.le_refl _) _).alloc (by simp) _)
  refine (K5.out _ HX.out).mono ?_
  rintro en w1 ⟨rfl, hb1⟩
  have hz1 : w.heap.size + 1 < w1.heap.size := by have := hb1.size; simp at this; omega
  have hB1 : Below w.heap.size w w1 := HX.out.trans (hb1.mono (by simp; omega))
  have P1 : Blk w1 w.heap.size 25 #[.int .u8 (q : Int), .int .i64 qo, .int .u32 (qa : Int), .int .u32 (qn : Int)] := ((Blk.new w 25 _).alloc _).below hb1 (by simp; omega)
  have D1 : Blk w1 (w.heap.size + 1) 27 #[.string s, .int .u32 (da : Int), .int .u32 (dn : Int)] := (new2 w _ 27 _).below hb1 (by simp)
  clear hb1
  go_wp2_with fail
  refine (K6.out _ (hB1.alloc (by omega) _)).mono ?_
  rintro en w2 ⟨rfl, hb2⟩
  have hz2 : w1.heap.size < w2.heap.size := by have := hb2.size; simp at this; omega
  have hB2 : Below w.heap.size w w2 := (hB1.alloc (by omega) _).trans (hb2.mono (by simp; omega))
  have P2 := (P1.alloc _).below hb2 (by simp; omega)
  have D2 := (D1.alloc _).below hb2 (by simp; omega)
  have A2 : Blk w2 w1.heap.size 25 #[.int .u8 (u : Int), .int .i64 uo, .int .u32 (ua : Int), .int .u32 (un : Int)] := (Blk.new w1 25 _).below hb2 (by simp)
  clear hb2 P1 D1
  obtain ⟨x0, x1, x2, x3⟩ := blk4 P2
  have hw2 : w.heap.size < w2.heap.size := by omega
  go_wp2_with fail
  refine (K7.out _).mono ?_
  rintro en w3 ⟨rfl, hb3⟩
  have hz3 : w2.heap.size < w3.heap.size := by have := hb3.size; simp at this; omega
  have hB3 : Below w.heap.size w w3 := (hB2.alloc (by omega) _).trans (hb3.mono (by simp; omega))
  have P3 := (P2.alloc _).below hb3 (by simp; omega)
  have D3 := (D2.alloc _).below hb3 (by simp; omega)
  have A3 := (A2.alloc _).below hb3 (by simp; omega)
  have B3 : Blk w3 w2.heap.size 25 #[.int .u8 (u : Int), .int .i64 uo, .int .u32 (ua : Int), .int .u32 (un : Int)] := (Blk.new w2 25 _).below hb3 (by simp)
  clear hb3 P2 D2 A2 x0 x1 x2 x3
  obtain ⟨x0, x1, x2, x3⟩ := blk4 P3
  have hw3 : w.heap.size < w3.heap.size := by omega
  go_wp2_with fail
  refine (K8.out _).mono ?_
  rintro en w4 ⟨rfl, hb4⟩
  have hz4 : w3.heap.size < w4.heap.size := by have := hb4.size; simp at this; omega
  have hB4 : Below w.heap.size w w4 := (hB3.alloc (by omega) _).trans (hb4.mono (by simp; omega))
  have D4 := (D3.alloc _).below hb4 (by simp; omega)
  have A4 := (A3.alloc _).below hb4 (by simp; omega)
  have B4 := (B3.alloc _).below hb4 (by simp; omega)
  have C4 : Blk w4 w3.heap.size 34 #[.bool g1, .int .u32 (a1 : Int), .int .u8 (p1 : Int), .int .u8 (y1 : Int), .int .u8 (e1 : Int), .int .u16 (b1 : Int), .int .u16 (t1 : Int)] := (Blk.new w3 34 _).below hb4 (by simp)
  clear hb4 P3 D3 A3 B3 x0 x1 x2 x3
  obtain ⟨x0, x1, x2⟩ := blk3 D4
  have hw4 : w.heap.size + 1 < w4.heap.size := by omega
  go_wp2_with fail
  refine (K9.out _).mono ?_
  rintro en w5 ⟨rfl, hb5⟩
  have hz5 : w4.heap.size < w5.heap.size := by have := hb5.size; simp at this; omega
  have hB5 : Below w.heap.size w w5 := (hB4.alloc (by omega) _).trans (hb5.mono (by simp; omega))
  have D5 := (D4.alloc _).below hb5 (by simp; omega)
  have A5 := (A4.alloc _).below hb5 (by simp; omega)
  have B5 := (B4.alloc _).below hb5 (by simp; omega)
  have C5 := (C4.alloc _).below hb5 (by simp; omega)
  have E5 : Blk w5 w4.heap.size 34 #[.bool g1, .int .u32 (a1 : Int), .int .u8 (p1 : Int), .int .u8 (y1 : Int), .int .u8 (e1 : Int), .int .u16 (b1 : Int), .int .u16 (t1 : Int)] := (Blk.new w4 34 _).below hb5 (by simp)
  clear hb5 D4 A4 B4 C4 x0 x1 x2
  obtain ⟨x0, x1, x2⟩ := blk3 D5
  have hw5 : w.heap.size + 1 < w5.heap.size := by omega
  go_wp2_with fail
  refine (K10.out _).mono ?_
  rintro en w6 ⟨rfl, hb6⟩
  have hz6 : w5.heap.size < w6.heap.size := by have := hb6.size; simp at this; omega
  have hB6 : Below w.heap.size w w6 := (hB5.alloc (by omega) _).trans (hb6.mono (by simp; omega))
  have A6 := (A5.alloc _).below hb6 (by simp; omega)
  have B6 := (B5.alloc _).below hb6 (by simp; omega)
  have C6 := (C5.alloc _).below hb6 (by simp; omega)
  have E6 := (E5.alloc _).below hb6 (by simp; omega)
  have F6 : Blk w6 w5.heap.size 34 #[.bool g2, .int .u32 (a2 : Int), .int .u8 (p2 : Int), .int .u8 (y2 : Int), .int .u8 (e2 : Int), .int .u16 (b2 : Int), .int .u16 (t2 : Int)] := (Blk.new w5 34 _).below hb6 (by simp)
  clear hb6 D5 A5 B5 C5 E5 x0 x1 x2
  obtain ⟨xa0, xa1, xa2, xa3⟩ := blk4 A6
  obtain ⟨xb0, xb1, xb2, xb3⟩ := blk4 B6
  obtain ⟨xc0, xc1, xc2, xc3, xc4, xc5, xc6⟩ := C6.cells7
  obtain ⟨xe0, xe1, xe2, xe3, xe4, xe5, xe6⟩ := E6.cells7
  obtain ⟨xf0, xf1, xf2, xf3, xf4, xf5, xf6⟩ := F6.cells7
  have l1 : w1.heap.size < w6.heap.size := by omega
  have l2 : w2.heap.size < w6.heap.size := by omega
  have l3 : w3.heap.size < w6.heap.size := by omega
  have l4 : w4.heap.size < w6.heap.size := by omega
  clear A6 B6 C6 E6 F6 hz1 hz2 hz3 hz4 hz5 hB1 hB2 hB3 hB4 hB5 hw2 hw3 hw4 hw5 HX
  go_wp2_with fail
  refine (works _).mono ?_
  rintro en w7 ⟨rfl, hb7⟩
  have HB7 : Below w.heap.size w w7 := (hB6.alloc hB6.size _).trans (hb7.mono (by have := hB6.size; simp; omega))
  go_wp2_with fail
  go_ret
  exact ⟨rfl, HB7⟩
theorem law3 (A : Option Addr) (n c : Nat) (f : Nat → Rg) (k : Nat) (o : Int) (q : Nat) (qo : Int) (qa qn m d : Nat) (s : ByteArray) (da dn : Nat) (w : World)
    (hA : Rgs w A n f) (hn : n ≤ 9223372036854775807) (hnc : n ≤ c) (ha : qa < 4294967296) (hq : qn < 4294967296) (hm : m < 256) (hd : d < 4294967296) (h1 : da < 4294967296) (h2 : dn < 4294967296) :
    Calls Try.prog 3 #[.slice A n c, .int .u8 (k : Int), .int .i64 o, rg q qo qa qn, .int .u8 (m : Int), .int .u32 (d : Int), .agg #[.string s, .int .u32 (da : Int), .int .u32 (dn : Int)]] w fun en w' => en = .returned (.bool true) ∧ Below w.heap.size w w' := by
  have k5 := fun (w' : World) (hb : Below w.heap.size w w') => c5 A n c k o f w' (hA.below hb) hn hnc
  have k6 := fun (w' : World) (hb : Below w.heap.size w w') => c6 A n c k o f w' (hA.below hb) hn hnc
  have k7 := c7 q qo qa qn m d ha hq hm hd
  have k8 := c8 q qo qa qn m d ha hq hm hd
  have k9 := c9 s da dn h1 h2
  have k10 := c10 s da dn h1 h2
  obtain ⟨u, uo, ua, un, h, e1⟩ := rgV_form f (fst f k o n)
  obtain ⟨g1, a1, p1, y1, e1', b1, t1, r1, e2⟩ := cpV_form qa qn m d
  obtain ⟨g2, a2, p2, e2', b2, t2, r2, e3, -⟩ := rtV_form da dn 19 h1 (by omega)
  rw [e1] at k5 k6
  rw [e2] at k7 k8
  rw [e3] at k9 k10
  exact walk3 _ k o q qo qa qn m d s da dn u uo ua un h g1 a1 p1 y1 e1' b1 t1 r1 g2 a2 p2 0 e2' b2 t2 r2 w (Lib.hid k5) (Lib.hid k6) (Lib.hid k7) (Lib.hid k8) (Lib.hid k9) (Lib.hid k10)
theorem law3f {P : Prop} {w0 : World} (A : Option Addr) (n c : Nat) (f : Nat → Rg) (k : Nat) (o : Int) (q : Nat) (qo : Int) (qa qn m d : Nat) (s : ByteArray) (da dn : Nat)
    (hA : Rgs w0 A n f) (hn : n ≤ 9223372036854775807) (hnc : n ≤ c) (hk : k < 256) (ho : P) (hq0 : q < 256) (ha : qa < 4294967296) (hq : qn < 4294967296) (hm : m < 256) (hd : d < 4294967296) (h1 : da < 4294967296) (h2 : dn < 4294967296) (w : World) (hw : w0 = w := by rfl) :
    Calls Try.prog 3 #[.slice A n c, .int .u8 (k : Int), .int .i64 o, rg q qo qa qn, .int .u8 (m : Int), .int .u32 (d : Int), .agg #[.string s, .int .u32 (da : Int), .int .u32 (dn : Int)]] w fun en w' => en = .returned (.bool true) ∧ Below w.heap.size w w' := by
  subst hw
  exact law3 A n c f k o q qo qa qn m d s da dn _ hA hn hnc ha hq hm hd h1 h2
end Go.Proofs.Ytbclgkjljgcfbaa
