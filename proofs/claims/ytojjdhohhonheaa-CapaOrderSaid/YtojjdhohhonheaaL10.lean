import Derived.Test.YtojjdhohhonheaaM
import Derived.Test.YtojjdhohhonheaaR
namespace Go.Proofs.Ytojjdhohhonheaa
open Go.ChangeShapes Go.WideShapes Go.ChangeAt Go.RowKit
set_option linter.unusedVariables false
theorem start777 (w : World) (u0 u1 u2 u3 u4 u5 u6 v0 v1 v2 v3 v4 v5 v6 x0 x1 x2 x3 x4 x5 x6 : Value) (T : TypeId) :
    (Below w.heap.size w (((w.alloc (.cells #[u0, u1, u2, u3, u4, u5, u6] T)).alloc (.cells #[v0, v1, v2, v3, v4, v5, v6] T)).alloc (.cells #[x0, x1, x2, x3, x4, x5, x6] T)) ∧ w.heap.size < (((w.alloc (.cells #[u0, u1, u2, u3, u4, u5, u6] T)).alloc (.cells #[v0, v1, v2, v3, v4, v5, v6] T)).alloc (.cells #[x0, x1, x2, x3, x4, x5, x6] T)).heap.size ∧ (((w.alloc (.cells #[u0, u1, u2, u3, u4, u5, u6] T)).alloc (.cells #[v0, v1, v2, v3, v4, v5, v6] T)).alloc (.cells #[x0, x1, x2, x3, x4, x5, x6] T)).cell? ⟨w.heap.size, 0, none⟩ = some u0 ∧ (((w.alloc (.cells #[u0, u1, u2, u3, u4, u5, u6] T)).alloc (.cells #[v0, v1, v2, v3, v4, v5, v6] T)).alloc (.cells #[x0, x1, x2, x3, x4, x5, x6] T)).cell? ⟨w.heap.size, 1, none⟩ = some u1 ∧ (((w.alloc (.cells #[u0, u1, u2, u3, u4, u5, u6] T)).alloc (.cells #[v0, v1, v2, v3, v4, v5, v6] T)).alloc (.cells #[x0, x1, x2, x3, x4, x5, x6] T)).cell? ⟨w.heap.size, 2, none⟩ = some u2 ∧ (((w.alloc (.cells #[u0, u1, u2, u3, u4, u5, u6] T)).alloc (.cells #[v0, v1, v2, v3, v4, v5, v6] T)).alloc (.cells #[x0, x1, x2, x3, x4, x5, x6] T)).cell? ⟨w.heap.size, 3, none⟩ = some u3 ∧ (((w.alloc (.cells #[u0, u1, u2, u3, u4, u5, u6] T)).alloc (.cells #[v0, v1, v2, v3, v4, v5, v6] T)).alloc (.cells #[x0, x1, x2, x3, x4, x5, x6] T)).cell? ⟨w.heap.size, 4, none⟩ = some u4 ∧ (((w.alloc (.cells #[u0, u1, u2, u3, u4, u5, u6] T)).alloc (.cells #[v0, v1, v2, v3, v4, v5, v6] T)).alloc (.cells #[x0, x1, x2, x3, x4, x5, x6] T)).cell? ⟨w.heap.size, 5, none⟩ = some u5 ∧ (((w.alloc (.cells #[u0, u1, u2, u3, u4, u5, u6] T)).alloc (.cells #[v0, v1, v2, v3, v4, v5, v6] T)).alloc (.cells #[x0, x1, x2, x3, x4, x5, x6] T)).cell? ⟨w.heap.size, 6, none⟩ = some u6) ∧ (Below w.heap.size w (((w.alloc (.cells #[u0, u1, u2, u3, u4, u5, u6] T)).alloc (.cells #[v0, v1, v2, v3, v4, v5, v6] T)).alloc (.cells #[x0, x1, x2, x3, x4, x5, x6] T)) ∧ (w.heap.size + 1) < (((w.alloc (.cells #[u0, u1, u2, u3, u4, u5, u6] T)).alloc (.cells #[v0, v1, v2, v3, v4, v5, v6] T)).alloc (.cells #[x0, x1, x2, x3, x4, x5, x6] T)).heap.size ∧ (((w.alloc (.cells #[u0, u1, u2, u3, u4, u5, u6] T)).alloc (.cells #[v0, v1, v2, v3, v4, v5, v6] T)).alloc (.cells #[x0, x1, x2, x3, x4, x5, x6] T)).cell? ⟨(w.heap.size + 1), 0, none⟩ = some v0 ∧ (((w.alloc (.cells #[u0, u1, u2, u3, u4, u5, u6] T)).alloc (.cells #[v0, v1, v2, v3, v4, v5, v6] T)).alloc (.cells #[x0, x1, x2, x3, x4, x5, x6] T)).cell? ⟨(w.heap.size + 1), 1, none⟩ = some v1 ∧ (((w.alloc (.cells #[u0, u1, u2, u3, u4, u5, u6] T)).alloc (.cells #[v0, v1, v2, v3, v4, v5, v6] T)).alloc (.cells #[x0, x1, x2, x3, x4, x5, x6] T)).cell? ⟨(w.heap.size + 1), 2, none⟩ = some v2 ∧ (((w.alloc (.cells #[u0, u1, u2, u3, u4, u5, u6] T)).alloc (.cells #[v0, v1, v2, v3, v4, v5, v6] T)).alloc (.cells #[x0, x1, x2, x3, x4, x5, x6] T)).cell? ⟨(w.heap.size + 1), 3, none⟩ = some v3 ∧ (((w.alloc (.cells #[u0, u1, u2, u3, u4, u5, u6] T)).alloc (.cells #[v0, v1, v2, v3, v4, v5, v6] T)).alloc (.cells #[x0, x1, x2, x3, x4, x5, x6] T)).cell? ⟨(w.heap.size + 1), 4, none⟩ = some v4 ∧ (((w.alloc (.cells #[u0, u1, u2, u3, u4, u5, u6] T)).alloc (.cells #[v0, v1, v2, v3, v4, v5, v6] T)).alloc (.cells #[x0, x1, x2, x3, x4, x5, x6] T)).cell? ⟨(w.heap.size + 1), 5, none⟩ = some v5 ∧ (((w.alloc (.cells #[u0, u1, u2, u3, u4, u5, u6] T)).alloc (.cells #[v0, v1, v2, v3, v4, v5, v6] T)).alloc (.cells #[x0, x1, x2, x3, x4, x5, x6] T)).cell? ⟨(w.heap.size + 1), 6, none⟩ = some v6) ∧ (Below w.heap.size w (((w.alloc (.cells #[u0, u1, u2, u3, u4, u5, u6] T)).alloc (.cells #[v0, v1, v2, v3, v4, v5, v6] T)).alloc (.cells #[x0, x1, x2, x3, x4, x5, x6] T)) ∧ (w.heap.size + 1 + 1) < (((w.alloc (.cells #[u0, u1, u2, u3, u4, u5, u6] T)).alloc (.cells #[v0, v1, v2, v3, v4, v5, v6] T)).alloc (.cells #[x0, x1, x2, x3, x4, x5, x6] T)).heap.size ∧ (((w.alloc (.cells #[u0, u1, u2, u3, u4, u5, u6] T)).alloc (.cells #[v0, v1, v2, v3, v4, v5, v6] T)).alloc (.cells #[x0, x1, x2, x3, x4, x5, x6] T)).cell? ⟨(w.heap.size + 1 + 1), 0, none⟩ = some x0 ∧ (((w.alloc (.cells #[u0, u1, u2, u3, u4, u5, u6] T)).alloc (.cells #[v0, v1, v2, v3, v4, v5, v6] T)).alloc (.cells #[x0, x1, x2, x3, x4, x5, x6] T)).cell? ⟨(w.heap.size + 1 + 1), 1, none⟩ = some x1 ∧ (((w.alloc (.cells #[u0, u1, u2, u3, u4, u5, u6] T)).alloc (.cells #[v0, v1, v2, v3, v4, v5, v6] T)).alloc (.cells #[x0, x1, x2, x3, x4, x5, x6] T)).cell? ⟨(w.heap.size + 1 + 1), 2, none⟩ = some x2 ∧ (((w.alloc (.cells #[u0, u1, u2, u3, u4, u5, u6] T)).alloc (.cells #[v0, v1, v2, v3, v4, v5, v6] T)).alloc (.cells #[x0, x1, x2, x3, x4, x5, x6] T)).cell? ⟨(w.heap.size + 1 + 1), 3, none⟩ = some x3 ∧ (((w.alloc (.cells #[u0, u1, u2, u3, u4, u5, u6] T)).alloc (.cells #[v0, v1, v2, v3, v4, v5, v6] T)).alloc (.cells #[x0, x1, x2, x3, x4, x5, x6] T)).cell? ⟨(w.heap.size + 1 + 1), 4, none⟩ = some x4 ∧ (((w.alloc (.cells #[u0, u1, u2, u3, u4, u5, u6] T)).alloc (.cells #[v0, v1, v2, v3, v4, v5, v6] T)).alloc (.cells #[x0, x1, x2, x3, x4, x5, x6] T)).cell? ⟨(w.heap.size + 1 + 1), 5, none⟩ = some x5 ∧ (((w.alloc (.cells #[u0, u1, u2, u3, u4, u5, u6] T)).alloc (.cells #[v0, v1, v2, v3, v4, v5, v6] T)).alloc (.cells #[x0, x1, x2, x3, x4, x5, x6] T)).cell? ⟨(w.heap.size + 1 + 1), 6, none⟩ = some x6) := by
  have h1 := keep77 (start77 w u0 u1 u2 u3 u4 u5 u6 v0 v1 v2 v3 v4 v5 v6 T) ((Below.refl _ _).alloc (Nat.le_refl _) (.cells #[x0, x1, x2, x3, x4, x5, x6] T))
  have h2 := start7 ((w.alloc (.cells #[u0, u1, u2, u3, u4, u5, u6] T)).alloc (.cells #[v0, v1, v2, v3, v4, v5, v6] T)) x0 x1 x2 x3 x4 x5 x6 T
  simp only [World.size_alloc] at h2
  exact ⟨h1.1, h1.2, h1.1.1, by simp, h2.2.2⟩
theorem sub_trans (g1 g2 g3 : Bool) (p1 p2 p3 A1 A2 A3 T1 T2 T3 : Nat) (h1 : p1 < 256) (h2 : p2 < 256) (h3 : p3 < 256) (hab : sub g1 p1 A1 T1 g2 p2 A2 T2 = true) (hbc : sub g2 p2 A2 T2 g3 p3 A3 T3 = true) : sub g1 p1 A1 T1 g3 p3 A3 T3 = true := by
  unfold sub at *
  simp only [Bool.and_eq_true, beq_iff_eq, decide_eq_true_eq] at hab hbc ⊢
  obtain ⟨a1, a2, a3, a4⟩ := hab
  obtain ⟨b1, b2, b3, b4⟩ := hbc
  rw [pmask p1 h1 p2 h2] at a2
  rw [pmask p2 h2 p3 h3] at b2
  refine ⟨a1.trans b1, ?_, by omega, by omega⟩
  rw [pmask p1 h1 p3 h3]
  rw [← a2, Nat.and_assoc, b2]
theorem sub_may (g1 : Bool) (a1 p1 y1 e1 b1 t1 : Nat) (g2 : Bool) (a2 p2 y2 e2 b2 t2 q x n : Nat) (h1 : p1 < 256) (h2 : p2 < 256) (hab : subs g1 a1 p1 e1 b1 t1 g2 a2 p2 e2 b2 t2 = true) (hy : y2 = 0) (hm : may g1 a1 p1 y1 e1 b1 t1 q x n = true) : may g2 a2 p2 y2 e2 b2 t2 q x n = true := by
  unfold subs sub at hab
  unfold may wi at *
  simp only [Bool.and_eq_true, beq_iff_eq, decide_eq_true_eq] at hab hm ⊢
  obtain ⟨a1', a2', a3, a4⟩ := hab
  obtain ⟨m1, m2, m3, m4, m5, m6, m7⟩ := hm
  rw [pmask p1 h1 p2 h2] at a2'
  unfold tp at a4
  refine ⟨a1' ▸ m1, hy, ?_, m4, m5, by omega, by omega⟩
  have e1 : p2 &&& (p1 &&& q) = p1 &&& q := by rw [← Nat.and_assoc, Nat.and_comm p2 p1, a2']
  rw [m3] at e1
  exact e1
set_option maxHeartbeats 16000000 in
theorem law10 (g1 : Bool) (a1 p1 y1 e1 b1 t1 : Nat) (g2 : Bool) (a2 p2 y2 e2 b2 t2 : Nat) (g3 : Bool) (a3 p3 y3 e3 b3 t3 : Nat) (q x n : Nat) (ha1 : a1 < 4294967296) (hp1 : p1 < 256) (hy1 : y1 < 256) (he1 : e1 < 256) (hb1 : b1 < 65536) (ht1 : t1 < 65536) (ha2 : a2 < 4294967296) (hp2 : p2 < 256) (hy2 : y2 < 256) (he2 : e2 < 256) (hb2 : b2 < 65536) (ht2 : t2 < 65536) (ha3 : a3 < 4294967296) (hp3 : p3 < 256) (hy3 : y3 < 256) (he3 : e3 < 256) (hb3 : b3 < 65536) (ht3 : t3 < 65536) (hq : q < 256) (hx : x < 18446744073709551616) (hn : n < 18446744073709551616) (w : World) :
    Calls Try.prog 10 #[cp g1 a1 p1 y1 e1 b1 t1, cp g2 a2 p2 y2 e2 b2 t2, cp g3 a3 p3 y3 e3 b3 t3, .int .u8 (q : Int), .int .u64 (x : Int), .int .u64 (n : Int)] w fun en w' => en = .returned (.bool true) ∧ Below w.heap.size w w' := by
  have kaa := (c34 g1 a1 p1 y1 e1 b1 t1 g1 a1 p1 y1 e1 b1 t1 ha1 hp1 he1 hb1 ht1 ha1 hp1 he1 hb1 ht1)
  rw [subs_self _ _ _ _ _ _ hp1] at kaa
  have kab := (c34 g1 a1 p1 y1 e1 b1 t1 g2 a2 p2 y2 e2 b2 t2 ha1 hp1 he1 hb1 ht1 ha2 hp2 he2 hb2 ht2)
  have kbc := (c34 g2 a2 p2 y2 e2 b2 t2 g3 a3 p3 y3 e3 b3 t3 ha2 hp2 he2 hb2 ht2 ha3 hp3 he3 hb3 ht3)
  have kac := (c34 g1 a1 p1 y1 e1 b1 t1 g3 a3 p3 y3 e3 b3 t3 ha1 hp1 he1 hb1 ht1 ha3 hp3 he3 hb3 ht3)
  have kma := c36 g1 a1 p1 y1 e1 b1 t1 q x n ha1 hp1 hy1 he1 hb1 ht1 hq hx hn
  have kmb := c36 g2 a2 p2 y2 e2 b2 t2 q x n ha2 hp2 hy2 he2 hb2 ht2 hq hx hn
  have f1 : subs g1 a1 p1 e1 b1 t1 g2 a2 p2 e2 b2 t2 = true → subs g2 a2 p2 e2 b2 t2 g3 a3 p3 e3 b3 t3 = true → subs g1 a1 p1 e1 b1 t1 g3 a3 p3 e3 b3 t3 = true := sub_trans _ _ _ _ _ _ _ _ _ _ _ _ hp1 hp2 hp3
  have f2 : subs g1 a1 p1 e1 b1 t1 g2 a2 p2 e2 b2 t2 = true → y2 = 0 → may g1 a1 p1 y1 e1 b1 t1 q x n = true → may g2 a2 p2 y2 e2 b2 t2 q x n = true := sub_may _ _ _ _ _ _ _ _ _ _ _ _ _ _ _ _ _ hp1 hp2
  have h0 := start777 w (.bool g1) (.int .u32 (a1 : Int)) (.int .u8 (p1 : Int)) (.int .u8 (y1 : Int)) (.int .u8 (e1 : Int)) (.int .u16 (b1 : Int)) (.int .u16 (t1 : Int)) (.bool g2) (.int .u32 (a2 : Int)) (.int .u8 (p2 : Int)) (.int .u8 (y2 : Int)) (.int .u8 (e2 : Int)) (.int .u16 (b2 : Int)) (.int .u16 (t2 : Int)) (.bool g3) (.int .u32 (a3 : Int)) (.int .u8 (p3 : Int)) (.int .u8 (y3 : Int)) (.int .u8 (e3 : Int)) (.int .u16 (b3 : Int)) (.int .u16 (t3 : Int)) 27
  have H0 := Lib.hid h0
  clear h0
  generalize subs g1 a1 p1 e1 b1 t1 g2 a2 p2 e2 b2 t2 = ab at *
  generalize subs g2 a2 p2 e2 b2 t2 g3 a3 p3 e3 b3 t3 = bc at *
  generalize subs g1 a1 p1 e1 b1 t1 g3 a3 p3 e3 b3 t3 = ac at *
  generalize may g1 a1 p1 y1 e1 b1 t1 q x n = ma at *
  generalize may g2 a2 p2 y2 e2 b2 t2 q x n = mb at *
  have Kaa := Lib.hid kaa
  have Kab := Lib.hid kab
  have Kbc := Lib.hid kbc
  have Kac := Lib.hid kac
  have Kma := Lib.hid kma
  have Kmb := Lib.hid kmb
  clear kaa kab kbc kac kma kmb
  cases ab
  · clear f1 f2
    go_enter Try.func10, Try.ntmps10
    go_wp2_with fail
    refine (Kaa.out _).mono ?_
    rintro _ wn ⟨rfl, hbn⟩
    have hs := keep777 H0.out hbn
    clear hbn
    obtain ⟨⟨-, -, q0, q1, q2, q3, q4, q5, q6⟩, ⟨-, -, r0, r1, r2, r3, r4, r5, r6⟩, ⟨-, -, s0, s1, s2, s3, s4, s5, s6⟩⟩ := id hs
    have HS := Lib.hid hs
    clear hs
    go_wp2_with fail
    refine (Kab.out _).mono ?_
    rintro _ wn ⟨rfl, hbn⟩
    have hs := keep777 HS.out hbn
    clear hbn q0 q1 q2 q3 q4 q5 q6 r0 r1 r2 r3 r4 r5 r6 s0 s1 s2 s3 s4 s5 s6 HS
    obtain ⟨⟨-, -, q0, q1, q2, q3, q4, q5, q6⟩, ⟨-, -, r0, r1, r2, r3, r4, r5, r6⟩, ⟨-, -, s0, s1, s2, s3, s4, s5, s6⟩⟩ := id hs
    have HS := Lib.hid hs
    clear hs
    go_wp2_with fail
    refine (Kab.out _).mono ?_
    rintro _ wn ⟨rfl, hbn⟩
    have hs := keep777 HS.out hbn
    clear hbn q0 q1 q2 q3 q4 q5 q6 r0 r1 r2 r3 r4 r5 r6 s0 s1 s2 s3 s4 s5 s6 HS
    obtain ⟨⟨-, -, q0, q1, q2, q3, q4, q5, q6⟩, ⟨-, -, r0, r1, r2, r3, r4, r5, r6⟩, ⟨-, -, s0, s1, s2, s3, s4, s5, s6⟩⟩ := id hs
    have HS := Lib.hid hs
    clear hs
    go_wp2_with fail
    refine (same42 _).mono ?_
    rintro _ _ ⟨rfl, rfl⟩
    go_wp2_with fail
    refine (lives _).mono ?_
    rintro _ wl ⟨rfl, hbl⟩
    have hE := HS.out.1.1.trans (hbl.mono HS.out.1.1.size)
    go_wp2_with fail
    go_ret
    exact ⟨rfl, hE⟩
  · cases bc
    · clear f1
      by_cases hy0 : y2 = 0
      · have hyb : ((y2 : Int) == 0) = true := by simp; omega
        cases ma
        · clear f2 hy0
          go_enter Try.func10, Try.ntmps10
          go_wp2_with fail
          refine (Kaa.out _).mono ?_
          rintro _ wn ⟨rfl, hbn⟩
          have hs := keep777 H0.out hbn
          clear hbn
          obtain ⟨⟨-, -, q0, q1, q2, q3, q4, q5, q6⟩, ⟨-, -, r0, r1, r2, r3, r4, r5, r6⟩, ⟨-, -, s0, s1, s2, s3, s4, s5, s6⟩⟩ := id hs
          have HS := Lib.hid hs
          clear hs
          go_wp2_with fail
          refine (Kab.out _).mono ?_
          rintro _ wn ⟨rfl, hbn⟩
          have hs := keep777 HS.out hbn
          clear hbn q0 q1 q2 q3 q4 q5 q6 r0 r1 r2 r3 r4 r5 r6 s0 s1 s2 s3 s4 s5 s6 HS
          obtain ⟨⟨-, -, q0, q1, q2, q3, q4, q5, q6⟩, ⟨-, -, r0, r1, r2, r3, r4, r5, r6⟩, ⟨-, -, s0, s1, s2, s3, s4, s5, s6⟩⟩ := id hs
          have HS := Lib.hid hs
          clear hs
          go_wp2_with fail
          refine (Kbc.out _).mono ?_
          rintro _ wn ⟨rfl, hbn⟩
          have hs := keep777 HS.out hbn
          clear hbn q0 q1 q2 q3 q4 q5 q6 r0 r1 r2 r3 r4 r5 r6 s0 s1 s2 s3 s4 s5 s6 HS
          obtain ⟨⟨-, -, q0, q1, q2, q3, q4, q5, q6⟩, ⟨-, -, r0, r1, r2, r3, r4, r5, r6⟩, ⟨-, -, s0, s1, s2, s3, s4, s5, s6⟩⟩ := id hs
          have HS := Lib.hid hs
          clear hs
          go_wp2_with fail
          refine (Kab.out _).mono ?_
          rintro _ wn ⟨rfl, hbn⟩
          have hs := keep777 HS.out hbn
          clear hbn q0 q1 q2 q3 q4 q5 q6 r0 r1 r2 r3 r4 r5 r6 s0 s1 s2 s3 s4 s5 s6 HS
          obtain ⟨⟨-, -, q0, q1, q2, q3, q4, q5, q6⟩, ⟨-, -, r0, r1, r2, r3, r4, r5, r6⟩, ⟨-, -, s0, s1, s2, s3, s4, s5, s6⟩⟩ := id hs
          have HS := Lib.hid hs
          clear hs
          go_wp2_with fail
          refine (Kma.out _).mono ?_
          rintro _ wn ⟨rfl, hbn⟩
          have hs := keep777 HS.out hbn
          clear hbn q0 q1 q2 q3 q4 q5 q6 r0 r1 r2 r3 r4 r5 r6 s0 s1 s2 s3 s4 s5 s6 HS
          obtain ⟨⟨-, -, q0, q1, q2, q3, q4, q5, q6⟩, ⟨-, -, r0, r1, r2, r3, r4, r5, r6⟩, ⟨-, -, s0, s1, s2, s3, s4, s5, s6⟩⟩ := id hs
          have HS := Lib.hid hs
          clear hs
          go_wp2_with fail
          refine (same42 _).mono ?_
          rintro _ _ ⟨rfl, rfl⟩
          go_wp2_with fail
          refine (lives _).mono ?_
          rintro _ wl ⟨rfl, hbl⟩
          have hE := HS.out.1.1.trans (hbl.mono HS.out.1.1.size)
          go_wp2_with fail
          go_ret
          exact ⟨rfl, hE⟩
        · obtain rfl : mb = true := f2 rfl hy0 rfl
          clear f2 hy0
          go_enter Try.func10, Try.ntmps10
          go_wp2_with fail
          refine (Kaa.out _).mono ?_
          rintro _ wn ⟨rfl, hbn⟩
          have hs := keep777 H0.out hbn
          clear hbn
          obtain ⟨⟨-, -, q0, q1, q2, q3, q4, q5, q6⟩, ⟨-, -, r0, r1, r2, r3, r4, r5, r6⟩, ⟨-, -, s0, s1, s2, s3, s4, s5, s6⟩⟩ := id hs
          have HS := Lib.hid hs
          clear hs
          go_wp2_with fail
          refine (Kab.out _).mono ?_
          rintro _ wn ⟨rfl, hbn⟩
          have hs := keep777 HS.out hbn
          clear hbn q0 q1 q2 q3 q4 q5 q6 r0 r1 r2 r3 r4 r5 r6 s0 s1 s2 s3 s4 s5 s6 HS
          obtain ⟨⟨-, -, q0, q1, q2, q3, q4, q5, q6⟩, ⟨-, -, r0, r1, r2, r3, r4, r5, r6⟩, ⟨-, -, s0, s1, s2, s3, s4, s5, s6⟩⟩ := id hs
          have HS := Lib.hid hs
          clear hs
          go_wp2_with fail
          refine (Kbc.out _).mono ?_
          rintro _ wn ⟨rfl, hbn⟩
          have hs := keep777 HS.out hbn
          clear hbn q0 q1 q2 q3 q4 q5 q6 r0 r1 r2 r3 r4 r5 r6 s0 s1 s2 s3 s4 s5 s6 HS
          obtain ⟨⟨-, -, q0, q1, q2, q3, q4, q5, q6⟩, ⟨-, -, r0, r1, r2, r3, r4, r5, r6⟩, ⟨-, -, s0, s1, s2, s3, s4, s5, s6⟩⟩ := id hs
          have HS := Lib.hid hs
          clear hs
          go_wp2_with fail
          refine (Kab.out _).mono ?_
          rintro _ wn ⟨rfl, hbn⟩
          have hs := keep777 HS.out hbn
          clear hbn q0 q1 q2 q3 q4 q5 q6 r0 r1 r2 r3 r4 r5 r6 s0 s1 s2 s3 s4 s5 s6 HS
          obtain ⟨⟨-, -, q0, q1, q2, q3, q4, q5, q6⟩, ⟨-, -, r0, r1, r2, r3, r4, r5, r6⟩, ⟨-, -, s0, s1, s2, s3, s4, s5, s6⟩⟩ := id hs
          have HS := Lib.hid hs
          clear hs
          go_wp2_with fail
          refine (Kma.out _).mono ?_
          rintro _ wn ⟨rfl, hbn⟩
          have hs := keep777 HS.out hbn
          clear hbn q0 q1 q2 q3 q4 q5 q6 r0 r1 r2 r3 r4 r5 r6 s0 s1 s2 s3 s4 s5 s6 HS
          obtain ⟨⟨-, -, q0, q1, q2, q3, q4, q5, q6⟩, ⟨-, -, r0, r1, r2, r3, r4, r5, r6⟩, ⟨-, -, s0, s1, s2, s3, s4, s5, s6⟩⟩ := id hs
          have HS := Lib.hid hs
          clear hs
          go_wp2_with fail
          refine (Kmb.out _).mono ?_
          rintro _ wn ⟨rfl, hbn⟩
          have hs := keep777 HS.out hbn
          clear hbn q0 q1 q2 q3 q4 q5 q6 r0 r1 r2 r3 r4 r5 r6 s0 s1 s2 s3 s4 s5 s6 HS
          obtain ⟨⟨-, -, q0, q1, q2, q3, q4, q5, q6⟩, ⟨-, -, r0, r1, r2, r3, r4, r5, r6⟩, ⟨-, -, s0, s1, s2, s3, s4, s5, s6⟩⟩ := id hs
          have HS := Lib.hid hs
          clear hs
          go_wp2_with fail
          refine (same42 _).mono ?_
          rintro _ _ ⟨rfl, rfl⟩
          go_wp2_with fail
          refine (lives _).mono ?_
          rintro _ wl ⟨rfl, hbl⟩
          have hE := HS.out.1.1.trans (hbl.mono HS.out.1.1.size)
          go_wp2_with fail
          go_ret
          exact ⟨rfl, hE⟩
      · have hyb : ((y2 : Int) == 0) = false := by simp; omega
        clear f2 hy0
        go_enter Try.func10, Try.ntmps10
        go_wp2_with fail
        refine (Kaa.out _).mono ?_
        rintro _ wn ⟨rfl, hbn⟩
        have hs := keep777 H0.out hbn
        clear hbn
        obtain ⟨⟨-, -, q0, q1, q2, q3, q4, q5, q6⟩, ⟨-, -, r0, r1, r2, r3, r4, r5, r6⟩, ⟨-, -, s0, s1, s2, s3, s4, s5, s6⟩⟩ := id hs
        have HS := Lib.hid hs
        clear hs
        go_wp2_with fail
        refine (Kab.out _).mono ?_
        rintro _ wn ⟨rfl, hbn⟩
        have hs := keep777 HS.out hbn
        clear hbn q0 q1 q2 q3 q4 q5 q6 r0 r1 r2 r3 r4 r5 r6 s0 s1 s2 s3 s4 s5 s6 HS
        obtain ⟨⟨-, -, q0, q1, q2, q3, q4, q5, q6⟩, ⟨-, -, r0, r1, r2, r3, r4, r5, r6⟩, ⟨-, -, s0, s1, s2, s3, s4, s5, s6⟩⟩ := id hs
        have HS := Lib.hid hs
        clear hs
        go_wp2_with fail
        refine (Kbc.out _).mono ?_
        rintro _ wn ⟨rfl, hbn⟩
        have hs := keep777 HS.out hbn
        clear hbn q0 q1 q2 q3 q4 q5 q6 r0 r1 r2 r3 r4 r5 r6 s0 s1 s2 s3 s4 s5 s6 HS
        obtain ⟨⟨-, -, q0, q1, q2, q3, q4, q5, q6⟩, ⟨-, -, r0, r1, r2, r3, r4, r5, r6⟩, ⟨-, -, s0, s1, s2, s3, s4, s5, s6⟩⟩ := id hs
        have HS := Lib.hid hs
        clear hs
        go_wp2_with fail
        refine (Kab.out _).mono ?_
        rintro _ wn ⟨rfl, hbn⟩
        have hs := keep777 HS.out hbn
        clear hbn q0 q1 q2 q3 q4 q5 q6 r0 r1 r2 r3 r4 r5 r6 s0 s1 s2 s3 s4 s5 s6 HS
        obtain ⟨⟨-, -, q0, q1, q2, q3, q4, q5, q6⟩, ⟨-, -, r0, r1, r2, r3, r4, r5, r6⟩, ⟨-, -, s0, s1, s2, s3, s4, s5, s6⟩⟩ := id hs
        have HS := Lib.hid hs
        clear hs
        go_wp2_with fail
        refine (same42 _).mono ?_
        rintro _ _ ⟨rfl, rfl⟩
        go_wp2_with fail
        refine (lives _).mono ?_
        rintro _ wl ⟨rfl, hbl⟩
        have hE := HS.out.1.1.trans (hbl.mono HS.out.1.1.size)
        go_wp2_with fail
        go_ret
        exact ⟨rfl, hE⟩
    · obtain rfl : ac = true := f1 rfl rfl
      clear f1
      by_cases hy0 : y2 = 0
      · have hyb : ((y2 : Int) == 0) = true := by simp; omega
        cases ma
        · clear f2 hy0
          go_enter Try.func10, Try.ntmps10
          go_wp2_with fail
          refine (Kaa.out _).mono ?_
          rintro _ wn ⟨rfl, hbn⟩
          have hs := keep777 H0.out hbn
          clear hbn
          obtain ⟨⟨-, -, q0, q1, q2, q3, q4, q5, q6⟩, ⟨-, -, r0, r1, r2, r3, r4, r5, r6⟩, ⟨-, -, s0, s1, s2, s3, s4, s5, s6⟩⟩ := id hs
          have HS := Lib.hid hs
          clear hs
          go_wp2_with fail
          refine (Kab.out _).mono ?_
          rintro _ wn ⟨rfl, hbn⟩
          have hs := keep777 HS.out hbn
          clear hbn q0 q1 q2 q3 q4 q5 q6 r0 r1 r2 r3 r4 r5 r6 s0 s1 s2 s3 s4 s5 s6 HS
          obtain ⟨⟨-, -, q0, q1, q2, q3, q4, q5, q6⟩, ⟨-, -, r0, r1, r2, r3, r4, r5, r6⟩, ⟨-, -, s0, s1, s2, s3, s4, s5, s6⟩⟩ := id hs
          have HS := Lib.hid hs
          clear hs
          go_wp2_with fail
          refine (Kbc.out _).mono ?_
          rintro _ wn ⟨rfl, hbn⟩
          have hs := keep777 HS.out hbn
          clear hbn q0 q1 q2 q3 q4 q5 q6 r0 r1 r2 r3 r4 r5 r6 s0 s1 s2 s3 s4 s5 s6 HS
          obtain ⟨⟨-, -, q0, q1, q2, q3, q4, q5, q6⟩, ⟨-, -, r0, r1, r2, r3, r4, r5, r6⟩, ⟨-, -, s0, s1, s2, s3, s4, s5, s6⟩⟩ := id hs
          have HS := Lib.hid hs
          clear hs
          go_wp2_with fail
          refine (Kac.out _).mono ?_
          rintro _ wn ⟨rfl, hbn⟩
          have hs := keep777 HS.out hbn
          clear hbn q0 q1 q2 q3 q4 q5 q6 r0 r1 r2 r3 r4 r5 r6 s0 s1 s2 s3 s4 s5 s6 HS
          obtain ⟨⟨-, -, q0, q1, q2, q3, q4, q5, q6⟩, ⟨-, -, r0, r1, r2, r3, r4, r5, r6⟩, ⟨-, -, s0, s1, s2, s3, s4, s5, s6⟩⟩ := id hs
          have HS := Lib.hid hs
          clear hs
          go_wp2_with fail
          refine (Kab.out _).mono ?_
          rintro _ wn ⟨rfl, hbn⟩
          have hs := keep777 HS.out hbn
          clear hbn q0 q1 q2 q3 q4 q5 q6 r0 r1 r2 r3 r4 r5 r6 s0 s1 s2 s3 s4 s5 s6 HS
          obtain ⟨⟨-, -, q0, q1, q2, q3, q4, q5, q6⟩, ⟨-, -, r0, r1, r2, r3, r4, r5, r6⟩, ⟨-, -, s0, s1, s2, s3, s4, s5, s6⟩⟩ := id hs
          have HS := Lib.hid hs
          clear hs
          go_wp2_with fail
          refine (Kma.out _).mono ?_
          rintro _ wn ⟨rfl, hbn⟩
          have hs := keep777 HS.out hbn
          clear hbn q0 q1 q2 q3 q4 q5 q6 r0 r1 r2 r3 r4 r5 r6 s0 s1 s2 s3 s4 s5 s6 HS
          obtain ⟨⟨-, -, q0, q1, q2, q3, q4, q5, q6⟩, ⟨-, -, r0, r1, r2, r3, r4, r5, r6⟩, ⟨-, -, s0, s1, s2, s3, s4, s5, s6⟩⟩ := id hs
          have HS := Lib.hid hs
          clear hs
          go_wp2_with fail
          refine (same42 _).mono ?_
          rintro _ _ ⟨rfl, rfl⟩
          go_wp2_with fail
          refine (lives _).mono ?_
          rintro _ wl ⟨rfl, hbl⟩
          have hE := HS.out.1.1.trans (hbl.mono HS.out.1.1.size)
          go_wp2_with fail
          go_ret
          exact ⟨rfl, hE⟩
        · obtain rfl : mb = true := f2 rfl hy0 rfl
          clear f2 hy0
          go_enter Try.func10, Try.ntmps10
          go_wp2_with fail
          refine (Kaa.out _).mono ?_
          rintro _ wn ⟨rfl, hbn⟩
          have hs := keep777 H0.out hbn
          clear hbn
          obtain ⟨⟨-, -, q0, q1, q2, q3, q4, q5, q6⟩, ⟨-, -, r0, r1, r2, r3, r4, r5, r6⟩, ⟨-, -, s0, s1, s2, s3, s4, s5, s6⟩⟩ := id hs
          have HS := Lib.hid hs
          clear hs
          go_wp2_with fail
          refine (Kab.out _).mono ?_
          rintro _ wn ⟨rfl, hbn⟩
          have hs := keep777 HS.out hbn
          clear hbn q0 q1 q2 q3 q4 q5 q6 r0 r1 r2 r3 r4 r5 r6 s0 s1 s2 s3 s4 s5 s6 HS
          obtain ⟨⟨-, -, q0, q1, q2, q3, q4, q5, q6⟩, ⟨-, -, r0, r1, r2, r3, r4, r5, r6⟩, ⟨-, -, s0, s1, s2, s3, s4, s5, s6⟩⟩ := id hs
          have HS := Lib.hid hs
          clear hs
          go_wp2_with fail
          refine (Kbc.out _).mono ?_
          rintro _ wn ⟨rfl, hbn⟩
          have hs := keep777 HS.out hbn
          clear hbn q0 q1 q2 q3 q4 q5 q6 r0 r1 r2 r3 r4 r5 r6 s0 s1 s2 s3 s4 s5 s6 HS
          obtain ⟨⟨-, -, q0, q1, q2, q3, q4, q5, q6⟩, ⟨-, -, r0, r1, r2, r3, r4, r5, r6⟩, ⟨-, -, s0, s1, s2, s3, s4, s5, s6⟩⟩ := id hs
          have HS := Lib.hid hs
          clear hs
          go_wp2_with fail
          refine (Kac.out _).mono ?_
          rintro _ wn ⟨rfl, hbn⟩
          have hs := keep777 HS.out hbn
          clear hbn q0 q1 q2 q3 q4 q5 q6 r0 r1 r2 r3 r4 r5 r6 s0 s1 s2 s3 s4 s5 s6 HS
          obtain ⟨⟨-, -, q0, q1, q2, q3, q4, q5, q6⟩, ⟨-, -, r0, r1, r2, r3, r4, r5, r6⟩, ⟨-, -, s0, s1, s2, s3, s4, s5, s6⟩⟩ := id hs
          have HS := Lib.hid hs
          clear hs
          go_wp2_with fail
          refine (Kab.out _).mono ?_
          rintro _ wn ⟨rfl, hbn⟩
          have hs := keep777 HS.out hbn
          clear hbn q0 q1 q2 q3 q4 q5 q6 r0 r1 r2 r3 r4 r5 r6 s0 s1 s2 s3 s4 s5 s6 HS
          obtain ⟨⟨-, -, q0, q1, q2, q3, q4, q5, q6⟩, ⟨-, -, r0, r1, r2, r3, r4, r5, r6⟩, ⟨-, -, s0, s1, s2, s3, s4, s5, s6⟩⟩ := id hs
          have HS := Lib.hid hs
          clear hs
          go_wp2_with fail
          refine (Kma.out _).mono ?_
          rintro _ wn ⟨rfl, hbn⟩
          have hs := keep777 HS.out hbn
          clear hbn q0 q1 q2 q3 q4 q5 q6 r0 r1 r2 r3 r4 r5 r6 s0 s1 s2 s3 s4 s5 s6 HS
          obtain ⟨⟨-, -, q0, q1, q2, q3, q4, q5, q6⟩, ⟨-, -, r0, r1, r2, r3, r4, r5, r6⟩, ⟨-, -, s0, s1, s2, s3, s4, s5, s6⟩⟩ := id hs
          have HS := Lib.hid hs
          clear hs
          go_wp2_with fail
          refine (Kmb.out _).mono ?_
          rintro _ wn ⟨rfl, hbn⟩
          have hs := keep777 HS.out hbn
          clear hbn q0 q1 q2 q3 q4 q5 q6 r0 r1 r2 r3 r4 r5 r6 s0 s1 s2 s3 s4 s5 s6 HS
          obtain ⟨⟨-, -, q0, q1, q2, q3, q4, q5, q6⟩, ⟨-, -, r0, r1, r2, r3, r4, r5, r6⟩, ⟨-, -, s0, s1, s2, s3, s4, s5, s6⟩⟩ := id hs
          have HS := Lib.hid hs
          clear hs
          go_wp2_with fail
          refine (same42 _).mono ?_
          rintro _ _ ⟨rfl, rfl⟩
          go_wp2_with fail
          refine (lives _).mono ?_
          rintro _ wl ⟨rfl, hbl⟩
          have hE := HS.out.1.1.trans (hbl.mono HS.out.1.1.size)
          go_wp2_with fail
          go_ret
          exact ⟨rfl, hE⟩
      · have hyb : ((y2 : Int) == 0) = false := by simp; omega
        clear f2 hy0
        go_enter Try.func10, Try.ntmps10
        go_wp2_with fail
        refine (Kaa.out _).mono ?_
        rintro _ wn ⟨rfl, hbn⟩
        have hs := keep777 H0.out hbn
        clear hbn
        obtain ⟨⟨-, -, q0, q1, q2, q3, q4, q5, q6⟩, ⟨-, -, r0, r1, r2, r3, r4, r5, r6⟩, ⟨-, -, s0, s1, s2, s3, s4, s5, s6⟩⟩ := id hs
        have HS := Lib.hid hs
        clear hs
        go_wp2_with fail
        refine (Kab.out _).mono ?_
        rintro _ wn ⟨rfl, hbn⟩
        have hs := keep777 HS.out hbn
        clear hbn q0 q1 q2 q3 q4 q5 q6 r0 r1 r2 r3 r4 r5 r6 s0 s1 s2 s3 s4 s5 s6 HS
        obtain ⟨⟨-, -, q0, q1, q2, q3, q4, q5, q6⟩, ⟨-, -, r0, r1, r2, r3, r4, r5, r6⟩, ⟨-, -, s0, s1, s2, s3, s4, s5, s6⟩⟩ := id hs
        have HS := Lib.hid hs
        clear hs
        go_wp2_with fail
        refine (Kbc.out _).mono ?_
        rintro _ wn ⟨rfl, hbn⟩
        have hs := keep777 HS.out hbn
        clear hbn q0 q1 q2 q3 q4 q5 q6 r0 r1 r2 r3 r4 r5 r6 s0 s1 s2 s3 s4 s5 s6 HS
        obtain ⟨⟨-, -, q0, q1, q2, q3, q4, q5, q6⟩, ⟨-, -, r0, r1, r2, r3, r4, r5, r6⟩, ⟨-, -, s0, s1, s2, s3, s4, s5, s6⟩⟩ := id hs
        have HS := Lib.hid hs
        clear hs
        go_wp2_with fail
        refine (Kac.out _).mono ?_
        rintro _ wn ⟨rfl, hbn⟩
        have hs := keep777 HS.out hbn
        clear hbn q0 q1 q2 q3 q4 q5 q6 r0 r1 r2 r3 r4 r5 r6 s0 s1 s2 s3 s4 s5 s6 HS
        obtain ⟨⟨-, -, q0, q1, q2, q3, q4, q5, q6⟩, ⟨-, -, r0, r1, r2, r3, r4, r5, r6⟩, ⟨-, -, s0, s1, s2, s3, s4, s5, s6⟩⟩ := id hs
        have HS := Lib.hid hs
        clear hs
        go_wp2_with fail
        refine (Kab.out _).mono ?_
        rintro _ wn ⟨rfl, hbn⟩
        have hs := keep777 HS.out hbn
        clear hbn q0 q1 q2 q3 q4 q5 q6 r0 r1 r2 r3 r4 r5 r6 s0 s1 s2 s3 s4 s5 s6 HS
        obtain ⟨⟨-, -, q0, q1, q2, q3, q4, q5, q6⟩, ⟨-, -, r0, r1, r2, r3, r4, r5, r6⟩, ⟨-, -, s0, s1, s2, s3, s4, s5, s6⟩⟩ := id hs
        have HS := Lib.hid hs
        clear hs
        go_wp2_with fail
        refine (same42 _).mono ?_
        rintro _ _ ⟨rfl, rfl⟩
        go_wp2_with fail
        refine (lives _).mono ?_
        rintro _ wl ⟨rfl, hbl⟩
        have hE := HS.out.1.1.trans (hbl.mono HS.out.1.1.size)
        go_wp2_with fail
        go_ret
        exact ⟨rfl, hE⟩
end Go.Proofs.Ytojjdhohhonheaa
