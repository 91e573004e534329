import Derived.Test.YtojjdhohhonheaaM
import Derived.Test.YtojjdhohhonheaaW
namespace Go.Proofs.Ytojjdhohhonheaa
open Go.ChangeShapes Go.WideShapes Go.ChangeAt Go.RowKit
set_option linter.unusedVariables false
theorem keep4 {A1 A2 A3 A4 : World} {k1 k2 k3 k4 : Nat} {u0 u1 u2 u3 u4 u5 u6 v0 v1 v2 v3 v4 v5 v6 x0 x1 x2 x3 x4 x5 x6 z0 z1 z2 z3 z4 z5 z6 : Value} {wp w1 : World} (h : (Below A1.heap.size A1 wp ∧ k1 < wp.heap.size ∧ wp.cell? ⟨k1, 0, none⟩ = some u0 ∧ wp.cell? ⟨k1, 1, none⟩ = some u1 ∧ wp.cell? ⟨k1, 2, none⟩ = some u2 ∧ wp.cell? ⟨k1, 3, none⟩ = some u3 ∧ wp.cell? ⟨k1, 4, none⟩ = some u4 ∧ wp.cell? ⟨k1, 5, none⟩ = some u5 ∧ wp.cell? ⟨k1, 6, none⟩ = some u6) ∧ (Below A2.heap.size A2 wp ∧ k2 < wp.heap.size ∧ wp.cell? ⟨k2, 0, none⟩ = some v0 ∧ wp.cell? ⟨k2, 1, none⟩ = some v1 ∧ wp.cell? ⟨k2, 2, none⟩ = some v2 ∧ wp.cell? ⟨k2, 3, none⟩ = some v3 ∧ wp.cell? ⟨k2, 4, none⟩ = some v4 ∧ wp.cell? ⟨k2, 5, none⟩ = some v5 ∧ wp.cell? ⟨k2, 6, none⟩ = some v6) ∧ (Below A3.heap.size A3 wp ∧ k3 < wp.heap.size ∧ wp.cell? ⟨k3, 0, none⟩ = some x0 ∧ wp.cell? ⟨k3, 1, none⟩ = some x1 ∧ wp.cell? ⟨k3, 2, none⟩ = some x2 ∧ wp.cell? ⟨k3, 3, none⟩ = some x3 ∧ wp.cell? ⟨k3, 4, none⟩ = some x4 ∧ wp.cell? ⟨k3, 5, none⟩ = some x5 ∧ wp.cell? ⟨k3, 6, none⟩ = some x6) ∧ (Below A4.heap.size A4 wp ∧ k4 < wp.heap.size ∧ wp.cell? ⟨k4, 0, none⟩ = some z0 ∧ wp.cell? ⟨k4, 1, none⟩ = some z1 ∧ wp.cell? ⟨k4, 2, none⟩ = some z2 ∧ wp.cell? ⟨k4, 3, none⟩ = some z3 ∧ wp.cell? ⟨k4, 4, none⟩ = some z4 ∧ wp.cell? ⟨k4, 5, none⟩ = some z5 ∧ wp.cell? ⟨k4, 6, none⟩ = some z6)) (hb : Below wp.heap.size wp w1) : (Below A1.heap.size A1 w1 ∧ k1 < w1.heap.size ∧ w1.cell? ⟨k1, 0, none⟩ = some u0 ∧ w1.cell? ⟨k1, 1, none⟩ = some u1 ∧ w1.cell? ⟨k1, 2, none⟩ = some u2 ∧ w1.cell? ⟨k1, 3, none⟩ = some u3 ∧ w1.cell? ⟨k1, 4, none⟩ = some u4 ∧ w1.cell? ⟨k1, 5, none⟩ = some u5 ∧ w1.cell? ⟨k1, 6, none⟩ = some u6) ∧ (Below A2.heap.size A2 w1 ∧ k2 < w1.heap.size ∧ w1.cell? ⟨k2, 0, none⟩ = some v0 ∧ w1.cell? ⟨k2, 1, none⟩ = some v1 ∧ w1.cell? ⟨k2, 2, none⟩ = some v2 ∧ w1.cell? ⟨k2, 3, none⟩ = some v3 ∧ w1.cell? ⟨k2, 4, none⟩ = some v4 ∧ w1.cell? ⟨k2, 5, none⟩ = some v5 ∧ w1.cell? ⟨k2, 6, none⟩ = some v6) ∧ (Below A3.heap.size A3 w1 ∧ k3 < w1.heap.size ∧ w1.cell? ⟨k3, 0, none⟩ = some x0 ∧ w1.cell? ⟨k3, 1, none⟩ = some x1 ∧ w1.cell? ⟨k3, 2, none⟩ = some x2 ∧ w1.cell? ⟨k3, 3, none⟩ = some x3 ∧ w1.cell? ⟨k3, 4, none⟩ = some x4 ∧ w1.cell? ⟨k3, 5, none⟩ = some x5 ∧ w1.cell? ⟨k3, 6, none⟩ = some x6) ∧ (Below A4.heap.size A4 w1 ∧ k4 < w1.heap.size ∧ w1.cell? ⟨k4, 0, none⟩ = some z0 ∧ w1.cell? ⟨k4, 1, none⟩ = some z1 ∧ w1.cell? ⟨k4, 2, none⟩ = some z2 ∧ w1.cell? ⟨k4, 3, none⟩ = some z3 ∧ w1.cell? ⟨k4, 4, none⟩ = some z4 ∧ w1.cell? ⟨k4, 5, none⟩ = some z5 ∧ w1.cell? ⟨k4, 6, none⟩ = some z6) :=
  ⟨keep7 h.1 hb, keep7 h.2.1 hb, keep7 h.2.2.1 hb, keep7 h.2.2.2 hb⟩
theorem rootV_form (b t m : Nat) : ∃ (G : Bool) (A P Y E B T R : Nat), rootV b t m = .tuple #[cp G A P Y E B T, .int .i64 (R : Int)] := by
  unfold rootV
  split
  · exact ⟨_, _, _, _, _, _, _, 0, rfl⟩
  · exact ⟨_, _, _, _, _, _, _, _, rfl⟩
set_option maxHeartbeats 16000000 in
theorem law6 (g1 : Bool) (a1 p1 y1 e1 b1 t1 : Nat) (g2 : Bool) (a2 p2 y2 e2 b2 t2 : Nat) (q x n top : Nat) (ha1 : a1 < 4294967296) (hp1 : p1 < 256) (hy1 : y1 < 256) (he1 : e1 < 256) (hb1 : b1 < 65536) (ht1 : t1 < 65536) (ha2 : a2 < 4294967296) (hp2 : p2 < 256) (hy2 : y2 < 256) (he2 : e2 < 256) (hb2 : b2 < 65536) (ht2 : t2 < 65536) (hq : q < 256) (hx : x < 18446744073709551616) (hn : n < 18446744073709551616) (htop : top < 18446744073709551616) (w : World) :
    Calls Try.prog 6 #[cp g1 a1 p1 y1 e1 b1 t1, cp g2 a2 p2 y2 e2 b2 t2, .int .u8 (q : Int), .int .u64 (x : Int), .int .u64 (n : Int), .int .u64 (top : Int)] w fun en w' => en = .returned (.bool true) ∧ Below w.heap.size w w' := by
  have k1 := c32 x top q hx htop hq
  have k2 := c33 x top q hx htop hq
  obtain ⟨G, A, P, Y, E, B, T, R, hR⟩ := rootV_form x top q
  rw [hR] at k1 k2
  clear hR
  have k3 := c34 g1 a1 p1 y1 e1 b1 t1 g2 a2 p2 y2 e2 b2 t2 ha1 hp1 he1 hb1 ht1 ha2 hp2 he2 hb2 ht2
  have k4 := c35 g1 a1 p1 y1 e1 b1 t1 g2 a2 p2 y2 e2 b2 t2 ha1 hp1 he1 hb1 ht1 ha2 hp2 he2 hb2 ht2
  have k5 := c36 g1 a1 p1 y1 e1 b1 t1 q x n ha1 hp1 hy1 he1 hb1 ht1 hq hx hn
  have k6 := c37 g1 a1 p1 y1 e1 b1 t1 q x n ha1 hp1 hy1 he1 hb1 ht1 hq hx hn
  have k7 := c38 g1 a1 p1 y1 e1 b1 t1 ha1 he1 hb1 ht1
  have k8 := c39 g1 a1 p1 y1 e1 b1 t1 ha1 he1 hb1 ht1
  have k9 := c40 g1 a1 p1 y1 e1 b1 t1 ha1 he1 hb1 ht1
  have k10 := c41 g1 a1 p1 y1 e1 b1 t1 ha1 he1 hb1 ht1
  generalize subs g1 a1 p1 e1 b1 t1 g2 a2 p2 e2 b2 t2 = sv at *
  generalize may g1 a1 p1 y1 e1 b1 t1 q x n = mv at *
  generalize bs (e1 % 16) (b1 % 512) a1 + ln (e1 % 16) (b1 % 512) (t1 % 512) = tv at *
  generalize bs (e1 % 16) (b1 % 512) a1 = bv at *
  have K1 := Lib.hid k1
  have K2 := Lib.hid k2
  have K3 := Lib.hid k3
  have K4 := Lib.hid k4
  have K5 := Lib.hid k5
  have K6 := Lib.hid k6
  have K7 := Lib.hid k7
  have K8 := Lib.hid k8
  have K9 := Lib.hid k9
  have K10 := Lib.hid k10
  clear k1 k2 k3 k4 k5 k6 k7 k8 k9 k10
  have h0 := start77 w (.bool g1) (.int .u32 (a1 : Int)) (.int .u8 (p1 : Int)) (.int .u8 (y1 : Int)) (.int .u8 (e1 : Int)) (.int .u16 (b1 : Int)) (.int .u16 (t1 : Int)) (.bool g2) (.int .u32 (a2 : Int)) (.int .u8 (p2 : Int)) (.int .u8 (y2 : Int)) (.int .u8 (e2 : Int)) (.int .u16 (b2 : Int)) (.int .u16 (t2 : Int)) 27
  have H0 := Lib.hid h0
  clear h0
  go_enter Try.func6, Try.ntmps6
  go_wp2_with fail
  refine (K1.out _).mono ?_
  rintro _ w1 ⟨rfl, hb1⟩
  have H1 := Lib.hid (keep77 H0.out hb1)
  clear hb1
  go_wp2_with fail
  refine (K2.out _).mono ?_
  rintro _ w2 ⟨rfl, hb2⟩
  have s3 := init7 hb2
  have s12 := keep77 (keep77 H1.out ((Below.refl _ _).alloc (Nat.le_refl _) _)) hb2
  have al := (Below.refl w2.heap.size w2).alloc (Nat.le_refl _) (.cells #[.bool G, .int .u32 (A : Int), .int .u8 (P : Int), .int .u8 (Y : Int), .int .u8 (E : Int), .int .u16 (B : Int), .int .u16 (T : Int)] 27)
  have HS := Lib.hid (And.intro (keep7 s12.1 al) (And.intro (keep7 s12.2 al) (And.intro (keep7 s3 al) (start7 w2 (.bool G) (.int .u32 (A : Int)) (.int .u8 (P : Int)) (.int .u8 (Y : Int)) (.int .u8 (E : Int)) (.int .u16 (B : Int)) (.int .u16 (T : Int)) 27))))
  clear s3 s12 al hb2
  go_wp2_with fail
  have hS := HS.out
  go_region_held3 (fun w' => (Below w.heap.size w w' ∧ w.heap.size < w'.heap.size ∧ w'.cell? ⟨w.heap.size, 0, none⟩ = some (.bool g1) ∧ w'.cell? ⟨w.heap.size, 1, none⟩ = some (.int .u32 (a1 : Int)) ∧ w'.cell? ⟨w.heap.size, 2, none⟩ = some (.int .u8 (p1 : Int)) ∧ w'.cell? ⟨w.heap.size, 3, none⟩ = some (.int .u8 (y1 : Int)) ∧ w'.cell? ⟨w.heap.size, 4, none⟩ = some (.int .u8 (e1 : Int)) ∧ w'.cell? ⟨w.heap.size, 5, none⟩ = some (.int .u16 (b1 : Int)) ∧ w'.cell? ⟨w.heap.size, 6, none⟩ = some (.int .u16 (t1 : Int))) ∧ (Below w.heap.size w w' ∧ w.heap.size + 1 < w'.heap.size ∧ w'.cell? ⟨w.heap.size + 1, 0, none⟩ = some (.bool g2) ∧ w'.cell? ⟨w.heap.size + 1, 1, none⟩ = some (.int .u32 (a2 : Int)) ∧ w'.cell? ⟨w.heap.size + 1, 2, none⟩ = some (.int .u8 (p2 : Int)) ∧ w'.cell? ⟨w.heap.size + 1, 3, none⟩ = some (.int .u8 (y2 : Int)) ∧ w'.cell? ⟨w.heap.size + 1, 4, none⟩ = some (.int .u8 (e2 : Int)) ∧ w'.cell? ⟨w.heap.size + 1, 5, none⟩ = some (.int .u16 (b2 : Int)) ∧ w'.cell? ⟨w.heap.size + 1, 6, none⟩ = some (.int .u16 (t2 : Int))) ∧ (Below w1.heap.size w1 w' ∧ w1.heap.size < w'.heap.size ∧ w'.cell? ⟨w1.heap.size, 0, none⟩ = some (.bool G) ∧ w'.cell? ⟨w1.heap.size, 1, none⟩ = some (.int .u32 (A : Int)) ∧ w'.cell? ⟨w1.heap.size, 2, none⟩ = some (.int .u8 (P : Int)) ∧ w'.cell? ⟨w1.heap.size, 3, none⟩ = some (.int .u8 (Y : Int)) ∧ w'.cell? ⟨w1.heap.size, 4, none⟩ = some (.int .u8 (E : Int)) ∧ w'.cell? ⟨w1.heap.size, 5, none⟩ = some (.int .u16 (B : Int)) ∧ w'.cell? ⟨w1.heap.size, 6, none⟩ = some (.int .u16 (T : Int))) ∧ (Below w2.heap.size w2 w' ∧ w2.heap.size < w'.heap.size ∧ w'.cell? ⟨w2.heap.size, 0, none⟩ = some (.bool G) ∧ w'.cell? ⟨w2.heap.size, 1, none⟩ = some (.int .u32 (A : Int)) ∧ w'.cell? ⟨w2.heap.size, 2, none⟩ = some (.int .u8 (P : Int)) ∧ w'.cell? ⟨w2.heap.size, 3, none⟩ = some (.int .u8 (Y : Int)) ∧ w'.cell? ⟨w2.heap.size, 4, none⟩ = some (.int .u8 (E : Int)) ∧ w'.cell? ⟨w2.heap.size, 5, none⟩ = some (.int .u16 (B : Int)) ∧ w'.cell? ⟨w2.heap.size, 6, none⟩ = some (.int .u16 (T : Int))))
    (first | exact keep4 (by assumption) ((Below.refl _ _).drew) | exact keep4 (by assumption) hbx)
    (first | (go_at_call 34; (with_reducible refine (K3.out _).mono ?_); rintro _ wx ⟨rfl, hbx⟩) | (go_at_call 35; (with_reducible refine (K4.out _).mono ?_); rintro _ wx ⟨rfl, hbx⟩) | (go_at_call 36; (with_reducible refine (K5.out _).mono ?_); rintro _ wx ⟨rfl, hbx⟩) | (go_at_call 37; (with_reducible refine (K6.out _).mono ?_); rintro _ wx ⟨rfl, hbx⟩) | (go_at_call 38; (with_reducible refine (K7.out _).mono ?_); rintro _ wx ⟨rfl, hbx⟩) | (go_at_call 39; (with_reducible refine (K8.out _).mono ?_); rintro _ wx ⟨rfl, hbx⟩) | (go_at_call 40; (with_reducible refine (K9.out _).mono ?_); rintro _ wx ⟨rfl, hbx⟩) | (go_at_call 41; (with_reducible refine (K10.out _).mono ?_); rintro _ wx ⟨rfl, hbx⟩) | (go_at_call 17; (with_reducible refine (lives _).mono ?_); rintro _ wx ⟨rfl, hbx⟩))
  all_goals
    have hE : Below w.heap.size w wx := And.left (And.left (by assumption))
    go_wp2
    go_ret
    exact ⟨rfl, hE⟩
end Go.Proofs.Ytojjdhohhonheaa
