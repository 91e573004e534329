import Derived.Test.YtleabbhoedddlaaBo
namespace Go.Proofs.Ytleabbhoedddlaa
open Go.ChangeShapes Go.WideShapes Go.ChangeAt Go.RowKit
open Cp (cp arr mt num4)
set_option linter.unusedVariables false
abbrev ret2 (v : Value) (e : Int) : Ending := .returned (.tuple #[v, .int .i64 e])
set_option maxHeartbeats 8000000 in
theorem alikeW (b r : Nat) (at_ n s : Int) (au N : Nat) (f : Nat → Nat) (e1 k e2 : Int) (v : Nat) (g : Bool) (a p y e bb t : Nat) (e3 : Int) (w : World) (hq : IntKind.u32.wrap at_ = (au : Int)) (hN : N ≤ 65536)
    (K14 : Hid (∀ W, Below w.heap.size w W → Calls Try.prog 14 #[.pointer (some ⟨b, 0, none⟩), .int .i64 at_, .int .i64 n] W fun en w2 => ∃ A c, en = ret2 (.slice A N c) e1 ∧ Below W.heap.size W w2 ∧ Pt.Rd w2 A N f))
    (K24 : Hid (∀ W, Below w.heap.size w W → Calls Try.prog 24 #[.pointer (some ⟨r, 0, none⟩), .int .i64 at_, .int .i64 n] W fun en w2 => ∃ A c, en = ret2 (.slice A N c) e1 ∧ Below W.heap.size W w2 ∧ Pt.Rd w2 A N f))
    (K15 : Hid (∀ W, Below w.heap.size w W → Calls Try.prog 15 #[.pointer (some ⟨b, 0, none⟩), .int .i64 at_, .int .i64 n] W fun en w2 => en = ret2 (.int .i64 k) e1 ∧ Below W.heap.size W w2))
    (K25 : Hid (∀ W, Below w.heap.size w W → Calls Try.prog 25 #[.pointer (some ⟨r, 0, none⟩), .int .i64 at_, .int .i64 n] W fun en w2 => en = ret2 (.int .i64 k) e1 ∧ Below W.heap.size W w2))
    (K17 : Hid (∀ W, Below w.heap.size w W → Calls Try.prog 17 #[.pointer (some ⟨b, 0, none⟩), .int .u32 (au : Int), .int .i64 s] W fun en w2 => en = ret2 (.int .u32 (v : Int)) e2 ∧ Below W.heap.size W w2))
    (K26 : Hid (∀ W, Below w.heap.size w W → Calls Try.prog 26 #[.pointer (some ⟨r, 0, none⟩), .int .u32 (au : Int), .int .i64 s] W fun en w2 => en = ret2 (.int .u32 (v : Int)) e2 ∧ Below W.heap.size W w2))
    (K18 : Hid (∀ W, Below w.heap.size w W → Calls Try.prog 18 #[.pointer (some ⟨b, 0, none⟩), .int .u32 (au : Int)] W fun en w2 => en = ret2 (cp g a p y e bb t) e3 ∧ Below W.heap.size W w2))
    (K27 : Hid (∀ W, Below w.heap.size w W → Calls Try.prog 27 #[.pointer (some ⟨r, 0, none⟩), .int .u32 (au : Int)] W fun en w2 => en = ret2 (cp g a p y e bb t) e3 ∧ Below W.heap.size W w2)) :
    Calls Try.prog 10 #[.pointer (some ⟨b, 0, none⟩), .pointer (some ⟨r, 0, none⟩), .int .i64 at_, .int .i64 n, .int .i64 s] w fun en w' => en = .returned (.bool true) ∧ Below w.heap.size w w' := by
  go_enter Try.func10, Try.ntmps10
  go_wp2_with fail
  refine (K14.out _ (Below.refl _ _)).mono ?_
  rintro _ w1 ⟨A, c, rfl, b1, r1⟩
  go_wp2_with fail
  refine (K24.out _ b1).mono ?_
  rintro _ w2 ⟨A', c', rfl, b2, r2⟩
  have B2 : Below w.heap.size w w2 := b1.trans (b2.mono b1.size)
  have R1 := Lib.hid (r1.below b2)
  have R2 := Lib.hid r2
  clear r1 r2
  go_wp2_with fail
  refine (K15.out _ B2).mono ?_
  rintro _ w3 ⟨rfl, b3⟩
  have B3 : Below w.heap.size w w3 := B2.trans (b3.mono B2.size)
  go_wp2_with fail
  refine (K25.out _ B3).mono ?_
  rintro _ w4 ⟨rfl, b4⟩
  have B4 : Below w.heap.size w w4 := B3.trans (b4.mono B3.size)
  have KS := Lib.hid (Pt.c11 A A' N c N c' f f w4 (by omega) (by omega) ((R1.out.below b3).below b4) ((R2.out.below b3).below b4))
  clear b1 b2 b3 b4 B2 B3 R1 R2
  go_wp2_with fail
  refine KS.out.mono ?_
  rintro _ w5 ⟨x, rfl, hx, q, rfl⟩
  obtain rfl : x = true := hx.2 ⟨rfl, fun _ _ => rfl⟩
  have B5 : Below w.heap.size w (w4.drewN q) := below_drewN B4 q
  clear hx KS B4
  go_wp2_with fail
  refine (K17.out _ B5).mono ?_
  rintro _ w6 ⟨rfl, b6⟩
  have B6 : Below w.heap.size w w6 := B5.trans (b6.mono B5.size)
  go_wp2_with fail
  refine (K26.out _ B6).mono ?_
  rintro _ w7 ⟨rfl, b7⟩
  have B7 : Below w.heap.size w w7 := B6.trans (b7.mono B6.size)
  go_wp2_with fail
  refine (K18.out _ B7).mono ?_
  rintro _ w8 ⟨rfl, b8⟩
  have B8 : Below w.heap.size w w8 := B7.trans (b8.mono B7.size)
  go_wp2_with fail
  refine (K27.out _ (B8.alloc B8.size _)).mono ?_
  rintro _ w9 ⟨rfl, b9⟩
  have B9 : Below w.heap.size w w9 := (B8.alloc B8.size _).trans (b9.mono (by have := B8.size; simp; omega))
  have Q9 : Blk w9 w8.heap.size 35 #[.bool g, .int .u32 (a : Int), .int .u8 (p : Int), .int .u8 (y : Int), .int .u8 (e : Int), .int .u16 (bb : Int), .int .u16 (t : Int)] := (Blk.new w8 35 _).below b9 (by simp)
  have hl := Q9.lt
  obtain ⟨z0, z1, z2, z3, z4, z5, z6⟩ := Cp.Blk.cells7 Q9
  clear Q9 b6 b7 b8 b9 B5 B6 B7 B8
  go_wp2_with fail
  go_ret
  exact ⟨rfl, B9.alloc B9.size _⟩
theorem own_rd {w' : World} {base n : Nat} {v : Value} {f : Nat → Nat} (h : w'.ownsRow base 5 1 v n (Pt.rowL f n)) : ∃ A c, v = .slice A n c ∧ Pt.Rd w' A n f := by
  obtain ⟨hl, h2⟩ := h
  rcases h2 with ⟨hv, h0⟩ | ⟨g, cap, cur, rfl, hg, hh, hc1, hc2, hs, ht⟩
  · subst h0
    exact ⟨_, _, hv, fun h => absurd h (by omega)⟩
  · refine ⟨_, _, rfl, fun h0 => ⟨g, 0, rfl, ?_, fun j hj => ?_⟩⟩
    · have hb : Blk w' g 5 cur := hh
      exact hb.lt
    · have hb : Blk w' g 5 cur := hh
      have h3 := Pt.rowL_get f n j hj
      rw [← ht, Nat.mul_one, List.getElem?_take_of_lt hj] at h3
      rw [hb.cell, Nat.zero_add, ← Array.getElem?_toList, h3]
end Go.Proofs.Ytleabbhoedddlaa
