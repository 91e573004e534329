import Derived.Test.YtleabbhoedddlaaBp
namespace Go.Proofs.Ytleabbhoedddlaa
open Go.ChangeShapes Go.WideShapes Go.ChangeAt Go.RowKit
open Cp (cp arr mt num4)
set_option linter.unusedVariables false
theorem alike_ (w0 : World) (b r x y : Nat) (B : Nat → Nat) (T : Nat → Bool) (at_ n s : Int) (w : World) (hJ : J w0 b r x y B T w) (ha : -9223372036854775808 ≤ at_ ∧ at_ ≤ 9223372036854775807) (hn : -9223372036854775808 ≤ n ∧ n ≤ 9223372036854775807) :
    Calls Try.prog 10 #[.pointer (some ⟨b, 0, none⟩), .pointer (some ⟨r, 0, none⟩), .int .i64 at_, .int .i64 n, .int .i64 s] w fun en w' => en = .returned (.bool true) ∧ Below w.heap.size w w' := by
  obtain ⟨au, hq, hau⟩ := Cp.u32w at_
  have p1 : ∃ (N : Nat) (f : Nat → Nat) (e1 k : Int), N ≤ 65536 ∧
      (∀ W, Below w.heap.size w W → Calls Try.prog 14 #[.pointer (some ⟨b, 0, none⟩), .int .i64 at_, .int .i64 n] W fun en w2 => ∃ A c, en = ret2 (.slice A N c) e1 ∧ Below W.heap.size W w2 ∧ Pt.Rd w2 A N f) ∧
      (∀ W, Below w.heap.size w W → Calls Try.prog 24 #[.pointer (some ⟨r, 0, none⟩), .int .i64 at_, .int .i64 n] W fun en w2 => ∃ A c, en = ret2 (.slice A N c) e1 ∧ Below W.heap.size W w2 ∧ Pt.Rd w2 A N f) ∧
      (∀ W, Below w.heap.size w W → Calls Try.prog 15 #[.pointer (some ⟨b, 0, none⟩), .int .i64 at_, .int .i64 n] W fun en w2 => en = ret2 (.int .i64 k) e1 ∧ Below W.heap.size W w2) ∧
      (∀ W, Below w.heap.size w W → Calls Try.prog 25 #[.pointer (some ⟨r, 0, none⟩), .int .i64 at_, .int .i64 n] W fun en w2 => en = ret2 (.int .i64 k) e1 ∧ Below W.heap.size W w2) := by
    rcases Bool.eq_false_or_eq_true (spanB at_ n) with hs | hs
    · unfold spanB at hs
      rw [decide_eq_true_eq] at hs
      obtain ⟨a, rfl⟩ := Int.eq_ofNat_of_zero_le hs.1
      obtain ⟨m, rfl⟩ := Int.eq_ofNat_of_zero_le hs.2.1
      have h : a + m ≤ 65536 := by omega
      refine ⟨m, fun j => B (a + j), 0, (tagsN T a m : Int), by omega, fun W hb => ?_, fun W hb => ?_, fun W hb => ?_, fun W hb => ?_⟩
      · refine (mBytes b a m B T W (hJ.below hb).m h).mono ?_
        rintro _ w2 ⟨v, rfl, q1, q2⟩
        obtain ⟨A, c, rfl, q3⟩ := own_rd q2
        exact ⟨A, c, rfl, q1, q3⟩
      · refine (rBytes r x y 8192 a m B T W (hJ.below hb).rm h).mono ?_
        rintro _ w2 ⟨v, rfl, q1, q2⟩
        obtain ⟨A, c, rfl, q3⟩ := own_rd q2
        exact ⟨A, c, rfl, q1, q3⟩
      · refine (mTags b a m B T W (hJ.below hb).m h).mono ?_
        rintro _ w2 ⟨rfl, rfl⟩
        exact ⟨rfl, Below.refl _ _⟩
      · refine (rTags r x y 65536 a m B T W (hJ.below hb).rm h).mono ?_
        rintro _ w2 ⟨rfl, rfl⟩
        exact ⟨rfl, Below.refl _ _⟩
    · refine ⟨0, fun _ => 0, 2, 0, by omega, fun W hb => ?_, fun W hb => ?_, fun W hb => ?_, fun W hb => ?_⟩
      · refine (mBytesNo b at_ n B T W (hJ.below hb).m hs).mono ?_
        rintro _ w2 ⟨rfl, rfl⟩
        exact ⟨none, 0, rfl, Below.refl _ _, fun h => absurd h (by omega)⟩
      · refine (rBytesNo r at_ n W ha.1 ha.2 hn.1 hn.2 hs).mono ?_
        rintro _ w2 ⟨rfl, rfl⟩
        exact ⟨none, 0, rfl, Below.refl _ _, fun h => absurd h (by omega)⟩
      · refine (mTagsNo b at_ n B T W (hJ.below hb).m ha.1 ha.2 hn.1 hn.2 hs).mono ?_
        rintro _ w2 ⟨rfl, rfl⟩
        exact ⟨rfl, Below.refl _ _⟩
      · refine (rTagsNo r at_ n W ha.1 ha.2 hn.1 hn.2 hs).mono ?_
        rintro _ w2 ⟨rfl, rfl⟩
        exact ⟨rfl, Below.refl _ _⟩
  have p2 : ∃ (v : Nat) (e2 : Int),
      (∀ W, Below w.heap.size w W → Calls Try.prog 17 #[.pointer (some ⟨b, 0, none⟩), .int .u32 (au : Int), .int .i64 s] W fun en w2 => en = ret2 (.int .u32 (v : Int)) e2 ∧ Below W.heap.size W w2) ∧
      (∀ W, Below w.heap.size w W → Calls Try.prog 26 #[.pointer (some ⟨r, 0, none⟩), .int .u32 (au : Int), .int .i64 s] W fun en w2 => en = ret2 (.int .u32 (v : Int)) e2 ∧ Below W.heap.size W w2) := by
    rcases Bool.eq_false_or_eq_true (wordB au s) with hw | hw
    · refine ⟨numL B au s.toNat, 0, fun W hb => ?_, fun W hb => ?_⟩
      · refine (mLoad b au s B T W (hJ.below hb).m hw).mono ?_
        rintro _ w2 ⟨rfl, rfl⟩
        exact ⟨rfl, Below.refl _ _⟩
      · refine (rLoad r x y 65536 8192 au s B T W (hJ.below hb).rm hw).mono ?_
        rintro _ w2 ⟨rfl, rfl⟩
        exact ⟨rfl, Below.refl _ _⟩
    · refine ⟨0, 2, fun W hb => ?_, fun W hb => ?_⟩
      · refine (mLoadNo b au s B T W (hJ.below hb).m hw).mono ?_
        rintro _ w2 ⟨rfl, rfl⟩
        exact ⟨rfl, Below.refl _ _⟩
      · refine (rLoadNo r au s W hau hw).mono ?_
        rintro _ w2 ⟨rfl, rfl⟩
        exact ⟨rfl, Below.refl _ _⟩
  have p3 : ∃ (g : Bool) (a p y' e bb t : Nat) (e3 : Int),
      (∀ W, Below w.heap.size w W → Calls Try.prog 18 #[.pointer (some ⟨b, 0, none⟩), .int .u32 (au : Int)] W fun en w2 => en = ret2 (cp g a p y' e bb t) e3 ∧ Below W.heap.size W w2) ∧
      (∀ W, Below w.heap.size w W → Calls Try.prog 27 #[.pointer (some ⟨r, 0, none⟩), .int .u32 (au : Int)] W fun en w2 => en = ret2 (cp g a p y' e bb t) e3 ∧ Below W.heap.size W w2) := by
    rcases Bool.eq_false_or_eq_true (granB au) with hw | hw
    · have h8 : au < 65536 ∧ au % 8 = 0 := by
        unfold granB at hw
        simpa using hw
      refine ⟨T (au / 8), (num4 (B au) (B (au + 1)) (B (au + 2)) (B (au + 3))), (num4 (B (au + 4)) (B (au + 5)) (B (au + 6)) (B (au + 7))) % 128, (num4 (B (au + 4)) (B (au + 5)) (B (au + 6)) (B (au + 7))) / 128 % 8, (num4 (B (au + 4)) (B (au + 5)) (B (au + 6)) (B (au + 7))) / 1024 % 16, (num4 (B (au + 4)) (B (au + 5)) (B (au + 6)) (B (au + 7))) / 16384 % 512, (num4 (B (au + 4)) (B (au + 5)) (B (au + 6)) (B (au + 7))) / 8388608 % 512, 0, fun W hb => ?_, fun W hb => ?_⟩
      rotate_left
      · have hr := (hJ.below hb).rm
        have K := fun w => Cp.cb14 (B (au + 0)) (B (au + 1)) (B (au + 2)) (B (au + 3)) (B (au + 4)) (B (au + 5)) (B (au + 6)) (B (au + 7)) (T (au / 8)) (hr.lt _) (hr.lt _) (hr.lt _) (hr.lt _) (hr.lt _) (hr.lt _) (hr.lt _) (hr.lt _) w
        exact rLoadCapW r x y 65536 8192 au (fun j => B (au + j)) B T W hr h8.1 h8.2 (fun _ => rfl) _ _ _ _ _ _ _ rfl (Lib.hid K)
      · exact mLoadCap b au B T W (hJ.below hb).m hw
    · refine ⟨false, 0, 0, 0, 0, 0, 0, 2, fun W hb => ?_, fun W hb => ?_⟩
      · exact mLoadCapNo b au B T W (hJ.below hb).m hw
      · exact rLoadCapNo r au W hau hw
  obtain ⟨N, f, e1, k, hN, k14, k24, k15, k25⟩ := p1
  obtain ⟨v, e2, k17, k26⟩ := p2
  obtain ⟨g, a, p, y', e, bb, t, e3, k18, k27⟩ := p3
  exact alikeW b r at_ n s au N f e1 k e2 v g a p y' e bb t e3 w hq hN (Lib.hid k14) (Lib.hid k24) (Lib.hid k15) (Lib.hid k25) (Lib.hid k17) (Lib.hid k26) (Lib.hid k18) (Lib.hid k27)
end Go.Proofs.Ytleabbhoedddlaa
