import Derived.Test.YtleabbhoedddlaaBh
import Derived.StillTailTactics
namespace Go.Proofs.Ytleabbhoedddlaa
open Go.ChangeShapes Go.WideShapes Go.ChangeAt Go.RowKit
open Cp (cp arr mt num4)
set_option linter.unusedVariables false
theorem Only2.size {x y : Nat} {w w1 : World} (h : Only2 x y w w1) : w.heap.size ≤ w1.heap.size := (h.1 0 (Nat.zero_le _) (Nat.zero_le _) (Nat.zero_le _)).size
theorem Only2.below {x y : Nat} {w w1 w2 : World} (h : Only2 x y w w1) (hb : Below w1.heap.size w1 w2) : Only2 x y w w2 :=
  ⟨fun K h1 h2 h3 => (h.1 K h1 h2 h3).trans (hb.mono (Nat.le_trans h3 h.size)), fun g h1 h2 h3 => (hb.block g (Nat.lt_of_lt_of_le h3 h.size)).trans (h.2 g h1 h2 h3)⟩
theorem Only2.blk {x y g : Nat} {w w1 : World} {t : TypeId} {C : Array Value} (h : Only2 x y w w1) (hb : Blk w g t C) (h1 : g ≠ x) (h2 : g ≠ y) : Blk w1 g t C := (h.2 g h1 h2 hb.lt).trans hb
theorem Tk.lt {w : World} {g : Nat} {T : Nat → Bool} (h : Tk w g T) : g < w.heap.size := by obtain ⟨c, h1, _⟩ := h; exact h1.lt
theorem RM.below {w w' : World} {r x y c1 c2 : Nat} {B : Nat → Nat} {T : Nat → Bool} (h : RM w r x y c1 c2 B T) (hb : Below w.heap.size w w') : RM w' r x y c1 c2 B T :=
  ⟨h.box.below hb h.box.lt, h.by_.below hb h.by_.lt, h.tg.below hb h.tg.lt, h.lt, h.xy, h.rx, h.ry⟩
/-- bytes, so many of them set -/
def stS (B : Nat → Nat) (a k : Nat) (f : Nat → Nat) (i : Nat) : Nat := if a ≤ i ∧ i < a + k then f (i - a) else B i
theorem stS_step (B : Nat → Nat) (a k : Nat) (f : Nat → Nat) : (fun i => if i = a + k then f k else stS B a k f i) = stS B a (k + 1) f := by
  funext i
  unfold stS
  by_cases e : i = a + k
  · rw [if_pos e, if_pos (by omega), e, Nat.add_sub_cancel_left]
  · rw [if_neg e]
    by_cases c : a ≤ i ∧ i < a + k
    · rw [if_pos c, if_pos (by omega)]
    · rw [if_neg c, if_neg (by omega)]
theorem stS_0 (B : Nat → Nat) (a : Nat) (f : Nat → Nat) : stS B a 0 f = B := by
  funext i
  unfold stS
  rw [if_neg (by omega)]
theorem stS_8 (B : Nat → Nat) (a : Nat) (f : Nat → Nat) : stS B a 8 f = scB B a f := rfl
theorem b8_at (x0 x1 x2 x3 x4 x5 x6 x7 j : Nat) (hj : j < 8) : (#[.int .u8 (x0 : Int), .int .u8 (x1 : Int), .int .u8 (x2 : Int), .int .u8 (x3 : Int), .int .u8 (x4 : Int), .int .u8 (x5 : Int), .int .u8 (x6 : Int), .int .u8 (x7 : Int)] : Array Value)[j]? = some (.int .u8 (b8 x0 x1 x2 x3 x4 x5 x6 x7 j : Int)) := by
  have : j = 0 ∨ j = 1 ∨ j = 2 ∨ j = 3 ∨ j = 4 ∨ j = 5 ∨ j = 6 ∨ j = 7 := by omega
  rcases this with rfl | rfl | rfl | rfl | rfl | rfl | rfl | rfl <;> rfl
def RSC (w : World) (r x y c1 c2 a : Nat) (B : Nat → Nat) (T : Nat → Bool) (f : Nat → Nat) (q : Nat) (V : Array Value) (p : Nat) (U : Array Value) (i : Value) (wr : World) : Prop :=
  ∃ k : Nat, k ≤ 8 ∧ i = .int .i64 (k : Int) ∧ Only2 x y w wr ∧ RM wr r x y c1 c2 (stS B a k f) T ∧ Blk wr q 58 V ∧ Blk wr p 35 U
set_option maxRecDepth 100000 in
set_option maxHeartbeats 8000000 in
theorem rStoreCapW (r x y c1 c2 at_ : Nat) (g : Bool) (u1 u2 u3 u4 u5 u6 : Value) (x0 x1 x2 x3 x4 x5 x6 x7 : Nat) (B : Nat → Nat) (T : Nat → Bool) (w : World) (hm : RM w r x y c1 c2 B T) (ha : at_ < 65536) (hw : at_ % 8 = 0)
    (hf : ∀ j, b8 x0 x1 x2 x3 x4 x5 x6 x7 j < 256)
    (K : Hid (∀ w, Calls Try.prog 21 #[.agg #[.bool g, u1, u2, u3, u4, u5, u6]] w fun en w' => en = .returned (arr x0 x1 x2 x3 x4 x5 x6 x7) ∧ Below w.heap.size w w')) :
    Calls Try.prog 23 #[.pointer (some ⟨r, 0, none⟩), .int .u32 (at_ : Int), .agg #[.bool g, u1, u2, u3, u4, u5, u6]] w fun e w' => e = .returned (.int .i64 0) ∧ Only2 x y w w' ∧ RM w' r x y c1 c2 (scB B at_ (b8 x0 x1 x2 x3 x4 x5 x6 x7)) (stT T at_ g) := by
  have HM := Lib.hid hm
  obtain ⟨f, hff⟩ : ∃ f, f = b8 x0 x1 x2 x3 x4 x5 x6 x7 := ⟨_, rfl⟩
  have HF : Hid (∀ j, f j < 256) := Lib.hid (by rw [hff]; exact hf)
  have HA := Lib.hid (And.intro ha hw)
  have hr : ((at_ : Int) % 8 != 0) = false := by simp; omega
  have hq : decide ((65536 : Int) ≤ (at_ : Int)) = false := by simp; omega
  have ba : at_ ≤ 65536 := by omega
  clear hm hf hw ha
  go_enter Try.func23, Try.ntmps23
  go_wp2_with fail
  refine (K.out _).mono ?_
  rintro en w1 ⟨rfl, hb1⟩
  have hz1 : w.heap.size < w1.heap.size := by have := hb1.size; simp at this; omega
  have hB1 : Below w.heap.size w w1 := ((Below.refl _ _).alloc (Nat.le_refl _) _).trans (hb1.mono (by simp))
  have P1 : Blk w1 w.heap.size 35 #[.bool g, u1, u2, u3, u4, u5, u6] := (Blk.new w 35 _).below hb1 (by simp)
  have M1 := HM.out.below hB1
  have O1 : Only2 x y w w1 := (Only2.refl x y w).below hB1
  clear hb1
  go_wp2_with fail
  have Q2 : Blk (w1.alloc (.cells #[.int .u8 (x0 : Int), .int .u8 (x1 : Int), .int .u8 (x2 : Int), .int .u8 (x3 : Int), .int .u8 (x4 : Int), .int .u8 (x5 : Int), .int .u8 (x6 : Int), .int .u8 (x7 : Int)] 58)) w1.heap.size 58 #[.int .u8 (x0 : Int), .int .u8 (x1 : Int), .int .u8 (x2 : Int), .int .u8 (x3 : Int), .int .u8 (x4 : Int), .int .u8 (x5 : Int), .int .u8 (x6 : Int), .int .u8 (x7 : Int)] := Blk.new w1 58 _
  have hal : Below w1.heap.size w1 (w1.alloc (.cells #[.int .u8 (x0 : Int), .int .u8 (x1 : Int), .int .u8 (x2 : Int), .int .u8 (x3 : Int), .int .u8 (x4 : Int), .int .u8 (x5 : Int), .int .u8 (x6 : Int), .int .u8 (x7 : Int)] 58)) := (Below.refl _ _).alloc (Nat.le_refl _) _
  have START : Hid (RSC w r x y c1 c2 at_ B T f w1.heap.size #[.int .u8 (x0 : Int), .int .u8 (x1 : Int), .int .u8 (x2 : Int), .int .u8 (x3 : Int), .int .u8 (x4 : Int), .int .u8 (x5 : Int), .int .u8 (x6 : Int), .int .u8 (x7 : Int)] w.heap.size #[.bool g, u1, u2, u3, u4, u5, u6] (.int .i64 0) (w1.alloc (.cells #[.int .u8 (x0 : Int), .int .u8 (x1 : Int), .int .u8 (x2 : Int), .int .u8 (x3 : Int), .int .u8 (x4 : Int), .int .u8 (x5 : Int), .int .u8 (x6 : Int), .int .u8 (x7 : Int)] 58))) :=
    Lib.hid ⟨0, by omega, rfl, O1.below hal, by rw [stS_0]; exact M1.below hal, Q2, P1.below hal hz1⟩
  have hne1 : w1.heap.size ≠ x := by have := M1.by_.lt; omega
  have hne2 : w1.heap.size ≠ y := by have := M1.tg.lt; omega
  have hne3 : w.heap.size ≠ x := by have := HM.out.by_.lt; omega
  have hne4 : w.heap.size ≠ y := by have := HM.out.tg.lt; omega
  have HB8 : Hid (∀ j, j < 8 → (#[.int .u8 (x0 : Int), .int .u8 (x1 : Int), .int .u8 (x2 : Int), .int .u8 (x3 : Int), .int .u8 (x4 : Int), .int .u8 (x5 : Int), .int .u8 (x6 : Int), .int .u8 (x7 : Int)] : Array Value)[j]? = some (.int .u8 (f j : Int))) := Lib.hid fun j hj => by rw [hff]; exact b8_at _ _ _ _ _ _ _ _ j hj
  have HFF := Lib.hid hff
  clear hff
  generalize (#[.int .u8 (x0 : Int), .int .u8 (x1 : Int), .int .u8 (x2 : Int), .int .u8 (x3 : Int), .int .u8 (x4 : Int), .int .u8 (x5 : Int), .int .u8 (x6 : Int), .int .u8 (x7 : Int)] : Array Value) = V at HB8 START
  generalize w1.heap.size = q at *
  clear Q2 hal O1 M1 P1 hB1 hr hq
  go_loopw [8] (fun i wr => RSC w r x y c1 c2 at_ B T f q V w.heap.size #[.bool g, u1, u2, u3, u4, u5, u6] i wr) (fun i _ => 8 - (intOf i).toNat)
  case atStart => exact START.out
  case round =>
    obtain ⟨k, hk, rfl, ho, hm, hQ, hP⟩ := hrel
    have p0 := hm.box.cell 0
    have p1 := hm.box.cell 1
    simp only [List.getElem?_toArray, List.getElem?_cons_zero, List.getElem?_cons_succ] at p0 p1
    have HO := Lib.hid ho; have HM2 := Lib.hid hm; have HQ := Lib.hid hQ; have HP := Lib.hid hP
    clear ho hm hQ hP START
    by_cases hlt : k < 8
    · have hk8 : k = 0 ∨ k = 1 ∨ k = 2 ∨ k = 3 ∨ k = 4 ∨ k = 5 ∨ k = 6 ∨ k = 7 := by omega
      clear hlt hk
      rcases hk8 with rfl | rfl | rfl | rfl | rfl | rfl | rfl | rfl
      · have v0 : wr.cell? ⟨q, 0, none⟩ = some (.int .u8 (f 0 : Int)) := by rw [HQ.out.cell]; exact HB8.out 0 (by omega)
        obtain ⟨hv, hf⟩ := HM2.out.by_.cell (at_ + 0) (by have := HA.out; omega)
        have hi : (at_ : Int) < 65536 := by have := HA.out; omega
        have hv : wr.cell? ⟨x, at_, none⟩ = some (.int .u8 (stS B at_ 0 f (at_ + 0) : Int)) := hv
        have hf : wr.frozen? ⟨x, at_, none⟩ = false := hf
        have wa : IntKind.i64.wrap (at_ : Int) = (at_ : Int) := by rw [IntKind.wrap_i64]; have := HA.out; omega
        generalize stS B at_ 0 f (at_ + 0) = old at hv
        have HS : Hid (∀ (wz : World) (u : Nat), u = f 0 → Below wr.heap.size wr wz → RSC w r x y c1 c2 at_ B T f q V w.heap.size #[.bool g, u1, u2, u3, u4, u5, u6] (.int .i64 1) (wz.setCell ⟨x, at_ + 0, none⟩ (.int .u8 (u : Int)))) := Lib.hid fun wz u hu hb => by
          subst hu
          refine ⟨0 + 1, by omega, rfl, (HO.out.below hb).setX _ _, ?_, (HQ.out.below hb HQ.out.lt).far hne1 _, (HP.out.below hb HP.out.lt).far hne3 _⟩
          rw [← stS_step]
          exact (HM2.out.below hb).setX (at_ + 0) (by have := HA.out; omega) _ (HF.out 0)
        have hbl' := HF.out 0
        generalize f 0 = bb at *
        have hbl : bb ≤ 255 := by omega
        clear hbl'
        go_wp2_with fail
        refine wp_region_still_tail 12 (by kernel_rfl) (by kernel_rfl) ?_
        simp only [List.take_succ_cons, List.take_zero, List.drop_succ_cons, List.drop_zero]
        repeat (with_reducible refine wpStill_step (fun K hK => ?_); go_simp; with_reducible refine hK _ ?_; clear hK K)
        try refine wpStill_nil ?_
        clear wa
        change wpList _ _ _ _ _ (World.drew _)
        go_wp2_with fail
        go_roundw
        case rel =>
          have := HS.out wr.drew bb rfl (Below.refl _ _).drew
          exact this
        case measure => simp [intOf]
      · have v0 : wr.cell? ⟨q, 1, none⟩ = some (.int .u8 (f 1 : Int)) := by rw [HQ.out.cell]; exact HB8.out 1 (by omega)
        obtain ⟨hv, hf⟩ := HM2.out.by_.cell (at_ + 1) (by have := HA.out; omega)
        obtain ⟨q2, hq2⟩ : ∃ q2 : Nat, at_ + 1 = q2 := ⟨_, rfl⟩
        have hqi : (at_ : Int) + 1 = (q2 : Int) := by omega
        have hi : (q2 : Int) < 65536 := by have := HA.out; omega
        have wa : IntKind.i64.wrap (at_ : Int) = (at_ : Int) := by rw [IntKind.wrap_i64]; have := HA.out; omega
        have wq : IntKind.i64.wrap (q2 : Int) = (q2 : Int) := by rw [IntKind.wrap_i64]; have := HA.out; omega
        generalize stS B at_ 1 f (at_ + 1) = old at hv
        have HS : Hid (∀ (wz : World) (u : Nat), u = f 1 → Below wr.heap.size wr wz → RSC w r x y c1 c2 at_ B T f q V w.heap.size #[.bool g, u1, u2, u3, u4, u5, u6] (.int .i64 2) (wz.setCell ⟨x, at_ + 1, none⟩ (.int .u8 (u : Int)))) := Lib.hid fun wz u hu hb => by
          subst hu
          refine ⟨1 + 1, by omega, rfl, (HO.out.below hb).setX _ _, ?_, (HQ.out.below hb HQ.out.lt).far hne1 _, (HP.out.below hb HP.out.lt).far hne3 _⟩
          rw [← stS_step]
          exact (HM2.out.below hb).setX (at_ + 1) (by have := HA.out; omega) _ (HF.out 1)
        rw [hq2] at hv hf
        have HQ2 := Lib.hid hq2
        clear hq2
        have hbl' := HF.out 1
        generalize f 1 = bb at *
        have hbl : bb ≤ 255 := by omega
        clear hbl'
        go_wp2_with fail
        refine wp_region_still_tail 12 (by kernel_rfl) (by kernel_rfl) ?_
        simp only [List.take_succ_cons, List.take_zero, List.drop_succ_cons, List.drop_zero]
        repeat (with_reducible refine wpStill_step (fun K hK => ?_); go_simp; with_reducible refine hK _ ?_; clear hK K)
        try refine wpStill_nil ?_
        clear wa wq hqi
        change wpList _ _ _ _ _ (World.drew _)
        go_wp2_with fail
        go_roundw
        case rel =>
          have := HS.out wr.drew bb rfl (Below.refl _ _).drew
          rw [HQ2.out] at this
          exact this
        case measure => simp [intOf]
      · have v0 : wr.cell? ⟨q, 2, none⟩ = some (.int .u8 (f 2 : Int)) := by rw [HQ.out.cell]; exact HB8.out 2 (by omega)
        obtain ⟨hv, hf⟩ := HM2.out.by_.cell (at_ + 2) (by have := HA.out; omega)
        obtain ⟨q2, hq2⟩ : ∃ q2 : Nat, at_ + 2 = q2 := ⟨_, rfl⟩
        have hqi : (at_ : Int) + 2 = (q2 : Int) := by omega
        have hi : (q2 : Int) < 65536 := by have := HA.out; omega
        have wa : IntKind.i64.wrap (at_ : Int) = (at_ : Int) := by rw [IntKind.wrap_i64]; have := HA.out; omega
        have wq : IntKind.i64.wrap (q2 : Int) = (q2 : Int) := by rw [IntKind.wrap_i64]; have := HA.out; omega
        generalize stS B at_ 2 f (at_ + 2) = old at hv
        have HS : Hid (∀ (wz : World) (u : Nat), u = f 2 → Below wr.heap.size wr wz → RSC w r x y c1 c2 at_ B T f q V w.heap.size #[.bool g, u1, u2, u3, u4, u5, u6] (.int .i64 3) (wz.setCell ⟨x, at_ + 2, none⟩ (.int .u8 (u : Int)))) := Lib.hid fun wz u hu hb => by
          subst hu
          refine ⟨2 + 1, by omega, rfl, (HO.out.below hb).setX _ _, ?_, (HQ.out.below hb HQ.out.lt).far hne1 _, (HP.out.below hb HP.out.lt).far hne3 _⟩
          rw [← stS_step]
          exact (HM2.out.below hb).setX (at_ + 2) (by have := HA.out; omega) _ (HF.out 2)
        rw [hq2] at hv hf
        have HQ2 := Lib.hid hq2
        clear hq2
        have hbl' := HF.out 2
        generalize f 2 = bb at *
        have hbl : bb ≤ 255 := by omega
        clear hbl'
        go_wp2_with fail
        refine wp_region_still_tail 12 (by kernel_rfl) (by kernel_rfl) ?_
        simp only [List.take_succ_cons, List.take_zero, List.drop_succ_cons, List.drop_zero]
        repeat (with_reducible refine wpStill_step (fun K hK => ?_); go_simp; with_reducible refine hK _ ?_; clear hK K)
        try refine wpStill_nil ?_
        clear wa wq hqi
        change wpList _ _ _ _ _ (World.drew _)
        go_wp2_with fail
        go_roundw
        case rel =>
          have := HS.out wr.drew bb rfl (Below.refl _ _).drew
          rw [HQ2.out] at this
          exact this
        case measure => simp [intOf]
      · have v0 : wr.cell? ⟨q, 3, none⟩ = some (.int .u8 (f 3 : Int)) := by rw [HQ.out.cell]; exact HB8.out 3 (by omega)
        obtain ⟨hv, hf⟩ := HM2.out.by_.cell (at_ + 3) (by have := HA.out; omega)
        obtain ⟨q2, hq2⟩ : ∃ q2 : Nat, at_ + 3 = q2 := ⟨_, rfl⟩
        have hqi : (at_ : Int) + 3 = (q2 : Int) := by omega
        have hi : (q2 : Int) < 65536 := by have := HA.out; omega
        have wa : IntKind.i64.wrap (at_ : Int) = (at_ : Int) := by rw [IntKind.wrap_i64]; have := HA.out; omega
        have wq : IntKind.i64.wrap (q2 : Int) = (q2 : Int) := by rw [IntKind.wrap_i64]; have := HA.out; omega
        generalize stS B at_ 3 f (at_ + 3) = old at hv
        have HS : Hid (∀ (wz : World) (u : Nat), u = f 3 → Below wr.heap.size wr wz → RSC w r x y c1 c2 at_ B T f q V w.heap.size #[.bool g, u1, u2, u3, u4, u5, u6] (.int .i64 4) (wz.setCell ⟨x, at_ + 3, none⟩ (.int .u8 (u : Int)))) := Lib.hid fun wz u hu hb => by
          subst hu
          refine ⟨3 + 1, by omega, rfl, (HO.out.below hb).setX _ _, ?_, (HQ.out.below hb HQ.out.lt).far hne1 _, (HP.out.below hb HP.out.lt).far hne3 _⟩
          rw [← stS_step]
          exact (HM2.out.below hb).setX (at_ + 3) (by have := HA.out; omega) _ (HF.out 3)
        rw [hq2] at hv hf
        have HQ2 := Lib.hid hq2
        clear hq2
        have hbl' := HF.out 3
        generalize f 3 = bb at *
        have hbl : bb ≤ 255 := by omega
        clear hbl'
        go_wp2_with fail
        refine wp_region_still_tail 12 (by kernel_rfl) (by kernel_rfl) ?_
        simp only [List.take_succ_cons, List.take_zero, List.drop_succ_cons, List.drop_zero]
        repeat (with_reducible refine wpStill_step (fun K hK => ?_); go_simp; with_reducible refine hK _ ?_; clear hK K)
        try refine wpStill_nil ?_
        clear wa wq hqi
        change wpList _ _ _ _ _ (World.drew _)
        go_wp2_with fail
        go_roundw
        case rel =>
          have := HS.out wr.drew bb rfl (Below.refl _ _).drew
          rw [HQ2.out] at this
          exact this
        case measure => simp [intOf]
      · have v0 : wr.cell? ⟨q, 4, none⟩ = some (.int .u8 (f 4 : Int)) := by rw [HQ.out.cell]; exact HB8.out 4 (by omega)
        obtain ⟨hv, hf⟩ := HM2.out.by_.cell (at_ + 4) (by have := HA.out; omega)
        obtain ⟨q2, hq2⟩ : ∃ q2 : Nat, at_ + 4 = q2 := ⟨_, rfl⟩
        have hqi : (at_ : Int) + 4 = (q2 : Int) := by omega
        have hi : (q2 : Int) < 65536 := by have := HA.out; omega
        have wa : IntKind.i64.wrap (at_ : Int) = (at_ : Int) := by rw [IntKind.wrap_i64]; have := HA.out; omega
        have wq : IntKind.i64.wrap (q2 : Int) = (q2 : Int) := by rw [IntKind.wrap_i64]; have := HA.out; omega
        generalize stS B at_ 4 f (at_ + 4) = old at hv
        have HS : Hid (∀ (wz : World) (u : Nat), u = f 4 → Below wr.heap.size wr wz → RSC w r x y c1 c2 at_ B T f q V w.heap.size #[.bool g, u1, u2, u3, u4, u5, u6] (.int .i64 5) (wz.setCell ⟨x, at_ + 4, none⟩ (.int .u8 (u : Int)))) := Lib.hid fun wz u hu hb => by
          subst hu
          refine ⟨4 + 1, by omega, rfl, (HO.out.below hb).setX _ _, ?_, (HQ.out.below hb HQ.out.lt).far hne1 _, (HP.out.below hb HP.out.lt).far hne3 _⟩
          rw [← stS_step]
          exact (HM2.out.below hb).setX (at_ + 4) (by have := HA.out; omega) _ (HF.out 4)
        rw [hq2] at hv hf
        have HQ2 := Lib.hid hq2
        clear hq2
        have hbl' := HF.out 4
        generalize f 4 = bb at *
        have hbl : bb ≤ 255 := by omega
        clear hbl'
        go_wp2_with fail
        refine wp_region_still_tail 12 (by kernel_rfl) (by kernel_rfl) ?_
        simp only [List.take_succ_cons, List.take_zero, List.drop_succ_cons, List.drop_zero]
        repeat (with_reducible refine wpStill_step (fun K hK => ?_); go_simp; with_reducible refine hK _ ?_; clear hK K)
        try refine wpStill_nil ?_
        clear wa wq hqi
        change wpList _ _ _ _ _ (World.drew _)
        go_wp2_with fail
        go_roundw
        case rel =>
          have := HS.out wr.drew bb rfl (Below.refl _ _).drew
          rw [HQ2.out] at this
          exact this
        case measure => simp [intOf]
      · have v0 : wr.cell? ⟨q, 5, none⟩ = some (.int .u8 (f 5 : Int)) := by rw [HQ.out.cell]; exact HB8.out 5 (by omega)
        obtain ⟨hv, hf⟩ := HM2.out.by_.cell (at_ + 5) (by have := HA.out; omega)
        obtain ⟨q2, hq2⟩ : ∃ q2 : Nat, at_ + 5 = q2 := ⟨_, rfl⟩
        have hqi : (at_ : Int) + 5 = (q2 : Int) := by omega
        have hi : (q2 : Int) < 65536 := by have := HA.out; omega
        have wa : IntKind.i64.wrap (at_ : Int) = (at_ : Int) := by rw [IntKind.wrap_i64]; have := HA.out; omega
        have wq : IntKind.i64.wrap (q2 : Int) = (q2 : Int) := by rw [IntKind.wrap_i64]; have := HA.out; omega
        generalize stS B at_ 5 f (at_ + 5) = old at hv
        have HS : Hid (∀ (wz : World) (u : Nat), u = f 5 → Below wr.heap.size wr wz → RSC w r x y c1 c2 at_ B T f q V w.heap.size #[.bool g, u1, u2, u3, u4, u5, u6] (.int .i64 6) (wz.setCell ⟨x, at_ + 5, none⟩ (.int .u8 (u : Int)))) := Lib.hid fun wz u hu hb => by
          subst hu
          refine ⟨5 + 1, by omega, rfl, (HO.out.below hb).setX _ _, ?_, (HQ.out.below hb HQ.out.lt).far hne1 _, (HP.out.below hb HP.out.lt).far hne3 _⟩
          rw [← stS_step]
          exact (HM2.out.below hb).setX (at_ + 5) (by have := HA.out; omega) _ (HF.out 5)
        rw [hq2] at hv hf
        have HQ2 := Lib.hid hq2
        clear hq2
        have hbl' := HF.out 5
        generalize f 5 = bb at *
        have hbl : bb ≤ 255 := by omega
        clear hbl'
        go_wp2_with fail
        refine wp_region_still_tail 12 (by kernel_rfl) (by kernel_rfl) ?_
        simp only [List.take_succ_cons, List.take_zero, List.drop_succ_cons, List.drop_zero]
        repeat (with_reducible refine wpStill_step (fun K hK => ?_); go_simp; with_reducible refine hK _ ?_; clear hK K)
        try refine wpStill_nil ?_
        clear wa wq hqi
        change wpList _ _ _ _ _ (World.drew _)
        go_wp2_with fail
        go_roundw
        case rel =>
          have := HS.out wr.drew bb rfl (Below.refl _ _).drew
          rw [HQ2.out] at this
          exact this
        case measure => simp [intOf]
      · have v0 : wr.cell? ⟨q, 6, none⟩ = some (.int .u8 (f 6 : Int)) := by rw [HQ.out.cell]; exact HB8.out 6 (by omega)
        obtain ⟨hv, hf⟩ := HM2.out.by_.cell (at_ + 6) (by have := HA.out; omega)
        obtain ⟨q2, hq2⟩ : ∃ q2 : Nat, at_ + 6 = q2 := ⟨_, rfl⟩
        have hqi : (at_ : Int) + 6 = (q2 : Int) := by omega
        have hi : (q2 : Int) < 65536 := by have := HA.out; omega
        have wa : IntKind.i64.wrap (at_ : Int) = (at_ : Int) := by rw [IntKind.wrap_i64]; have := HA.out; omega
        have wq : IntKind.i64.wrap (q2 : Int) = (q2 : Int) := by rw [IntKind.wrap_i64]; have := HA.out; omega
        generalize stS B at_ 6 f (at_ + 6) = old at hv
        have HS : Hid (∀ (wz : World) (u : Nat), u = f 6 → Below wr.heap.size wr wz → RSC w r x y c1 c2 at_ B T f q V w.heap.size #[.bool g, u1, u2, u3, u4, u5, u6] (.int .i64 7) (wz.setCell ⟨x, at_ + 6, none⟩ (.int .u8 (u : Int)))) := Lib.hid fun wz u hu hb => by
          subst hu
          refine ⟨6 + 1, by omega, rfl, (HO.out.below hb).setX _ _, ?_, (HQ.out.below hb HQ.out.lt).far hne1 _, (HP.out.below hb HP.out.lt).far hne3 _⟩
          rw [← stS_step]
          exact (HM2.out.below hb).setX (at_ + 6) (by have := HA.out; omega) _ (HF.out 6)
        rw [hq2] at hv hf
        have HQ2 := Lib.hid hq2
        clear hq2
        have hbl' := HF.out 6
        generalize f 6 = bb at *
        have hbl : bb ≤ 255 := by omega
        clear hbl'
        go_wp2_with fail
        refine wp_region_still_tail 12 (by kernel_rfl) (by kernel_rfl) ?_
        simp only [List.take_succ_cons, List.take_zero, List.drop_succ_cons, List.drop_zero]
        repeat (with_reducible refine wpStill_step (fun K hK => ?_); go_simp; with_reducible refine hK _ ?_; clear hK K)
        try refine wpStill_nil ?_
        clear wa wq hqi
        change wpList _ _ _ _ _ (World.drew _)
        go_wp2_with fail
        go_roundw
        case rel =>
          have := HS.out wr.drew bb rfl (Below.refl _ _).drew
          rw [HQ2.out] at this
          exact this
        case measure => simp [intOf]
      · have v0 : wr.cell? ⟨q, 7, none⟩ = some (.int .u8 (f 7 : Int)) := by rw [HQ.out.cell]; exact HB8.out 7 (by omega)
        obtain ⟨hv, hf⟩ := HM2.out.by_.cell (at_ + 7) (by have := HA.out; omega)
        obtain ⟨q2, hq2⟩ : ∃ q2 : Nat, at_ + 7 = q2 := ⟨_, rfl⟩
        have hqi : (at_ : Int) + 7 = (q2 : Int) := by omega
        have hi : (q2 : Int) < 65536 := by have := HA.out; omega
        have wa : IntKind.i64.wrap (at_ : Int) = (at_ : Int) := by rw [IntKind.wrap_i64]; have := HA.out; omega
        have wq : IntKind.i64.wrap (q2 : Int) = (q2 : Int) := by rw [IntKind.wrap_i64]; have := HA.out; omega
        generalize stS B at_ 7 f (at_ + 7) = old at hv
        have HS : Hid (∀ (wz : World) (u : Nat), u = f 7 → Below wr.heap.size wr wz → RSC w r x y c1 c2 at_ B T f q V w.heap.size #[.bool g, u1, u2, u3, u4, u5, u6] (.int .i64 8) (wz.setCell ⟨x, at_ + 7, none⟩ (.int .u8 (u : Int)))) := Lib.hid fun wz u hu hb => by
          subst hu
          refine ⟨7 + 1, by omega, rfl, (HO.out.below hb).setX _ _, ?_, (HQ.out.below hb HQ.out.lt).far hne1 _, (HP.out.below hb HP.out.lt).far hne3 _⟩
          rw [← stS_step]
          exact (HM2.out.below hb).setX (at_ + 7) (by have := HA.out; omega) _ (HF.out 7)
        rw [hq2] at hv hf
        have HQ2 := Lib.hid hq2
        clear hq2
        have hbl' := HF.out 7
        generalize f 7 = bb at *
        have hbl : bb ≤ 255 := by omega
        clear hbl'
        go_wp2_with fail
        refine wp_region_still_tail 12 (by kernel_rfl) (by kernel_rfl) ?_
        simp only [List.take_succ_cons, List.take_zero, List.drop_succ_cons, List.drop_zero]
        repeat (with_reducible refine wpStill_step (fun K hK => ?_); go_simp; with_reducible refine hK _ ?_; clear hK K)
        try refine wpStill_nil ?_
        clear wa wq hqi
        change wpList _ _ _ _ _ (World.drew _)
        go_wp2_with fail
        go_roundw
        case rel =>
          have := HS.out wr.drew bb rfl (Below.refl _ _).drew
          rw [HQ2.out] at this
          exact this
        case measure => simp [intOf]
    · have hk8 : k = 8 := by omega
      subst hk8
      obtain ⟨hv, hf⟩ := HM2.out.tg.cell (at_ / 8) (by have := HA.out; omega)
      have v0 : wr.cell? ⟨w.heap.size, 0, none⟩ = some (.bool g) := HP.out.cell 0
      obtain ⟨q8, hq8⟩ : ∃ q8 : Nat, at_ / 8 = q8 := ⟨_, rfl⟩
      have h8i : (at_ : Int) / 8 = (q8 : Int) := by omega
      have hi : (q8 : Int) < 8192 := by have := HA.out; omega
      generalize T (at_ / 8) = old at hv
      rw [hq8] at hv hf
      have wu : IntKind.u32.wrap (q8 : Int) = (q8 : Int) := by rw [IntKind.wrap_u32]; have := HA.out; omega
      have HQ8 := Lib.hid hq8
      clear hq8
      go_wp2_with fail
      refine wp_region_still_tail 9 (by kernel_rfl) (by kernel_rfl) ?_
      simp only [List.take_succ_cons, List.take_zero, List.drop_succ_cons, List.drop_zero]
      repeat (with_reducible refine wpStill_step (fun K hK => ?_); go_simp; with_reducible refine hK _ ?_; clear hK K)
      try refine wpStill_nil ?_
      clear h8i wu
      change wpList _ _ _ _ _ (World.drew _)
      go_wp2_with fail
      go_ret
      have hb : Below wr.heap.size wr wr.drew := (Below.refl _ _).drew
      rw [← HQ8.out]
      refine ⟨rfl, (HO.out.below hb).setY _ _, ?_⟩
      have := (HM2.out.below hb).setY at_ (by have := HA.out; omega) g
      rw [stS_8, HFF.out] at this
      exact this
end Go.Proofs.Ytleabbhoedddlaa
