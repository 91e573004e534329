import Derived.Test.YtleabbhoedddlaaBh
import Derived.StillTailTactics
namespace Go.Proofs.Ytleabbhoedddlaa
open Go.ChangeShapes Go.WideShapes Go.ChangeAt Go.RowKit
open Cp (cp arr mt num4)
set_option linter.unusedVariables false
theorem RM.belowA {w w' : World} {r x y c1 c2 : Nat} {B : Nat → Nat} {T : Nat → Bool} (h : RM w r x y c1 c2 B T) (hb : Below w.heap.size w w') : RM w' r x y c1 c2 B T :=
  ⟨h.box.below hb h.box.lt, h.by_.below hb h.by_.lt, h.tg.below hb (by obtain ⟨c, h1, _⟩ := h.tg; exact h1.lt), h.lt, h.xy, h.rx, h.ry⟩
/-- eight cells, so many of them known -/
def E8 (w : World) (q k : Nat) (f : Nat → Nat) : Prop := ∃ C, Blk w q 58 C ∧ C.size = 8 ∧ ∀ j, j < k → C[j]? = some (.int .u8 (f j : Int))
theorem E8.below {w w' : World} {q k K : Nat} {f : Nat → Nat} (h : E8 w q k f) (hb : Below K w w') (hk : q < K) : E8 w' q k f := by obtain ⟨C, h1, h2⟩ := h; exact ⟨C, h1.below hb hk, h2⟩
theorem E8.cell {w : World} {q k : Nat} {f : Nat → Nat} (h : E8 w q k f) (j : Nat) (hj : j < 8) : ∃ v, w.cell? ⟨q, j, none⟩ = some v ∧ w.frozen? ⟨q, j, none⟩ = false := by
  obtain ⟨C, h1, h2, h3⟩ := h
  exact ⟨C[j], by rw [h1.cell]; exact Array.getElem?_eq_getElem (by omega), h1.frozen j⟩
theorem E8.step {w : World} {q k : Nat} {f : Nat → Nat} (h : E8 w q k f) (hk : k < 8) : E8 (w.setCell ⟨q, k, none⟩ (.int .u8 (f k : Int))) q (k + 1) f := by
  obtain ⟨C, h1, h2, h3⟩ := h
  refine ⟨_, h1.set_ k _, by rw [Array.size_setIfInBounds]; exact h2, fun j hj => ?_⟩
  by_cases e : j = k
  · rw [e, Array.getElem?_setIfInBounds_self_of_lt (by omega)]
  · rw [Array.getElem?_setIfInBounds_ne (by omega)]; exact h3 j (by omega)
theorem E8.all {w : World} {q : Nat} {f : Nat → Nat} (h : E8 w q 8 f) : Blk w q 58 #[.int .u8 (f 0 : Int), .int .u8 (f 1 : Int), .int .u8 (f 2 : Int), .int .u8 (f 3 : Int), .int .u8 (f 4 : Int), .int .u8 (f 5 : Int), .int .u8 (f 6 : Int), .int .u8 (f 7 : Int)] := by
  obtain ⟨C, h1, h2, h3⟩ := h
  have : C = #[.int .u8 (f 0 : Int), .int .u8 (f 1 : Int), .int .u8 (f 2 : Int), .int .u8 (f 3 : Int), .int .u8 (f 4 : Int), .int .u8 (f 5 : Int), .int .u8 (f 6 : Int), .int .u8 (f 7 : Int)] := by
    apply Array.ext_getElem?
    intro i
    by_cases hi : i < 8
    · rw [h3 i hi]
      have : i = 0 ∨ i = 1 ∨ i = 2 ∨ i = 3 ∨ i = 4 ∨ i = 5 ∨ i = 6 ∨ i = 7 := by omega
      rcases this with rfl | rfl | rfl | rfl | rfl | rfl | rfl | rfl <;> rfl
    · rw [Array.getElem?_eq_none (by omega), Array.getElem?_eq_none (by simp; omega)]
  rw [← this]; exact h1
abbrev zc7 : Array Value := #[.bool false, .int .u32 0, .int .u8 0, .int .u8 0, .int .u8 0, .int .u16 0, .int .u16 0]
def RLC (w : World) (f : Nat → Nat) (i : Value) (wr : World) : Prop :=
  ∃ k : Nat, k ≤ 8 ∧ i = .int .i64 (k : Int) ∧ Below w.heap.size w wr ∧ E8 wr (w.heap.size + 1) k f ∧ Blk wr w.heap.size 35 zc7
set_option maxRecDepth 100000 in
set_option maxHeartbeats 8000000 in
theorem rLoadCapW (r x y c1 c2 at_ : Nat) (f : Nat → Nat) (B : Nat → Nat) (T : Nat → Bool) (w : World) (hm : RM w r x y c1 c2 B T) (ha : at_ < 65536) (hw : at_ % 8 = 0) (hff : ∀ j, f j = B (at_ + j))
    (g : Bool) (va vp vy ve vb vt : Nat) (hg : T (at_ / 8) = g)
    (K : Hid (∀ w, Calls Try.prog 20 #[arr (f 0) (f 1) (f 2) (f 3) (f 4) (f 5) (f 6) (f 7), .bool g] w fun en w' => en = .returned (cp g va vp vy ve vb vt) ∧ Below w.heap.size w w')) :
    Calls Try.prog 27 #[.pointer (some ⟨r, 0, none⟩), .int .u32 (at_ : Int)] w fun e w' => e = .returned (.tuple #[cp g va vp vy ve vb vt, .int .i64 0]) ∧ Below w.heap.size w w' := by
  have HM := Lib.hid hm
  have HA := Lib.hid (And.intro ha hw)
  have HFF := Lib.hid hff
  have HG := Lib.hid hg
  have hr : ((at_ : Int) % 8 != 0) = false := by simp; omega
  have hq : decide ((65536 : Int) ≤ (at_ : Int)) = false := by simp; omega
  have ba : at_ ≤ 65536 := by omega
  clear hm hw ha hff hg
  go_enter Try.func27, Try.ntmps27
  go_wp2_with fail
  have START : Hid (RLC w f (.int .i64 0) ((w.alloc (.cells #[.bool false, .int .u32 0, .int .u8 0, .int .u8 0, .int .u8 0, .int .u16 0, .int .u16 0] 35)).alloc (.cells #[.int .u8 0, .int .u8 0, .int .u8 0, .int .u8 0, .int .u8 0, .int .u8 0, .int .u8 0, .int .u8 0] 58))) :=
    Lib.hid ⟨0, by omega, rfl, ((Below.refl _ _).alloc (Nat.le_refl _) _).alloc (by simp) _, ⟨_, by have := Blk.new (w.alloc (.cells #[.bool false, .int .u32 0, .int .u8 0, .int .u8 0, .int .u8 0, .int .u16 0, .int .u16 0] 35)) 58 #[.int .u8 0, .int .u8 0, .int .u8 0, .int .u8 0, .int .u8 0, .int .u8 0, .int .u8 0, .int .u8 0]; simpa using this, rfl, fun j hj => by omega⟩, (Blk.new w 35 _).alloc _⟩
  clear hr hq
  go_loopw [7] (fun i wr => RLC w f i wr) (fun i _ => 8 - (intOf i).toNat)
  case atStart => exact START.out
  case round =>
    obtain ⟨k, hk, rfl, hb, hE, hZ⟩ := hrel
    have hm := HM.out.belowA hb
    have p0 := hm.box.cell 0
    have p1 := hm.box.cell 1
    simp only [List.getElem?_toArray, List.getElem?_cons_zero, List.getElem?_cons_succ] at p0 p1
    have HB := Lib.hid hb; have HM2 := Lib.hid hm; have HE := Lib.hid hE; have HZ := Lib.hid hZ
    clear hb hm hE hZ START
    by_cases hlt : k < 8
    · have hk8 : k = 0 ∨ k = 1 ∨ k = 2 ∨ k = 3 ∨ k = 4 ∨ k = 5 ∨ k = 6 ∨ k = 7 := by omega
      clear hlt hk
      rcases hk8 with rfl | rfl | rfl | rfl | rfl | rfl | rfl | rfl
      · obtain ⟨vk, t0, tf⟩ := HE.out.cell 0 (by omega)
        obtain ⟨hv, -⟩ := HM2.out.by_.cell (at_ + 0) (by have := HA.out; omega)
        rw [← HFF.out 0] at hv
        have hv : wr.cell? ⟨x, at_, none⟩ = some (.int .u8 (f 0 : Int)) := hv
        have hi : (at_ : Int) < 65536 := by have := HA.out; omega
        have HS : Hid (RLC w f (.int .i64 1) (wr.setCell ⟨w.heap.size + 1, 0, none⟩ (.int .u8 (f 0 : Int)))) := Lib.hid ⟨0 + 1, by omega, rfl, HB.out.setCell (by simp) _, HE.out.step (by omega), HZ.out.far (by simp) _⟩
        have hbl : f 0 ≤ 255 := by have := HM2.out.lt (at_ + 0); have := HFF.out 0; omega
        generalize f 0 = bb at *
        go_wp2_with fail
        go_roundw
        case rel => exact HS.out
        case measure => simp [intOf]
      · obtain ⟨vk, t0, tf⟩ := HE.out.cell 1 (by omega)
        obtain ⟨hv, -⟩ := HM2.out.by_.cell (at_ + 1) (by have := HA.out; omega)
        rw [← HFF.out 1] at hv
        obtain ⟨q2, hq2⟩ : ∃ q2 : Nat, at_ + 1 = q2 := ⟨_, rfl⟩
        have hqi : (at_ : Int) + 1 = (q2 : Int) := by omega
        have hi : (q2 : Int) < 65536 := by have := HA.out; omega
        rw [hq2] at hv
        clear hq2
        have HS : Hid (RLC w f (.int .i64 2) (wr.setCell ⟨w.heap.size + 1, 1, none⟩ (.int .u8 (f 1 : Int)))) := Lib.hid ⟨1 + 1, by omega, rfl, HB.out.setCell (by simp) _, HE.out.step (by omega), HZ.out.far (by simp) _⟩
        have hbl : f 1 ≤ 255 := by have := HM2.out.lt (at_ + 1); have := HFF.out 1; omega
        generalize f 1 = bb at *
        go_wp2_with fail
        go_roundw
        case rel => exact HS.out
        case measure => simp [intOf]
      · obtain ⟨vk, t0, tf⟩ := HE.out.cell 2 (by omega)
        obtain ⟨hv, -⟩ := HM2.out.by_.cell (at_ + 2) (by have := HA.out; omega)
        rw [← HFF.out 2] at hv
        obtain ⟨q2, hq2⟩ : ∃ q2 : Nat, at_ + 2 = q2 := ⟨_, rfl⟩
        have hqi : (at_ : Int) + 2 = (q2 : Int) := by omega
        have hi : (q2 : Int) < 65536 := by have := HA.out; omega
        rw [hq2] at hv
        clear hq2
        have HS : Hid (RLC w f (.int .i64 3) (wr.setCell ⟨w.heap.size + 1, 2, none⟩ (.int .u8 (f 2 : Int)))) := Lib.hid ⟨2 + 1, by omega, rfl, HB.out.setCell (by simp) _, HE.out.step (by omega), HZ.out.far (by simp) _⟩
        have hbl : f 2 ≤ 255 := by have := HM2.out.lt (at_ + 2); have := HFF.out 2; omega
        generalize f 2 = bb at *
        go_wp2_with fail
        go_roundw
        case rel => exact HS.out
        case measure => simp [intOf]
      · obtain ⟨vk, t0, tf⟩ := HE.out.cell 3 (by omega)
        obtain ⟨hv, -⟩ := HM2.out.by_.cell (at_ + 3) (by have := HA.out; omega)
        rw [← HFF.out 3] at hv
        obtain ⟨q2, hq2⟩ : ∃ q2 : Nat, at_ + 3 = q2 := ⟨_, rfl⟩
        have hqi : (at_ : Int) + 3 = (q2 : Int) := by omega
        have hi : (q2 : Int) < 65536 := by have := HA.out; omega
        rw [hq2] at hv
        clear hq2
        have HS : Hid (RLC w f (.int .i64 4) (wr.setCell ⟨w.heap.size + 1, 3, none⟩ (.int .u8 (f 3 : Int)))) := Lib.hid ⟨3 + 1, by omega, rfl, HB.out.setCell (by simp) _, HE.out.step (by omega), HZ.out.far (by simp) _⟩
        have hbl : f 3 ≤ 255 := by have := HM2.out.lt (at_ + 3); have := HFF.out 3; omega
        generalize f 3 = bb at *
        go_wp2_with fail
        go_roundw
        case rel => exact HS.out
        case measure => simp [intOf]
      · obtain ⟨vk, t0, tf⟩ := HE.out.cell 4 (by omega)
        obtain ⟨hv, -⟩ := HM2.out.by_.cell (at_ + 4) (by have := HA.out; omega)
        rw [← HFF.out 4] at hv
        obtain ⟨q2, hq2⟩ : ∃ q2 : Nat, at_ + 4 = q2 := ⟨_, rfl⟩
        have hqi : (at_ : Int) + 4 = (q2 : Int) := by omega
        have hi : (q2 : Int) < 65536 := by have := HA.out; omega
        rw [hq2] at hv
        clear hq2
        have HS : Hid (RLC w f (.int .i64 5) (wr.setCell ⟨w.heap.size + 1, 4, none⟩ (.int .u8 (f 4 : Int)))) := Lib.hid ⟨4 + 1, by omega, rfl, HB.out.setCell (by simp) _, HE.out.step (by omega), HZ.out.far (by simp) _⟩
        have hbl : f 4 ≤ 255 := by have := HM2.out.lt (at_ + 4); have := HFF.out 4; omega
        generalize f 4 = bb at *
        go_wp2_with fail
        go_roundw
        case rel => exact HS.out
        case measure => simp [intOf]
      · obtain ⟨vk, t0, tf⟩ := HE.out.cell 5 (by omega)
        obtain ⟨hv, -⟩ := HM2.out.by_.cell (at_ + 5) (by have := HA.out; omega)
        rw [← HFF.out 5] at hv
        obtain ⟨q2, hq2⟩ : ∃ q2 : Nat, at_ + 5 = q2 := ⟨_, rfl⟩
        have hqi : (at_ : Int) + 5 = (q2 : Int) := by omega
        have hi : (q2 : Int) < 65536 := by have := HA.out; omega
        rw [hq2] at hv
        clear hq2
        have HS : Hid (RLC w f (.int .i64 6) (wr.setCell ⟨w.heap.size + 1, 5, none⟩ (.int .u8 (f 5 : Int)))) := Lib.hid ⟨5 + 1, by omega, rfl, HB.out.setCell (by simp) _, HE.out.step (by omega), HZ.out.far (by simp) _⟩
        have hbl : f 5 ≤ 255 := by have := HM2.out.lt (at_ + 5); have := HFF.out 5; omega
        generalize f 5 = bb at *
        go_wp2_with fail
        go_roundw
        case rel => exact HS.out
        case measure => simp [intOf]
      · obtain ⟨vk, t0, tf⟩ := HE.out.cell 6 (by omega)
        obtain ⟨hv, -⟩ := HM2.out.by_.cell (at_ + 6) (by have := HA.out; omega)
        rw [← HFF.out 6] at hv
        obtain ⟨q2, hq2⟩ : ∃ q2 : Nat, at_ + 6 = q2 := ⟨_, rfl⟩
        have hqi : (at_ : Int) + 6 = (q2 : Int) := by omega
        have hi : (q2 : Int) < 65536 := by have := HA.out; omega
        rw [hq2] at hv
        clear hq2
        have HS : Hid (RLC w f (.int .i64 7) (wr.setCell ⟨w.heap.size + 1, 6, none⟩ (.int .u8 (f 6 : Int)))) := Lib.hid ⟨6 + 1, by omega, rfl, HB.out.setCell (by simp) _, HE.out.step (by omega), HZ.out.far (by simp) _⟩
        have hbl : f 6 ≤ 255 := by have := HM2.out.lt (at_ + 6); have := HFF.out 6; omega
        generalize f 6 = bb at *
        go_wp2_with fail
        go_roundw
        case rel => exact HS.out
        case measure => simp [intOf]
      · obtain ⟨vk, t0, tf⟩ := HE.out.cell 7 (by omega)
        obtain ⟨hv, -⟩ := HM2.out.by_.cell (at_ + 7) (by have := HA.out; omega)
        rw [← HFF.out 7] at hv
        obtain ⟨q2, hq2⟩ : ∃ q2 : Nat, at_ + 7 = q2 := ⟨_, rfl⟩
        have hqi : (at_ : Int) + 7 = (q2 : Int) := by omega
        have hi : (q2 : Int) < 65536 := by have := HA.out; omega
        rw [hq2] at hv
        clear hq2
        have HS : Hid (RLC w f (.int .i64 8) (wr.setCell ⟨w.heap.size + 1, 7, none⟩ (.int .u8 (f 7 : Int)))) := Lib.hid ⟨7 + 1, by omega, rfl, HB.out.setCell (by simp) _, HE.out.step (by omega), HZ.out.far (by simp) _⟩
        have hbl : f 7 ≤ 255 := by have := HM2.out.lt (at_ + 7); have := HFF.out 7; omega
        generalize f 7 = bb at *
        go_wp2_with fail
        go_roundw
        case rel => exact HS.out
        case measure => simp [intOf]
    · have hk8 : k = 8 := by omega
      subst hk8
      obtain ⟨hv, -⟩ := HM2.out.tg.cell (at_ / 8) (by have := HA.out; omega)
      rw [HG.out] at hv
      obtain ⟨e0, e1, e2, e3, e4, e5, e6, e7⟩ := Cp.Blk.cells8 HE.out.all
      obtain ⟨q8, hq8⟩ : ∃ q8 : Nat, at_ / 8 = q8 := ⟨_, rfl⟩
      have h8i : (at_ : Int) / 8 = (q8 : Int) := by omega
      have hi : (q8 : Int) < 8192 := by have := HA.out; omega
      have wu : IntKind.u32.wrap (q8 : Int) = (q8 : Int) := by rw [IntKind.wrap_u32]; have := HA.out; omega
      rw [hq8] at hv
      clear hq8
      go_wp2_with fail
      refine wp_region_still_tail 9 (by kernel_rfl) (by kernel_rfl) ?_
      simp only [List.take_succ_cons, List.take_zero, List.drop_succ_cons, List.drop_zero]
      repeat (with_reducible refine wpStill_step (fun K hK => ?_); go_simp; with_reducible refine hK _ ?_; clear hK K)
      try refine wpStill_nil ?_
      clear h8i wu
      change wpList _ _ _ _ _ (World.drew _)
      go_wp2_with fail
      refine (K.out _).mono ?_
      rintro en w4 ⟨rfl, hb4⟩
      have hB4 : Below w.heap.size w w4 := HB.out.drew.trans (hb4.mono HB.out.drew.size)
      have hZ4 := HZ.out.drew.below hb4 HZ.out.drew.lt
      obtain ⟨z0, z1, z2, z3, z4, z5, z6⟩ := Cp.Blk.cells7 hZ4
      obtain ⟨y0, y1, y2, y3, y4, y5, y6⟩ := Cp.Blk.frozen7 hZ4
      go_wp2_with fail
      exact bodyPost_ret (v := .tuple #[cp g va vp vy ve vb vt, .int .i64 0]) (by simp [results, Try.results27, go_sem, z0, z1, z2, z3, z4, z5, z6]) rfl ⟨rfl, Cp.set7 hB4 (Nat.le_refl _) _ _ _ _ _ _ _⟩
end Go.Proofs.Ytleabbhoedddlaa
