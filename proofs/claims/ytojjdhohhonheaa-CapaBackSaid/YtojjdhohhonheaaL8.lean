import Derived.Test.YtojjdhohhonheaaL3
namespace Go.Proofs.Ytojjdhohhonheaa
open Go.ChangeShapes Go.WideShapes Go.ChangeAt Go.RowKit
set_option linter.unusedVariables false
def XR2 (w : World) (hx : Nat) (n : Nat) (f : Nat → Nat) (i : Value) (wr : World) : Prop := ∃ k : Nat, k ≤ 8 ∧ k ≤ n ∧ i = .int .i64 (k : Int) ∧ Below w.heap.size w wr ∧ wr.rowIs hx 29 8 (xV k f)
theorem XR2.step {w wr : World} {hx n k : Nat} {f : Nat → Nat} (hw : w.heap.size ≤ hx) (h8 : k < 8) (hn : k < n) (h : Below w.heap.size w wr ∧ wr.rowIs hx 29 8 (xV k f)) :
    XR2 w hx n f (.int .i64 ((k + 1 : Nat) : Int)) (wr.setCell ⟨hx, k, none⟩ (.int .u8 (f k : Int))) := by
  refine ⟨k + 1, h8, hn, rfl, h.1.setCell hw _, (h.2.set k _).congr fun j _ => ?_⟩
  show (if j = k then Value.int .u8 (f k : Int) else xV k f j) = xV (k + 1) f j
  unfold xV xF
  by_cases h1 : j = k
  · subst h1; rw [if_pos rfl, if_pos (by omega)]
  · rw [if_neg h1]
    by_cases h2 : j < k
    · rw [if_pos h2, if_pos (by omega)]
    · rw [if_neg h2, if_neg (by omega)]
def Blk' (w : World) (g : Nat) (x0 x1 x2 x3 x4 x5 x6 x7 : Nat) : Prop := g < w.heap.size ∧ w.cell? ⟨g, 0, none⟩ = some (.int .u8 (x0 : Int)) ∧ w.cell? ⟨g, 1, none⟩ = some (.int .u8 (x1 : Int)) ∧ w.cell? ⟨g, 2, none⟩ = some (.int .u8 (x2 : Int)) ∧ w.cell? ⟨g, 3, none⟩ = some (.int .u8 (x3 : Int)) ∧ w.cell? ⟨g, 4, none⟩ = some (.int .u8 (x4 : Int)) ∧ w.cell? ⟨g, 5, none⟩ = some (.int .u8 (x5 : Int)) ∧ w.cell? ⟨g, 6, none⟩ = some (.int .u8 (x6 : Int)) ∧ w.cell? ⟨g, 7, none⟩ = some (.int .u8 (x7 : Int))
theorem start15 {w0 wr w1 : World} {g x0 x1 x2 x3 x4 x5 x6 x7 : Nat} (hb : Below w0.heap.size w0 wr) (hX : Blk' wr g x0 x1 x2 x3 x4 x5 x6 x7) (h1 : Below wr.heap.size wr w1) (c0 c1 c2 c3 c4 c5 c6 : Value) :
    Below w0.heap.size w0 (w1.alloc (.cells #[c0, c1, c2, c3, c4, c5, c6] 27)) ∧ w1.heap.size < (w1.alloc (.cells #[c0, c1, c2, c3, c4, c5, c6] 27)).heap.size ∧ (w1.alloc (.cells #[c0, c1, c2, c3, c4, c5, c6] 27)).cell? ⟨w1.heap.size, 0, none⟩ = some c0 ∧ (w1.alloc (.cells #[c0, c1, c2, c3, c4, c5, c6] 27)).cell? ⟨w1.heap.size, 1, none⟩ = some c1 ∧ (w1.alloc (.cells #[c0, c1, c2, c3, c4, c5, c6] 27)).cell? ⟨w1.heap.size, 2, none⟩ = some c2 ∧ (w1.alloc (.cells #[c0, c1, c2, c3, c4, c5, c6] 27)).cell? ⟨w1.heap.size, 3, none⟩ = some c3 ∧ (w1.alloc (.cells #[c0, c1, c2, c3, c4, c5, c6] 27)).cell? ⟨w1.heap.size, 4, none⟩ = some c4 ∧ (w1.alloc (.cells #[c0, c1, c2, c3, c4, c5, c6] 27)).cell? ⟨w1.heap.size, 5, none⟩ = some c5 ∧ (w1.alloc (.cells #[c0, c1, c2, c3, c4, c5, c6] 27)).cell? ⟨w1.heap.size, 6, none⟩ = some c6 ∧ g < (w1.alloc (.cells #[c0, c1, c2, c3, c4, c5, c6] 27)).heap.size ∧ (w1.alloc (.cells #[c0, c1, c2, c3, c4, c5, c6] 27)).cell? ⟨g, 0, none⟩ = some (.int .u8 (x0 : Int)) ∧ (w1.alloc (.cells #[c0, c1, c2, c3, c4, c5, c6] 27)).cell? ⟨g, 1, none⟩ = some (.int .u8 (x1 : Int)) ∧ (w1.alloc (.cells #[c0, c1, c2, c3, c4, c5, c6] 27)).cell? ⟨g, 2, none⟩ = some (.int .u8 (x2 : Int)) ∧ (w1.alloc (.cells #[c0, c1, c2, c3, c4, c5, c6] 27)).cell? ⟨g, 3, none⟩ = some (.int .u8 (x3 : Int)) ∧ (w1.alloc (.cells #[c0, c1, c2, c3, c4, c5, c6] 27)).cell? ⟨g, 4, none⟩ = some (.int .u8 (x4 : Int)) ∧ (w1.alloc (.cells #[c0, c1, c2, c3, c4, c5, c6] 27)).cell? ⟨g, 5, none⟩ = some (.int .u8 (x5 : Int)) ∧ (w1.alloc (.cells #[c0, c1, c2, c3, c4, c5, c6] 27)).cell? ⟨g, 6, none⟩ = some (.int .u8 (x6 : Int)) ∧ (w1.alloc (.cells #[c0, c1, c2, c3, c4, c5, c6] 27)).cell? ⟨g, 7, none⟩ = some (.int .u8 (x7 : Int)) := by
  obtain ⟨hg, r0, r1, r2, r3, r4, r5, r6, r7⟩ := hX
  have hb2 : Below wr.heap.size wr (w1.alloc (.cells #[c0, c1, c2, c3, c4, c5, c6] 27)) := h1.alloc h1.size _
  have hd : ∀ o, (w1.alloc (.cells #[c0, c1, c2, c3, c4, c5, c6] 27)).cell? ⟨g, o, none⟩ = wr.cell? ⟨g, o, none⟩ := fun o => hb2.cell (p := ⟨g, o, none⟩) hg
  refine ⟨hb.trans (hb2.mono hb.size), by simp, by simp, by simp, by simp, by simp, by simp, by simp, by simp, Nat.lt_of_lt_of_le hg hb2.size, (hd 0).trans r0, (hd 1).trans r1, (hd 2).trans r2, (hd 3).trans r3, (hd 4).trans r4, (hd 5).trans r5, (hd 6).trans r6, (hd 7).trans r7⟩
set_option maxHeartbeats 8000000 in
set_option maxRecDepth 100000 in
theorem walk8 (tag : Bool) (A : Option Addr) (n c : Nat) (f : Nat → Nat) (hn : n ≤ 9223372036854775807) (w : World) (hR : En.Rd w A n f)
    (x0 x1 x2 x3 x4 x5 x6 x7 NA P Y E B T : Nat) (hxs : x0 = xF n f 0 ∧ x1 = xF n f 1 ∧ x2 = xF n f 2 ∧ x3 = xF n f 3 ∧ x4 = xF n f 4 ∧ x5 = xF n f 5 ∧ x6 = xF n f 6 ∧ x7 = xF n f 7)
    (K11 : ∀ w : World, Calls Try.prog 11 #[cp tag NA P Y E B T] w fun en w' => en = .returned (arr x0 x1 x2 x3 x4 x5 x6 x7) ∧ Below w.heap.size w w')
    (K13 : ∀ w : World, Calls Try.prog 13 #[arr x0 x1 x2 x3 x4 x5 x6 x7, .bool tag] w fun en w' => en = .returned (cp tag NA P Y E B T) ∧ Below w.heap.size w w')
    (HQ : ∀ w : World, (Op.equalIn 10000 29 (arr x0 x1 x2 x3 x4 x5 x6 x7) (arr x0 x1 x2 x3 x4 x5 x6 x7)).run Try.prog w = .ok true w) :
    Calls Try.prog 8 #[.slice A n c, .bool tag] w fun en w' => en = .returned (.bool true) ∧ Below w.heap.size w w' := by
  have H11 := Lib.hid K11
  have H13 := Lib.hid K13
  have HXS := Lib.hid hxs
  have HR := Lib.hid hR
  have hq := Lib.hid HQ
  have htt : (tag == tag) = true := by simp
  have htt := Lib.hid htt
  clear K11 K13 hxs hR HQ
  have hst : XR2 w w.heap.size n f (.int .i64 0) (w.alloc (.cells #[.int .u8 0, .int .u8 0, .int .u8 0, .int .u8 0, .int .u8 0, .int .u8 0, .int .u8 0, .int .u8 0] 29)) := by
    refine ⟨0, by omega, by omega, rfl, (Below.refl _ _).alloc (Nat.le_refl _) _, ?_⟩
    have := World.rowIs_alloc w #[.int .u8 0, .int .u8 0, .int .u8 0, .int .u8 0, .int .u8 0, .int .u8 0, .int .u8 0, .int .u8 0] 29 (xV 0 f) (fun i hi => by
      have : i = 0 ∨ i = 1 ∨ i = 2 ∨ i = 3 ∨ i = 4 ∨ i = 5 ∨ i = 6 ∨ i = 7 := by simp at hi; omega
      rcases this with rfl | rfl | rfl | rfl | rfl | rfl | rfl | rfl <;> simp [xV, xF])
    simpa using this
  have HST := Lib.hid hst
  clear hst
  go_enter Try.func8, Try.ntmps8
  go_wp2_with fail
  go_loopw [6] (XR2 w w.heap.size n f) (fun i _ => 8 - (intOf i).toNat)
  case atStart => exact HST.out
  case round =>
    obtain ⟨k, h8, hkn, rfl, hB⟩ := hrel
    have HB := Lib.hid hB
    clear hB HST
    by_cases hgo : k < 8 ∧ k < n
    · obtain ⟨hg1, hg2⟩ := hgo
      obtain ⟨bb, oo, rfl, hbl, hcell⟩ := HR.out (by omega)
      have hx := (HB.out.1.cell (p := ⟨bb, oo + k, none⟩) hbl).trans (hcell k hg2)
      have hcl := HB.out.2.cell hg1
      have hfz := HB.out.2.frozen k
      have hv : xV k f k = .int .u8 0 := by unfold xV xF; rw [if_neg (by omega)]; rfl
      rw [hv] at hcl
      have i8 : (k : Int) < 8 := by omega
      have d8 : decide ((k : Int) < 8) = true := by simp; omega
      have dn : decide (k < n) = true := by simp; omega
      clear hcell hv
      go_wp2
      go_roundw
      case rel => exact XR2.step (by omega) hg1 hg2 HB.out
      case measure => simp [intOf]; omega
    · have hxk : ∀ j, j < 8 → xF k f j = xF n f j := fun j hj => by
        unfold xF
        by_cases h1 : j < k
        · rw [if_pos h1, if_pos (by omega)]
        · rw [if_neg h1, if_neg (by omega)]
      obtain ⟨e0, e1, e2, e3, e4, e5, e6, e7⟩ := HXS.out
      have hX : Blk' wr w.heap.size x0 x1 x2 x3 x4 x5 x6 x7 := by
        obtain ⟨q1, q3⟩ := HB.out
        refine ⟨q3.lt, ?_, ?_, ?_, ?_, ?_, ?_, ?_, ?_⟩
        · rw [q3.cell (i := 0) (by omega), e0]; unfold xV; rw [hxk 0 (by omega)]
        · rw [q3.cell (i := 1) (by omega), e1]; unfold xV; rw [hxk 1 (by omega)]
        · rw [q3.cell (i := 2) (by omega), e2]; unfold xV; rw [hxk 2 (by omega)]
        · rw [q3.cell (i := 3) (by omega), e3]; unfold xV; rw [hxk 3 (by omega)]
        · rw [q3.cell (i := 4) (by omega), e4]; unfold xV; rw [hxk 4 (by omega)]
        · rw [q3.cell (i := 5) (by omega), e5]; unfold xV; rw [hxk 5 (by omega)]
        · rw [q3.cell (i := 6) (by omega), e6]; unfold xV; rw [hxk 6 (by omega)]
        · rw [q3.cell (i := 7) (by omega), e7]; unfold xV; rw [hxk 7 (by omega)]
      have HX := Lib.hid hX
      have HBl := Lib.hid HB.out.1
      clear e0 e1 e2 e3 e4 e5 e6 e7 hxk HB HXS HR
      by_cases hg1 : k < 8
      all_goals
        first
          | (have hg2 : ¬ k < n := fun h => hgo ⟨hg1, h⟩
             have d8 : decide ((k : Int) < 8) = true := by simp; omega
             have dn : decide (k < n) = false := by simp; omega)
          | (have d8 : decide ((k : Int) < 8) = false := by simp; omega)
        clear hgo
        obtain ⟨_, z0, z1, z2, z3, z4, z5, z6, z7⟩ := hX
        go_wp2_with fail
        refine (H13.out _).mono ?_
        rintro _ w1 ⟨rfl, hb1⟩
        have hS := Lib.hid (start15 (w0 := w) HBl.out HX.out hb1 (.bool tag) (.int .u32 (NA : Int)) (.int .u8 (P : Int)) (.int .u8 (Y : Int)) (.int .u8 (E : Int)) (.int .u16 (B : Int)) (.int .u16 (T : Int)))
        clear hb1 z0 z1 z2 z3 z4 z5 z6 z7 HX HBl
        go_wp2_with fail
        have hS := hS.out
        have hq' := hq.out
        have htt' := htt.out
        go_region_held3 (fun w' => Below w.heap.size w w' ∧ w1.heap.size < w'.heap.size ∧ w'.cell? ⟨w1.heap.size, 0, none⟩ = some (.bool tag) ∧ w'.cell? ⟨w1.heap.size, 1, none⟩ = some (.int .u32 (NA : Int)) ∧ w'.cell? ⟨w1.heap.size, 2, none⟩ = some (.int .u8 (P : Int)) ∧ w'.cell? ⟨w1.heap.size, 3, none⟩ = some (.int .u8 (Y : Int)) ∧ w'.cell? ⟨w1.heap.size, 4, none⟩ = some (.int .u8 (E : Int)) ∧ w'.cell? ⟨w1.heap.size, 5, none⟩ = some (.int .u16 (B : Int)) ∧ w'.cell? ⟨w1.heap.size, 6, none⟩ = some (.int .u16 (T : Int)) ∧ w.heap.size < w'.heap.size ∧ w'.cell? ⟨w.heap.size, 0, none⟩ = some (.int .u8 (x0 : Int)) ∧ w'.cell? ⟨w.heap.size, 1, none⟩ = some (.int .u8 (x1 : Int)) ∧ w'.cell? ⟨w.heap.size, 2, none⟩ = some (.int .u8 (x2 : Int)) ∧ w'.cell? ⟨w.heap.size, 3, none⟩ = some (.int .u8 (x3 : Int)) ∧ w'.cell? ⟨w.heap.size, 4, none⟩ = some (.int .u8 (x4 : Int)) ∧ w'.cell? ⟨w.heap.size, 5, none⟩ = some (.int .u8 (x5 : Int)) ∧ w'.cell? ⟨w.heap.size, 6, none⟩ = some (.int .u8 (x6 : Int)) ∧ w'.cell? ⟨w.heap.size, 7, none⟩ = some (.int .u8 (x7 : Int)))
          (first | exact keep15 (by assumption) ((Below.refl _ _).drew) | exact keep15 (by assumption) hbx)
          (first | (go_at_call 11; (with_reducible refine (H11.out _).mono ?_); rintro _ wx ⟨rfl, hbx⟩) | (go_at_call 13; (with_reducible refine (H13.out _).mono ?_); rintro _ wx ⟨rfl, hbx⟩) | (go_at_call 17; (with_reducible refine (lives _).mono ?_); rintro _ wx ⟨rfl, hbx⟩))
        all_goals
          have hE : Below w.heap.size w wx := And.left (by assumption)
          go_wp2
          go_ret
          exact ⟨rfl, hE⟩
theorem bt4 (a b c d : Nat) (h0 : a < 256) (h1 : b < 256) (h2 : c < 256) (h3 : d < 256) : En.bt (num4 a b c d) 0 = a ∧ En.bt (num4 a b c d) 1 = b ∧ En.bt (num4 a b c d) 2 = c ∧ En.bt (num4 a b c d) 3 = d := by
  unfold En.bt num4
  simp only [Nat.reducePow]
  omega
theorem mt_num (M : Nat) (h : M < 4294967296) : mt (M % 128) (M / 128 % 8) (M / 1024 % 16) (M / 16384 % 512) (M / 8388608 % 512) = M := by
  unfold mt
  omega
theorem law8 (A : Option Addr) (len cap : Nat) (zs : List Int) (tag : Bool) {w : World} (h : IsRow .u8 w A len cap zs) (_W : World) :
    Calls Try.prog 8 #[.slice A len cap, .bool tag] w fun en w' => en = .returned (.bool true) ∧ Below w.heap.size w w' := by
  obtain ⟨f, hf, hR, h1⟩ := h.rd
  have l0 := xF_lt (n := len) hf 0
  have l1 := xF_lt (n := len) hf 1
  have l2 := xF_lt (n := len) hf 2
  have l3 := xF_lt (n := len) hf 3
  have l4 := xF_lt (n := len) hf 4
  have l5 := xF_lt (n := len) hf 5
  have l6 := xF_lt (n := len) hf 6
  have l7 := xF_lt (n := len) hf 7
  have hM := num4_lt l4 l5 l6 l7
  have K11 := cb11 tag _ _ _ _ _ _ (num4_lt l0 l1 l2 l3) (by omega : num4 (xF len f 4) (xF len f 5) (xF len f 6) (xF len f 7) % 128 < 256) (by omega : num4 (xF len f 4) (xF len f 5) (xF len f 6) (xF len f 7) / 128 % 8 < 256) (by omega : num4 (xF len f 4) (xF len f 5) (xF len f 6) (xF len f 7) / 1024 % 16 < 256) (by omega : num4 (xF len f 4) (xF len f 5) (xF len f 6) (xF len f 7) / 16384 % 512 < 65536) (by omega : num4 (xF len f 4) (xF len f 5) (xF len f 6) (xF len f 7) / 8388608 % 512 < 65536)
  rw [mt_num _ hM] at K11
  obtain ⟨q0, q1, q2, q3⟩ := bt4 _ _ _ _ l0 l1 l2 l3
  obtain ⟨q4, q5, q6, q7⟩ := bt4 _ _ _ _ l4 l5 l6 l7
  rw [q0, q1, q2, q3, q4, q5, q6, q7] at K11
  exact walk8 tag A len cap f h1 w hR _ _ _ _ _ _ _ _ _ _ _ _ _ _ ⟨rfl, rfl, rfl, rfl, rfl, rfl, rfl, rfl⟩ K11 (cb13 _ _ _ _ _ _ _ _ tag l0 l1 l2 l3 l4 l5 l6 l7) (fun w => by rw [eqArr]; simp)
end Go.Proofs.Ytojjdhohhonheaa
