import Derived.Test.YtojjdhohhonheaaCe
import Derived.Test.YtojjdhohhonheaaRw
import Derived.Deep.OwnRows
namespace Go.Proofs.Ytojjdhohhonheaa
open Go.ChangeShapes Go.WideShapes Go.ChangeAt Go.RowKit
set_option linter.unusedVariables false
theorem keep15 {w0 wp w1 : World} {k1 k2 : Nat} {c0 c1 c2 c3 c4 c5 c6 z0 z1 z2 z3 z4 z5 z6 z7 : Value} (h : Below w0.heap.size w0 wp ∧ k1 < wp.heap.size ∧ wp.cell? ⟨k1, 0, none⟩ = some c0 ∧ wp.cell? ⟨k1, 1, none⟩ = some c1 ∧ wp.cell? ⟨k1, 2, none⟩ = some c2 ∧ wp.cell? ⟨k1, 3, none⟩ = some c3 ∧ wp.cell? ⟨k1, 4, none⟩ = some c4 ∧ wp.cell? ⟨k1, 5, none⟩ = some c5 ∧ wp.cell? ⟨k1, 6, none⟩ = some c6 ∧ k2 < wp.heap.size ∧ wp.cell? ⟨k2, 0, none⟩ = some z0 ∧ wp.cell? ⟨k2, 1, none⟩ = some z1 ∧ wp.cell? ⟨k2, 2, none⟩ = some z2 ∧ wp.cell? ⟨k2, 3, none⟩ = some z3 ∧ wp.cell? ⟨k2, 4, none⟩ = some z4 ∧ wp.cell? ⟨k2, 5, none⟩ = some z5 ∧ wp.cell? ⟨k2, 6, none⟩ = some z6 ∧ wp.cell? ⟨k2, 7, none⟩ = some z7) (hb : Below wp.heap.size wp w1) : Below w0.heap.size w0 w1 ∧ k1 < w1.heap.size ∧ w1.cell? ⟨k1, 0, none⟩ = some c0 ∧ w1.cell? ⟨k1, 1, none⟩ = some c1 ∧ w1.cell? ⟨k1, 2, none⟩ = some c2 ∧ w1.cell? ⟨k1, 3, none⟩ = some c3 ∧ w1.cell? ⟨k1, 4, none⟩ = some c4 ∧ w1.cell? ⟨k1, 5, none⟩ = some c5 ∧ w1.cell? ⟨k1, 6, none⟩ = some c6 ∧ k2 < w1.heap.size ∧ w1.cell? ⟨k2, 0, none⟩ = some z0 ∧ w1.cell? ⟨k2, 1, none⟩ = some z1 ∧ w1.cell? ⟨k2, 2, none⟩ = some z2 ∧ w1.cell? ⟨k2, 3, none⟩ = some z3 ∧ w1.cell? ⟨k2, 4, none⟩ = some z4 ∧ w1.cell? ⟨k2, 5, none⟩ = some z5 ∧ w1.cell? ⟨k2, 6, none⟩ = some z6 ∧ w1.cell? ⟨k2, 7, none⟩ = some z7 := by
  obtain ⟨h1, h2, q0, q1, q2, q3, q4, q5, q6, h3, r0, r1, r2, r3, r4, r5, r6, r7⟩ := h
  have hc : ∀ o, w1.cell? ⟨k1, o, none⟩ = wp.cell? ⟨k1, o, none⟩ := fun o => hb.cell (p := ⟨k1, o, none⟩) h2
  have hd : ∀ o, w1.cell? ⟨k2, o, none⟩ = wp.cell? ⟨k2, o, none⟩ := fun o => hb.cell (p := ⟨k2, o, none⟩) h3
  exact ⟨h1.trans (hb.mono h1.size), Nat.lt_of_lt_of_le h2 hb.size, (hc 0).trans q0, (hc 1).trans q1, (hc 2).trans q2, (hc 3).trans q3, (hc 4).trans q4, (hc 5).trans q5, (hc 6).trans q6, Nat.lt_of_lt_of_le h3 hb.size, (hd 0).trans r0, (hd 1).trans r1, (hd 2).trans r2, (hd 3).trans r3, (hd 4).trans r4, (hd 5).trans r5, (hd 6).trans r6, (hd 7).trans r7⟩

def xF (n : Nat) (f : Nat → Nat) (j : Nat) : Nat := if j < n then f j else 0
def xV (k : Nat) (f : Nat → Nat) (j : Nat) : Value := .int .u8 (xF k f j : Int)
/-- The loop that fills the array: the array's row, the capability's box. -/
def XR (w : World) (hb hx : Nat) (C : Array Value) (n : Nat) (f : Nat → Nat) (i : Value) (wr : World) : Prop := ∃ k : Nat, k ≤ 8 ∧ k ≤ n ∧ i = .int .i64 (k : Int) ∧ Below w.heap.size w wr ∧ Blk wr hb 27 C ∧ wr.rowIs hx 29 8 (xV k f)
theorem XR.step {w wr : World} {hb hx n k : Nat} {C : Array Value} {f : Nat → Nat} (hne : hb ≠ hx) (hw : w.heap.size ≤ hx) (h8 : k < 8) (hn : k < n) (h : Below w.heap.size w wr ∧ Blk wr hb 27 C ∧ wr.rowIs hx 29 8 (xV k f)) :
    XR w hb hx C n f (.int .i64 ((k + 1 : Nat) : Int)) (wr.setCell ⟨hx, k, none⟩ (.int .u8 (f k : Int))) := by
  refine ⟨k + 1, h8, hn, rfl, h.1.setCell hw _, h.2.1.far hne _, (h.2.2.set k _).congr fun j _ => ?_⟩
  show (if j = k then Value.int .u8 (f k : Int) else xV k f j) = xV (k + 1) f j
  unfold xV xF
  by_cases h1 : j = k
  · subst h1; rw [if_pos rfl, if_pos (by omega)]
  · rw [if_neg h1]
    by_cases h2 : j < k
    · rw [if_pos h2, if_pos (by omega)]
    · rw [if_neg h2, if_neg (by omega)]
/-- Slices of bytes that came in. -/
theorem IsRow.rd {w : World} {A : Option Addr} {len cap : Nat} {zs : List Int} (h : IsRow .u8 w A len cap zs) :
    ∃ f : Nat → Nat, (∀ j, f j < 256) ∧ En.Rd w A len f ∧ len ≤ 9223372036854775807 := by
  obtain ⟨h1, h2, h3, h4⟩ := h.open_
  have hz : ∀ j, 0 ≤ zs.getD j 0 ∧ zs.getD j 0 < 256 := fun j => by
    have := bounds_u8 (getD_wf h4 rfl j)
    omega
  refine ⟨fun j => (zs.getD j 0).toNat, fun j => by have := hz j; show (zs.getD j 0).toNat < 256; omega, fun h0 => ?_, by unfold maxLen at h2; omega⟩
  obtain ⟨b, o, e1, e2, e3⟩ := h3 h0
  exact ⟨b, o, e1, e2, fun j hj => by rw [e3 j (by omega), Int.toNat_of_nonneg (hz j).1]⟩
set_option maxHeartbeats 8000000 in
set_option maxRecDepth 100000 in
theorem walk3 (g tag : Bool) (a p y e b t m : Nat) (A : Option Addr) (n c : Nat) (f : Nat → Nat) (hn : n ≤ 9223372036854775807) (hm : m < 4294967296) (w : World) (hR : En.Rd w A n f)
    (b0 b1 b2 b3 b4 b5 b6 b7 x0 x1 x2 x3 x4 x5 x6 x7 : Nat) (c' : Bool) (a' p' y' e' b' t' : Nat)
    (h0 h1 h2 h3 h4 h5 h6 h7 : True) (hxs : x0 = xF n f 0 ∧ x1 = xF n f 1 ∧ x2 = xF n f 2 ∧ x3 = xF n f 3 ∧ x4 = xF n f 4 ∧ x5 = xF n f 5 ∧ x6 = xF n f 6 ∧ x7 = xF n f 7)
    (K11 : ∀ w : World, Calls Try.prog 11 #[cp g a p y e b t] w fun en w' => en = .returned (arr b0 b1 b2 b3 b4 b5 b6 b7) ∧ Below w.heap.size w w')
    (K12 : ∀ w : World, Calls Try.prog 12 #[cp g a p y e b t] w fun en w' => en = .returned (arr b0 b1 b2 b3 b4 b5 b6 b7) ∧ Below w.heap.size w w')
    (K13 : ∀ w : World, Calls Try.prog 13 #[arr x0 x1 x2 x3 x4 x5 x6 x7, .bool tag] w fun en w' => en = .returned (cp c' a' p' y' e' b' t') ∧ Below w.heap.size w w')
    (K14 : ∀ w : World, Calls Try.prog 14 #[arr x0 x1 x2 x3 x4 x5 x6 x7, .bool tag] w fun en w' => en = .returned (cp c' a' p' y' e' b' t') ∧ Below w.heap.size w w')
    (K15 : ∀ w : World, Calls Try.prog 15 #[.int .u32 (m : Int)] w fun en w' => en = .returned (cp false m 0 0 0 0 0) ∧ Below w.heap.size w w')
    (K16 : ∀ w : World, Calls Try.prog 16 #[.int .u32 (m : Int)] w fun en w' => en = .returned (cp false m 0 0 0 0 0) ∧ Below w.heap.size w w')
    (HQ : ∀ w : World, (Op.equalIn 10000 29 (arr b0 b1 b2 b3 b4 b5 b6 b7) (arr b0 b1 b2 b3 b4 b5 b6 b7)).run Try.prog w = .ok true w) :
    Calls Try.prog 3 #[cp g a p y e b t, .slice A n c, .int .u32 (m : Int), .bool tag] w fun en w' => en = .returned (.bool true) ∧ Below w.heap.size w w' := by
  have H11 := Lib.hid K11
  have H12 := Lib.hid K12
  have H13 := Lib.hid K13
  have H14 := Lib.hid K14
  have H15 := Lib.hid K15
  have H16 := Lib.hid K16
  have HXS := Lib.hid hxs
  have HR := Lib.hid hR
  have hq := Lib.hid HQ
  clear K11 K12 K13 K14 K15 K16 hxs hR HQ h0 h1 h2 h3 h4 h5 h6 h7
  have hst : XR w w.heap.size (w.heap.size + 1) #[.bool g, .int .u32 (a : Int), .int .u8 (p : Int), .int .u8 (y : Int), .int .u8 (e : Int), .int .u16 (b : Int), .int .u16 (t : Int)] n f (.int .i64 0) ((w.alloc (.cells #[.bool g, .int .u32 (a : Int), .int .u8 (p : Int), .int .u8 (y : Int), .int .u8 (e : Int), .int .u16 (b : Int), .int .u16 (t : Int)] 27)).alloc (.cells #[.int .u8 0, .int .u8 0, .int .u8 0, .int .u8 0, .int .u8 0, .int .u8 0, .int .u8 0, .int .u8 0] 29)) := by
    refine ⟨0, by omega, by omega, rfl, ((Below.refl _ _).alloc (Nat.le_refl _) _).alloc (by simp) _, (Blk.new _ _ _).alloc _, ?_⟩
    have := World.rowIs_alloc (w.alloc (.cells #[.bool g, .int .u32 (a : Int), .int .u8 (p : Int), .int .u8 (y : Int), .int .u8 (e : Int), .int .u16 (b : Int), .int .u16 (t : Int)] 27)) #[.int .u8 0, .int .u8 0, .int .u8 0, .int .u8 0, .int .u8 0, .int .u8 0, .int .u8 0, .int .u8 0] 29 (xV 0 f) (fun i hi => by
      have : i = 0 ∨ i = 1 ∨ i = 2 ∨ i = 3 ∨ i = 4 ∨ i = 5 ∨ i = 6 ∨ i = 7 := by simp at hi; omega
      rcases this with rfl | rfl | rfl | rfl | rfl | rfl | rfl | rfl <;> simp [xV, xF])
    simpa using this
  have HST := Lib.hid hst
  clear hst
  go_enter Try.func3, Try.ntmps3
  go_wp2_with fail
  go_loopw [10] (XR w w.heap.size (w.heap.size + 1) #[.bool g, .int .u32 (a : Int), .int .u8 (p : Int), .int .u8 (y : Int), .int .u8 (e : Int), .int .u16 (b : Int), .int .u16 (t : Int)] n f) (fun i _ => 8 - (intOf i).toNat)
  case atStart => exact HST.out
  case round =>
    obtain ⟨k, h8, hkn, rfl, hB⟩ := hrel
    have HB := Lib.hid hB
    clear hB HST
    by_cases hgo : k < 8 ∧ k < n
    · obtain ⟨hg1, hg2⟩ := hgo
      obtain ⟨bb, oo, rfl, hbl, hcell⟩ := HR.out (by omega)
      have hx := (HB.out.1.cell (p := ⟨bb, oo + k, none⟩) hbl).trans (hcell k hg2)
      have hcl := HB.out.2.2.cell hg1
      have hfz := HB.out.2.2.frozen k
      have hv : xV k f k = .int .u8 0 := by unfold xV xF; rw [if_neg (by omega)]; rfl
      rw [hv] at hcl
      have i8 : (k : Int) < 8 := by omega
      have d8 : decide ((k : Int) < 8) = true := by simp; omega
      have dn : decide (k < n) = true := by simp; omega
      clear hcell hv
      go_wp2
      go_roundw
      case rel => exact XR.step (by omega) (by omega) hg1 hg2 HB.out
      case measure => simp [intOf]; omega
    · have hxk : ∀ j, j < 8 → xF k f j = xF n f j := fun j hj => by
        unfold xF
        by_cases h1 : j < k
        · rw [if_pos h1, if_pos (by omega)]
        · rw [if_neg h1, if_neg (by omega)]
      obtain ⟨e0, e1, e2, e3, e4, e5, e6, e7⟩ := HXS.out
      have hS : Below w.heap.size w wr ∧ w.heap.size < wr.heap.size ∧ wr.cell? ⟨w.heap.size, 0, none⟩ = some (.bool g) ∧ wr.cell? ⟨w.heap.size, 1, none⟩ = some (.int .u32 (a : Int)) ∧ wr.cell? ⟨w.heap.size, 2, none⟩ = some (.int .u8 (p : Int)) ∧ wr.cell? ⟨w.heap.size, 3, none⟩ = some (.int .u8 (y : Int)) ∧ wr.cell? ⟨w.heap.size, 4, none⟩ = some (.int .u8 (e : Int)) ∧ wr.cell? ⟨w.heap.size, 5, none⟩ = some (.int .u16 (b : Int)) ∧ wr.cell? ⟨w.heap.size, 6, none⟩ = some (.int .u16 (t : Int)) ∧ (w.heap.size + 1) < wr.heap.size ∧ wr.cell? ⟨(w.heap.size + 1), 0, none⟩ = some (.int .u8 (x0 : Int)) ∧ wr.cell? ⟨(w.heap.size + 1), 1, none⟩ = some (.int .u8 (x1 : Int)) ∧ wr.cell? ⟨(w.heap.size + 1), 2, none⟩ = some (.int .u8 (x2 : Int)) ∧ wr.cell? ⟨(w.heap.size + 1), 3, none⟩ = some (.int .u8 (x3 : Int)) ∧ wr.cell? ⟨(w.heap.size + 1), 4, none⟩ = some (.int .u8 (x4 : Int)) ∧ wr.cell? ⟨(w.heap.size + 1), 5, none⟩ = some (.int .u8 (x5 : Int)) ∧ wr.cell? ⟨(w.heap.size + 1), 6, none⟩ = some (.int .u8 (x6 : Int)) ∧ wr.cell? ⟨(w.heap.size + 1), 7, none⟩ = some (.int .u8 (x7 : Int)) := by
        obtain ⟨q1, q2, q3⟩ := HB.out
        obtain ⟨cc0, cc1, cc2, cc3, cc4, cc5, cc6⟩ := q2.cells7
        refine ⟨q1, q2.lt, cc0, cc1, cc2, cc3, cc4, cc5, cc6, q3.lt, ?_, ?_, ?_, ?_, ?_, ?_, ?_, ?_⟩
        · rw [q3.cell (i := 0) (by omega), e0]; unfold xV; rw [hxk 0 (by omega)]
        · rw [q3.cell (i := 1) (by omega), e1]; unfold xV; rw [hxk 1 (by omega)]
        · rw [q3.cell (i := 2) (by omega), e2]; unfold xV; rw [hxk 2 (by omega)]
        · rw [q3.cell (i := 3) (by omega), e3]; unfold xV; rw [hxk 3 (by omega)]
        · rw [q3.cell (i := 4) (by omega), e4]; unfold xV; rw [hxk 4 (by omega)]
        · rw [q3.cell (i := 5) (by omega), e5]; unfold xV; rw [hxk 5 (by omega)]
        · rw [q3.cell (i := 6) (by omega), e6]; unfold xV; rw [hxk 6 (by omega)]
        · rw [q3.cell (i := 7) (by omega), e7]; unfold xV; rw [hxk 7 (by omega)]
      have HS := Lib.hid hS
      clear hS e0 e1 e2 e3 e4 e5 e6 e7 hxk HB HXS HR
      by_cases hg1 : k < 8
      all_goals
        first
          | (have hg2 : ¬ k < n := fun h => hgo ⟨hg1, h⟩
             have d8 : decide ((k : Int) < 8) = true := by simp; omega
             have dn : decide (k < n) = false := by simp; omega)
          | (have d8 : decide ((k : Int) < 8) = false := by simp; omega)
        clear hgo
        go_wp2_with fail
        have hS := HS.out
        have hq' := hq.out
        go_region_held3 (fun w' => Below w.heap.size w w' ∧ w.heap.size < w'.heap.size ∧ w'.cell? ⟨w.heap.size, 0, none⟩ = some (.bool g) ∧ w'.cell? ⟨w.heap.size, 1, none⟩ = some (.int .u32 (a : Int)) ∧ w'.cell? ⟨w.heap.size, 2, none⟩ = some (.int .u8 (p : Int)) ∧ w'.cell? ⟨w.heap.size, 3, none⟩ = some (.int .u8 (y : Int)) ∧ w'.cell? ⟨w.heap.size, 4, none⟩ = some (.int .u8 (e : Int)) ∧ w'.cell? ⟨w.heap.size, 5, none⟩ = some (.int .u16 (b : Int)) ∧ w'.cell? ⟨w.heap.size, 6, none⟩ = some (.int .u16 (t : Int)) ∧ (w.heap.size + 1) < w'.heap.size ∧ w'.cell? ⟨(w.heap.size + 1), 0, none⟩ = some (.int .u8 (x0 : Int)) ∧ w'.cell? ⟨(w.heap.size + 1), 1, none⟩ = some (.int .u8 (x1 : Int)) ∧ w'.cell? ⟨(w.heap.size + 1), 2, none⟩ = some (.int .u8 (x2 : Int)) ∧ w'.cell? ⟨(w.heap.size + 1), 3, none⟩ = some (.int .u8 (x3 : Int)) ∧ w'.cell? ⟨(w.heap.size + 1), 4, none⟩ = some (.int .u8 (x4 : Int)) ∧ w'.cell? ⟨(w.heap.size + 1), 5, none⟩ = some (.int .u8 (x5 : Int)) ∧ w'.cell? ⟨(w.heap.size + 1), 6, none⟩ = some (.int .u8 (x6 : Int)) ∧ w'.cell? ⟨(w.heap.size + 1), 7, none⟩ = some (.int .u8 (x7 : Int)))
          (first | exact keep15 (by assumption) ((Below.refl _ _).drew) | exact keep15 (by assumption) hbx)
          (first | (go_at_call 11; (with_reducible refine (H11.out _).mono ?_); rintro _ wx ⟨rfl, hbx⟩) | (go_at_call 12; (with_reducible refine (H12.out _).mono ?_); rintro _ wx ⟨rfl, hbx⟩) | (go_at_call 13; (with_reducible refine (H13.out _).mono ?_); rintro _ wx ⟨rfl, hbx⟩) | (go_at_call 14; (with_reducible refine (H14.out _).mono ?_); rintro _ wx ⟨rfl, hbx⟩) | (go_at_call 15; (with_reducible refine (H15.out _).mono ?_); rintro _ wx ⟨rfl, hbx⟩) | (go_at_call 16; (with_reducible refine (H16.out _).mono ?_); rintro _ wx ⟨rfl, hbx⟩) | (go_at_call 17; (with_reducible refine (lives _).mono ?_); rintro _ wx ⟨rfl, hbx⟩))
        all_goals
          have hE : Below w.heap.size w wx := And.left (by assumption)
          go_wp2
          go_ret
          exact ⟨rfl, hE⟩
theorem xF_lt {n : Nat} {f : Nat → Nat} (hf : ∀ j, f j < 256) (j : Nat) : xF n f j < 256 := by
  unfold xF
  split
  · exact hf j
  · omega
theorem law3 (g : Bool) (a p y e b t : Nat) (A : Option Addr) (len cap : Nat) (zs : List Int) (m : Nat) (tag : Bool) (ha : a < 4294967296) (hp : p < 256) (hy : y < 256) (he : e < 256) (hb : b < 65536) (ht : t < 65536) {w : World} (h : IsRow .u8 w A len cap zs) (hm : m < 4294967296) (_W : World) :
    Calls Try.prog 3 #[cp g a p y e b t, .slice A len cap, .int .u32 (m : Int), .bool tag] w fun en w' => en = .returned (.bool true) ∧ Below w.heap.size w w' := by
  obtain ⟨f, hf, hR, h1⟩ := h.rd
  exact walk3 g tag a p y e b t m A len cap f h1 hm w hR _ _ _ _ _ _ _ _ (xF len f 0) (xF len f 1) (xF len f 2) (xF len f 3) (xF len f 4) (xF len f 5) (xF len f 6) (xF len f 7) _ _ _ _ _ _ _ trivial trivial trivial trivial trivial trivial trivial trivial ⟨rfl, rfl, rfl, rfl, rfl, rfl, rfl, rfl⟩
    (cb11 g a p y e b t ha hp hy he hb ht) (cb12 g a p y e b t ha hp hy he hb ht)
    (cb13 _ _ _ _ _ _ _ _ tag (xF_lt hf 0) (xF_lt hf 1) (xF_lt hf 2) (xF_lt hf 3) (xF_lt hf 4) (xF_lt hf 5) (xF_lt hf 6) (xF_lt hf 7))
    (cb14 _ _ _ _ _ _ _ _ tag (xF_lt hf 0) (xF_lt hf 1) (xF_lt hf 2) (xF_lt hf 3) (xF_lt hf 4) (xF_lt hf 5) (xF_lt hf 6) (xF_lt hf 7))
    (cb15 m hm) (cb16 m hm) (fun w => by rw [eqArr]; simp)
end Go.Proofs.Ytojjdhohhonheaa
