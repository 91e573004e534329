import Derived.Test.YtgmifaadlaigdaaGreatDoorOk
import Derived.Deep.OwnRows
import Derived.WalkSmall
namespace Go.Proofs.YtgmifaadlaigdaaGreatDoor
open Go.ChangeShapes Go.WideShapes Go.ChangeAt Go.RowKit
set_option linter.unusedVariables false
/-- so many bytes of a slice that may be nil -/
def Rd (w : World) (A : Option Addr) (n : Nat) (f : Nat → Nat) : Prop := 0 < n → ∃ b o, A = some ⟨b, o, none⟩ ∧ b < w.heap.size ∧ ∀ j, j < n → w.cell? ⟨b, o + j, none⟩ = some (.int .u8 (f j : Int))
theorem Bz.rd {w : World} {A : Option Addr} {n : Nat} {f : Nat → Nat} (h : Bz w A n f) : Rd w A n f := fun h0 => by
  obtain ⟨b, o, e, hb⟩ := h h0
  exact ⟨b, o, e, hb.1, fun j hj => (hb.2 j hj).2⟩
theorem Rd.bz {w : World} {A : Option Addr} {n : Nat} {f : Nat → Nat} (h : Rd w A n f) (hf : ∀ j, j < n → f j < 256) : Bz w A n f := fun h0 => by
  obtain ⟨b, o, e, hl, hc⟩ := h h0
  exact ⟨b, o, e, hl, fun j hj => ⟨hf j hj, hc j hj⟩⟩
def wideF (n : Nat) (f : Nat → Nat) (j : Nat) : Nat := if j < n then f j else 7
def bV (f : Nat → Nat) (j : Nat) : Value := .int .u8 (f j : Int)
/-- Bytes with three bytes 7 behind them. -/
def WideOut (w : World) (n : Nat) (f : Nat → Nat) (e : Ending) (w' : World) : Prop := e = .returned (.slice (some ⟨w.heap.size, 0, none⟩) n (n + 3)) ∧ Below w.heap.size w w' ∧ w'.rowIs w.heap.size 5 (n + 3) (bV (wideF n f))
def WR1 (w : World) (n : Nat) (f : Nat → Nat) (i : Value) (wr : World) : Prop := ∃ k : Nat, k ≤ n ∧ i = .int .i64 (k : Int) ∧ Below w.heap.size w wr ∧ wr.rowIs w.heap.size 5 (n + 3) (fun j => if j < k then bV f j else .int .u8 0)
def WR2 (w : World) (n : Nat) (f : Nat → Nat) (i : Value) (wr : World) : Prop := ∃ k : Nat, n ≤ k ∧ k ≤ n + 3 ∧ i = .int .i64 (k : Int) ∧ Below w.heap.size w wr ∧ wr.rowIs w.heap.size 5 (n + 3) (fun j => if j < k then bV (wideF n f) j else .int .u8 0)
theorem setRow {w : World} {b n k : Nat} {F : Nat → Value} {z v : Value} (h : w.rowIs b 5 n (fun j => if j < k then F j else z)) (hv : v = F k) : (w.setCell ⟨b, k, none⟩ v).rowIs b 5 n (fun j => if j < k + 1 then F j else z) := by
  subst hv
  refine (h.set k _).congr fun j _ => ?_
  by_cases h1 : j = k
  · subst h1; rw [if_pos rfl, if_pos (by omega)]
  · rw [if_neg h1]
    by_cases h2 : j < k
    · rw [if_pos h2, if_pos (by omega)]
    · rw [if_neg h2, if_neg (by omega)]
set_option maxHeartbeats 2000000 in
theorem c12 (A : Option Addr) (n c : Nat) (f : Nat → Nat) (w : World) (hn : n ≤ 140737488351232) (hA : Rd w A n f) :
    Calls Tryz.prog 12 #[.slice A n c] w (WideOut w n f) := by
  obtain ⟨i0, hi, hz0, hz1, hz2⟩ := info5
  have hmk := fun W => run_make_row (P := Tryz.prog) 24 5 i0 (.int .u8 0) Tryz.underlying24 hi hz0 hz1 rfl .i64 .i64 (n + 3) (by rw [hz2]; omega) (by omega) W
  have e3 : ((n + 3 : Nat) : Int) = (n : Int) + 3 := by omega
  simp only [e3] at hmk
  clear e3
  have hA := Lib.hid hA
  have f1 : (n : Int) ≤ (n : Int) + 3 := by omega
  go_enter Tryz.func12, Tryz.ntmps12
  go_wp2_with fail
  have h0 : WR1 w n f (.int .i64 0) (w.alloc (.cells (madeCells #[.int .u8 0] (n + 3)) 5)) := ⟨0, Nat.zero_le _, rfl, (Below.refl _ _).alloc (Nat.le_refl _) _, (World.rowIs_made w _ (n + 3) 5).congr fun j _ => by rw [if_neg (by omega)]⟩
  clear hmk hi hz0 hz1 hz2
  go_loopw [4] (WR1 w n f) (fun i _ => n - (intOf i).toNat)
  case atStart => exact h0
  case round =>
    obtain ⟨k, hk, rfl, hb, hr⟩ := hrel
    clear h0
    have HB := Lib.hid hb
    have HR := Lib.hid hr
    clear hb hr
    by_cases hlt : k < n
    · obtain ⟨b, o, rfl, hbl, hcell⟩ := hA.out (by omega)
      have hx := (HB.out.cell (p := ⟨b, o + k, none⟩) hbl).trans (hcell k hlt)
      have hcl := HR.out.cell (show k < n + 3 by omega)
      rw [if_neg (by omega)] at hcl
      have hfz := HR.out.frozen k
      clear hcell
      go_wp2
      go_roundw
      case rel => exact ⟨k + 1, hlt, by go_num, HB.out.setCell (Nat.le_refl _) _, setRow HR.out rfl⟩
      case measure => simp [intOf]; omega
    · obtain rfl : k = n := by omega
      have h1 : WR2 w k f (.int .i64 (k : Int)) wr := ⟨k, Nat.le_refl _, by omega, rfl, HB.out, HR.out.congr fun j _ => by
        by_cases hj : j < k
        · rw [if_pos hj, if_pos hj]; unfold bV wideF; rw [if_pos hj]
        · rw [if_neg hj, if_neg hj]⟩
      clear HB HR
      go_wp2_with fail
      obtain ⟨wo, rfl⟩ : ∃ wo : World, wo = wr := ⟨_, rfl⟩
      go_loopw [5] (WR2 w k f) (fun i _ => k + 3 - (intOf i).toNat)
      case atStart => exact h1
      case round =>
        obtain ⟨m, hm1, hm2, rfl, hb, hr⟩ := hrel
        clear h1
        have HB := Lib.hid hb
        have HR := Lib.hid hr
        clear hb hr
        by_cases hlt2 : m < k + 3
        · have hcl := HR.out.cell hlt2
          rw [if_neg (by omega)] at hcl
          have hfz := HR.out.frozen m
          have g1 : (m : Int) < (k : Int) + 3 := by omega
          go_wp2
          go_roundw
          case rel => exact ⟨m + 1, by omega, hlt2, by go_num, HB.out.setCell (Nat.le_refl _) _, setRow HR.out (by unfold bV wideF; rw [if_neg (by omega)]; rfl)⟩
          case measure => simp [intOf]; omega
        · obtain rfl : m = k + 3 := by omega
          have g1 : ¬ ((k : Int) + 3 < (k : Int) + 3) := by omega
          go_wp2
          go_ret
          exact ⟨rfl, HB.out, HR.out.congr fun j hj => by rw [if_pos hj]⟩
theorem row_rd {w : World} {g n N : Nat} {f : Nat → Nat} (h : w.rowIs g 5 N (bV f)) (hn : n ≤ N) : Rd w (some ⟨g, 0, none⟩) n f := fun _ =>
  ⟨g, 0, rfl, h.lt, fun j hj => by rw [Nat.zero_add]; exact h.cell (by omega)⟩
theorem rowIs_below {w w' : World} {B g n : Nat} {F : Nat → Value} (h : w.rowIs g 5 n F) (hb : Below B w w') (hg : g < B) : w'.rowIs g 5 n F := h.of_block (hb.block g hg)
def LR (w : World) (n : Nat) (i : Value) (wr : World) : Prop := ∃ k : Nat, n ≤ k ∧ k ≤ n + 3 ∧ i = .int .i64 (k : Int) ∧ wr = w
set_option maxHeartbeats 2000000 in
theorem c17 (A : Option Addr) (g n c : Nat) (f : Nat → Nat) (w : World) (hn : n ≤ 140737488351232) (hA : Rd w A n f) (hf : ∀ j, j < n → f j < 256) (hr : w.rowIs g 5 (n + 3) (bV (wideF n f))) :
    Calls Tryz.prog 17 #[.slice (some ⟨g, 0, none⟩) n (n + 3), .slice A n c] w fun e w' => e = .returned (.bool true) ∧ Below w.heap.size w w' := by
  have hwf : ∀ j, j < n → wideF n f j = f j := fun j hj => by unfold wideF; rw [if_pos hj]
  have k11 : Calls Tryz.prog 10 #[.slice (some ⟨g, 0, none⟩) n (n + 3), .slice A n c] w fun e w' => e = .returned (.bool true) ∧ Below w.heap.size w w' :=
    (c10 (some ⟨g, 0, none⟩) A n (n + 3) c (wideF n f) f w (by omega) ((row_rd hr (by omega)).bz (fun j hj => by rw [hwf j hj]; exact hf j hj)) (hA.bz hf) hwf).mono fun e w' ⟨h1, q, h2⟩ => ⟨h1, by rw [h2]; exact below_drewN (Below.refl _ _) q⟩
  have K11 := Lib.hid k11
  have HR := Lib.hid hr
  have f1 : (n : Int) ≤ (n : Int) + 3 := by omega
  have f2 : decide ((n : Int) + 3 < (n : Int) + 3) = false := by simp
  clear k11 hr hA hf hwf
  go_enter Tryz.func17, Tryz.ntmps17
  go_wp2_with fail
  refine K11.out.mono ?_
  rintro _ w1 ⟨rfl, hb1⟩
  have HB := Lib.hid hb1
  have HR1 := Lib.hid (rowIs_below HR.out hb1 HR.out.lt)
  clear hb1 HR K11
  go_wp2_with fail
  go_loopw [6] (LR w1 n) (fun i _ => n + 3 - (intOf i).toNat)
  case atStart => exact ⟨n, Nat.le_refl _, by omega, rfl, rfl⟩
  case round =>
    obtain ⟨k, hk1, hk2, rfl, rfl⟩ := hrel
    by_cases hlt : k < n + 3
    · have hcl := HR1.out.cell hlt
      have hv : bV (wideF n f) k = .int .u8 7 := by unfold bV wideF; rw [if_neg (by omega)]; rfl
      rw [hv] at hcl
      have g1 : (k : Int) < (n : Int) + 3 := by omega
      clear hv
      go_wp2
      go_roundw
      case rel => exact ⟨k + 1, by omega, hlt, by go_num, rfl⟩
      case measure => simp [intOf]; omega
    · obtain rfl : k = n + 3 := by omega
      have g1 : ¬ ((n : Int) + 3 < (n : Int) + 3) := by omega
      go_wp2
      go_ret
      exact ⟨rfl, HB.out⟩
end Go.Proofs.YtgmifaadlaigdaaGreatDoor
