import Derived.Test.YtblfnjdbihhglaaGreatDoorGz
import Derived.Deep.Cut
import Derived.Deep.CutRange
import Derived.Deep.RegionHeld3
import Derived.StillTailTactics
namespace Go.Proofs.YtblfnjdbihhglaaGreatDoor
open Go.ChangeShapes Go.WideShapes Go.ChangeAt Go.RowKit Go.MapKept Go.ChangeMaps
open Li (Ss)
set_option linter.unusedVariables false
set_option linter.unusedSimpArgs false
theorem zero3 (w : World) : (zeroValue 3).run Tryz.prog w = .ok (.int .i64 0) w := by kernel_rfl
/-- the graph's box -/
def Bx (W : World) (p : Nat) (A : Option Addr) (nc cc : Nat) (B : Option Addr) (n c : Nat) : Prop := W.cell? ⟨p, 0, none⟩ = some (.slice A nc cc) ∧ W.cell? ⟨p, 1, none⟩ = some (.slice B n c) ∧ p < W.heap.size
theorem Bx.below {W W' : World} {p q : Nat} {A : Option Addr} {nc cc : Nat} {B : Option Addr} {n c : Nat} (h : Bx W p A nc cc B n c) (hb : Below q W W') (hp : p < q) : Bx W' p A nc cc B n c := by
  obtain ⟨h1, h2, h3⟩ := h
  exact ⟨by rw [hb.cell (p := ⟨p, 0, none⟩) hp]; exact h1, by rw [hb.cell (p := ⟨p, 1, none⟩) hp]; exact h2, Nat.lt_of_lt_of_le h3 hb.size⟩
theorem grown_cell {W W' : World} {p q j : Nat} (h : W.grownBy W' (some q)) (hp : p < W.heap.size) (hne : p ≠ q) : W'.cell? ⟨p, j, none⟩ = W.cell? ⟨p, j, none⟩ := by
  have := h.block p hp (by simpa using hne)
  simp only [World.cell?, this]
theorem Bx.grown {W W' : World} {p q : Nat} {A : Option Addr} {nc cc : Nat} {B : Option Addr} {n c : Nat} (h : Bx W p A nc cc B n c) (hb : W.grownBy W' (some q)) (hp : p ≠ q) : Bx W' p A nc cc B n c := by
  obtain ⟨h1, h2, h3⟩ := h
  exact ⟨by rw [grown_cell hb h3 hp]; exact h1, by rw [grown_cell hb h3 hp]; exact h2, Nat.lt_of_lt_of_le h3 hb.size⟩
def R14 (w : World) (A : Option Addr) (nc cc : Nat) (B : Option Addr) (n c : Nat) (g : Nat → ByteArray) (i : Value) (wr : World) : Prop :=
  ∃ k : Nat, k ≤ nc ∧ i = .int .i64 (k : Int) ∧ Below w.heap.size w wr ∧ Bx wr w.heap.size A nc cc B n c ∧ Nm wr (w.heap.size + 1) ((List.range k).map g) ∧ ∀ a, a < k → nameB (g a) = true ∧ ∀ j, j < a → g a ≠ g j
def R14b (w : World) (A : Option Addr) (nc cc : Nat) (B : Option Addr) (n c : Nat) (f : Nat → Ed) (i : Value) (wr : World) : Prop :=
  ∃ k : Nat, k ≤ n ∧ i = .int .i64 (k : Int) ∧ Below w.heap.size w wr ∧ Bx wr w.heap.size A nc cc B n c ∧ ∀ j, j < k → edB (f j) nc = true ∧ (0 < j → ltE (f (j - 1)) (f j) = true)
def Bel (h : Nat) (w W : World) : Prop := Below h w W
theorem kT {h : Nat} {w W W' : World} (hT : Bel h w W) (hl : h < W.heap.size) (hb : Below W.heap.size W W') : Bel h w W' := Below.trans hT (hb.mono (Nat.le_of_lt hl))
theorem edB_not {nc : Nat} {g : Nat → ByteArray} {n : Nat} {f : Nat → Ed} {m : Nat} (hm : m < n) (h : edB (f m) nc = false) : grB nc g n f = false := grB_no (fun hh => by have := (hh.2 m hm).1; rw [h] at this; cases this)
theorem ltE_not {nc : Nat} {g : Nat → ByteArray} {n : Nat} {f : Nat → Ed} {j : Nat} (hm : j + 1 < n) (h : ltE (f j) (f (j + 1)) = false) : grB nc g n f = false := grB_no (fun hh => by have := (hh.2 (j + 1) hm).2 (by omega); rw [Nat.add_sub_cancel, h] at this; cases this)
theorem cmp_ge (x y : Ed) : decide (0 ≤ cmpE x y) = !ltE x y := by
  rcases cmpE_cases x y with ⟨h1, h2, _⟩ | ⟨h1, h2, _⟩ | ⟨h1, h2, _⟩ <;> rw [h2] <;> simp <;> omega
theorem cells5 (W : World) (x : Ed) (t : TypeId) : (W.alloc (.cells #[.int .u8 (x.k : Int), .int .i64 x.fr, .int .i64 x.dt, .string x.nm, .int .u32 (x.wh : Int)] t)).drew.cell? ⟨W.heap.size, 0, none⟩ = some (.int .u8 (x.k : Int)) ∧
    (W.alloc (.cells #[.int .u8 (x.k : Int), .int .i64 x.fr, .int .i64 x.dt, .string x.nm, .int .u32 (x.wh : Int)] t)).drew.cell? ⟨W.heap.size, 1, none⟩ = some (.int .i64 x.fr) ∧ (W.alloc (.cells #[.int .u8 (x.k : Int), .int .i64 x.fr, .int .i64 x.dt, .string x.nm, .int .u32 (x.wh : Int)] t)).drew.cell? ⟨W.heap.size, 2, none⟩ = some (.int .i64 x.dt) ∧
    (W.alloc (.cells #[.int .u8 (x.k : Int), .int .i64 x.fr, .int .i64 x.dt, .string x.nm, .int .u32 (x.wh : Int)] t)).drew.cell? ⟨W.heap.size, 3, none⟩ = some (.string x.nm) ∧ (W.alloc (.cells #[.int .u8 (x.k : Int), .int .i64 x.fr, .int .i64 x.dt, .string x.nm, .int .u32 (x.wh : Int)] t)).drew.cell? ⟨W.heap.size, 4, none⟩ = some (.int .u32 (x.wh : Int)) :=
  ⟨World.cell?_alloc_new _ _ _ _, World.cell?_alloc_new _ _ _ _, World.cell?_alloc_new _ _ _ _, World.cell?_alloc_new _ _ _ _, World.cell?_alloc_new _ _ _ _⟩
theorem keepA {w W W' : World} {h p : Nat} {a0 a1 c0 c1 c2 c3 c4 : Value} (H : W.cell? ⟨h, 0, none⟩ = some a0 ∧ W.cell? ⟨h, 1, none⟩ = some a1 ∧ W.cell? ⟨p, 0, none⟩ = some c0 ∧ W.cell? ⟨p, 1, none⟩ = some c1 ∧ W.cell? ⟨p, 2, none⟩ = some c2 ∧ W.cell? ⟨p, 3, none⟩ = some c3 ∧ W.cell? ⟨p, 4, none⟩ = some c4 ∧ h < W.heap.size ∧ p < W.heap.size ∧ Bel h w W) (hb : Below W.heap.size W W') : W'.cell? ⟨h, 0, none⟩ = some a0 ∧ W'.cell? ⟨h, 1, none⟩ = some a1 ∧ W'.cell? ⟨p, 0, none⟩ = some c0 ∧ W'.cell? ⟨p, 1, none⟩ = some c1 ∧ W'.cell? ⟨p, 2, none⟩ = some c2 ∧ W'.cell? ⟨p, 3, none⟩ = some c3 ∧ W'.cell? ⟨p, 4, none⟩ = some c4 ∧ h < W'.heap.size ∧ p < W'.heap.size ∧ Bel h w W' := by
  obtain ⟨h0, h1, g0, g1, g2, g3, g4, hl, pl, hT⟩ := H
  exact ⟨kcell h0 hl hb, kcell h1 hl hb, kcell g0 pl hb, kcell g1 pl hb, kcell g2 pl hb, kcell g3 pl hb, kcell g4 pl hb, ksize hl hb, ksize pl hb, kT hT hl hb⟩
theorem keepB {w W W' : World} {h p b i0 i1 i2 i3 i4 : Nat} {a0 a1 c0 c1 c2 c3 c4 d0 d1 d2 d3 d4 : Value} (H : W.cell? ⟨h, 0, none⟩ = some a0 ∧ W.cell? ⟨h, 1, none⟩ = some a1 ∧ W.cell? ⟨p, 0, none⟩ = some c0 ∧ W.cell? ⟨p, 1, none⟩ = some c1 ∧ W.cell? ⟨p, 2, none⟩ = some c2 ∧ W.cell? ⟨p, 3, none⟩ = some c3 ∧ W.cell? ⟨p, 4, none⟩ = some c4 ∧ h < W.heap.size ∧ p < W.heap.size ∧ Bel h w W ∧ b < W.heap.size ∧ W.cell? ⟨b, i0, none⟩ = some d0 ∧ W.cell? ⟨b, i1, none⟩ = some d1 ∧ W.cell? ⟨b, i2, none⟩ = some d2 ∧ W.cell? ⟨b, i3, none⟩ = some d3 ∧ W.cell? ⟨b, i4, none⟩ = some d4) (hb : Below W.heap.size W W') : W'.cell? ⟨h, 0, none⟩ = some a0 ∧ W'.cell? ⟨h, 1, none⟩ = some a1 ∧ W'.cell? ⟨p, 0, none⟩ = some c0 ∧ W'.cell? ⟨p, 1, none⟩ = some c1 ∧ W'.cell? ⟨p, 2, none⟩ = some c2 ∧ W'.cell? ⟨p, 3, none⟩ = some c3 ∧ W'.cell? ⟨p, 4, none⟩ = some c4 ∧ h < W'.heap.size ∧ p < W'.heap.size ∧ Bel h w W' ∧ b < W'.heap.size ∧ W'.cell? ⟨b, i0, none⟩ = some d0 ∧ W'.cell? ⟨b, i1, none⟩ = some d1 ∧ W'.cell? ⟨b, i2, none⟩ = some d2 ∧ W'.cell? ⟨b, i3, none⟩ = some d3 ∧ W'.cell? ⟨b, i4, none⟩ = some d4 := by
  obtain ⟨h0, h1, g0, g1, g2, g3, g4, hl, pl, hT, bl, e0, e1, e2, e3, e4⟩ := H
  exact ⟨kcell h0 hl hb, kcell h1 hl hb, kcell g0 pl hb, kcell g1 pl hb, kcell g2 pl hb, kcell g3 pl hb, kcell g4 pl hb, ksize hl hb, ksize pl hb, kT hT hl hb, ksize bl hb, kcell e0 bl hb, kcell e1 bl hb, kcell e2 bl hb, kcell e3 bl hb, kcell e4 bl hb⟩
theorem outA {w W : World} {h p : Nat} {a0 a1 c0 c1 c2 c3 c4 : Value} (H : W.cell? ⟨h, 0, none⟩ = some a0 ∧ W.cell? ⟨h, 1, none⟩ = some a1 ∧ W.cell? ⟨p, 0, none⟩ = some c0 ∧ W.cell? ⟨p, 1, none⟩ = some c1 ∧ W.cell? ⟨p, 2, none⟩ = some c2 ∧ W.cell? ⟨p, 3, none⟩ = some c3 ∧ W.cell? ⟨p, 4, none⟩ = some c4 ∧ h < W.heap.size ∧ p < W.heap.size ∧ Bel h w W) : Below h w W ∧ W.cell? ⟨h, 0, none⟩ = some a0 ∧ W.cell? ⟨h, 1, none⟩ = some a1 ∧ h < W.heap.size := ⟨H.2.2.2.2.2.2.2.2.2, H.1, H.2.1, H.2.2.2.2.2.2.2.1⟩
theorem outB {w W : World} {h p b i0 i1 i2 i3 i4 : Nat} {a0 a1 c0 c1 c2 c3 c4 d0 d1 d2 d3 d4 : Value} (H : W.cell? ⟨h, 0, none⟩ = some a0 ∧ W.cell? ⟨h, 1, none⟩ = some a1 ∧ W.cell? ⟨p, 0, none⟩ = some c0 ∧ W.cell? ⟨p, 1, none⟩ = some c1 ∧ W.cell? ⟨p, 2, none⟩ = some c2 ∧ W.cell? ⟨p, 3, none⟩ = some c3 ∧ W.cell? ⟨p, 4, none⟩ = some c4 ∧ h < W.heap.size ∧ p < W.heap.size ∧ Bel h w W ∧ b < W.heap.size ∧ W.cell? ⟨b, i0, none⟩ = some d0 ∧ W.cell? ⟨b, i1, none⟩ = some d1 ∧ W.cell? ⟨b, i2, none⟩ = some d2 ∧ W.cell? ⟨b, i3, none⟩ = some d3 ∧ W.cell? ⟨b, i4, none⟩ = some d4) : Below h w W ∧ W.cell? ⟨h, 0, none⟩ = some a0 ∧ W.cell? ⟨h, 1, none⟩ = some a1 ∧ h < W.heap.size := ⟨H.2.2.2.2.2.2.2.2.2.1, H.1, H.2.1, H.2.2.2.2.2.2.2.1⟩
set_option maxHeartbeats 8000000 in
theorem c14 (A : Option Addr) (nc cc : Nat) (B : Option Addr) (n c : Nat) (g : Nat → ByteArray) (f : Nat → Ed) (w : World) (hA : Ss w A nc g) (hB : Es w B n f) (hnc : nc ≤ 9223372036854775807) (hn : n ≤ 9223372036854775807) :
    Calls Tryz.prog 14 #[.agg #[.slice A nc cc, .slice B n c]] w fun e w' => e = .returned (.bool (grB nc g n f)) ∧ Below w.heap.size w w' := by
  have HA := Lib.hid hA
  have HB := Lib.hid hB
  clear hA hB
  have hmm := @run_makeMap Tryz.prog
  go_enter Tryz.func14, Tryz.ntmps14
  go_wp2_with fail
  go_loopw [14] (fun i wr => R14 w A nc cc B n c g i wr) (fun i _ => nc - (intOf i).toNat)
  case atStart =>
    refine ⟨0, by omega, rfl, ((Below.refl _ _).alloc (Nat.le_refl _) _).alloc (by simp) _, ?_, ?_, fun a ha => absurd ha (by omega)⟩
    · refine ⟨?_, ?_, by simp; omega⟩ <;> simp [World.cell?_alloc_at]
    · have := nm_zero (w.alloc (.cells #[.slice A nc cc, .slice B n c] 25))
      simpa using this
  case round =>
    obtain ⟨k, hk, rfl, hb, hbx, hnm, hin⟩ := hrel
    have HBL := Lib.hid hb
    have HBX := Lib.hid hbx
    have HNM := Lib.hid hnm
    have HIN := Lib.hid hin
    obtain ⟨x0, x1, xl⟩ := hbx
    clear hb hnm hin
    by_cases hlt : k < nc
    · obtain ⟨b, o, rfl, hbl, hc⟩ := HA.out (by omega)
      obtain ⟨q0, hs⟩ := hc k hlt
      rw [← HBL.out.cell (p := ⟨b, o + k, none⟩) hbl] at q0
      have hnd := nlist g k (fun a ha j hj => (HIN.out a ha).2 j hj)
      have hlk := lookup_nm (T := 48) Tryz.underlying48 Tryz.underlying9 zero3 HNM.out hnd (g k)
      have HUP := Lib.hid (update_nm (T := 48) Tryz.underlying48 Tryz.underlying9 HNM.out hnd (g k))
      have HNO : Hid (∀ j, nmAt ((List.range k).map g) (g k) = some j → grB nc g n f = false) := Lib.hid fun j hj => grB_no (fun h => by
        have h1 := nmAt_some _ _ _ hj
        have h2 := nmAt_lt hj
        simp at h2
        rw [List.getElem?_map, List.getElem?_range h2] at h1
        exact (h.1 k hlt).2 j h2 (by simpa using h1.symm))
      have HNN : Hid (nameB (g k) = false → grB nc g n f = false) := Lib.hid fun h => grB_no (fun hh => by have := (hh.1 k hlt).1; rw [h] at this; cases this)
      have HST : Hid (nmAt ((List.range k).map g) (g k) = none → nameB (g k) = true → ∀ a, a < k + 1 → nameB (g a) = true ∧ ∀ j, j < a → g a ≠ g j) := Lib.hid fun h1 h2 a ha => by
        by_cases e : a = k
        · subst e
          exact ⟨h2, fun j hj e => nmAt_mem h1 (List.mem_map.2 ⟨j, List.mem_range.2 hj, e.symm⟩)⟩
        · exact HIN.out a (by omega)
      have HSN : Hid ((List.range (k + 1)).map g = (List.range k).map g ++ [g k]) := Lib.hid (by rw [List.range_succ, List.map_append]; rfl)
      have hlen : ((List.range k).map g).length = k := by simp
      rw [hlen] at HUP
      have K28 := Lib.hid (c28 (g k) hs)
      have HLT := Lib.hid hlt
      clear hc hk hnd hlen
      generalize (List.range k).map g = L at *
      generalize g k = s at *
      cases hq : nmAt L s with
      | some j =>
        have HX := Lib.hid (HNO.out j hq)
        rw [hq] at hlk
        simp only [Option.getD_some, Option.isSome_some] at hlk
        clear hq
        go_wp2_with fail
        go_ret
        exact ⟨by rw [HX.out]; rfl, HBL.out⟩
      | none =>
        rw [hq] at hlk
        simp only [Option.getD_none, Option.isSome_none] at hlk
        obtain ⟨w1, hrun, hn1, hg1⟩ := HUP.out hq
        have HN1 := Lib.hid hn1
        have HG1 := Lib.hid hg1
        have HQ := Lib.hid hq
        clear hq hn1 hg1
        cases hy : nameB s
        · have HX := Lib.hid (HNN.out hy)
          have HY := Lib.hid hy
          clear hy
          go_wp2_with fail
          refine (K28.out _).mono ?_
          rintro _ _ ⟨rfl, rfl⟩
          rw [HY.out]
          go_wp2_with fail
          go_ret
          exact ⟨by rw [HX.out]; rfl, HBL.out⟩
        · have HX := Lib.hid (HST.out HQ.out hy)
          have HY := Lib.hid hy
          clear hy
          go_wp2_with fail
          refine (K28.out _).mono ?_
          rintro _ _ ⟨rfl, rfl⟩
          rw [HY.out]
          go_wp2_with fail
          go_roundw
          case rel => exact ⟨k + 1, HLT.out, by go_num, HBL.out.grown HG1.out HBL.out.size (fun j hj => by simp at hj; omega), HBX.out.grown HG1.out (by omega), by rw [HSN.out]; exact HN1.out, HX.out⟩
          case measure => simp [intOf]; have := HLT.out; omega
    · have HC : Hid (∀ i, i < nc → nameB (g i) = true ∧ ∀ j, j < i → g i ≠ g j) := Lib.hid (fun i hi => HIN.out i (by omega))
      clear HNM hk
      go_wp2_with fail
      go_loopw [38] (fun i wr => R14b w A nc cc B n c f i wr) (fun i _ => n - (intOf i).toNat)
      case atStart => exact ⟨0, by omega, rfl, HBL.out, HBX.out, fun j hj => absurd hj (by omega)⟩
      case round =>
        obtain ⟨m, hm, rfl, hb2, hbx2, hin2⟩ := hrel
        have HBL2 := Lib.hid hb2
        have HBX2 := Lib.hid hbx2
        have HIN2 := Lib.hid hin2
        obtain ⟨y0, y1, yl⟩ := hbx2
        clear hb2 hin2
        by_cases hlt : m < n
        · obtain ⟨b, o, rfl, hbl, hc⟩ := HB.out (by omega)
          obtain ⟨hok, q0, q1, q2, q3, q4⟩ := hc m hlt
          have z : ∀ j, wr.cell? ⟨b, j, none⟩ = w.cell? ⟨b, j, none⟩ := fun j => HBL2.out.cell (p := ⟨b, j, none⟩) hbl
          rw [← z] at q0 q1 q2 q3 q4
          have HC5 := Lib.hid hc
          have HZ := Lib.hid z
          have K29 : Hid (∀ W, Calls Tryz.prog 29 #[.agg #[.int .u8 ((f m).k : Int), .int .i64 (f m).fr, .int .i64 (f m).dt, .string (f m).nm, .int .u32 ((f m).wh : Int)], .int .i64 (nc : Int)] W fun e w' => e = .returned (.bool (edB (f m) nc)) ∧ Below W.heap.size W w') := Lib.hid (fun W => c29 (f m) hok nc W)
          have HLT := Lib.hid hlt
          have HOK := Lib.hid hok
          have HNE : Hid (edB (f m) nc = false → grB nc g n f = false) := Lib.hid (fun h => edB_not hlt h)
          have HST : Hid (edB (f m) nc = true → (0 < m → ltE (f (m - 1)) (f m) = true) → ∀ j, j < m + 1 → edB (f j) nc = true ∧ (0 < j → ltE (f (j - 1)) (f j) = true)) := Lib.hid (fun h1 h2 j hj => by
            by_cases e : j = m
            · rw [e]; exact ⟨h1, h2⟩
            · exact HIN2.out j (by omega))
          have HLTE : Hid (∀ j, m = j + 1 → ltE (f j) (f m) = false → grB nc g n f = false) := Lib.hid (fun j e h => by subst e; exact ltE_not hlt h)
          obtain ⟨x, hx⟩ : ∃ x, f m = x := ⟨_, rfl⟩
          rw [hx] at q0 q1 q2 q3 q4 K29 HNE HST HLTE
          have K30 : Hid (∀ j, m = j + 1 → (f j).ok → ∀ W, Calls Tryz.prog 30 #[(f j).v, x.v] W fun e w' => e = .returned (.int .i64 (cmpE (f j) x)) ∧ Below W.heap.size W w') := Lib.hid (fun j e hj W => c30 (f j) x hj (by rw [← hx]; exact hok) W)
          obtain ⟨b1, hb1⟩ : ∃ q, edB x nc = q := ⟨_, rfl⟩
          rw [hb1] at K29 HNE HST
          clear hc z hok hm hb1 hx HOK
          go_upto_region 13 with fail
          obtain ⟨e0, e1, hps2⟩ := HBX2.out.below (((Below.refl _ wr).alloc (Nat.le_refl _) (.cells #[.int .u8 (x.k : Int), .int .i64 x.fr, .int .i64 x.dt, .string x.nm, .int .u32 (x.wh : Int)] 42)).drew) yl
          obtain ⟨d0, d1, d2, d3, d4⟩ := cells5 wr x 42
          have hT : Bel w.heap.size w (wr.alloc (.cells #[.int .u8 (x.k : Int), .int .i64 x.fr, .int .i64 x.dt, .string x.nm, .int .u32 (x.wh : Int)] 42)).drew := (HBL2.out.alloc HBL2.out.size _).drew
          have hps3 : wr.heap.size < (wr.alloc (.cells #[.int .u8 (x.k : Int), .int .i64 x.fr, .int .i64 x.dt, .string x.nm, .int .u32 (x.wh : Int)] 42)).drew.heap.size := by simp
          have HO : Hid (Below wr.heap.size wr (wr.alloc (.cells #[.int .u8 (x.k : Int), .int .i64 x.fr, .int .i64 x.dt, .string x.nm, .int .u32 (x.wh : Int)] 42)).drew) := Lib.hid (((Below.refl _ wr).alloc (Nat.le_refl _) _).drew)
          clear q0 q1 q2 q3 q4 y0 y1 yl
          have hbw : b < wr.heap.size := Nat.lt_of_lt_of_le hbl HBL2.out.size
          have hbd : b < (wr.alloc (.cells #[.int .u8 (x.k : Int), .int .i64 x.fr, .int .i64 x.dt, .string x.nm, .int .u32 (x.wh : Int)] 42)).drew.heap.size := Nat.lt_of_lt_of_le hbw HO.out.size
          cases b1
          · have HX := Lib.hid (HNE.out rfl)
            have HI := Lib.hid (And.intro e0 (And.intro e1 (And.intro d0 (And.intro d1 (And.intro d2 (And.intro d3 (And.intro d4 (And.intro hps2 (And.intro hps3 hT)))))))))
            clear e0 e1 d0 d1 d2 d3 d4 hps2 hps3 hT hbd HO
            generalize (wr.alloc (.cells #[.int .u8 (x.k : Int), .int .i64 x.fr, .int .i64 x.dt, .string x.nm, .int .u32 (x.wh : Int)] 42)) = W1 at *
            generalize wr.heap.size = p at *
            refine wp_region_held_drew (S := fun W => W.cell? ⟨w.heap.size, 0, none⟩ = some (.slice A nc cc) ∧ W.cell? ⟨w.heap.size, 1, none⟩ = some (.slice (some ⟨b, o, none⟩) n c) ∧ W.cell? ⟨p, 0, none⟩ = some (.int .u8 (x.k : Int)) ∧ W.cell? ⟨p, 1, none⟩ = some (.int .i64 x.fr) ∧ W.cell? ⟨p, 2, none⟩ = some (.int .i64 x.dt) ∧ W.cell? ⟨p, 3, none⟩ = some (.string x.nm) ∧ W.cell? ⟨p, 4, none⟩ = some (.int .u32 (x.wh : Int)) ∧ w.heap.size < W.heap.size ∧ p < W.heap.size ∧ Bel w.heap.size w W) (by kernel_rfl) ?_ (fun hHeld => ?_)
            · exact HI.out
            refine wpAnyH_take (i := 0) (v := ?va1) rfl (by kernel_rfl) (by kernel_rfl) (by kernel_rfl) (fun _ _ _ h => h) (Or.inl ⟨by rfl, ?hya1⟩) (by assumption) ?resta1
            case hya1 => (intro w' hSw; go_split_ands; go_simp; try with_reducible rfl)
            simp only [Act.put, List.getElem_toArray, List.getElem_cons_zero, List.setIfInBounds_toArray, List.set_cons_zero, List.set_cons_succ]
            refine wpAnyH_take (i := 1) (v := ?va2) rfl (by kernel_rfl) (by kernel_rfl) (by kernel_rfl) (fun _ _ _ h => h) (Or.inl ⟨by rfl, ?hya2⟩) (by assumption) ?resta2
            case hya2 => (intro w' hSw; go_split_ands; go_simp; try with_reducible rfl)
            simp only [Act.put, List.getElem_toArray, List.getElem_cons_succ, List.getElem_cons_zero, List.setIfInBounds_toArray, List.set_cons_zero, List.set_cons_succ]
            refine wpAnyH_take (i := 2) (v := ?va3) rfl (by kernel_rfl) (by kernel_rfl) (by kernel_rfl) (fun _ _ _ h => h) (Or.inl ⟨by rfl, ?hya3⟩) (by assumption) ?resta3
            case hya3 => (intro w' hSw; go_split_ands; go_simp; try with_reducible rfl)
            simp only [Act.put, List.getElem_toArray, List.getElem_cons_succ, List.getElem_cons_zero, List.setIfInBounds_toArray, List.set_cons_zero, List.set_cons_succ]
            refine wpAnyH_take (i := 3) (v := ?va4) rfl (by kernel_rfl) (by kernel_rfl) (by kernel_rfl) (fun _ _ _ h => h) (Or.inl ⟨by rfl, ?hya4⟩) (by assumption) ?resta4
            case hya4 => (intro w' hSw; go_split_ands; go_simp; try with_reducible rfl)
            simp only [Act.put, List.getElem_toArray, List.getElem_cons_succ, List.getElem_cons_zero, List.setIfInBounds_toArray, List.set_cons_zero, List.set_cons_succ]
            refine wpAnyH_ready (rs := [4]) (by kernel_rfl) (by simp) ?_
            refine AllReadyH.cons rfl (fun K hK => ?_) AllReadyH.nil
            go_simp
            go_at_call 29
            refine (K29.out _).mono ?_
            rintro _ wx ⟨rfl, hbx⟩
            go_wp2_with fail
            refine hK.out _ _ ?_ (fun hHeld => ?_)
            · exact keepA (by assumption) hbx
            clear hK K
            refine wpAnyH_take (i := 5) (v := ?va5) rfl (by kernel_rfl) (by kernel_rfl) (by kernel_rfl) (fun _ _ _ h => h) (Or.inl ⟨by rfl, ?hya5⟩) (by assumption) ?resta5
            case hya5 => (intro w' hSw; go_split_ands; go_simp; try with_reducible rfl)
            simp only [Act.put, List.getElem_toArray, List.getElem_cons_succ, List.getElem_cons_zero, List.setIfInBounds_toArray, List.set_cons_zero, List.set_cons_succ]
            refine wpAnyH_take (i := 6) (v := ?va6) rfl (by kernel_rfl) (by kernel_rfl) (by kernel_rfl) (fun _ _ _ h => h) (Or.inl ⟨by rfl, ?hya6⟩) (by assumption) ?resta6
            case hya6 => (intro w' hSw; go_split_ands; go_simp; try with_reducible rfl)
            simp only [Act.put, List.getElem_toArray, List.getElem_cons_succ, List.getElem_cons_zero, List.setIfInBounds_toArray, List.set_cons_zero, List.set_cons_succ]
            refine wpAnyH_take (i := 7) (v := undef) rfl (by kernel_rfl) (by kernel_rfl) (by kernel_rfl) (fun _ _ _ h => h) (Or.inr ⟨by rfl, rfl⟩) (by assumption) ?_
            simp only [Act.put, List.getElem_toArray, List.getElem_cons_succ, List.getElem_cons_zero, List.setIfInBounds_toArray, List.set_cons_zero, List.set_cons_succ]
            refine wpAnyH_take (i := 8) (v := undef) rfl (by kernel_rfl) (by kernel_rfl) (by kernel_rfl) (fun _ _ _ h => h) (Or.inr ⟨by rfl, rfl⟩) (by assumption) ?_
            simp only [Act.put, List.getElem_toArray, List.getElem_cons_succ, List.getElem_cons_zero, List.setIfInBounds_toArray, List.set_cons_zero, List.set_cons_succ]
            refine wpAnyH_take (i := 9) (v := undef) rfl (by kernel_rfl) (by kernel_rfl) (by kernel_rfl) (fun _ _ _ h => h) (Or.inr ⟨by rfl, rfl⟩) (by assumption) ?_
            simp only [Act.put, List.getElem_toArray, List.getElem_cons_succ, List.getElem_cons_zero, List.setIfInBounds_toArray, List.set_cons_zero, List.set_cons_succ]
            refine wpAnyH_take (i := 10) (v := undef) rfl (by kernel_rfl) (by kernel_rfl) (by kernel_rfl) (fun _ _ _ h => h) (Or.inr ⟨by rfl, rfl⟩) (by assumption) ?_
            simp only [Act.put, List.getElem_toArray, List.getElem_cons_succ, List.getElem_cons_zero, List.setIfInBounds_toArray, List.set_cons_zero, List.set_cons_succ]
            refine wpAnyH_take (i := 11) (v := undef) rfl (by kernel_rfl) (by kernel_rfl) (by kernel_rfl) (fun _ _ _ h => h) (Or.inr ⟨by rfl, rfl⟩) (by assumption) ?_
            simp only [Act.put, List.getElem_toArray, List.getElem_cons_succ, List.getElem_cons_zero, List.setIfInBounds_toArray, List.set_cons_zero, List.set_cons_succ]
            refine wpAnyH_take (i := 12) (v := undef) rfl (by kernel_rfl) (by kernel_rfl) (by kernel_rfl) (fun _ _ _ h => h) (Or.inr ⟨by rfl, rfl⟩) (by assumption) ?_
            simp only [Act.put, List.getElem_toArray, List.getElem_cons_succ, List.getElem_cons_zero, List.setIfInBounds_toArray, List.set_cons_zero, List.set_cons_succ]
            refine wpAnyH_take (i := 13) (v := undef) rfl (by kernel_rfl) (by kernel_rfl) (by kernel_rfl) (fun _ _ _ h => h) (Or.inr ⟨by rfl, rfl⟩) (by assumption) ?_
            simp only [Act.put, List.getElem_toArray, List.getElem_cons_succ, List.getElem_cons_zero, List.setIfInBounds_toArray, List.set_cons_zero, List.set_cons_succ]
            refine wpAnyH_take (i := 14) (v := undef) rfl (by kernel_rfl) (by kernel_rfl) (by kernel_rfl) (fun _ _ _ h => h) (Or.inr ⟨by rfl, rfl⟩) (by assumption) ?_
            simp only [Act.put, List.getElem_toArray, List.getElem_cons_succ, List.getElem_cons_zero, List.setIfInBounds_toArray, List.set_cons_zero, List.set_cons_succ]
            refine wpAnyH_take (i := 15) (v := undef) rfl (by kernel_rfl) (by kernel_rfl) (by kernel_rfl) (fun _ _ _ h => h) (Or.inr ⟨by rfl, rfl⟩) (by assumption) ?_
            simp only [Act.put, List.getElem_toArray, List.getElem_cons_succ, List.getElem_cons_zero, List.setIfInBounds_toArray, List.set_cons_zero, List.set_cons_succ]
            refine wpAnyH_take (i := 16) (v := undef) rfl (by kernel_rfl) (by kernel_rfl) (by kernel_rfl) (fun _ _ _ h => h) (Or.inr ⟨by rfl, rfl⟩) (by assumption) ?_
            simp only [Act.put, List.getElem_toArray, List.getElem_cons_succ, List.getElem_cons_zero, List.setIfInBounds_toArray, List.set_cons_zero, List.set_cons_succ]
            refine wpAnyH_take (i := 17) (v := undef) rfl (by kernel_rfl) (by kernel_rfl) (by kernel_rfl) (fun _ _ _ h => h) (Or.inr ⟨by rfl, rfl⟩) (by assumption) ?_
            simp only [Act.put, List.getElem_toArray, List.getElem_cons_succ, List.getElem_cons_zero, List.setIfInBounds_toArray, List.set_cons_zero, List.set_cons_succ]
            refine wpAnyH_take (i := 18) (v := undef) rfl (by kernel_rfl) (by kernel_rfl) (by kernel_rfl) (fun _ _ _ h => h) (Or.inr ⟨by rfl, rfl⟩) (by assumption) ?_
            simp only [Act.put, List.getElem_toArray, List.getElem_cons_succ, List.getElem_cons_zero, List.setIfInBounds_toArray, List.set_cons_zero, List.set_cons_succ]
            refine wpAnyH_take (i := 19) (v := undef) rfl (by kernel_rfl) (by kernel_rfl) (by kernel_rfl) (fun _ _ _ h => h) (Or.inr ⟨by rfl, rfl⟩) (by assumption) ?_
            simp only [Act.put, List.getElem_toArray, List.getElem_cons_succ, List.getElem_cons_zero, List.setIfInBounds_toArray, List.set_cons_zero, List.set_cons_succ]
            refine wpAnyH_take (i := 20) (v := ?va7) rfl (by kernel_rfl) (by kernel_rfl) (by kernel_rfl) (fun _ _ _ h => h) (Or.inl ⟨by rfl, ?hya7⟩) (by assumption) ?resta7
            case hya7 => (intro w' hSw; go_split_ands; go_simp; try with_reducible rfl)
            simp only [Act.put, List.getElem_toArray, List.getElem_cons_succ, List.getElem_cons_zero, List.setIfInBounds_toArray, List.set_cons_zero, List.set_cons_succ]
            refine wpAnyH_done (by kernel_rfl) ?_ _
            go_wp2_with fail
            go_ret
            exact ⟨by rw [HX.out]; rfl, (outA (by assumption)).1⟩
          · rcases Nat.eq_zero_or_pos m with rfl | hpos
            · have HX := Lib.hid (HST.out rfl (fun h => absurd h (by omega)))
              have HI := Lib.hid (And.intro e0 (And.intro e1 (And.intro d0 (And.intro d1 (And.intro d2 (And.intro d3 (And.intro d4 (And.intro hps2 (And.intro hps3 hT)))))))))
              clear e0 e1 d0 d1 d2 d3 d4 hps2 hps3 hT hbd HO
              generalize (wr.alloc (.cells #[.int .u8 (x.k : Int), .int .i64 x.fr, .int .i64 x.dt, .string x.nm, .int .u32 (x.wh : Int)] 42)) = W1 at *
              generalize wr.heap.size = p at *
              refine wp_region_held_drew (S := fun W => W.cell? ⟨w.heap.size, 0, none⟩ = some (.slice A nc cc) ∧ W.cell? ⟨w.heap.size, 1, none⟩ = some (.slice (some ⟨b, o, none⟩) n c) ∧ W.cell? ⟨p, 0, none⟩ = some (.int .u8 (x.k : Int)) ∧ W.cell? ⟨p, 1, none⟩ = some (.int .i64 x.fr) ∧ W.cell? ⟨p, 2, none⟩ = some (.int .i64 x.dt) ∧ W.cell? ⟨p, 3, none⟩ = some (.string x.nm) ∧ W.cell? ⟨p, 4, none⟩ = some (.int .u32 (x.wh : Int)) ∧ w.heap.size < W.heap.size ∧ p < W.heap.size ∧ Bel w.heap.size w W) (by kernel_rfl) ?_ (fun hHeld => ?_)
              · exact HI.out
              refine wpAnyH_take (i := 0) (v := ?vb1) rfl (by kernel_rfl) (by kernel_rfl) (by kernel_rfl) (fun _ _ _ h => h) (Or.inl ⟨by rfl, ?hyb1⟩) (by assumption) ?restb1
              case hyb1 => (intro w' hSw; go_split_ands; go_simp; try with_reducible rfl)
              simp only [Act.put, List.getElem_toArray, List.getElem_cons_zero, List.setIfInBounds_toArray, List.set_cons_zero, List.set_cons_succ]
              refine wpAnyH_take (i := 1) (v := ?vb2) rfl (by kernel_rfl) (by kernel_rfl) (by kernel_rfl) (fun _ _ _ h => h) (Or.inl ⟨by rfl, ?hyb2⟩) (by assumption) ?restb2
              case hyb2 => (intro w' hSw; go_split_ands; go_simp; try with_reducible rfl)
              simp only [Act.put, List.getElem_toArray, List.getElem_cons_succ, List.getElem_cons_zero, List.setIfInBounds_toArray, List.set_cons_zero, List.set_cons_succ]
              refine wpAnyH_take (i := 2) (v := ?vb3) rfl (by kernel_rfl) (by kernel_rfl) (by kernel_rfl) (fun _ _ _ h => h) (Or.inl ⟨by rfl, ?hyb3⟩) (by assumption) ?restb3
              case hyb3 => (intro w' hSw; go_split_ands; go_simp; try with_reducible rfl)
              simp only [Act.put, List.getElem_toArray, List.getElem_cons_succ, List.getElem_cons_zero, List.setIfInBounds_toArray, List.set_cons_zero, List.set_cons_succ]
              refine wpAnyH_take (i := 3) (v := ?vb4) rfl (by kernel_rfl) (by kernel_rfl) (by kernel_rfl) (fun _ _ _ h => h) (Or.inl ⟨by rfl, ?hyb4⟩) (by assumption) ?restb4
              case hyb4 => (intro w' hSw; go_split_ands; go_simp; try with_reducible rfl)
              simp only [Act.put, List.getElem_toArray, List.getElem_cons_succ, List.getElem_cons_zero, List.setIfInBounds_toArray, List.set_cons_zero, List.set_cons_succ]
              refine wpAnyH_ready (rs := [4]) (by kernel_rfl) (by simp) ?_
              refine AllReadyH.cons rfl (fun K hK => ?_) AllReadyH.nil
              go_simp
              go_at_call 29
              refine (K29.out _).mono ?_
              rintro _ wx ⟨rfl, hbx⟩
              go_wp2_with fail
              refine hK.out _ _ ?_ (fun hHeld => ?_)
              · exact keepA (by assumption) hbx
              clear hK K
              refine wpAnyH_take (i := 5) (v := ?vb5) rfl (by kernel_rfl) (by kernel_rfl) (by kernel_rfl) (fun _ _ _ h => h) (Or.inl ⟨by rfl, ?hyb5⟩) (by assumption) ?restb5
              case hyb5 => (intro w' hSw; go_split_ands; go_simp; try with_reducible rfl)
              simp only [Act.put, List.getElem_toArray, List.getElem_cons_succ, List.getElem_cons_zero, List.setIfInBounds_toArray, List.set_cons_zero, List.set_cons_succ]
              refine wpAnyH_take (i := 6) (v := ?vb6) rfl (by kernel_rfl) (by kernel_rfl) (by kernel_rfl) (fun _ _ _ h => h) (Or.inl ⟨by rfl, ?hyb6⟩) (by assumption) ?restb6
              case hyb6 => (intro w' hSw; go_split_ands; go_simp; try with_reducible rfl)
              simp only [Act.put, List.getElem_toArray, List.getElem_cons_succ, List.getElem_cons_zero, List.setIfInBounds_toArray, List.set_cons_zero, List.set_cons_succ]
              refine wpAnyH_take (i := 7) (v := ?vb7) rfl (by kernel_rfl) (by kernel_rfl) (by kernel_rfl) (fun _ _ _ h => h) (Or.inl ⟨by rfl, ?hyb7⟩) (by assumption) ?restb7
              case hyb7 => (intro w' hSw; go_split_ands; go_simp; try with_reducible rfl)
              simp only [Act.put, List.getElem_toArray, List.getElem_cons_succ, List.getElem_cons_zero, List.setIfInBounds_toArray, List.set_cons_zero, List.set_cons_succ]
              refine wpAnyH_take (i := 8) (v := ?vb8) rfl (by kernel_rfl) (by kernel_rfl) (by kernel_rfl) (fun _ _ _ h => h) (Or.inl ⟨by rfl, ?hyb8⟩) (by assumption) ?restb8
              case hyb8 => (intro w' hSw; go_split_ands; go_simp; try with_reducible rfl)
              simp only [Act.put, List.getElem_toArray, List.getElem_cons_succ, List.getElem_cons_zero, List.setIfInBounds_toArray, List.set_cons_zero, List.set_cons_succ]
              refine wpAnyH_take (i := 9) (v := ?vb9) rfl (by kernel_rfl) (by kernel_rfl) (by kernel_rfl) (fun _ _ _ h => h) (Or.inl ⟨by rfl, ?hyb9⟩) (by assumption) ?restb9
              case hyb9 => (intro w' hSw; go_split_ands; go_simp; try with_reducible rfl)
              simp only [Act.put, List.getElem_toArray, List.getElem_cons_succ, List.getElem_cons_zero, List.setIfInBounds_toArray, List.set_cons_zero, List.set_cons_succ]
              refine wpAnyH_take (i := 10) (v := undef) rfl (by kernel_rfl) (by kernel_rfl) (by kernel_rfl) (fun _ _ _ h => h) (Or.inr ⟨by rfl, rfl⟩) (by assumption) ?_
              simp only [Act.put, List.getElem_toArray, List.getElem_cons_succ, List.getElem_cons_zero, List.setIfInBounds_toArray, List.set_cons_zero, List.set_cons_succ]
              refine wpAnyH_take (i := 11) (v := undef) rfl (by kernel_rfl) (by kernel_rfl) (by kernel_rfl) (fun _ _ _ h => h) (Or.inr ⟨by rfl, rfl⟩) (by assumption) ?_
              simp only [Act.put, List.getElem_toArray, List.getElem_cons_succ, List.getElem_cons_zero, List.setIfInBounds_toArray, List.set_cons_zero, List.set_cons_succ]
              refine wpAnyH_take (i := 12) (v := undef) rfl (by kernel_rfl) (by kernel_rfl) (by kernel_rfl) (fun _ _ _ h => h) (Or.inr ⟨by rfl, rfl⟩) (by assumption) ?_
              simp only [Act.put, List.getElem_toArray, List.getElem_cons_succ, List.getElem_cons_zero, List.setIfInBounds_toArray, List.set_cons_zero, List.set_cons_succ]
              refine wpAnyH_take (i := 13) (v := undef) rfl (by kernel_rfl) (by kernel_rfl) (by kernel_rfl) (fun _ _ _ h => h) (Or.inr ⟨by rfl, rfl⟩) (by assumption) ?_
              simp only [Act.put, List.getElem_toArray, List.getElem_cons_succ, List.getElem_cons_zero, List.setIfInBounds_toArray, List.set_cons_zero, List.set_cons_succ]
              refine wpAnyH_take (i := 14) (v := undef) rfl (by kernel_rfl) (by kernel_rfl) (by kernel_rfl) (fun _ _ _ h => h) (Or.inr ⟨by rfl, rfl⟩) (by assumption) ?_
              simp only [Act.put, List.getElem_toArray, List.getElem_cons_succ, List.getElem_cons_zero, List.setIfInBounds_toArray, List.set_cons_zero, List.set_cons_succ]
              refine wpAnyH_take (i := 15) (v := undef) rfl (by kernel_rfl) (by kernel_rfl) (by kernel_rfl) (fun _ _ _ h => h) (Or.inr ⟨by rfl, rfl⟩) (by assumption) ?_
              simp only [Act.put, List.getElem_toArray, List.getElem_cons_succ, List.getElem_cons_zero, List.setIfInBounds_toArray, List.set_cons_zero, List.set_cons_succ]
              refine wpAnyH_take (i := 16) (v := undef) rfl (by kernel_rfl) (by kernel_rfl) (by kernel_rfl) (fun _ _ _ h => h) (Or.inr ⟨by rfl, rfl⟩) (by assumption) ?_
              simp only [Act.put, List.getElem_toArray, List.getElem_cons_succ, List.getElem_cons_zero, List.setIfInBounds_toArray, List.set_cons_zero, List.set_cons_succ]
              refine wpAnyH_take (i := 17) (v := undef) rfl (by kernel_rfl) (by kernel_rfl) (by kernel_rfl) (fun _ _ _ h => h) (Or.inr ⟨by rfl, rfl⟩) (by assumption) ?_
              simp only [Act.put, List.getElem_toArray, List.getElem_cons_succ, List.getElem_cons_zero, List.setIfInBounds_toArray, List.set_cons_zero, List.set_cons_succ]
              refine wpAnyH_take (i := 18) (v := undef) rfl (by kernel_rfl) (by kernel_rfl) (by kernel_rfl) (fun _ _ _ h => h) (Or.inr ⟨by rfl, rfl⟩) (by assumption) ?_
              simp only [Act.put, List.getElem_toArray, List.getElem_cons_succ, List.getElem_cons_zero, List.setIfInBounds_toArray, List.set_cons_zero, List.set_cons_succ]
              refine wpAnyH_take (i := 19) (v := ?vb10) rfl (by kernel_rfl) (by kernel_rfl) (by kernel_rfl) (fun _ _ _ h => h) (Or.inl ⟨by rfl, ?hyb10⟩) (by assumption) ?restb10
              case hyb10 => (intro w' hSw; go_split_ands; go_simp; try with_reducible rfl)
              simp only [Act.put, List.getElem_toArray, List.getElem_cons_succ, List.getElem_cons_zero, List.setIfInBounds_toArray, List.set_cons_zero, List.set_cons_succ]
              refine wpAnyH_take (i := 20) (v := ?vb11) rfl (by kernel_rfl) (by kernel_rfl) (by kernel_rfl) (fun _ _ _ h => h) (Or.inl ⟨by rfl, ?hyb11⟩) (by assumption) ?restb11
              case hyb11 => (intro w' hSw; go_split_ands; go_simp; try with_reducible rfl)
              simp only [Act.put, List.getElem_toArray, List.getElem_cons_succ, List.getElem_cons_zero, List.setIfInBounds_toArray, List.set_cons_zero, List.set_cons_succ]
              refine wpAnyH_done (by kernel_rfl) ?_ _
              go_wp2_with fail
              go_roundw
              case rel =>
                exact ⟨0 + 1, HLT.out, by go_num, (outA (by assumption)).1, (outA (by assumption)).2, HX.out⟩
              case measure => simp [intOf]; have := HLT.out; omega
            · obtain ⟨j, rfl⟩ : ∃ j, m = j + 1 := ⟨m - 1, by omega⟩
              have hjn : j < n := by have := HLT.out; omega
              have hjn2 : (j : Int) < (n : Int) := by omega
              obtain ⟨hok, r0, r1, r2, r3, r4⟩ := HC5.out j hjn
              have z : ∀ (W : World), Below wr.heap.size wr W → ∀ i, W.cell? ⟨b, i, none⟩ = w.cell? ⟨b, i, none⟩ := fun W hW i => (hW.cell (p := ⟨b, i, none⟩) hbw).trans (HZ.out i)
              rw [← z _ HO.out] at r0 r1 r2 r3 r4
              have K30 := Lib.hid (K30.out j rfl hok)
              have HLTE := Lib.hid (HLTE.out j rfl)
              rw [Nat.add_sub_cancel] at HST
              have hge := cmp_ge (f j) x
              have hj1 : ((j + 1 : Nat) : Int) - 1 = (j : Int) := by omega
              have hjw : IntKind.i64.wrap (((j + 1 : Nat) : Int) - 1) = (j : Int) := by rw [hj1, IntKind.wrap_i64]; omega
              have hjw2 : IntKind.i64.wrap (j : Int) = (j : Int) := by rw [IntKind.wrap_i64]; omega
              have hj2 : decide ((0 : Int) < ((j + 1 : Nat) : Int)) = true := by simp
              obtain ⟨y, hy⟩ : ∃ y, f j = y := ⟨_, rfl⟩
              rw [hy] at r0 r1 r2 r3 r4 K30 HLTE HST hge
              obtain ⟨b2, hb2⟩ : ∃ q, ltE y x = q := ⟨_, rfl⟩
              rw [hb2] at HLTE HST hge
              obtain ⟨q, hq⟩ : ∃ q, cmpE y x = q := ⟨_, rfl⟩
              rw [hq] at K30 hge
              unfold Ed.v at K30
              clear hy hb2 hq z hok hpos HO HC5 HZ
              have HI := Lib.hid (And.intro e0 (And.intro e1 (And.intro d0 (And.intro d1 (And.intro d2 (And.intro d3 (And.intro d4 (And.intro hps2 (And.intro hps3 (And.intro hT (And.intro hbd (And.intro r0 (And.intro r1 (And.intro r2 (And.intro r3 r4)))))))))))))))
              clear e0 e1 d0 d1 d2 d3 d4 hps2 hps3 hT hbd r0 r1 r2 r3 r4
              generalize (wr.alloc (.cells #[.int .u8 (x.k : Int), .int .i64 x.fr, .int .i64 x.dt, .string x.nm, .int .u32 (x.wh : Int)] 42)) = W1 at *
              generalize wr.heap.size = p at *
              cases b2
              · have HX := Lib.hid (HLTE.out rfl)
                go_region_held3 (fun W => W.cell? ⟨w.heap.size, 0, none⟩ = some (.slice A nc cc) ∧ W.cell? ⟨w.heap.size, 1, none⟩ = some (.slice (some ⟨b, o, none⟩) n c) ∧ W.cell? ⟨p, 0, none⟩ = some (.int .u8 (x.k : Int)) ∧ W.cell? ⟨p, 1, none⟩ = some (.int .i64 x.fr) ∧ W.cell? ⟨p, 2, none⟩ = some (.int .i64 x.dt) ∧ W.cell? ⟨p, 3, none⟩ = some (.string x.nm) ∧ W.cell? ⟨p, 4, none⟩ = some (.int .u32 (x.wh : Int)) ∧ w.heap.size < W.heap.size ∧ p < W.heap.size ∧ Bel w.heap.size w W ∧ b < W.heap.size ∧ W.cell? ⟨b, o + j * 5, none⟩ = some (.int .u8 (y.k : Int)) ∧ W.cell? ⟨b, o + j * 5 + 1, none⟩ = some (.int .i64 y.fr) ∧ W.cell? ⟨b, o + j * 5 + 2, none⟩ = some (.int .i64 y.dt) ∧ W.cell? ⟨b, o + j * 5 + 3, none⟩ = some (.string y.nm) ∧ W.cell? ⟨b, o + j * 5 + 4, none⟩ = some (.int .u32 (y.wh : Int)))
                  (first | assumption | exact HI.out | (with_reducible exact keepB (by assumption) (by assumption)))
                  (first | (go_at_call 29; (with_reducible refine (K29.out _).mono ?_); rintro _ w9 ⟨rfl, hb9⟩) | (go_at_call 30; (with_reducible refine (K30.out _).mono ?_); rintro _ w9 ⟨rfl, hb9⟩))
                go_wp2_with fail
                go_ret
                exact ⟨by rw [HX.out]; rfl, (outB (by assumption)).1⟩
              · have HX := Lib.hid (HST.out rfl (fun _ => rfl))
                go_region_held3 (fun W => W.cell? ⟨w.heap.size, 0, none⟩ = some (.slice A nc cc) ∧ W.cell? ⟨w.heap.size, 1, none⟩ = some (.slice (some ⟨b, o, none⟩) n c) ∧ W.cell? ⟨p, 0, none⟩ = some (.int .u8 (x.k : Int)) ∧ W.cell? ⟨p, 1, none⟩ = some (.int .i64 x.fr) ∧ W.cell? ⟨p, 2, none⟩ = some (.int .i64 x.dt) ∧ W.cell? ⟨p, 3, none⟩ = some (.string x.nm) ∧ W.cell? ⟨p, 4, none⟩ = some (.int .u32 (x.wh : Int)) ∧ w.heap.size < W.heap.size ∧ p < W.heap.size ∧ Bel w.heap.size w W ∧ b < W.heap.size ∧ W.cell? ⟨b, o + j * 5, none⟩ = some (.int .u8 (y.k : Int)) ∧ W.cell? ⟨b, o + j * 5 + 1, none⟩ = some (.int .i64 y.fr) ∧ W.cell? ⟨b, o + j * 5 + 2, none⟩ = some (.int .i64 y.dt) ∧ W.cell? ⟨b, o + j * 5 + 3, none⟩ = some (.string y.nm) ∧ W.cell? ⟨b, o + j * 5 + 4, none⟩ = some (.int .u32 (y.wh : Int)))
                  (first | assumption | exact HI.out | (with_reducible exact keepB (by assumption) (by assumption)))
                  (first | (go_at_call 29; (with_reducible refine (K29.out _).mono ?_); rintro _ w9 ⟨rfl, hb9⟩) | (go_at_call 30; (with_reducible refine (K30.out _).mono ?_); rintro _ w9 ⟨rfl, hb9⟩))
                go_wp2_with fail
                go_roundw
                case rel => exact ⟨j + 1 + 1, HLT.out, by go_num, (outB (by assumption)).1, (outB (by assumption)).2, HX.out⟩
                case measure => simp [intOf]; have := HLT.out; omega
        · have HW := Lib.hid (grB_yes (n := n) (f := f) ⟨HC.out, fun k hk => HIN2.out k (by omega)⟩)
          clear hm
          go_wp2_with fail
          go_ret
          exact ⟨by rw [HW.out]; rfl, HBL2.out⟩
end Go.Proofs.YtblfnjdbihhglaaGreatDoor
