import Derived.Test.YtblfnjdbihhglaaGreatDoorHz
namespace Go.Proofs.YtblfnjdbihhglaaGreatDoor
open Go.ChangeShapes Go.WideShapes Go.ChangeAt Go.RowKit Go.MapKept Go.ChangeMaps
open Li (Ss)
set_option linter.unusedVariables false
set_option linter.unusedSimpArgs false
theorem keepC {w W W' : World} {h b i0 i1 i2 i3 i4 : Nat} {a0 a1 c0 c1 c2 c3 c4 : Value} (H : W.cell? ⟨h, 0, none⟩ = some a0 ∧ W.cell? ⟨h, 1, none⟩ = some a1 ∧ W.cell? ⟨b, i0, none⟩ = some c0 ∧ W.cell? ⟨b, i1, none⟩ = some c1 ∧ W.cell? ⟨b, i2, none⟩ = some c2 ∧ W.cell? ⟨b, i3, none⟩ = some c3 ∧ W.cell? ⟨b, i4, none⟩ = some c4 ∧ h < W.heap.size ∧ b < W.heap.size ∧ Bel h w W) (hb : Below W.heap.size W W') : W'.cell? ⟨h, 0, none⟩ = some a0 ∧ W'.cell? ⟨h, 1, none⟩ = some a1 ∧ W'.cell? ⟨b, i0, none⟩ = some c0 ∧ W'.cell? ⟨b, i1, none⟩ = some c1 ∧ W'.cell? ⟨b, i2, none⟩ = some c2 ∧ W'.cell? ⟨b, i3, none⟩ = some c3 ∧ W'.cell? ⟨b, i4, none⟩ = some c4 ∧ h < W'.heap.size ∧ b < W'.heap.size ∧ Bel h w W' := by
  obtain ⟨h0, h1, g0, g1, g2, g3, g4, hl, pl, hT⟩ := H
  exact ⟨kcell h0 hl hb, kcell h1 hl hb, kcell g0 pl hb, kcell g1 pl hb, kcell g2 pl hb, kcell g3 pl hb, kcell g4 pl hb, ksize hl hb, ksize pl hb, kT hT hl hb⟩
theorem keepD {w W W' : World} {h b i0 i1 i2 i3 i4 j0 j1 j2 j3 j4 : Nat} {a0 a1 c0 c1 c2 c3 c4 d0 d1 d2 d3 d4 : Value} (H : W.cell? ⟨h, 0, none⟩ = some a0 ∧ W.cell? ⟨h, 1, none⟩ = some a1 ∧ W.cell? ⟨b, i0, none⟩ = some c0 ∧ W.cell? ⟨b, i1, none⟩ = some c1 ∧ W.cell? ⟨b, i2, none⟩ = some c2 ∧ W.cell? ⟨b, i3, none⟩ = some c3 ∧ W.cell? ⟨b, i4, none⟩ = some c4 ∧ h < W.heap.size ∧ b < W.heap.size ∧ Bel h w W ∧ W.cell? ⟨b, j0, none⟩ = some d0 ∧ W.cell? ⟨b, j1, none⟩ = some d1 ∧ W.cell? ⟨b, j2, none⟩ = some d2 ∧ W.cell? ⟨b, j3, none⟩ = some d3 ∧ W.cell? ⟨b, j4, none⟩ = some d4) (hb : Below W.heap.size W W') : W'.cell? ⟨h, 0, none⟩ = some a0 ∧ W'.cell? ⟨h, 1, none⟩ = some a1 ∧ W'.cell? ⟨b, i0, none⟩ = some c0 ∧ W'.cell? ⟨b, i1, none⟩ = some c1 ∧ W'.cell? ⟨b, i2, none⟩ = some c2 ∧ W'.cell? ⟨b, i3, none⟩ = some c3 ∧ W'.cell? ⟨b, i4, none⟩ = some c4 ∧ h < W'.heap.size ∧ b < W'.heap.size ∧ Bel h w W' ∧ W'.cell? ⟨b, j0, none⟩ = some d0 ∧ W'.cell? ⟨b, j1, none⟩ = some d1 ∧ W'.cell? ⟨b, j2, none⟩ = some d2 ∧ W'.cell? ⟨b, j3, none⟩ = some d3 ∧ W'.cell? ⟨b, j4, none⟩ = some d4 := by
  obtain ⟨h0, h1, g0, g1, g2, g3, g4, hl, bl, hT, e0, e1, e2, e3, e4⟩ := H
  exact ⟨kcell h0 hl hb, kcell h1 hl hb, kcell g0 bl hb, kcell g1 bl hb, kcell g2 bl hb, kcell g3 bl hb, kcell g4 bl hb, ksize hl hb, ksize bl hb, kT hT hl hb, kcell e0 bl hb, kcell e1 bl hb, kcell e2 bl hb, kcell e3 bl hb, kcell e4 bl hb⟩
theorem outC {w W : World} {h b i0 i1 i2 i3 i4 : Nat} {a0 a1 c0 c1 c2 c3 c4 : Value} (H : W.cell? ⟨h, 0, none⟩ = some a0 ∧ W.cell? ⟨h, 1, none⟩ = some a1 ∧ W.cell? ⟨b, i0, none⟩ = some c0 ∧ W.cell? ⟨b, i1, none⟩ = some c1 ∧ W.cell? ⟨b, i2, none⟩ = some c2 ∧ W.cell? ⟨b, i3, none⟩ = some c3 ∧ W.cell? ⟨b, i4, none⟩ = some c4 ∧ h < W.heap.size ∧ b < W.heap.size ∧ Bel h w W) : Below h w W ∧ W.cell? ⟨h, 0, none⟩ = some a0 ∧ W.cell? ⟨h, 1, none⟩ = some a1 ∧ h < W.heap.size := ⟨H.2.2.2.2.2.2.2.2.2, H.1, H.2.1, H.2.2.2.2.2.2.2.1⟩
theorem outD {w W : World} {h b i0 i1 i2 i3 i4 j0 j1 j2 j3 j4 : Nat} {a0 a1 c0 c1 c2 c3 c4 d0 d1 d2 d3 d4 : Value} (H : W.cell? ⟨h, 0, none⟩ = some a0 ∧ W.cell? ⟨h, 1, none⟩ = some a1 ∧ W.cell? ⟨b, i0, none⟩ = some c0 ∧ W.cell? ⟨b, i1, none⟩ = some c1 ∧ W.cell? ⟨b, i2, none⟩ = some c2 ∧ W.cell? ⟨b, i3, none⟩ = some c3 ∧ W.cell? ⟨b, i4, none⟩ = some c4 ∧ h < W.heap.size ∧ b < W.heap.size ∧ Bel h w W ∧ W.cell? ⟨b, j0, none⟩ = some d0 ∧ W.cell? ⟨b, j1, none⟩ = some d1 ∧ W.cell? ⟨b, j2, none⟩ = some d2 ∧ W.cell? ⟨b, j3, none⟩ = some d3 ∧ W.cell? ⟨b, j4, none⟩ = some d4) : Below h w W ∧ W.cell? ⟨h, 0, none⟩ = some a0 ∧ W.cell? ⟨h, 1, none⟩ = some a1 ∧ h < W.heap.size := ⟨H.2.2.2.2.2.2.2.2.2.1, H.1, H.2.1, H.2.2.2.2.2.2.2.1⟩
theorem wrapN (k n : Nat) (hk : k < n) (hn : n ≤ 9223372036854775807) : IntKind.i64.wrap (k : Int) = (k : Int) := by rw [IntKind.wrap_i64]; omega
def R17 (w : World) (A : Option Addr) (nc cc : Nat) (B : Option Addr) (n c : Nat) (g : Nat → ByteArray) (i : Value) (wr : World) : Prop :=
  ∃ k : Nat, k ≤ nc ∧ i = .int .i64 (k : Int) ∧ Below w.heap.size w wr ∧ Bx wr w.heap.size A nc cc B n c ∧ ∀ a, a < k → nameB (g a) = true ∧ ∀ j, j < a → g a ≠ g j
def R17b (w : World) (A : Option Addr) (nc cc : Nat) (B : Option Addr) (n c : Nat) (g : Nat → ByteArray) (k : Nat) (i : Value) (wr : World) : Prop :=
  ∃ m : Nat, m ≤ k ∧ i = .int .i64 (m : Int) ∧ Below w.heap.size w wr ∧ Bx wr w.heap.size A nc cc B n c ∧ ∀ j, j < m → g k ≠ g j
set_option maxHeartbeats 8000000 in
theorem c17 (A : Option Addr) (nc cc : Nat) (B : Option Addr) (n c : Nat) (g : Nat → ByteArray) (f : Nat → Ed) (w : World) (hA : Ss w A nc g) (hB : Es w B n f) (hnc : nc ≤ 9223372036854775807) (hn : n ≤ 9223372036854775807) :
    Calls Tryz.prog 17 #[.agg #[.slice A nc cc, .slice B n c]] w fun e w' => e = .returned (.bool (grB nc g n f)) ∧ Below w.heap.size w w' := by
  have HA := Lib.hid hA
  have HB := Lib.hid hB
  clear hA hB
  go_enter Tryz.func17, Tryz.ntmps17
  go_wp2_with fail
  go_loopw [3] (fun i wr => R17 w A nc cc B n c g i wr) (fun i _ => nc - (intOf i).toNat)
  case atStart =>
    refine ⟨0, by omega, rfl, (Below.refl _ _).alloc (Nat.le_refl _) _, ?_, fun a ha => absurd ha (by omega)⟩
    refine ⟨?_, ?_, by simp⟩ <;> simp [World.cell?_alloc_at]
  case round =>
    obtain ⟨k, hk, rfl, hb, hbx, hin⟩ := hrel
    have HBL := Lib.hid hb
    have HBX := Lib.hid hbx
    have HIN := Lib.hid hin
    obtain ⟨x0, x1, xl⟩ := hbx
    clear hb hin
    by_cases hlt : k < nc
    · obtain ⟨b, o, rfl, hbl, hc⟩ := HA.out (by omega)
      obtain ⟨q0, hs⟩ := hc k hlt
      have HCA := Lib.hid hc
      rw [← HBL.out.cell (p := ⟨b, o + k, none⟩) hbl] at q0
      have HQ0 := Lib.hid (hc k hlt).1
      have HNN : Hid (nameB (g k) = false → grB nc g n f = false) := Lib.hid fun h => grB_no (fun hh => by have := (hh.1 k hlt).1; rw [h] at this; cases this)
      have HNE : Hid (∀ j, j < k → g k = g j → grB nc g n f = false) := Lib.hid fun j hj h => grB_no (fun hh => (hh.1 k hlt).2 j hj h)
      have HST : Hid (nameB (g k) = true → (∀ j, j < k → g k ≠ g j) → ∀ a, a < k + 1 → nameB (g a) = true ∧ ∀ j, j < a → g a ≠ g j) := Lib.hid fun h1 h2 a ha => by
        by_cases e : a = k
        · subst e
          exact ⟨h1, h2⟩
        · exact HIN.out a (by omega)
      have K22 := Lib.hid (c22 (g k) hs)
      have HLT := Lib.hid hlt
      have hkw := wrapN k nc hlt hnc
      clear hc hk
      obtain ⟨s, hgs⟩ : ∃ s, g k = s := ⟨_, rfl⟩
      have HGS := Lib.hid hgs
      rw [hgs] at q0 hs HQ0 HNN HNE HST K22
      clear hgs
      cases hy : nameB s
      · have HX := Lib.hid (HNN.out hy)
        have HY := Lib.hid hy
        clear hy
        go_wp2_with fail
        refine (K22.out _).mono ?_
        rintro _ _ ⟨rfl, rfl⟩
        rw [HY.out]
        go_wp2_with fail
        go_ret
        exact ⟨by rw [HX.out]; rfl, HBL.out⟩
      · have HX := Lib.hid (HST.out hy)
        have HY := Lib.hid hy
        clear hy
        go_wp2_with fail
        refine (K22.out _).mono ?_
        rintro _ _ ⟨rfl, rfl⟩
        rw [HY.out]
        go_wp2_with fail
        clear x0 x1 xl q0
        go_loopw [4] (fun i wz => R17b w (some ⟨b, o, none⟩) nc cc B n c g k i wz) (fun i _ => k - (intOf i).toNat)
        case atStart => exact ⟨0, by omega, rfl, HBL.out, HBX.out, fun j hj => absurd hj (by omega)⟩
        case round =>
          obtain ⟨m, hm, rfl, hb2, hbx2, hin2⟩ := hrel
          have HBL2 := Lib.hid hb2
          have HBX2 := Lib.hid hbx2
          have HIN2 := Lib.hid hin2
          clear hb2 hin2
          by_cases hlt2 : m < k
          · obtain ⟨v0, vs⟩ := HCA.out m (by omega)
            have hmw := wrapN m nc (by omega) hnc
            have hmn : (m : Int) < (nc : Int) := by omega
            have hkn : (k : Int) < (nc : Int) := by omega
            have HM : Hid (m + 1 ≤ k) := Lib.hid hlt2
            have HS2 : Hid (s ≠ g m → ∀ j, j < m + 1 → g k ≠ g j) := Lib.hid fun h j hj => by
              by_cases e : j = m
              · rw [e, HGS.out]; exact h
              · exact HIN2.out j (by omega)
            have HN2 : Hid (s = g m → grB nc g n f = false) := Lib.hid fun h => HNE.out m hlt2 h
            obtain ⟨t, hgt⟩ : ∃ t, g m = t := ⟨_, rfl⟩
            rw [hgt] at v0 vs HS2 HN2
            have HV : Hid (∀ W : World, Below w.heap.size w W → W.cell? ⟨b, o + k, none⟩ = some (.string s) ∧ W.cell? ⟨b, o + m, none⟩ = some (.string t)) := Lib.hid (fun W hW => by
              rw [hW.cell (p := ⟨b, o + k, none⟩) hbl, hW.cell (p := ⟨b, o + m, none⟩) hbl]; exact ⟨HQ0.out, v0⟩)
            obtain ⟨x0, x1, xl⟩ := hbx2
            have HI : Hid ((fun W => W.cell? ⟨w.heap.size, 0, none⟩ = some (.slice (some ⟨b, o, none⟩) nc cc) ∧ W.cell? ⟨w.heap.size, 1, none⟩ = some (.slice B n c) ∧ W.cell? ⟨b, o + k, none⟩ = some (.string s) ∧ W.cell? ⟨b, o + m, none⟩ = some (.string t) ∧ w.heap.size < W.heap.size ∧ Bel w.heap.size w W) wr.drew) := Lib.hid ⟨x0, x1, (HV.out _ HBL2.out.drew).1, (HV.out _ HBL2.out.drew).2, xl, HBL2.out.drew⟩
            have hst := neq_str s t
            clear hgt v0 x0 x1 xl hm
            by_cases he : s = t
            · have HX2 := Lib.hid (HN2.out he)
              rw [decide_eq_true he] at hst
              clear he
              go_upto_region 9 with fail
              go_region_held3 (fun W => W.cell? ⟨w.heap.size, 0, none⟩ = some (.slice (some ⟨b, o, none⟩) nc cc) ∧ W.cell? ⟨w.heap.size, 1, none⟩ = some (.slice B n c) ∧ W.cell? ⟨b, o + k, none⟩ = some (.string s) ∧ W.cell? ⟨b, o + m, none⟩ = some (.string t) ∧ w.heap.size < W.heap.size ∧ Bel w.heap.size w W)
                (first | exact HI.out | assumption)
                (fail)
              go_wp2_with fail
              go_ret
              exact ⟨by rw [HX2.out]; rfl, HBL2.out.drew⟩
            · have HX2 := Lib.hid (HS2.out he)
              rw [decide_eq_false he] at hst
              clear he
              go_upto_region 9 with fail
              go_region_held3 (fun W => W.cell? ⟨w.heap.size, 0, none⟩ = some (.slice (some ⟨b, o, none⟩) nc cc) ∧ W.cell? ⟨w.heap.size, 1, none⟩ = some (.slice B n c) ∧ W.cell? ⟨b, o + k, none⟩ = some (.string s) ∧ W.cell? ⟨b, o + m, none⟩ = some (.string t) ∧ w.heap.size < W.heap.size ∧ Bel w.heap.size w W)
                (first | exact HI.out | assumption)
                (fail)
              go_wp2_with fail
              go_roundw
              case rel => exact ⟨m + 1, HM.out, by go_num, HBL2.out.drew, ⟨HI.out.1, HI.out.2.1, HI.out.2.2.2.2.1⟩, HX2.out⟩
              case measure => simp [intOf]; have := HM.out; omega
          · have HX2 := Lib.hid (HX.out (fun j hj => by have := HIN2.out j (by omega); rwa [HGS.out] at this))
            clear hm hbx2
            go_wp2_with fail
            go_roundw
            case rel => exact ⟨k + 1, HLT.out, by go_num, HBL2.out, HBX2.out, HX2.out⟩
            case measure => simp [intOf]; have := HLT.out; omega
    · have HC : Hid (∀ i, i < nc → nameB (g i) = true ∧ ∀ j, j < i → g i ≠ g j) := Lib.hid (fun i hi => HIN.out i (by omega))
      clear hk
      go_wp2_with fail
      clear x0 x1 xl hlt
      go_loopw [5] (fun i wr => R14b w A nc cc B n c f i wr) (fun i _ => n - (intOf i).toNat)
      case atStart => exact ⟨0, by omega, rfl, HBL.out, HBX.out, fun j hj => absurd hj (by omega)⟩
      case round =>
        obtain ⟨m, hm, rfl, hb2, hbx2, hin2⟩ := hrel
        have HBL2 := Lib.hid hb2
        have HBX2 := Lib.hid hbx2
        have HIN2 := Lib.hid hin2
        obtain ⟨y0, y1, yl⟩ := hbx2
        clear hb2 hin2
        by_cases hlt : m < n
        · obtain ⟨b, o, rfl, hbl, hc⟩ := HB.out (by omega)
          obtain ⟨hok, q0, q1, q2, q3, q4⟩ := hc m hlt
          have z : ∀ (W : World), Below w.heap.size w W → ∀ j, W.cell? ⟨b, j, none⟩ = w.cell? ⟨b, j, none⟩ := fun W hW j => hW.cell (p := ⟨b, j, none⟩) hbl
          have HD : Hid (Below w.heap.size w wr.drew) := Lib.hid HBL2.out.drew
          rw [← z _ HD.out] at q0 q1 q2 q3 q4
          have HC5 := Lib.hid hc
          have HZ := Lib.hid z
          have K25 : Hid (∀ W, Calls Tryz.prog 25 #[.agg #[.int .u8 ((f m).k : Int), .int .i64 (f m).fr, .int .i64 (f m).dt, .string (f m).nm, .int .u32 ((f m).wh : Int)], .int .i64 (nc : Int)] W fun e w' => e = .returned (.bool (edB (f m) nc)) ∧ Below W.heap.size W w') := Lib.hid (fun W => c25 (f m) hok nc W)
          have HLT := Lib.hid hlt
          have hmw := wrapN m n hlt hn
          have hmn : (m : Int) < (n : Int) := by omega
          have HNE : Hid (edB (f m) nc = false → grB nc g n f = false) := Lib.hid (fun h => edB_not hlt h)
          have HST : Hid (edB (f m) nc = true → (0 < m → ltE (f (m - 1)) (f m) = true) → ∀ j, j < m + 1 → edB (f j) nc = true ∧ (0 < j → ltE (f (j - 1)) (f j) = true)) := Lib.hid (fun h1 h2 j hj => by
            by_cases e : j = m
            · rw [e]; exact ⟨h1, h2⟩
            · exact HIN2.out j (by omega))
          have HLTE : Hid (∀ j, m = j + 1 → ltE (f j) (f m) = false → grB nc g n f = false) := Lib.hid (fun j e h => by subst e; exact ltE_not hlt h)
          obtain ⟨x, hx⟩ : ∃ x, f m = x := ⟨_, rfl⟩
          rw [hx] at q0 q1 q2 q3 q4 K25 HNE HST HLTE
          have K26 : Hid (∀ j, m = j + 1 → (f j).ok → ∀ W, Calls Tryz.prog 26 #[(f j).v, x.v] W fun e w' => e = .returned (.bool (ltE (f j) x)) ∧ Below W.heap.size W w') := Lib.hid (fun j e hj W => c26 (f j) x hj (by rw [← hx]; exact hok) W)
          obtain ⟨b1, hb1⟩ : ∃ q, edB x nc = q := ⟨_, rfl⟩
          rw [hb1] at K25 HNE HST
          have hbw : b < wr.heap.size := Nat.lt_of_lt_of_le hbl HBL2.out.size
          have HI : Hid ((fun W => W.cell? ⟨w.heap.size, 0, none⟩ = some (.slice A nc cc) ∧ W.cell? ⟨w.heap.size, 1, none⟩ = some (.slice (some ⟨b, o, none⟩) n c) ∧ W.cell? ⟨b, o + m * 5, none⟩ = some (.int .u8 (x.k : Int)) ∧ W.cell? ⟨b, o + m * 5 + 1, none⟩ = some (.int .i64 x.fr) ∧ W.cell? ⟨b, o + m * 5 + 2, none⟩ = some (.int .i64 x.dt) ∧ W.cell? ⟨b, o + m * 5 + 3, none⟩ = some (.string x.nm) ∧ W.cell? ⟨b, o + m * 5 + 4, none⟩ = some (.int .u32 (x.wh : Int)) ∧ w.heap.size < W.heap.size ∧ b < W.heap.size ∧ Bel w.heap.size w W) wr.drew) := Lib.hid ⟨y0, y1, q0, q1, q2, q3, q4, yl, hbw, HD.out⟩
          clear hc z hok hm hb1 hx
          cases b1
          · have HX := Lib.hid (HNE.out rfl)
            go_upto_region 14 with fail
            clear q0 q1 q2 q3 q4 y0 y1 yl
            refine wp_region_held_drew (S := fun W => W.cell? ⟨w.heap.size, 0, none⟩ = some (.slice A nc cc) ∧ W.cell? ⟨w.heap.size, 1, none⟩ = some (.slice (some ⟨b, o, none⟩) n c) ∧ W.cell? ⟨b, o + m * 5, none⟩ = some (.int .u8 (x.k : Int)) ∧ W.cell? ⟨b, o + m * 5 + 1, none⟩ = some (.int .i64 x.fr) ∧ W.cell? ⟨b, o + m * 5 + 2, none⟩ = some (.int .i64 x.dt) ∧ W.cell? ⟨b, o + m * 5 + 3, none⟩ = some (.string x.nm) ∧ W.cell? ⟨b, o + m * 5 + 4, none⟩ = some (.int .u32 (x.wh : Int)) ∧ w.heap.size < W.heap.size ∧ b < W.heap.size ∧ Bel w.heap.size w W) (by kernel_rfl) ?_ (fun hHeld => ?_)
            · exact HI.out
            refine wpAnyH_take (i := 0) (v := ?va1) rfl (by kernel_rfl) (by kernel_rfl) (by kernel_rfl) (fun _ _ _ h => h) (Or.inl ⟨by rfl, ?hya1⟩) (by assumption) ?resta1
            case hya1 => (intro w' hSw; go_split_ands; go_simp; try with_reducible rfl)
            simp only [Act.put, List.getElem_toArray, List.getElem_cons_zero, List.setIfInBounds_toArray, List.set_cons_zero, List.set_cons_succ]
            refine wpAnyH_take (i := 1) (v := ?va2) rfl (by kernel_rfl) (by kernel_rfl) (by kernel_rfl) (fun _ _ _ h => h) (Or.inl ⟨by rfl, ?hya2⟩) (by assumption) ?resta2
            case hya2 => (intro w' hSw; go_split_ands; go_simp; try with_reducible rfl)
            simp only [Act.put, List.getElem_toArray, List.getElem_cons_succ, List.getElem_cons_zero, List.setIfInBounds_toArray, List.set_cons_zero, List.set_cons_succ]
            refine wpAnyH_take (i := 2) (v := ?va3) rfl (by kernel_rfl) (by kernel_rfl) (by kernel_rfl) (fun _ _ _ h => h) (Or.inl ⟨by rfl, ?hya3⟩) (by assumption) ?resta3
            case hya3 => (intro w' hSw; go_split_ands; go_simp; try with_reducible rfl)
            simp only [Act.put, List.getElem_toArray, List.getElem_cons_succ, List.getElem_cons_zero, List.setIfInBounds_toArray, List.set_cons_zero, List.set_cons_succ]
            refine wpAnyH_take (i := 3) (v := ?va4) rfl (by kernel_rfl) (by kernel_rfl) (by kernel_rfl) (fun _ _ _ h => h) (Or.inl ⟨by rfl, ?hya4⟩) (by assumption) ?resta4
            case hya4 => (intro w' hSw; go_split_ands; go_simp; try with_reducible rfl)
            simp only [Act.put, List.getElem_toArray, List.getElem_cons_succ, List.getElem_cons_zero, List.setIfInBounds_toArray, List.set_cons_zero, List.set_cons_succ]
            refine wpAnyH_take (i := 4) (v := ?va5) rfl (by kernel_rfl) (by kernel_rfl) (by kernel_rfl) (fun _ _ _ h => h) (Or.inl ⟨by rfl, ?hya5⟩) (by assumption) ?resta5
            case hya5 => (intro w' hSw; go_split_ands; go_simp; try with_reducible rfl)
            simp only [Act.put, List.getElem_toArray, List.getElem_cons_succ, List.getElem_cons_zero, List.setIfInBounds_toArray, List.set_cons_zero, List.set_cons_succ]
            refine wpAnyH_take (i := 5) (v := ?va6) rfl (by kernel_rfl) (by kernel_rfl) (by kernel_rfl) (fun _ _ _ h => h) (Or.inl ⟨by rfl, ?hya6⟩) (by assumption) ?resta6
            case hya6 => (intro w' hSw; go_split_ands; go_simp; try with_reducible rfl)
            simp only [Act.put, List.getElem_toArray, List.getElem_cons_succ, List.getElem_cons_zero, List.setIfInBounds_toArray, List.set_cons_zero, List.set_cons_succ]
            refine wpAnyH_take (i := 6) (v := ?va7) rfl (by kernel_rfl) (by kernel_rfl) (by kernel_rfl) (fun _ _ _ h => h) (Or.inl ⟨by rfl, ?hya7⟩) (by assumption) ?resta7
            case hya7 => (intro w' hSw; go_split_ands; go_simp; try with_reducible rfl)
            simp only [Act.put, List.getElem_toArray, List.getElem_cons_succ, List.getElem_cons_zero, List.setIfInBounds_toArray, List.set_cons_zero, List.set_cons_succ]
            refine wpAnyH_take (i := 7) (v := ?va8) rfl (by kernel_rfl) (by kernel_rfl) (by kernel_rfl) (fun _ _ _ h => h) (Or.inl ⟨by rfl, ?hya8⟩) (by assumption) ?resta8
            case hya8 => (intro w' hSw; go_split_ands; go_simp; try with_reducible rfl)
            simp only [Act.put, List.getElem_toArray, List.getElem_cons_succ, List.getElem_cons_zero, List.setIfInBounds_toArray, List.set_cons_zero, List.set_cons_succ]
            refine wpAnyH_ready (rs := [8]) (by kernel_rfl) (by simp) ?_
            refine AllReadyH.cons rfl (fun K hK => ?_) AllReadyH.nil
            go_simp
            go_at_call 25
            refine (K25.out _).mono ?_
            rintro _ wx ⟨rfl, hbx⟩
            go_wp2_with fail
            refine hK.out _ _ ?_ (fun hHeld => ?_)
            · exact keepC (by assumption) hbx
            clear hK K
            refine wpAnyH_take (i := 9) (v := ?va9) rfl (by kernel_rfl) (by kernel_rfl) (by kernel_rfl) (fun _ _ _ h => h) (Or.inl ⟨by rfl, ?hya9⟩) (by assumption) ?resta9
            case hya9 => (intro w' hSw; go_split_ands; go_simp; try with_reducible rfl)
            simp only [Act.put, List.getElem_toArray, List.getElem_cons_succ, List.getElem_cons_zero, List.setIfInBounds_toArray, List.set_cons_zero, List.set_cons_succ]
            refine wpAnyH_take (i := 10) (v := ?va10) rfl (by kernel_rfl) (by kernel_rfl) (by kernel_rfl) (fun _ _ _ h => h) (Or.inl ⟨by rfl, ?hya10⟩) (by assumption) ?resta10
            case hya10 => (intro w' hSw; go_split_ands; go_simp; try with_reducible rfl)
            simp only [Act.put, List.getElem_toArray, List.getElem_cons_succ, List.getElem_cons_zero, List.setIfInBounds_toArray, List.set_cons_zero, List.set_cons_succ]
            refine wpAnyH_take (i := 11) (v := undef) rfl (by kernel_rfl) (by kernel_rfl) (by kernel_rfl) (fun _ _ _ h => h) (Or.inr ⟨by rfl, rfl⟩) (by assumption) ?_
            simp only [Act.put, List.getElem_toArray, List.getElem_cons_succ, List.getElem_cons_zero, List.setIfInBounds_toArray, List.set_cons_zero, List.set_cons_succ]
            refine wpAnyH_take (i := 12) (v := undef) rfl (by kernel_rfl) (by kernel_rfl) (by kernel_rfl) (fun _ _ _ h => h) (Or.inr ⟨by rfl, rfl⟩) (by assumption) ?_
            simp only [Act.put, List.getElem_toArray, List.getElem_cons_succ, List.getElem_cons_zero, List.setIfInBounds_toArray, List.set_cons_zero, List.set_cons_succ]
            refine wpAnyH_take (i := 13) (v := undef) rfl (by kernel_rfl) (by kernel_rfl) (by kernel_rfl) (fun _ _ _ h => h) (Or.inr ⟨by rfl, rfl⟩) (by assumption) ?_
            simp only [Act.put, List.getElem_toArray, List.getElem_cons_succ, List.getElem_cons_zero, List.setIfInBounds_toArray, List.set_cons_zero, List.set_cons_succ]
            refine wpAnyH_take (i := 14) (v := undef) rfl (by kernel_rfl) (by kernel_rfl) (by kernel_rfl) (fun _ _ _ h => h) (Or.inr ⟨by rfl, rfl⟩) (by assumption) ?_
            simp only [Act.put, List.getElem_toArray, List.getElem_cons_succ, List.getElem_cons_zero, List.setIfInBounds_toArray, List.set_cons_zero, List.set_cons_succ]
            refine wpAnyH_take (i := 15) (v := undef) rfl (by kernel_rfl) (by kernel_rfl) (by kernel_rfl) (fun _ _ _ h => h) (Or.inr ⟨by rfl, rfl⟩) (by assumption) ?_
            simp only [Act.put, List.getElem_toArray, List.getElem_cons_succ, List.getElem_cons_zero, List.setIfInBounds_toArray, List.set_cons_zero, List.set_cons_succ]
            refine wpAnyH_take (i := 16) (v := undef) rfl (by kernel_rfl) (by kernel_rfl) (by kernel_rfl) (fun _ _ _ h => h) (Or.inr ⟨by rfl, rfl⟩) (by assumption) ?_
            simp only [Act.put, List.getElem_toArray, List.getElem_cons_succ, List.getElem_cons_zero, List.setIfInBounds_toArray, List.set_cons_zero, List.set_cons_succ]
            refine wpAnyH_take (i := 17) (v := undef) rfl (by kernel_rfl) (by kernel_rfl) (by kernel_rfl) (fun _ _ _ h => h) (Or.inr ⟨by rfl, rfl⟩) (by assumption) ?_
            simp only [Act.put, List.getElem_toArray, List.getElem_cons_succ, List.getElem_cons_zero, List.setIfInBounds_toArray, List.set_cons_zero, List.set_cons_succ]
            refine wpAnyH_take (i := 18) (v := undef) rfl (by kernel_rfl) (by kernel_rfl) (by kernel_rfl) (fun _ _ _ h => h) (Or.inr ⟨by rfl, rfl⟩) (by assumption) ?_
            simp only [Act.put, List.getElem_toArray, List.getElem_cons_succ, List.getElem_cons_zero, List.setIfInBounds_toArray, List.set_cons_zero, List.set_cons_succ]
            refine wpAnyH_take (i := 19) (v := undef) rfl (by kernel_rfl) (by kernel_rfl) (by kernel_rfl) (fun _ _ _ h => h) (Or.inr ⟨by rfl, rfl⟩) (by assumption) ?_
            simp only [Act.put, List.getElem_toArray, List.getElem_cons_succ, List.getElem_cons_zero, List.setIfInBounds_toArray, List.set_cons_zero, List.set_cons_succ]
            refine wpAnyH_take (i := 20) (v := undef) rfl (by kernel_rfl) (by kernel_rfl) (by kernel_rfl) (fun _ _ _ h => h) (Or.inr ⟨by rfl, rfl⟩) (by assumption) ?_
            simp only [Act.put, List.getElem_toArray, List.getElem_cons_succ, List.getElem_cons_zero, List.setIfInBounds_toArray, List.set_cons_zero, List.set_cons_succ]
            refine wpAnyH_take (i := 21) (v := undef) rfl (by kernel_rfl) (by kernel_rfl) (by kernel_rfl) (fun _ _ _ h => h) (Or.inr ⟨by rfl, rfl⟩) (by assumption) ?_
            simp only [Act.put, List.getElem_toArray, List.getElem_cons_succ, List.getElem_cons_zero, List.setIfInBounds_toArray, List.set_cons_zero, List.set_cons_succ]
            refine wpAnyH_take (i := 22) (v := undef) rfl (by kernel_rfl) (by kernel_rfl) (by kernel_rfl) (fun _ _ _ h => h) (Or.inr ⟨by rfl, rfl⟩) (by assumption) ?_
            simp only [Act.put, List.getElem_toArray, List.getElem_cons_succ, List.getElem_cons_zero, List.setIfInBounds_toArray, List.set_cons_zero, List.set_cons_succ]
            refine wpAnyH_take (i := 23) (v := undef) rfl (by kernel_rfl) (by kernel_rfl) (by kernel_rfl) (fun _ _ _ h => h) (Or.inr ⟨by rfl, rfl⟩) (by assumption) ?_
            simp only [Act.put, List.getElem_toArray, List.getElem_cons_succ, List.getElem_cons_zero, List.setIfInBounds_toArray, List.set_cons_zero, List.set_cons_succ]
            refine wpAnyH_take (i := 24) (v := undef) rfl (by kernel_rfl) (by kernel_rfl) (by kernel_rfl) (fun _ _ _ h => h) (Or.inr ⟨by rfl, rfl⟩) (by assumption) ?_
            simp only [Act.put, List.getElem_toArray, List.getElem_cons_succ, List.getElem_cons_zero, List.setIfInBounds_toArray, List.set_cons_zero, List.set_cons_succ]
            refine wpAnyH_take (i := 25) (v := undef) rfl (by kernel_rfl) (by kernel_rfl) (by kernel_rfl) (fun _ _ _ h => h) (Or.inr ⟨by rfl, rfl⟩) (by assumption) ?_
            simp only [Act.put, List.getElem_toArray, List.getElem_cons_succ, List.getElem_cons_zero, List.setIfInBounds_toArray, List.set_cons_zero, List.set_cons_succ]
            refine wpAnyH_take (i := 26) (v := undef) rfl (by kernel_rfl) (by kernel_rfl) (by kernel_rfl) (fun _ _ _ h => h) (Or.inr ⟨by rfl, rfl⟩) (by assumption) ?_
            simp only [Act.put, List.getElem_toArray, List.getElem_cons_succ, List.getElem_cons_zero, List.setIfInBounds_toArray, List.set_cons_zero, List.set_cons_succ]
            refine wpAnyH_take (i := 27) (v := undef) rfl (by kernel_rfl) (by kernel_rfl) (by kernel_rfl) (fun _ _ _ h => h) (Or.inr ⟨by rfl, rfl⟩) (by assumption) ?_
            simp only [Act.put, List.getElem_toArray, List.getElem_cons_succ, List.getElem_cons_zero, List.setIfInBounds_toArray, List.set_cons_zero, List.set_cons_succ]
            refine wpAnyH_take (i := 28) (v := ?va11) rfl (by kernel_rfl) (by kernel_rfl) (by kernel_rfl) (fun _ _ _ h => h) (Or.inl ⟨by rfl, ?hya11⟩) (by assumption) ?resta11
            case hya11 => (intro w' hSw; go_split_ands; go_simp; try with_reducible rfl)
            simp only [Act.put, List.getElem_toArray, List.getElem_cons_succ, List.getElem_cons_zero, List.setIfInBounds_toArray, List.set_cons_zero, List.set_cons_succ]
            refine wpAnyH_done (by kernel_rfl) ?_ _
            go_wp2_with fail
            go_ret
            exact ⟨by rw [HX.out]; rfl, (outC (by assumption)).1⟩
          · rcases Nat.eq_zero_or_pos m with h0 | hpos
            · have HX := Lib.hid (HST.out rfl (fun h => absurd h (by omega)))
              have h00 : decide ((0 : Int) < (m : Int)) = false := by simp; omega
              have h01 : decide (0 < m) = false := by simp; omega
              clear h0
              go_upto_region 14 with fail
              clear q0 q1 q2 q3 q4 y0 y1 yl
              refine wp_region_held_drew (S := fun W => W.cell? ⟨w.heap.size, 0, none⟩ = some (.slice A nc cc) ∧ W.cell? ⟨w.heap.size, 1, none⟩ = some (.slice (some ⟨b, o, none⟩) n c) ∧ W.cell? ⟨b, o + m * 5, none⟩ = some (.int .u8 (x.k : Int)) ∧ W.cell? ⟨b, o + m * 5 + 1, none⟩ = some (.int .i64 x.fr) ∧ W.cell? ⟨b, o + m * 5 + 2, none⟩ = some (.int .i64 x.dt) ∧ W.cell? ⟨b, o + m * 5 + 3, none⟩ = some (.string x.nm) ∧ W.cell? ⟨b, o + m * 5 + 4, none⟩ = some (.int .u32 (x.wh : Int)) ∧ w.heap.size < W.heap.size ∧ b < W.heap.size ∧ Bel w.heap.size w W) (by kernel_rfl) ?_ (fun hHeld => ?_)
              · exact HI.out
              refine wpAnyH_take (i := 0) (v := ?vb1) rfl (by kernel_rfl) (by kernel_rfl) (by kernel_rfl) (fun _ _ _ h => h) (Or.inl ⟨by rfl, ?hyb1⟩) (by assumption) ?restb1
              case hyb1 => (intro w' hSw; go_split_ands; go_simp; try with_reducible rfl)
              simp only [Act.put, List.getElem_toArray, List.getElem_cons_zero, List.setIfInBounds_toArray, List.set_cons_zero, List.set_cons_succ]
              refine wpAnyH_take (i := 1) (v := ?vb2) rfl (by kernel_rfl) (by kernel_rfl) (by kernel_rfl) (fun _ _ _ h => h) (Or.inl ⟨by rfl, ?hyb2⟩) (by assumption) ?restb2
              case hyb2 => (intro w' hSw; go_split_ands; go_simp; try with_reducible rfl)
              simp only [Act.put, List.getElem_toArray, List.getElem_cons_succ, List.getElem_cons_zero, List.setIfInBounds_toArray, List.set_cons_zero, List.set_cons_succ]
              refine wpAnyH_take (i := 2) (v := ?vb3) rfl (by kernel_rfl) (by kernel_rfl) (by kernel_rfl) (fun _ _ _ h => h) (Or.inl ⟨by rfl, ?hyb3⟩) (by assumption) ?restb3
              case hyb3 => (intro w' hSw; go_split_ands; go_simp; try with_reducible rfl)
              simp only [Act.put, List.getElem_toArray, List.getElem_cons_succ, List.getElem_cons_zero, List.setIfInBounds_toArray, List.set_cons_zero, List.set_cons_succ]
              refine wpAnyH_take (i := 3) (v := ?vb4) rfl (by kernel_rfl) (by kernel_rfl) (by kernel_rfl) (fun _ _ _ h => h) (Or.inl ⟨by rfl, ?hyb4⟩) (by assumption) ?restb4
              case hyb4 => (intro w' hSw; go_split_ands; go_simp; try with_reducible rfl)
              simp only [Act.put, List.getElem_toArray, List.getElem_cons_succ, List.getElem_cons_zero, List.setIfInBounds_toArray, List.set_cons_zero, List.set_cons_succ]
              refine wpAnyH_take (i := 4) (v := ?vb5) rfl (by kernel_rfl) (by kernel_rfl) (by kernel_rfl) (fun _ _ _ h => h) (Or.inl ⟨by rfl, ?hyb5⟩) (by assumption) ?restb5
              case hyb5 => (intro w' hSw; go_split_ands; go_simp; try with_reducible rfl)
              simp only [Act.put, List.getElem_toArray, List.getElem_cons_succ, List.getElem_cons_zero, List.setIfInBounds_toArray, List.set_cons_zero, List.set_cons_succ]
              refine wpAnyH_take (i := 5) (v := ?vb6) rfl (by kernel_rfl) (by kernel_rfl) (by kernel_rfl) (fun _ _ _ h => h) (Or.inl ⟨by rfl, ?hyb6⟩) (by assumption) ?restb6
              case hyb6 => (intro w' hSw; go_split_ands; go_simp; try with_reducible rfl)
              simp only [Act.put, List.getElem_toArray, List.getElem_cons_succ, List.getElem_cons_zero, List.setIfInBounds_toArray, List.set_cons_zero, List.set_cons_succ]
              refine wpAnyH_take (i := 6) (v := ?vb7) rfl (by kernel_rfl) (by kernel_rfl) (by kernel_rfl) (fun _ _ _ h => h) (Or.inl ⟨by rfl, ?hyb7⟩) (by assumption) ?restb7
              case hyb7 => (intro w' hSw; go_split_ands; go_simp; try with_reducible rfl)
              simp only [Act.put, List.getElem_toArray, List.getElem_cons_succ, List.getElem_cons_zero, List.setIfInBounds_toArray, List.set_cons_zero, List.set_cons_succ]
              refine wpAnyH_take (i := 7) (v := ?vb8) rfl (by kernel_rfl) (by kernel_rfl) (by kernel_rfl) (fun _ _ _ h => h) (Or.inl ⟨by rfl, ?hyb8⟩) (by assumption) ?restb8
              case hyb8 => (intro w' hSw; go_split_ands; go_simp; try with_reducible rfl)
              simp only [Act.put, List.getElem_toArray, List.getElem_cons_succ, List.getElem_cons_zero, List.setIfInBounds_toArray, List.set_cons_zero, List.set_cons_succ]
              refine wpAnyH_ready (rs := [8]) (by kernel_rfl) (by simp) ?_
              refine AllReadyH.cons rfl (fun K hK => ?_) AllReadyH.nil
              go_simp
              go_at_call 25
              refine (K25.out _).mono ?_
              rintro _ wx ⟨rfl, hbx⟩
              go_wp2_with fail
              refine hK.out _ _ ?_ (fun hHeld => ?_)
              · exact keepC (by assumption) hbx
              clear hK K
              refine wpAnyH_take (i := 9) (v := ?vb9) rfl (by kernel_rfl) (by kernel_rfl) (by kernel_rfl) (fun _ _ _ h => h) (Or.inl ⟨by rfl, ?hyb9⟩) (by assumption) ?restb9
              case hyb9 => (intro w' hSw; go_split_ands; go_simp; try with_reducible rfl)
              simp only [Act.put, List.getElem_toArray, List.getElem_cons_succ, List.getElem_cons_zero, List.setIfInBounds_toArray, List.set_cons_zero, List.set_cons_succ]
              refine wpAnyH_take (i := 10) (v := ?vb10) rfl (by kernel_rfl) (by kernel_rfl) (by kernel_rfl) (fun _ _ _ h => h) (Or.inl ⟨by rfl, ?hyb10⟩) (by assumption) ?restb10
              case hyb10 => (intro w' hSw; go_split_ands; go_simp; try with_reducible rfl)
              simp only [Act.put, List.getElem_toArray, List.getElem_cons_succ, List.getElem_cons_zero, List.setIfInBounds_toArray, List.set_cons_zero, List.set_cons_succ]
              refine wpAnyH_take (i := 11) (v := ?vb11) rfl (by kernel_rfl) (by kernel_rfl) (by kernel_rfl) (fun _ _ _ h => h) (Or.inl ⟨by rfl, ?hyb11⟩) (by assumption) ?restb11
              case hyb11 => (intro w' hSw; go_split_ands; go_simp; try with_reducible rfl)
              simp only [Act.put, List.getElem_toArray, List.getElem_cons_succ, List.getElem_cons_zero, List.setIfInBounds_toArray, List.set_cons_zero, List.set_cons_succ]
              refine wpAnyH_take (i := 12) (v := ?vb12) rfl (by kernel_rfl) (by kernel_rfl) (by kernel_rfl) (fun _ _ _ h => h) (Or.inl ⟨by rfl, ?hyb12⟩) (by assumption) ?restb12
              case hyb12 => (intro w' hSw; go_split_ands; go_simp; try with_reducible rfl)
              simp only [Act.put, List.getElem_toArray, List.getElem_cons_succ, List.getElem_cons_zero, List.setIfInBounds_toArray, List.set_cons_zero, List.set_cons_succ]
              refine wpAnyH_take (i := 13) (v := ?vb13) rfl (by kernel_rfl) (by kernel_rfl) (by kernel_rfl) (fun _ _ _ h => h) (Or.inl ⟨by rfl, ?hyb13⟩) (by assumption) ?restb13
              case hyb13 => (intro w' hSw; go_split_ands; go_simp; try with_reducible rfl)
              simp only [Act.put, List.getElem_toArray, List.getElem_cons_succ, List.getElem_cons_zero, List.setIfInBounds_toArray, List.set_cons_zero, List.set_cons_succ]
              refine wpAnyH_take (i := 14) (v := undef) rfl (by kernel_rfl) (by kernel_rfl) (by kernel_rfl) (fun _ _ _ h => h) (Or.inr ⟨by rfl, rfl⟩) (by assumption) ?_
              simp only [Act.put, List.getElem_toArray, List.getElem_cons_succ, List.getElem_cons_zero, List.setIfInBounds_toArray, List.set_cons_zero, List.set_cons_succ]
              refine wpAnyH_take (i := 15) (v := undef) rfl (by kernel_rfl) (by kernel_rfl) (by kernel_rfl) (fun _ _ _ h => h) (Or.inr ⟨by rfl, rfl⟩) (by assumption) ?_
              simp only [Act.put, List.getElem_toArray, List.getElem_cons_succ, List.getElem_cons_zero, List.setIfInBounds_toArray, List.set_cons_zero, List.set_cons_succ]
              refine wpAnyH_take (i := 16) (v := undef) rfl (by kernel_rfl) (by kernel_rfl) (by kernel_rfl) (fun _ _ _ h => h) (Or.inr ⟨by rfl, rfl⟩) (by assumption) ?_
              simp only [Act.put, List.getElem_toArray, List.getElem_cons_succ, List.getElem_cons_zero, List.setIfInBounds_toArray, List.set_cons_zero, List.set_cons_succ]
              refine wpAnyH_take (i := 17) (v := undef) rfl (by kernel_rfl) (by kernel_rfl) (by kernel_rfl) (fun _ _ _ h => h) (Or.inr ⟨by rfl, rfl⟩) (by assumption) ?_
              simp only [Act.put, List.getElem_toArray, List.getElem_cons_succ, List.getElem_cons_zero, List.setIfInBounds_toArray, List.set_cons_zero, List.set_cons_succ]
              refine wpAnyH_take (i := 18) (v := undef) rfl (by kernel_rfl) (by kernel_rfl) (by kernel_rfl) (fun _ _ _ h => h) (Or.inr ⟨by rfl, rfl⟩) (by assumption) ?_
              simp only [Act.put, List.getElem_toArray, List.getElem_cons_succ, List.getElem_cons_zero, List.setIfInBounds_toArray, List.set_cons_zero, List.set_cons_succ]
              refine wpAnyH_take (i := 19) (v := undef) rfl (by kernel_rfl) (by kernel_rfl) (by kernel_rfl) (fun _ _ _ h => h) (Or.inr ⟨by rfl, rfl⟩) (by assumption) ?_
              simp only [Act.put, List.getElem_toArray, List.getElem_cons_succ, List.getElem_cons_zero, List.setIfInBounds_toArray, List.set_cons_zero, List.set_cons_succ]
              refine wpAnyH_take (i := 20) (v := undef) rfl (by kernel_rfl) (by kernel_rfl) (by kernel_rfl) (fun _ _ _ h => h) (Or.inr ⟨by rfl, rfl⟩) (by assumption) ?_
              simp only [Act.put, List.getElem_toArray, List.getElem_cons_succ, List.getElem_cons_zero, List.setIfInBounds_toArray, List.set_cons_zero, List.set_cons_succ]
              refine wpAnyH_take (i := 21) (v := undef) rfl (by kernel_rfl) (by kernel_rfl) (by kernel_rfl) (fun _ _ _ h => h) (Or.inr ⟨by rfl, rfl⟩) (by assumption) ?_
              simp only [Act.put, List.getElem_toArray, List.getElem_cons_succ, List.getElem_cons_zero, List.setIfInBounds_toArray, List.set_cons_zero, List.set_cons_succ]
              refine wpAnyH_take (i := 22) (v := undef) rfl (by kernel_rfl) (by kernel_rfl) (by kernel_rfl) (fun _ _ _ h => h) (Or.inr ⟨by rfl, rfl⟩) (by assumption) ?_
              simp only [Act.put, List.getElem_toArray, List.getElem_cons_succ, List.getElem_cons_zero, List.setIfInBounds_toArray, List.set_cons_zero, List.set_cons_succ]
              refine wpAnyH_take (i := 23) (v := undef) rfl (by kernel_rfl) (by kernel_rfl) (by kernel_rfl) (fun _ _ _ h => h) (Or.inr ⟨by rfl, rfl⟩) (by assumption) ?_
              simp only [Act.put, List.getElem_toArray, List.getElem_cons_succ, List.getElem_cons_zero, List.setIfInBounds_toArray, List.set_cons_zero, List.set_cons_succ]
              refine wpAnyH_take (i := 24) (v := undef) rfl (by kernel_rfl) (by kernel_rfl) (by kernel_rfl) (fun _ _ _ h => h) (Or.inr ⟨by rfl, rfl⟩) (by assumption) ?_
              simp only [Act.put, List.getElem_toArray, List.getElem_cons_succ, List.getElem_cons_zero, List.setIfInBounds_toArray, List.set_cons_zero, List.set_cons_succ]
              refine wpAnyH_take (i := 25) (v := undef) rfl (by kernel_rfl) (by kernel_rfl) (by kernel_rfl) (fun _ _ _ h => h) (Or.inr ⟨by rfl, rfl⟩) (by assumption) ?_
              simp only [Act.put, List.getElem_toArray, List.getElem_cons_succ, List.getElem_cons_zero, List.setIfInBounds_toArray, List.set_cons_zero, List.set_cons_succ]
              refine wpAnyH_take (i := 26) (v := undef) rfl (by kernel_rfl) (by kernel_rfl) (by kernel_rfl) (fun _ _ _ h => h) (Or.inr ⟨by rfl, rfl⟩) (by assumption) ?_
              simp only [Act.put, List.getElem_toArray, List.getElem_cons_succ, List.getElem_cons_zero, List.setIfInBounds_toArray, List.set_cons_zero, List.set_cons_succ]
              refine wpAnyH_take (i := 27) (v := ?vb14) rfl (by kernel_rfl) (by kernel_rfl) (by kernel_rfl) (fun _ _ _ h => h) (Or.inl ⟨by rfl, ?hyb14⟩) (by assumption) ?restb14
              case hyb14 => (intro w' hSw; go_split_ands; go_simp; try with_reducible rfl)
              simp only [Act.put, List.getElem_toArray, List.getElem_cons_succ, List.getElem_cons_zero, List.setIfInBounds_toArray, List.set_cons_zero, List.set_cons_succ]
              refine wpAnyH_take (i := 28) (v := ?vb15) rfl (by kernel_rfl) (by kernel_rfl) (by kernel_rfl) (fun _ _ _ h => h) (Or.inl ⟨by rfl, ?hyb15⟩) (by assumption) ?restb15
              case hyb15 => (intro w' hSw; go_split_ands; go_simp; try with_reducible rfl)
              simp only [Act.put, List.getElem_toArray, List.getElem_cons_succ, List.getElem_cons_zero, List.setIfInBounds_toArray, List.set_cons_zero, List.set_cons_succ]
              refine wpAnyH_done (by kernel_rfl) ?_ _
              go_wp2_with fail
              go_roundw
              case rel => exact ⟨m + 1, HLT.out, by go_num, (outC (by assumption)).1, (outC (by assumption)).2, HX.out⟩
              case measure => simp [intOf]; have := HLT.out; omega
            · obtain ⟨j, hmj⟩ : ∃ j, m = j + 1 := ⟨m - 1, by omega⟩
              have hjn : j < n := by have := HLT.out; omega
              obtain ⟨hok, r0, r1, r2, r3, r4⟩ := HC5.out j hjn
              rw [← HZ.out _ HD.out] at r0 r1 r2 r3 r4
              have K26 := Lib.hid (K26.out j hmj hok)
              have HLTE := Lib.hid (HLTE.out j hmj)
              rw [show m - 1 = j by omega] at HST
              have hj1 : (m : Int) - 1 = (j : Int) := by omega
              have hjn2 : (j : Int) < (n : Int) := by omega
              have hjw2 := wrapN j n hjn hn
              have hj2 : decide ((0 : Int) < (m : Int)) = true := by simp; omega
              have hj3 : decide (0 < m) = true := by simp; omega
              obtain ⟨y, hy⟩ : ∃ y, f j = y := ⟨_, rfl⟩
              rw [hy] at r0 r1 r2 r3 r4 K26 HLTE HST
              obtain ⟨b2, hb2⟩ : ∃ q, ltE y x = q := ⟨_, rfl⟩
              rw [hb2] at HLTE HST K26
              unfold Ed.v at K26
              have HI : Hid ((fun W => W.cell? ⟨w.heap.size, 0, none⟩ = some (.slice A nc cc) ∧ W.cell? ⟨w.heap.size, 1, none⟩ = some (.slice (some ⟨b, o, none⟩) n c) ∧ W.cell? ⟨b, o + m * 5, none⟩ = some (.int .u8 (x.k : Int)) ∧ W.cell? ⟨b, o + m * 5 + 1, none⟩ = some (.int .i64 x.fr) ∧ W.cell? ⟨b, o + m * 5 + 2, none⟩ = some (.int .i64 x.dt) ∧ W.cell? ⟨b, o + m * 5 + 3, none⟩ = some (.string x.nm) ∧ W.cell? ⟨b, o + m * 5 + 4, none⟩ = some (.int .u32 (x.wh : Int)) ∧ w.heap.size < W.heap.size ∧ b < W.heap.size ∧ Bel w.heap.size w W ∧ W.cell? ⟨b, o + j * 5, none⟩ = some (.int .u8 (y.k : Int)) ∧ W.cell? ⟨b, o + j * 5 + 1, none⟩ = some (.int .i64 y.fr) ∧ W.cell? ⟨b, o + j * 5 + 2, none⟩ = some (.int .i64 y.dt) ∧ W.cell? ⟨b, o + j * 5 + 3, none⟩ = some (.string y.nm) ∧ W.cell? ⟨b, o + j * 5 + 4, none⟩ = some (.int .u32 (y.wh : Int))) wr.drew) := Lib.hid ⟨y0, y1, q0, q1, q2, q3, q4, yl, hbw, HD.out, r0, r1, r2, r3, r4⟩
              clear hy hb2 hok hpos hmj HC5 HZ r0 r1 r2 r3 r4
              cases b2
              · have HX := Lib.hid (HLTE.out rfl)
                go_upto_region 14 with fail
                clear q0 q1 q2 q3 q4 y0 y1 yl
                go_region_held3 (fun W => W.cell? ⟨w.heap.size, 0, none⟩ = some (.slice A nc cc) ∧ W.cell? ⟨w.heap.size, 1, none⟩ = some (.slice (some ⟨b, o, none⟩) n c) ∧ W.cell? ⟨b, o + m * 5, none⟩ = some (.int .u8 (x.k : Int)) ∧ W.cell? ⟨b, o + m * 5 + 1, none⟩ = some (.int .i64 x.fr) ∧ W.cell? ⟨b, o + m * 5 + 2, none⟩ = some (.int .i64 x.dt) ∧ W.cell? ⟨b, o + m * 5 + 3, none⟩ = some (.string x.nm) ∧ W.cell? ⟨b, o + m * 5 + 4, none⟩ = some (.int .u32 (x.wh : Int)) ∧ w.heap.size < W.heap.size ∧ b < W.heap.size ∧ Bel w.heap.size w W ∧ W.cell? ⟨b, o + j * 5, none⟩ = some (.int .u8 (y.k : Int)) ∧ W.cell? ⟨b, o + j * 5 + 1, none⟩ = some (.int .i64 y.fr) ∧ W.cell? ⟨b, o + j * 5 + 2, none⟩ = some (.int .i64 y.dt) ∧ W.cell? ⟨b, o + j * 5 + 3, none⟩ = some (.string y.nm) ∧ W.cell? ⟨b, o + j * 5 + 4, none⟩ = some (.int .u32 (y.wh : Int)))
                  (first | assumption | exact HI.out | (with_reducible exact keepD (by assumption) (by assumption)))
                  (first | (go_at_call 25; (with_reducible refine (K25.out _).mono ?_); rintro _ w9 ⟨rfl, hb9⟩) | (go_at_call 26; (with_reducible refine (K26.out _).mono ?_); rintro _ w9 ⟨rfl, hb9⟩))
                go_wp2_with fail
                go_ret
                exact ⟨by rw [HX.out]; rfl, (outD (by assumption)).1⟩
              · have HX := Lib.hid (HST.out rfl (fun _ => rfl))
                go_upto_region 14 with fail
                clear q0 q1 q2 q3 q4 y0 y1 yl
                go_region_held3 (fun W => W.cell? ⟨w.heap.size, 0, none⟩ = some (.slice A nc cc) ∧ W.cell? ⟨w.heap.size, 1, none⟩ = some (.slice (some ⟨b, o, none⟩) n c) ∧ W.cell? ⟨b, o + m * 5, none⟩ = some (.int .u8 (x.k : Int)) ∧ W.cell? ⟨b, o + m * 5 + 1, none⟩ = some (.int .i64 x.fr) ∧ W.cell? ⟨b, o + m * 5 + 2, none⟩ = some (.int .i64 x.dt) ∧ W.cell? ⟨b, o + m * 5 + 3, none⟩ = some (.string x.nm) ∧ W.cell? ⟨b, o + m * 5 + 4, none⟩ = some (.int .u32 (x.wh : Int)) ∧ w.heap.size < W.heap.size ∧ b < W.heap.size ∧ Bel w.heap.size w W ∧ W.cell? ⟨b, o + j * 5, none⟩ = some (.int .u8 (y.k : Int)) ∧ W.cell? ⟨b, o + j * 5 + 1, none⟩ = some (.int .i64 y.fr) ∧ W.cell? ⟨b, o + j * 5 + 2, none⟩ = some (.int .i64 y.dt) ∧ W.cell? ⟨b, o + j * 5 + 3, none⟩ = some (.string y.nm) ∧ W.cell? ⟨b, o + j * 5 + 4, none⟩ = some (.int .u32 (y.wh : Int)))
                  (first | assumption | exact HI.out | (with_reducible exact keepD (by assumption) (by assumption)))
                  (first | (go_at_call 25; (with_reducible refine (K25.out _).mono ?_); rintro _ w9 ⟨rfl, hb9⟩) | (go_at_call 26; (with_reducible refine (K26.out _).mono ?_); rintro _ w9 ⟨rfl, hb9⟩))
                go_wp2_with fail
                go_roundw
                case rel => exact ⟨m + 1, HLT.out, by go_num, (outD (by assumption)).1, (outD (by assumption)).2, HX.out⟩
                case measure => simp [intOf]; have := HLT.out; omega
        · have HW := Lib.hid (grB_yes (n := n) (f := f) ⟨HC.out, fun k hk => HIN2.out k (by omega)⟩)
          clear hm
          go_wp2_with fail
          go_ret
          exact ⟨by rw [HW.out]; rfl, HBL2.out⟩
end Go.Proofs.YtblfnjdbihhglaaGreatDoor
