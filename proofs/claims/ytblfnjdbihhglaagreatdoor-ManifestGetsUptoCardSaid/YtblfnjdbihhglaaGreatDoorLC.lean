import Derived.Test.YtblfnjdbihhglaaGreatDoorLB
namespace Go.Proofs.YtblfnjdbihhglaaGreatDoor.Li
open Go.ChangeShapes Go.WideShapes Go.ChangeAt Go.RowKit
set_option linter.unusedVariables false
/-- so many texts stand there -/
def Ss (w : World) (A : Option Addr) (n : Nat) (f : Nat → ByteArray) : Prop :=
  0 < n → ∃ b o, A = some ⟨b, o, none⟩ ∧ b < w.heap.size ∧ ∀ k, k < n → w.cell? ⟨b, o + k, none⟩ = some (.string (f k)) ∧ (f k).size ≤ 9223372036854775807
theorem Ss.below {w w' : World} {A : Option Addr} {n : Nat} {f : Nat → ByteArray} (h : Ss w A n f) (hb : Below w.heap.size w w') : Ss w' A n f := fun h0 => by
  obtain ⟨b, o, e, hl, hc⟩ := h h0
  refine ⟨b, o, e, Nat.lt_of_lt_of_le hl hb.size, fun k hk => ?_⟩
  rw [hb.cell (p := ⟨b, o + k, none⟩) hl]
  exact hc k hk
/-- a line -/
structure Wl where
  line : Int
  A : Option Addr
  n : Nat
  c : Nat
  f : Nat → ByteArray
/-- so many lines stand there -/
def Ws (w : World) (A : Option Addr) (n : Nat) (g : Nat → Wl) : Prop :=
  0 < n → ∃ b o, A = some ⟨b, o, none⟩ ∧ b < w.heap.size ∧ ∀ k, k < n → w.cell? ⟨b, o + k * 2, none⟩ = some (.int .i64 (g k).line) ∧ w.cell? ⟨b, o + k * 2 + 1, none⟩ = some (.slice (g k).A (g k).n (g k).c) ∧
    Ss w (g k).A (g k).n (g k).f ∧ (g k).n ≤ 9223372036854775807 ∧ (g k).n ≤ (g k).c
theorem Ws.below {w w' : World} {A : Option Addr} {n : Nat} {g : Nat → Wl} (h : Ws w A n g) (hb : Below w.heap.size w w') : Ws w' A n g := fun h0 => by
  obtain ⟨b, o, e, hl, hc⟩ := h h0
  refine ⟨b, o, e, Nat.lt_of_lt_of_le hl hb.size, fun k hk => ?_⟩
  obtain ⟨h1, h2, h3, h4, h5⟩ := hc k hk
  exact ⟨by rw [hb.cell (p := ⟨b, o + k * 2, none⟩) hl]; exact h1, by rw [hb.cell (p := ⟨b, o + k * 2 + 1, none⟩) hl]; exact h2, h3.below hb, h4, h5⟩
/-- may a line be? -/
def lineP (x : Wl) : Prop := 0 < x.n ∧ ∀ j, j < x.n → wd (x.f j) = true
open Classical in
noncomputable def mayB (g : Nat → Wl) (n : Nat) : Bool := decide (∀ k, k < n → lineP (g k))
theorem mayB_no (g : Nat → Wl) (n k : Nat) (hk : k < n) (h : ¬ lineP (g k)) : mayB g n = false := by unfold mayB; classical exact decide_eq_false (fun h2 => h (h2 k hk))
theorem mayB_yes (g : Nat → Wl) (n : Nat) (h : ∀ k, k < n → lineP (g k)) : mayB g n = true := by unfold mayB; classical exact decide_eq_true h
def LM (w : World) (g : Nat → Wl) (n : Nat) (i : Value) (wr : World) : Prop := ∃ k : Nat, k ≤ n ∧ i = .int .i64 (k : Int) ∧ Below w.heap.size w wr ∧ ∀ j, j < k → lineP (g j)
def LI (w : World) (x : Wl) (i : Value) (wr : World) : Prop := ∃ k : Nat, k ≤ x.n ∧ i = .int .i64 (k : Int) ∧ Below w.heap.size w wr ∧ ∀ j, j < k → wd (x.f j) = true
set_option maxHeartbeats 8000000 in
theorem c25 (A : Option Addr) (n c : Nat) (g : Nat → Wl) (w : World) (hA : Ws w A n g) (hn : n ≤ 9223372036854775807) :
    Calls Tryz.prog 32 #[.slice A n c] w fun e w' => e = .returned (.bool (mayB g n)) ∧ Below w.heap.size w w' := by
  have HA := Lib.hid hA
  clear hA
  go_enter Tryz.func32, Tryz.ntmps32
  go_wp2_with fail
  go_loopw [9] (fun i wr => LM w g n i wr) (fun i _ => n - (intOf i).toNat)
  case atStart => exact ⟨0, by omega, rfl, Below.refl _ _, fun j hj => absurd hj (by omega)⟩
  case round =>
    obtain ⟨k, hk, rfl, hb, hin⟩ := hrel
    have HB := Lib.hid hb
    have HIN := Lib.hid hin
    clear hb hin
    by_cases hlt : k < n
    · obtain ⟨b, o, rfl, hbl, hc⟩ := HA.out (by omega)
      obtain ⟨q0, q1, hs, hn2, hnc⟩ := hc k hlt
      have z : ∀ j, wr.cell? ⟨b, j, none⟩ = w.cell? ⟨b, j, none⟩ := fun j => HB.out.cell (p := ⟨b, j, none⟩) hbl
      rw [← z] at q0 q1
      have HSs := Lib.hid hs
      have HC := Lib.hid hc
      have HNO := Lib.hid (mayB_no g n k hlt)
      have HST : Hid (lineP (g k) → ∀ j, j < k + 1 → lineP (g j)) := Lib.hid fun hl j hj => by
        by_cases e : j = k
        · rw [e]; exact hl
        · exact HIN.out j (by omega)
      have HK : Hid (k + 1 ≤ n) := Lib.hid hlt
      clear z hc hs hk
      obtain ⟨x, hx⟩ : ∃ x, g k = x := ⟨_, rfl⟩
      rw [hx] at q0 q1 HSs HNO HST hn2 hnc
      have hxx := hx
      clear hx
      by_cases h0 : x.n = 0
      · have HW := Lib.hid (HNO.out (fun h => by have := h.1; omega))
        rw [h0] at q1
        clear hn2 hnc
        go_wp2_with fail
        go_ret
        exact ⟨by rw [HW.out]; rfl, HB.out.alloc HB.out.size _⟩
      · have hz : ((x.n : Int) == 0) = false := by simpa using h0
        have HXN := Lib.hid (Nat.pos_of_ne_zero h0)
        clear h0
        go_wp2_with fail
        go_loopw [20] (fun i wz => LI w x i wz) (fun i _ => x.n - (intOf i).toNat)
        case atStart => exact ⟨0, by omega, rfl, HB.out.alloc HB.out.size _, fun j hj => absurd hj (by omega)⟩
        case round =>
          obtain ⟨m, hm, rfl, hb2, hin2⟩ := hrel
          have HB2 := Lib.hid hb2
          have HIN2 := Lib.hid hin2
          clear hb2 hin2
          by_cases hlt2 : m < x.n
          · obtain ⟨b2, o2, hA2, hbl2, hc2⟩ := HSs.out (by omega)
            obtain ⟨v0, vs⟩ := hc2 m hlt2
            have z2 : ∀ (wz : World), Below w.heap.size w wz → wz.cell? ⟨b2, o2 + m, none⟩ = some (.string (x.f m)) := fun wz hz => by rw [hz.cell (p := ⟨b2, o2 + m, none⟩) hbl2]; exact v0
            have v1 := z2 _ HB2.out
            have K := Lib.hid (c40 (x.f m) vs)
            have HM : Hid (m + 1 ≤ x.n) := Lib.hid hlt2
            have HS2 : Hid (wd (x.f m) = true → ∀ j, j < m + 1 → wd (x.f j) = true) := Lib.hid fun hl j hj => by
              by_cases e : j = m
              · rw [e]; exact hl
              · exact HIN2.out j (by omega)
            have HN2 : Hid (wd (x.f m) = false → mayB g n = false) := Lib.hid fun hl => HNO.out (fun h => by have := h.2 m hlt2; rw [hl] at this; cases this)
            have HC2 := Lib.hid hc2
            clear z2 hc2 v0 hm
            rw [hA2] at *
            generalize x.f m = s at *
            obtain ⟨q, hq⟩ : ∃ q, wd s = q := ⟨_, rfl⟩
            rw [hq] at K HS2 HN2
            clear hq
            go_wp2_with fail
            refine (K.out _).mono ?_
            rintro _ w4 ⟨rfl, b4⟩
            have HB4 := Lib.hid (HB2.out.trans (b4.mono HB2.out.size))
            clear b4
            cases q
            · have HW := Lib.hid (HN2.out rfl)
              go_wp2_with fail
              go_ret
              exact ⟨by rw [HW.out]; rfl, HB4.out⟩
            · have HS3 := Lib.hid (HS2.out rfl)
              go_wp2_with fail
              go_roundw
              case rel => exact ⟨m + 1, HM.out, by go_num, HB4.out, HS3.out⟩
              case measure => simp [intOf]; have := HM.out; omega
          · have HL : Hid (lineP x) := Lib.hid ⟨HXN.out, fun j hj => HIN2.out j (by omega)⟩
            have HS3 := Lib.hid (HST.out HL.out)
            clear hm
            go_wp2_with fail
            go_roundw
            case rel => exact ⟨k + 1, HK.out, by go_num, HB2.out, HS3.out⟩
            case measure => simp [intOf]; have := HK.out; omega
    · have HW := Lib.hid (mayB_yes g n (fun j hj => HIN.out j (by omega)))
      clear hk
      go_wp2_with fail
      go_ret
      exact ⟨by rw [HW.out]; rfl, HB.out⟩
end Go.Proofs.YtblfnjdbihhglaaGreatDoor.Li
