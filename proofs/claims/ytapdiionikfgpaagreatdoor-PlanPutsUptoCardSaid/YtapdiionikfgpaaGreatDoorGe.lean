import Derived.Test.YtapdiionikfgpaaGreatDoorGa
import Derived.Laws.Concat
import Derived.Lib.ConvBytes
import Derived.Lib.ParseIntBMem
import Derived.Laws.Closers25
import Derived.Laws.Closers25b
import Derived.BigCall
import Derived.BigGuard
namespace Go.Proofs.YtapdiionikfgpaaGreatDoor.Li
open Go.ChangeShapes Go.WideShapes Go.ChangeAt Go.RowKit
set_option linter.unusedVariables false
/-- so many texts stand there -/
def Ss (w : World) (A : Option Addr) (n : Nat) (f : Nat → ByteArray) : Prop :=
  0 < n → ∃ b o, A = some ⟨b, o, none⟩ ∧ b < w.heap.size ∧ ∀ k, k < n → w.cell? ⟨b, o + k, none⟩ = some (.string (f k)) ∧ (f k).size ≤ 9223372036854775807
theorem Ss.below {w w' : World} {A : Option Addr} {n : Nat} {f : Nat → ByteArray} (h : Ss w A n f) (hb : Below w.heap.size w w') : Ss w' A n f := fun h0 => by
  obtain ⟨b, o, e, hl, hc⟩ := h h0
  refine ⟨b, o, e, Nat.lt_of_lt_of_le hl hb.size, fun k hk => ?_⟩
  rw [hb.cell (p := ⟨b, o + k, none⟩) hl]
  exact hc k hk
/-- a line -/
structure Wl where
  line : Int
  A : Option Addr
  n : Nat
  c : Nat
  f : Nat → ByteArray
/-- so many lines stand there -/
def Ws (w : World) (A : Option Addr) (n : Nat) (g : Nat → Wl) : Prop :=
  0 < n → ∃ b o, A = some ⟨b, o, none⟩ ∧ b < w.heap.size ∧ ∀ k, k < n → w.cell? ⟨b, o + k * 2, none⟩ = some (.int .i64 (g k).line) ∧ w.cell? ⟨b, o + k * 2 + 1, none⟩ = some (.slice (g k).A (g k).n (g k).c) ∧
    Ss w (g k).A (g k).n (g k).f ∧ (g k).n ≤ 9223372036854775807 ∧ (g k).n ≤ (g k).c
theorem Ws.below {w w' : World} {A : Option Addr} {n : Nat} {g : Nat → Wl} (h : Ws w A n g) (hb : Below w.heap.size w w') : Ws w' A n g := fun h0 => by
  obtain ⟨b, o, e, hl, hc⟩ := h h0
  refine ⟨b, o, e, Nat.lt_of_lt_of_le hl hb.size, fun k hk => ?_⟩
  obtain ⟨h1, h2, h3, h4, h5⟩ := hc k hk
  exact ⟨by rw [hb.cell (p := ⟨b, o + k * 2, none⟩) hl]; exact h1, by rw [hb.cell (p := ⟨b, o + k * 2 + 1, none⟩) hl]; exact h2, h3.below hb, h4, h5⟩
/-- may a line be? -/
def lineP (x : Wl) : Prop := 0 < x.n ∧ ∀ j, j < x.n → wd (x.f j) = true
open Classical in
noncomputable def mayB (g : Nat → Wl) (n : Nat) : Bool := decide (∀ k, k < n → lineP (g k))
theorem mayB_no (g : Nat → Wl) (n k : Nat) (hk : k < n) (h : ¬ lineP (g k)) : mayB g n = false := by unfold mayB; classical exact decide_eq_false (fun h2 => h (h2 k hk))
theorem mayB_yes (g : Nat → Wl) (n : Nat) (h : ∀ k, k < n → lineP (g k)) : mayB g n = true := by unfold mayB; classical exact decide_eq_true h
def LM (w : World) (g : Nat → Wl) (n : Nat) (i : Value) (wr : World) : Prop := ∃ k : Nat, k ≤ n ∧ i = .int .i64 (k : Int) ∧ Below w.heap.size w wr ∧ ∀ j, j < k → lineP (g j)
def LI (w : World) (x : Wl) (i : Value) (wr : World) : Prop := ∃ k : Nat, k ≤ x.n ∧ i = .int .i64 (k : Int) ∧ Below w.heap.size w wr ∧ ∀ j, j < k → wd (x.f j) = true
set_option maxHeartbeats 8000000 in
theorem c25 (A : Option Addr) (n c : Nat) (g : Nat → Wl) (w : World) (hA : Ws w A n g) (hn : n ≤ 9223372036854775807) :
    Calls Tryz.prog 102 #[.slice A n c] w fun e w' => e = .returned (.bool (mayB g n)) ∧ Below w.heap.size w w' := by
  have HA := Lib.hid hA
  clear hA
  go_enter Tryz.func102, Tryz.ntmps102
  go_wp2_with fail
  go_loopw [9] (fun i wr => LM w g n i wr) (fun i _ => n - (intOf i).toNat)
  case atStart => exact ⟨0, by omega, rfl, Below.refl _ _, fun j hj => absurd hj (by omega)⟩
  case round =>
    obtain ⟨k, hk, rfl, hb, hin⟩ := hrel
    have HB := Lib.hid hb
    have HIN := Lib.hid hin
    clear hb hin
    by_cases hlt : k < n
    · obtain ⟨b, o, rfl, hbl, hc⟩ := HA.out (by omega)
      obtain ⟨q0, q1, hs, hn2, hnc⟩ := hc k hlt
      have z : ∀ j, wr.cell? ⟨b, j, none⟩ = w.cell? ⟨b, j, none⟩ := fun j => HB.out.cell (p := ⟨b, j, none⟩) hbl
      rw [← z] at q0 q1
      have HSs := Lib.hid hs
      have HC := Lib.hid hc
      have HNO := Lib.hid (mayB_no g n k hlt)
      have HST : Hid (lineP (g k) → ∀ j, j < k + 1 → lineP (g j)) := Lib.hid fun hl j hj => by
        by_cases e : j = k
        · rw [e]; exact hl
        · exact HIN.out j (by omega)
      have HK : Hid (k + 1 ≤ n) := Lib.hid hlt
      clear z hc hs hk
      obtain ⟨x, hx⟩ : ∃ x, g k = x := ⟨_, rfl⟩
      rw [hx] at q0 q1 HSs HNO HST hn2 hnc
      have hxx := hx
      clear hx
      by_cases h0 : x.n = 0
      · have HW := Lib.hid (HNO.out (fun h => by have := h.1; omega))
        rw [h0] at q1
        clear hn2 hnc
        go_wp2_with fail
        go_ret
        exact ⟨by rw [HW.out]; rfl, HB.out.alloc HB.out.size _⟩
      · have hz : ((x.n : Int) == 0) = false := by simpa using h0
        have HXN := Lib.hid (Nat.pos_of_ne_zero h0)
        clear h0
        go_wp2_with fail
        go_loopw [20] (fun i wz => LI w x i wz) (fun i _ => x.n - (intOf i).toNat)
        case atStart => exact ⟨0, by omega, rfl, HB.out.alloc HB.out.size _, fun j hj => absurd hj (by omega)⟩
        case round =>
          obtain ⟨m, hm, rfl, hb2, hin2⟩ := hrel
          have HB2 := Lib.hid hb2
          have HIN2 := Lib.hid hin2
          clear hb2 hin2
          by_cases hlt2 : m < x.n
          · obtain ⟨b2, o2, hA2, hbl2, hc2⟩ := HSs.out (by omega)
            obtain ⟨v0, vs⟩ := hc2 m hlt2
            have z2 : ∀ (wz : World), Below w.heap.size w wz → wz.cell? ⟨b2, o2 + m, none⟩ = some (.string (x.f m)) := fun wz hz => by rw [hz.cell (p := ⟨b2, o2 + m, none⟩) hbl2]; exact v0
            have v1 := z2 _ HB2.out
            have K := Lib.hid (c40 (x.f m) vs)
            have HM : Hid (m + 1 ≤ x.n) := Lib.hid hlt2
            have HS2 : Hid (wd (x.f m) = true → ∀ j, j < m + 1 → wd (x.f j) = true) := Lib.hid fun hl j hj => by
              by_cases e : j = m
              · rw [e]; exact hl
              · exact HIN2.out j (by omega)
            have HN2 : Hid (wd (x.f m) = false → mayB g n = false) := Lib.hid fun hl => HNO.out (fun h => by have := h.2 m hlt2; rw [hl] at this; cases this)
            have HC2 := Lib.hid hc2
            clear z2 hc2 v0 hm
            rw [hA2] at *
            generalize x.f m = s at *
            obtain ⟨q, hq⟩ : ∃ q, wd s = q := ⟨_, rfl⟩
            rw [hq] at K HS2 HN2
            clear hq
            go_wp2_with fail
            refine (K.out _).mono ?_
            rintro _ w4 ⟨rfl, b4⟩
            have HB4 := Lib.hid (HB2.out.trans (b4.mono HB2.out.size))
            clear b4
            cases q
            · have HW := Lib.hid (HN2.out rfl)
              go_wp2_with fail
              go_ret
              exact ⟨by rw [HW.out]; rfl, HB4.out⟩
            · have HS3 := Lib.hid (HS2.out rfl)
              go_wp2_with fail
              go_roundw
              case rel => exact ⟨m + 1, HM.out, by go_num, HB4.out, HS3.out⟩
              case measure => simp [intOf]; have := HM.out; omega
          · have HL : Hid (lineP x) := Lib.hid ⟨HXN.out, fun j hj => HIN2.out j (by omega)⟩
            have HS3 := Lib.hid (HST.out HL.out)
            clear hm
            go_wp2_with fail
            go_roundw
            case rel => exact ⟨k + 1, HK.out, by go_num, HB2.out, HS3.out⟩
            case measure => simp [intOf]; have := HK.out; omega
    · have HW := Lib.hid (mayB_yes g n (fun j hj => HIN.out j (by omega)))
      clear hk
      go_wp2_with fail
      go_ret
      exact ⟨by rw [HW.out]; rfl, HB.out⟩
end Go.Proofs.YtapdiionikfgpaaGreatDoor.Li
namespace Go.Proofs.YtapdiionikfgpaaGreatDoor.Li
open Go.ChangeShapes Go.WideShapes Go.ChangeAt Go.RowKit
set_option linter.unusedVariables false
/-- so many words of a line, with a blank between -/
def jn (x : Wl) : Nat → ByteArray
  | 0 => ⟨#[]⟩
  | k + 1 => (if k = 0 then jn x k else jn x k ++ ⟨#[32]⟩) ++ x.f k
/-- so many lines -/
def outN (g : Nat → Wl) : Nat → ByteArray
  | 0 => ⟨#[]⟩
  | k + 1 => (outN g k ++ jn (g k) (g k).n) ++ ⟨#[10]⟩
def longP (x : Wl) : Prop := 100 < (jn x x.n).size
open Classical in
noncomputable def putV (g : Nat → Wl) (n : Nat) : Value := if mayB g n = false then .tuple #[.string ⟨#[]⟩, .int .i64 5] else if (∃ k, k < n ∧ longP (g k)) ∨ 400 < n then .tuple #[.string ⟨#[]⟩, .int .i64 3] else .tuple #[.string (outN g n), .int .i64 0]
theorem putV_may (g : Nat → Wl) (n : Nat) (h : mayB g n = false) : putV g n = .tuple #[.string ⟨#[]⟩, .int .i64 5] := by unfold putV; rw [if_pos h]
theorem putV_long (g : Nat → Wl) (n k : Nat) (h : mayB g n = true) (hk : k < n) (hl : longP (g k)) : putV g n = .tuple #[.string ⟨#[]⟩, .int .i64 3] := by
  unfold putV; rw [if_neg (by rw [h]; decide), if_pos (Or.inl ⟨k, hk, hl⟩)]
theorem putV_many (g : Nat → Wl) (n : Nat) (h : mayB g n = true) (hl : 400 < n) : putV g n = .tuple #[.string ⟨#[]⟩, .int .i64 3] := by
  unfold putV; rw [if_neg (by rw [h]; decide), if_pos (Or.inr hl)]
theorem putV_ok (g : Nat → Wl) (n : Nat) (h : mayB g n = true) (h1 : ∀ k, k < n → ¬ longP (g k)) (h2 : n ≤ 400) : putV g n = .tuple #[.string (outN g n), .int .i64 0] := by
  unfold putV
  rw [if_neg (by rw [h]; decide), if_neg]
  rintro (⟨k, hk, hl⟩ | h3)
  · exact h1 k hk hl
  · omega
def R1 (w : World) (g : Nat → Wl) (n : Nat) (i : Value) (wr : World) : Prop := ∃ k : Nat, k ≤ n ∧ i = .int .i64 (k : Int) ∧ wr = w ∧ ∀ j, j < k → lineP (g j)
def R2 (w : World) (x : Wl) (i : Value) (wr : World) : Prop := ∃ k : Nat, k ≤ x.n ∧ i = .int .i64 (k : Int) ∧ wr = w ∧ ∀ j, j < k → wd (x.f j) = true
def R3 (w : World) (g : Nat → Wl) (n : Nat) (o i : Value) (wr : World) : Prop := ∃ k : Nat, k ≤ n ∧ i = .int .i64 (k : Int) ∧ o = .string (outN g k) ∧ wr = w ∧ ∀ j, j < k → ¬ longP (g j)
def R4 (w : World) (x : Wl) (s i : Value) (wr : World) : Prop := ∃ k : Nat, k ≤ x.n ∧ i = .int .i64 (k : Int) ∧ s = .string (jn x k) ∧ wr = w
set_option maxHeartbeats 16000000 in
theorem c15 (A : Option Addr) (n c : Nat) (g : Nat → Wl) (w : World) (hA : Ws w A n g) (hn : n ≤ 9223372036854775807)
    (hb : ∀ k, k ≤ n → (∀ j, j < k → ¬ longP (g j)) → (outN g k).size ≤ 1099511627776) (hb2 : ∀ k, k < n → ∀ m, m ≤ (g k).n → (jn (g k) m).size ≤ 16777216) (hb3 : ∀ k, k < n → ∀ m, m < (g k).n → ((g k).f m).size ≤ 16777216) :
    Calls Tryz.prog 17 #[.slice A n c] w fun e w' => e = .returned (putV g n) ∧ w = w' := by
  have HA := Lib.hid hA
  have HB := Lib.hid hb
  have HB2 := Lib.hid hb2
  have HB3 := Lib.hid hb3
  clear hA hb hb2 hb3
  go_enter Tryz.func17, Tryz.ntmps17
  go_wp2_with fail
  go_loopw [4] (fun i wr => R1 w g n i wr) (fun i _ => n - (intOf i).toNat)
  case atStart => exact ⟨0, by omega, rfl, rfl, fun j hj => absurd hj (by omega)⟩
  case round =>
    obtain ⟨k, hk, rfl, rfl, hin⟩ := hrel
    have HIN := Lib.hid hin
    clear hin
    by_cases hlt : k < n
    · obtain ⟨b, o, rfl, hbl, hc⟩ := HA.out (by omega)
      obtain ⟨q0, q1, hs, hn2, hnc⟩ := hc k hlt
      have HSs := Lib.hid hs
      have HC := Lib.hid hc
      have HNO : Hid (¬ lineP (g k) → putV g n = .tuple #[.string ⟨#[]⟩, .int .i64 5]) := Lib.hid fun h => putV_may g n (mayB_no g n k hlt h)
      have HST : Hid (lineP (g k) → ∀ j, j < k + 1 → lineP (g j)) := Lib.hid fun hl j hj => by
        by_cases e : j = k
        · rw [e]; exact hl
        · exact HIN.out j (by omega)
      have HK : Hid (k + 1 ≤ n) := Lib.hid hlt
      clear hc hs hk
      obtain ⟨x, hx⟩ : ∃ x, g k = x := ⟨_, rfl⟩
      rw [hx] at q0 q1 HSs HNO HST hn2 hnc
      clear hx
      by_cases h0 : x.n = 0
      · have HW := Lib.hid (HNO.out (fun h => by have := h.1; omega))
        rw [h0] at q1
        clear hn2 hnc
        go_wp2_with fail
        go_ret2
        exact ⟨by rw [HW.out]; rfl, rfl⟩
      · have hz : ((x.n : Int) == 0) = false := by simpa using h0
        have HXN := Lib.hid (Nat.pos_of_ne_zero h0)
        clear h0
        go_wp2_with fail
        go_loopw [5] (fun i wz => R2 wr x i wz) (fun i _ => x.n - (intOf i).toNat)
        case atStart => exact ⟨0, by omega, rfl, rfl, fun j hj => absurd hj (by omega)⟩
        case round =>
          obtain ⟨m, hm, rfl, rfl, hin2⟩ := hrel
          have HIN2 := Lib.hid hin2
          clear hin2
          by_cases hlt2 : m < x.n
          · obtain ⟨b2, o2, hA2, hbl2, hc2⟩ := HSs.out (by omega)
            obtain ⟨v0, vs⟩ := hc2 m hlt2
            have K := Lib.hid (c30 (x.f m) vs)
            have HM : Hid (m + 1 ≤ x.n) := Lib.hid hlt2
            have HS2 : Hid (wd (x.f m) = true → ∀ j, j < m + 1 → wd (x.f j) = true) := Lib.hid fun hl j hj => by
              by_cases e : j = m
              · rw [e]; exact hl
              · exact HIN2.out j (by omega)
            have HN2 : Hid (wd (x.f m) = false → putV g n = .tuple #[.string ⟨#[]⟩, .int .i64 5]) := Lib.hid fun hl => HNO.out (fun h => by have := h.2 m hlt2; rw [hl] at this; cases this)
            have HC2 := Lib.hid hc2
            clear hc2 hm
            rw [hA2] at q1
            have HA2 := Lib.hid hA2
            clear hA2
            generalize x.f m = s at *
            obtain ⟨q, hq⟩ : ∃ q, wd s = q := ⟨_, rfl⟩
            rw [hq] at K HS2 HN2
            clear hq
            go_wp2_with fail
            refine (K.out _).mono ?_
            rintro _ w4 ⟨rfl, rfl⟩
            cases q
            · have HW := Lib.hid (HN2.out rfl)
              go_wp2_with fail
              go_ret2
              exact ⟨by rw [HW.out]; rfl, rfl⟩
            · have HS3 := Lib.hid (HS2.out rfl)
              go_wp2_with fail
              go_roundw
              case rel => exact ⟨m + 1, HM.out, by go_num, by trivial, HS3.out⟩
              case measure => simp [intOf]; have := HM.out; omega
          · have HL : Hid (lineP x) := Lib.hid ⟨HXN.out, fun j hj => HIN2.out j (by omega)⟩
            have HS3 := Lib.hid (HST.out HL.out)
            clear hm
            go_wp2_with fail
            go_roundw
            case rel => exact ⟨k + 1, HK.out, by go_num, by trivial, HS3.out⟩
            case measure => simp [intOf]; have := HK.out; omega
    · have HY := Lib.hid (mayB_yes g n (fun j hj => HIN.out j (by omega)))
      clear hk
      go_wp2_with fail
      go_loopw [6, 7] (fun o i wz => R3 wr g n o i wz) (fun _ i _ => n - (intOf i).toNat)
      case atStart => exact ⟨0, by omega, rfl, rfl, rfl, fun j hj => absurd hj (by omega)⟩
      case round =>
        obtain ⟨k, hk, rfl, rfl, rfl, hin⟩ := hrel
        have HIN2 := Lib.hid hin
        clear hin
        by_cases hlt : k < n
        · obtain ⟨b, o, rfl, hbl, hc⟩ := HA.out (by omega)
          obtain ⟨q0, q1, hs, hn2, hnc⟩ := hc k hlt
          have HSs := Lib.hid hs
          have HC := Lib.hid hc
          have HK : Hid (k + 1 ≤ n) := Lib.hid hlt
          have HLO : Hid (longP (g k) → putV g n = .tuple #[.string ⟨#[]⟩, .int .i64 3]) := Lib.hid fun h => putV_long g n k HY.out hlt h
          have HST : Hid (¬ longP (g k) → ∀ j, j < k + 1 → ¬ longP (g j)) := Lib.hid fun hl j hj => by
            by_cases e : j = k
            · rw [e]; exact hl
            · exact HIN2.out j (by omega)
          have HO : Hid (outN g (k + 1) = (outN g k ++ jn (g k) (g k).n) ++ ⟨#[10]⟩) := Lib.hid rfl
          clear hc hs hk
          obtain ⟨out', ho'⟩ : ∃ out', outN g (k + 1) = out' := ⟨_, rfl⟩
          rw [ho'] at HO
          have HO2 := Lib.hid ho'
          clear ho'
          have LS := Lib.hid (HB2.out k hlt)
          have LT := Lib.hid (HB3.out k hlt)
          have z0 := HB.out k (Nat.le_of_lt hlt) HIN2.out
          generalize outN g k = out at *
          generalize g k = x at *
          go_wp2_with fail
          go_loopw [8, 9] (fun t i wz => R4 wr x t i wz) (fun _ i _ => x.n - (intOf i).toNat)
          case atStart => exact ⟨0, by omega, rfl, rfl, rfl⟩
          case round =>
            obtain ⟨m, hm, rfl, rfl, rfl⟩ := hrel
            by_cases hlt2 : m < x.n
            · obtain ⟨b2, o2, hA2, hbl2, hc2⟩ := HSs.out (by omega)
              obtain ⟨v0, vs⟩ := hc2 m hlt2
              have HM : Hid (m + 1 ≤ x.n) := Lib.hid hlt2
              have HC2 := Lib.hid hc2
              have HJ : Hid (jn x (m + 1) = (if m = 0 then jn x m else jn x m ++ ⟨#[32]⟩) ++ x.f m) := Lib.hid rfl
              clear hc2 hm
              rw [hA2] at q1
              have HA2 := Lib.hid hA2
              clear hA2
              by_cases h0 : m = 0
              · subst h0
                have HJ2 : Hid (jn x (0 + 1) = jn x 0 ++ x.f 0) := Lib.hid rfl
                have z1 := LS.out 0 (by omega)
                have z2 := LT.out 0 hlt2
                rw [Nat.add_zero] at v0
                generalize jn x 0 = s at *
                generalize x.f 0 = t at *
                go_wp2_with fail
                go_roundw
                case rel => exact ⟨0 + 1, HM.out, by go_num, by rw [HJ2.out], by trivial⟩
                case measure => simp [intOf]; have := HM.out; omega
              · have HJ2 : Hid (jn x (m + 1) = jn x m ++ ⟨#[32]⟩ ++ x.f m) := Lib.hid (by rw [HJ.out, if_neg h0])
                have hm0 : 0 < m := by omega
                have z1 := LS.out m (by omega)
                have z2 := LT.out m hlt2
                generalize jn x m = s at *
                generalize x.f m = t at *
                go_wp2_with fail
                go_roundw
                case rel => exact ⟨m + 1, HM.out, by go_num, by rw [HJ2.out], by trivial⟩
                case measure => simp [intOf]; have := HM.out; omega
            · have hmn : m = x.n := by omega
              subst hmn
              by_cases hl : 100 < (jn x x.n).size
              · have HW := Lib.hid (HLO.out hl)
                generalize jn x x.n = s at *
                go_wp2_with fail
                go_ret2
                exact ⟨by rw [HW.out]; rfl, rfl⟩
              · have HS3 := Lib.hid (HST.out hl)
                have z1 := LS.out x.n (Nat.le_refl _)
                generalize jn x x.n = s at *
                go_wp2_with fail
                go_roundw
                case rel => exact ⟨k + 1, HK.out, by go_num, by rw [HO2.out, HO.out], by trivial, HS3.out⟩
                case measure => simp [intOf]; have := HK.out; omega
        · have hkn : k = n := by omega
          subst hkn
          by_cases h4 : 400 < k
          · have HW := Lib.hid (putV_many g k HY.out h4)
            go_wp2_with fail
            go_ret2
            exact ⟨by rw [HW.out]; rfl, rfl⟩
          · have HW := Lib.hid (putV_ok g k HY.out HIN2.out (by omega))
            generalize outN g k = s at *
            go_wp2_with fail
            go_ret2
            exact ⟨by rw [HW.out]; rfl, rfl⟩
end Go.Proofs.YtapdiionikfgpaaGreatDoor.Li
namespace Go.Proofs.YtapdiionikfgpaaGreatDoor.Li
open Go.ChangeShapes Go.WideShapes Go.ChangeAt Go.RowKit
set_option linter.unusedVariables false
theorem c53 (b : Nat) (h1 : 97 ≤ b) (h2 : b ≤ 102) (w : World) : Calls Tryz.prog 167 #[.int .u8 (b : Int)] w fun e w' => e = .returned (.int .u8 (b : Int)) ∧ w = w' := by
  have hc : b = 97 ∨ b = 98 ∨ b = 99 ∨ b = 100 ∨ b = 101 ∨ b = 102 := by omega
  rcases hc with rfl | rfl | rfl | rfl | rfl | rfl
  all_goals
    go_enter Tryz.func167, Tryz.ntmps167
    go_wp2
    go_ret
    exact ⟨rfl, rfl⟩
theorem bb_getD (s : ByteArray) (i : Nat) (h : i < s.size) : (s.data.toList.getD i 0).toNat = bb s i := by
  unfold bb
  rw [dif_pos h]
  have : i < s.data.toList.length := h
  simp [List.getD, List.getElem?_eq_getElem this]
  rfl
/-- a digit of sixteens -/
theorem dg16 (b : Nat) (h : dg b < 16) : (48 ≤ b ∧ b ≤ 57 ∧ dg b = b - 48) ∨ (97 ≤ b ∧ b ≤ 102 ∧ dg b = b - 97 + 10) := by
  unfold dg at h ⊢
  split
  · rename_i hh; left; exact ⟨hh.1, hh.2, rfl⟩
  · rename_i hh
    rw [if_neg hh] at h
    split
    · rename_i h3; right; exact ⟨h3.1, h3.2, rfl⟩
    · rename_i h3; rw [if_neg h3] at h; omega
set_option maxHeartbeats 32000000 in
set_option maxRecDepth 100000 in
theorem c38_16 (t : ByteArray) (hne : t.size ≠ 0) (hmax : t.size ≤ 8) (hd : ∀ i, i < t.size → dg (bb t i) < 16) (w : World) :
    Calls Tryz.prog 147 #[.string t, .int .i64 16, .int .i64 32] w fun e w' => e = .returned (.tuple #[.int .u64 (numN 16 t t.size : Int), .nilIface]) ∧ w' = Lib.bytesWorld w 5 t := by
  have hemp : t.toList.isEmpty = false := by
    rw [← decide_eq_emptyBytes]
    exact decide_eq_false (fun h => hne (by rw [h]; rfl))
  have hcv := Lib.run_convert_string_bytes (P := Tryz.prog) w 9 152 5 t (u := .string) Tryz.underlying9 Tryz.underlying152 Tryz.underlying5
  have hB : ∀ j, j < t.size → (Lib.bytesWorld w 5 t).cell? ⟨w.heap.size, j, none⟩ = some (.int .u8 (bb t j : Int)) := fun j hj => by
    rw [Lib.bytesWorld_cell w 5 t j hj, bb_getD t j hj]
  obtain ⟨W1, hW1⟩ : ∃ W1, W1 = Lib.bytesWorld w 5 t := ⟨_, rfl⟩
  rw [← hW1] at hcv hB ⊢
  clear hW1
  have hmv : IntKind.u64.wrap (IntKind.u64.wrap 4294967296 - 1) = 4294967295 := by
    rw [IntKind.wrap_u64, IntKind.wrap_u64]
    decide
  have HD := Lib.hid hd
  have HB := Lib.hid hB
  have HM := Lib.hid hmax
  clear hd hB
  go_enter Tryz.func147, Tryz.ntmps147
  go_wp2
  go_loop [12, 13, 101] (fun vu vn vi => ∃ (k : Nat) (a : Int), vu = .bool false ∧ vn = .int .u64 a ∧ vi = .int .i64 k ∧ k ≤ t.size ∧ Hid (a = (numN 16 t k : Int)))
    (fun _ _ vi => t.size - (intOf vi).toNat)
  case atStart => exact ⟨0, 0, rfl, rfl, rfl, by omega, rfl⟩
  case round =>
    obtain ⟨k, a, rfl, rfl, rfl, hk, hh⟩ := hrel
    by_cases hkn : k < t.size
    · have hc := HB.out k hkn
      have hdk := HD.out k hkn
      have HN : Hid ((numN 16 t (k + 1) : Int) = 16 * a + (dg (bb t k) : Int)) := Lib.hid (by rw [hh.out]; simp [numN])
      have ha0 : 0 ≤ a := by rw [hh.out]; omega
      have ha : a ≤ 268435455 := by
        have h1 := numN_lt 16 t k (fun j hj => HD.out j (by omega))
        have h2 : 16 ^ k ≤ 16 ^ 7 := Nat.pow_le_pow_right (by decide) (by have := HM.out; omega)
        rw [hh.out]
        omega
      generalize bb t k = b at *
      rcases dg16 b hdk with ⟨h1, h2, h3⟩ | ⟨h1, h2, h3⟩
      · have HN2 : Hid (((numN 16 t (k + 1) : Nat) : Int) = a * 16 + ((b : Int) - 48)) := Lib.hid (by rw [HN.out, h3]; omega)
        have HG := Lib.hid hdk
        have H3 := Lib.hid h3
        clear h3 hdk
        have iov : a * 16 + ((b : Int) - 48) ≤ 4294967295 := by omega
        go_wp2
        refine ⟨⟨k + 1, numN 16 t (k + 1), rfl, ?_, (by first | rfl | (congr 1; omega)), by omega, Lib.hid rfl⟩, by simp [intOf]; omega⟩
        rw [HN2.out]
      · have HN2 : Hid (((numN 16 t (k + 1) : Nat) : Int) = a * 16 + ((b : Int) - 97 + 10)) := Lib.hid (by rw [HN.out, h3]; omega)
        have HG := Lib.hid hdk
        have H3 := Lib.hid h3
        clear h3 hdk
        have iov : a * 16 + ((b : Int) - 97 + 10) ≤ 4294967295 := by omega
        have K := Lib.hid (c53 b h1 h2)
        go_wp2_with fail
        refine (K.out _).mono ?_
        rintro _ _ ⟨rfl, rfl⟩
        go_wp2_with fail
        refine (K.out _).mono ?_
        rintro _ _ ⟨rfl, rfl⟩
        go_wp2_with fail
        refine (K.out _).mono ?_
        rintro _ _ ⟨rfl, rfl⟩
        clear K
        go_wp2_with fail
        refine ⟨⟨k + 1, a * 16 + ((b : Int) - 97 + 10), rfl, (by first | rfl | (congr 1; omega)), (by first | rfl | (congr 1; omega)), by omega, Lib.hid HN2.out.symm⟩, by simp [intOf]; omega⟩
    · have hkk : k = t.size := by omega
      subst hkk
      go_wp2
      go_ret2
      exact ⟨by rw [hh.out]; rfl, rfl⟩
theorem c23_16 (t : ByteArray) (hne : t.size ≠ 0) (hmax : t.size ≤ 8) (hd : ∀ i, i < t.size → dg (bb t i) < 16) (w : World) :
    Calls Tryz.prog 134 #[.string t, .int .i64 16, .int .i64 32] w fun e w' => e = .returned (.tuple #[.int .u64 (numN 16 t t.size : Int), .nilIface]) ∧ w' = Lib.bytesWorld w 5 t := by
  have K := Lib.hid (c38_16 t hne hmax hd w)
  generalize numN 16 t t.size = a at *
  generalize Lib.bytesWorld w 5 t = W1 at *
  clear hd hne hmax
  go_enter Tryz.func134, Tryz.ntmps134
  go_wp2_with fail
  refine (K.out).mono ?_
  rintro e w' ⟨rfl, rfl⟩
  go_wp2_with fail
  go_ret2
  exact ⟨rfl, rfl⟩
end Go.Proofs.YtapdiionikfgpaaGreatDoor.Li
namespace Go.Proofs.YtapdiionikfgpaaGreatDoor.Li
open Go.ChangeShapes Go.WideShapes Go.ChangeAt Go.RowKit
set_option linter.unusedVariables false
/-- does a word begin with the prefix of sixteens? -/
def px (s : ByteArray) : Bool := decide (2 ≤ s.size) && (decide (bb s 0 = 48) && decide (bb s 1 = 120))
theorem dec8 (c : UInt8) (n : Nat) (hn : n < 256) (d : UInt8) (hd : d.toNat = n) : (c == d) = decide (c.toNat = n) := by
  rw [Bool.eq_iff_iff]
  simp
  constructor
  · intro e; rw [e]; exact hd
  · intro e; exact UInt8.toNat_inj.1 (e.trans hd.symm)
theorem preX (s : ByteArray) (h : 2 ≤ s.size) : ((s.extract 0 2).toList == [48, 120]) = (decide (bb s 0 = 48) && decide (bb s 1 = 120)) := by
  rw [ByteArray.toList_eq, Lib.extract_from_zero]
  unfold bb
  rw [dif_pos (by omega), dif_pos (by omega)]
  obtain ⟨⟨l⟩⟩ := s
  cases l with
  | nil => exact absurd h (by simp [ByteArray.size])
  | cons c t =>
    cases t with
    | nil => exact absurd h (by simp [ByteArray.size])
    | cons d u =>
      show ([c, d] == [48, 120]) = (decide (c.toNat = 48) && decide (d.toNat = 120))
      rw [← dec8 c 48 (by omega) 48 rfl, ← dec8 d 120 (by omega) 120 rfl]
      simp
theorem cX44 (s : ByteArray) (hs : s.size ≤ 9223372036854775807) (w : World) : Calls Tryz.prog 113 #[.string s, .string ⟨#[48, 120]⟩] w fun e w' => e = .returned (.bool (px s)) ∧ w = w' := by
  go_enter Tryz.func113, Tryz.ntmps113
  go_wp2
  · rename_i h
    go_ret
    refine ⟨?_, rfl⟩
    show Ending.returned (Value.bool ((s.extract 0 2).toList == [48, 120])) = _
    unfold px
    rw [preX s (by omega), decide_eq_true (by omega : 2 ≤ s.size), Bool.true_and]
  · rename_i h
    go_ret
    refine ⟨?_, rfl⟩
    show Ending.returned (Value.bool false) = _
    unfold px
    rw [decide_eq_false (by omega), Bool.false_and]
theorem px_size (s : ByteArray) (h : px s = true) : 2 ≤ s.size := by unfold px at h; simp at h; exact h.1
theorem c36 (s : ByteArray) (hs : s.size ≤ 9223372036854775807) (w : World) : Calls Tryz.prog 145 #[.string s, .string ⟨#[48, 120]⟩] w fun e w' => e = .returned (.tuple #[.string (if px s = true then s.extract 2 s.size else s), .bool (px s)]) ∧ w = w' := by
  have K := Lib.hid (cX44 s hs)
  have HP := Lib.hid (px_size s)
  generalize px s = q at *
  go_enter Tryz.func145, Tryz.ntmps145
  go_wp2_with fail
  refine (K.out _).mono ?_
  rintro _ _ ⟨rfl, rfl⟩
  cases q
  · go_wp2_with fail
    go_ret2
    exact ⟨rfl, rfl⟩
  · have h2 := HP.out rfl
    go_wp2_with fail
    go_ret2
    exact ⟨rfl, rfl⟩
theorem c21 (s : ByteArray) (hs : s.size ≤ 9223372036854775807) (w : World) : Calls Tryz.prog 132 #[.string s, .string ⟨#[48, 120]⟩] w fun e w' => e = .returned (.tuple #[.string (if px s = true then s.extract 2 s.size else s), .bool (px s)]) ∧ w = w' := by
  have K := Lib.hid (c36 s hs)
  generalize (if px s = true then s.extract 2 s.size else s) = t at *
  generalize px s = q at *
  go_enter Tryz.func132, Tryz.ntmps132
  go_wp2_with fail
  refine (K.out _).mono ?_
  rintro _ _ ⟨rfl, rfl⟩
  go_wp2_with fail
  go_ret2
  exact ⟨rfl, rfl⟩
end Go.Proofs.YtapdiionikfgpaaGreatDoor.Li
