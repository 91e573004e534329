import Derived.Test.YtblfnjdbihhglaaGreatDoorLC
import Derived.Laws.Concat
namespace Go.Proofs.YtblfnjdbihhglaaGreatDoor.Li
open Go.ChangeShapes Go.WideShapes Go.ChangeAt Go.RowKit
set_option linter.unusedVariables false
/-- so many words of a line, with a blank between -/
def jn (x : Wl) : Nat → ByteArray
  | 0 => ⟨#[]⟩
  | k + 1 => (if k = 0 then jn x k else jn x k ++ ⟨#[32]⟩) ++ x.f k
/-- so many lines -/
def outN (g : Nat → Wl) : Nat → ByteArray
  | 0 => ⟨#[]⟩
  | k + 1 => (outN g k ++ jn (g k) (g k).n) ++ ⟨#[10]⟩
def longP (x : Wl) : Prop := 100 < (jn x x.n).size
open Classical in
noncomputable def putV (g : Nat → Wl) (n : Nat) : Value := if mayB g n = false then .tuple #[.string ⟨#[]⟩, .int .i64 5] else if (∃ k, k < n ∧ longP (g k)) ∨ 400 < n then .tuple #[.string ⟨#[]⟩, .int .i64 3] else .tuple #[.string (outN g n), .int .i64 0]
theorem putV_may (g : Nat → Wl) (n : Nat) (h : mayB g n = false) : putV g n = .tuple #[.string ⟨#[]⟩, .int .i64 5] := by unfold putV; rw [if_pos h]
theorem putV_long (g : Nat → Wl) (n k : Nat) (h : mayB g n = true) (hk : k < n) (hl : longP (g k)) : putV g n = .tuple #[.string ⟨#[]⟩, .int .i64 3] := by
  unfold putV; rw [if_neg (by rw [h]; decide), if_pos (Or.inl ⟨k, hk, hl⟩)]
theorem putV_many (g : Nat → Wl) (n : Nat) (h : mayB g n = true) (hl : 400 < n) : putV g n = .tuple #[.string ⟨#[]⟩, .int .i64 3] := by
  unfold putV; rw [if_neg (by rw [h]; decide), if_pos (Or.inr hl)]
theorem putV_ok (g : Nat → Wl) (n : Nat) (h : mayB g n = true) (h1 : ∀ k, k < n → ¬ longP (g k)) (h2 : n ≤ 400) : putV g n = .tuple #[.string (outN g n), .int .i64 0] := by
  unfold putV
  rw [if_neg (by rw [h]; decide), if_neg]
  rintro (⟨k, hk, hl⟩ | h3)
  · exact h1 k hk hl
  · omega
def R1 (w : World) (g : Nat → Wl) (n : Nat) (i : Value) (wr : World) : Prop := ∃ k : Nat, k ≤ n ∧ i = .int .i64 (k : Int) ∧ wr = w ∧ ∀ j, j < k → lineP (g j)
def R2 (w : World) (x : Wl) (i : Value) (wr : World) : Prop := ∃ k : Nat, k ≤ x.n ∧ i = .int .i64 (k : Int) ∧ wr = w ∧ ∀ j, j < k → wd (x.f j) = true
def R3 (w : World) (g : Nat → Wl) (n : Nat) (o i : Value) (wr : World) : Prop := ∃ k : Nat, k ≤ n ∧ i = .int .i64 (k : Int) ∧ o = .string (outN g k) ∧ wr = w ∧ ∀ j, j < k → ¬ longP (g j)
def R4 (w : World) (x : Wl) (s i : Value) (wr : World) : Prop := ∃ k : Nat, k ≤ x.n ∧ i = .int .i64 (k : Int) ∧ s = .string (jn x k) ∧ wr = w
set_option maxHeartbeats 16000000 in
theorem c15 (A : Option Addr) (n c : Nat) (g : Nat → Wl) (w : World) (hA : Ws w A n g) (hn : n ≤ 9223372036854775807)
    (hb : ∀ k, k ≤ n → (outN g k).size ≤ 16777216) (hb2 : ∀ k, k < n → ∀ m, m ≤ (g k).n → (jn (g k) m).size ≤ 16777216) (hb3 : ∀ k, k < n → ∀ m, m < (g k).n → ((g k).f m).size ≤ 16777216) :
    Calls Tryz.prog 19 #[.slice A n c] w fun e w' => e = .returned (putV g n) ∧ w = w' := by
  have HA := Lib.hid hA
  have HB := Lib.hid hb
  have HB2 := Lib.hid hb2
  have HB3 := Lib.hid hb3
  clear hA hb hb2 hb3
  go_enter Tryz.func19, Tryz.ntmps19
  go_wp2_with fail
  go_loopw [4] (fun i wr => R1 w g n i wr) (fun i _ => n - (intOf i).toNat)
  case atStart => exact ⟨0, by omega, rfl, rfl, fun j hj => absurd hj (by omega)⟩
  case round =>
    obtain ⟨k, hk, rfl, rfl, hin⟩ := hrel
    have HIN := Lib.hid hin
    clear hin
    by_cases hlt : k < n
    · obtain ⟨b, o, rfl, hbl, hc⟩ := HA.out (by omega)
      obtain ⟨q0, q1, hs, hn2, hnc⟩ := hc k hlt
      have HSs := Lib.hid hs
      have HC := Lib.hid hc
      have HNO : Hid (¬ lineP (g k) → putV g n = .tuple #[.string ⟨#[]⟩, .int .i64 5]) := Lib.hid fun h => putV_may g n (mayB_no g n k hlt h)
      have HST : Hid (lineP (g k) → ∀ j, j < k + 1 → lineP (g j)) := Lib.hid fun hl j hj => by
        by_cases e : j = k
        · rw [e]; exact hl
        · exact HIN.out j (by omega)
      have HK : Hid (k + 1 ≤ n) := Lib.hid hlt
      clear hc hs hk
      obtain ⟨x, hx⟩ : ∃ x, g k = x := ⟨_, rfl⟩
      rw [hx] at q0 q1 HSs HNO HST hn2 hnc
      clear hx
      by_cases h0 : x.n = 0
      · have HW := Lib.hid (HNO.out (fun h => by have := h.1; omega))
        rw [h0] at q1
        clear hn2 hnc
        go_wp2_with fail
        go_ret2
        exact ⟨by rw [HW.out]; rfl, rfl⟩
      · have hz : ((x.n : Int) == 0) = false := by simpa using h0
        have HXN := Lib.hid (Nat.pos_of_ne_zero h0)
        clear h0
        go_wp2_with fail
        go_loopw [5] (fun i wz => R2 wr x i wz) (fun i _ => x.n - (intOf i).toNat)
        case atStart => exact ⟨0, by omega, rfl, rfl, fun j hj => absurd hj (by omega)⟩
        case round =>
          obtain ⟨m, hm, rfl, rfl, hin2⟩ := hrel
          have HIN2 := Lib.hid hin2
          clear hin2
          by_cases hlt2 : m < x.n
          · obtain ⟨b2, o2, hA2, hbl2, hc2⟩ := HSs.out (by omega)
            obtain ⟨v0, vs⟩ := hc2 m hlt2
            have K := Lib.hid (c30 (x.f m) vs)
            have HM : Hid (m + 1 ≤ x.n) := Lib.hid hlt2
            have HS2 : Hid (wd (x.f m) = true → ∀ j, j < m + 1 → wd (x.f j) = true) := Lib.hid fun hl j hj => by
              by_cases e : j = m
              · rw [e]; exact hl
              · exact HIN2.out j (by omega)
            have HN2 : Hid (wd (x.f m) = false → putV g n = .tuple #[.string ⟨#[]⟩, .int .i64 5]) := Lib.hid fun hl => HNO.out (fun h => by have := h.2 m hlt2; rw [hl] at this; cases this)
            have HC2 := Lib.hid hc2
            clear hc2 hm
            rw [hA2] at q1
            have HA2 := Lib.hid hA2
            clear hA2
            generalize x.f m = s at *
            obtain ⟨q, hq⟩ : ∃ q, wd s = q := ⟨_, rfl⟩
            rw [hq] at K HS2 HN2
            clear hq
            go_wp2_with fail
            refine (K.out _).mono ?_
            rintro _ w4 ⟨rfl, rfl⟩
            cases q
            · have HW := Lib.hid (HN2.out rfl)
              go_wp2_with fail
              go_ret2
              exact ⟨by rw [HW.out]; rfl, rfl⟩
            · have HS3 := Lib.hid (HS2.out rfl)
              go_wp2_with fail
              go_roundw
              case rel => exact ⟨m + 1, HM.out, by go_num, by trivial, HS3.out⟩
              case measure => simp [intOf]; have := HM.out; omega
          · have HL : Hid (lineP x) := Lib.hid ⟨HXN.out, fun j hj => HIN2.out j (by omega)⟩
            have HS3 := Lib.hid (HST.out HL.out)
            clear hm
            go_wp2_with fail
            go_roundw
            case rel => exact ⟨k + 1, HK.out, by go_num, by trivial, HS3.out⟩
            case measure => simp [intOf]; have := HK.out; omega
    · have HY := Lib.hid (mayB_yes g n (fun j hj => HIN.out j (by omega)))
      clear hk
      go_wp2_with fail
      go_loopw [6, 7] (fun o i wz => R3 wr g n o i wz) (fun _ i _ => n - (intOf i).toNat)
      case atStart => exact ⟨0, by omega, rfl, rfl, rfl, fun j hj => absurd hj (by omega)⟩
      case round =>
        obtain ⟨k, hk, rfl, rfl, rfl, hin⟩ := hrel
        have HIN2 := Lib.hid hin
        clear hin
        by_cases hlt : k < n
        · obtain ⟨b, o, rfl, hbl, hc⟩ := HA.out (by omega)
          obtain ⟨q0, q1, hs, hn2, hnc⟩ := hc k hlt
          have HSs := Lib.hid hs
          have HC := Lib.hid hc
          have HK : Hid (k + 1 ≤ n) := Lib.hid hlt
          have HLO : Hid (longP (g k) → putV g n = .tuple #[.string ⟨#[]⟩, .int .i64 3]) := Lib.hid fun h => putV_long g n k HY.out hlt h
          have HST : Hid (¬ longP (g k) → ∀ j, j < k + 1 → ¬ longP (g j)) := Lib.hid fun hl j hj => by
            by_cases e : j = k
            · rw [e]; exact hl
            · exact HIN2.out j (by omega)
          have HO : Hid (outN g (k + 1) = (outN g k ++ jn (g k) (g k).n) ++ ⟨#[10]⟩) := Lib.hid rfl
          clear hc hs hk
          obtain ⟨out', ho'⟩ : ∃ out', outN g (k + 1) = out' := ⟨_, rfl⟩
          rw [ho'] at HO
          have HO2 := Lib.hid ho'
          clear ho'
          have LS := Lib.hid (HB2.out k hlt)
          have LT := Lib.hid (HB3.out k hlt)
          have z0 := HB.out k (Nat.le_of_lt hlt)
          generalize outN g k = out at *
          generalize g k = x at *
          go_wp2_with fail
          go_loopw [8, 9] (fun t i wz => R4 wr x t i wz) (fun _ i _ => x.n - (intOf i).toNat)
          case atStart => exact ⟨0, by omega, rfl, rfl, rfl⟩
          case round =>
            obtain ⟨m, hm, rfl, rfl, rfl⟩ := hrel
            by_cases hlt2 : m < x.n
            · obtain ⟨b2, o2, hA2, hbl2, hc2⟩ := HSs.out (by omega)
              obtain ⟨v0, vs⟩ := hc2 m hlt2
              have HM : Hid (m + 1 ≤ x.n) := Lib.hid hlt2
              have HC2 := Lib.hid hc2
              have HJ : Hid (jn x (m + 1) = (if m = 0 then jn x m else jn x m ++ ⟨#[32]⟩) ++ x.f m) := Lib.hid rfl
              clear hc2 hm
              rw [hA2] at q1
              have HA2 := Lib.hid hA2
              clear hA2
              by_cases h0 : m = 0
              · subst h0
                have HJ2 : Hid (jn x (0 + 1) = jn x 0 ++ x.f 0) := Lib.hid rfl
                have z1 := LS.out 0 (by omega)
                have z2 := LT.out 0 hlt2
                rw [Nat.add_zero] at v0
                generalize jn x 0 = s at *
                generalize x.f 0 = t at *
                go_wp2_with fail
                go_roundw
                case rel => exact ⟨0 + 1, HM.out, by go_num, by rw [HJ2.out], by trivial⟩
                case measure => simp [intOf]; have := HM.out; omega
              · have HJ2 : Hid (jn x (m + 1) = jn x m ++ ⟨#[32]⟩ ++ x.f m) := Lib.hid (by rw [HJ.out, if_neg h0])
                have hm0 : 0 < m := by omega
                have z1 := LS.out m (by omega)
                have z2 := LT.out m hlt2
                generalize jn x m = s at *
                generalize x.f m = t at *
                go_wp2_with fail
                go_roundw
                case rel => exact ⟨m + 1, HM.out, by go_num, by rw [HJ2.out], by trivial⟩
                case measure => simp [intOf]; have := HM.out; omega
            · have hmn : m = x.n := by omega
              subst hmn
              by_cases hl : 100 < (jn x x.n).size
              · have HW := Lib.hid (HLO.out hl)
                generalize jn x x.n = s at *
                go_wp2_with fail
                go_ret2
                exact ⟨by rw [HW.out]; rfl, rfl⟩
              · have HS3 := Lib.hid (HST.out hl)
                have z1 := LS.out x.n (Nat.le_refl _)
                generalize jn x x.n = s at *
                go_wp2_with fail
                go_roundw
                case rel => exact ⟨k + 1, HK.out, by go_num, by rw [HO2.out, HO.out], by trivial, HS3.out⟩
                case measure => simp [intOf]; have := HK.out; omega
        · have hkn : k = n := by omega
          subst hkn
          by_cases h4 : 400 < k
          · have HW := Lib.hid (putV_many g k HY.out h4)
            go_wp2_with fail
            go_ret2
            exact ⟨by rw [HW.out]; rfl, rfl⟩
          · have HW := Lib.hid (putV_ok g k HY.out HIN2.out (by omega))
            generalize outN g k = s at *
            go_wp2_with fail
            go_ret2
            exact ⟨by rw [HW.out]; rfl, rfl⟩
end Go.Proofs.YtblfnjdbihhglaaGreatDoor.Li
