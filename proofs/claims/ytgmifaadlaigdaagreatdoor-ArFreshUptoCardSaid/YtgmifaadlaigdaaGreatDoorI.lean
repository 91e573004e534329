import Derived.Test.YtgmifaadlaigdaaGreatDoorH
import Derived.Laws.StructEq
namespace Go.Proofs.YtgmifaadlaigdaaGreatDoor
open Go.ChangeShapes Go.WideShapes Go.ChangeAt Go.RowKit
set_option linter.unusedVariables false
/-- the same members? -/
def SameM (n : Nat) (g h : Nat → Mem) : Prop := ∀ k, k < n → (g k).nm = (h k).nm ∧ (g k).n = (h k).n ∧ ∀ j, j < (g k).n → (g k).f j = (h k).f j
theorem str_bne (s : ByteArray) : (!(s.toList == s.toList)) = false := by simp
set_option maxRecDepth 100000 in
set_option maxHeartbeats 4000000 in
/-- the same members -/
theorem c15 (A B : Option Addr) (n c d : Nat) (g h : Nat → Mem) (w : World) (hn : n ≤ 16777216) (hA : Ms w A n g) (hB : Ms w B n h) (he : SameM n g h) :
    Calls Tryz.prog 15 #[.slice A n c, .slice B n d] w fun e w' => e = .returned (.bool true) ∧ ∃ q, w' = w.drewN q := by
  have HE := Lib.hid he
  have HA := Lib.hid hA
  have HB := Lib.hid hB
  clear he hA hB
  have hq : ((n : Int) != (n : Int)) = false := by simp
  go_enter Tryz.func15, Tryz.ntmps15
  go_wp2
  go_loopw [5] (DR w n) (fun i _ => n - (intOf i).toNat)
  case atStart => exact ⟨0, Nat.zero_le _, rfl, 0, rfl⟩
  case round =>
    obtain ⟨k, hk, rfl, q, rfl⟩ := hrel
    by_cases hlt : k < n
    · obtain ⟨b, o, rfl, hb, hc⟩ := HA.out (by omega)
      obtain ⟨b', o', rfl, hb', hc'⟩ := HB.out (by omega)
      obtain ⟨a1, a2, a3, a4, a5, a6⟩ := hc k hlt
      obtain ⟨d1, d2, d3, d4, d5, d6⟩ := hc' k hlt
      obtain ⟨e1, e2, e3⟩ := HE.out k hlt
      have HLT := Lib.hid hlt
      rw [← e1] at d1
      rw [← e2] at d2 d3
      have K10 := Lib.hid (fun q => c10 (g k).A (h k).A (g k).n (g k).c (h k).c (g k).f (h k).f (w.drewN q) a4 (a3.below (below_drewN (Below.refl _ _) q)) (d3.below (below_drewN (Below.refl _ _) q)) e3)
      clear hc hc' a3 d3 d4 d5 d6 e1 e2 e3
      generalize (g k).nm = s at *
      generalize (g k).n = m at *
      generalize (g k).A = A1 at *
      generalize (h k).A = A2 at *
      generalize (g k).c = x1 at *
      generalize (h k).c = x2 at *
      have hb0 := str_bne s
      go_wp2_with fail
      go_region_held3 (fun w' => w'.cell? ⟨b, o + k * 2, none⟩ = some (.string s) ∧ w'.cell? ⟨b, o + k * 2 + 1, none⟩ = some (.slice A1 m x1) ∧ w'.cell? ⟨b', o' + k * 2, none⟩ = some (.string s) ∧ w'.cell? ⟨b', o' + k * 2 + 1, none⟩ = some (.slice A2 m x2) ∧ ∃ q, w' = w.drewN q)
        (first | assumption | exact ⟨a1, a2, d1, d2, ⟨_, rfl⟩⟩ | (refine ⟨?_, ?_, ?_, ?_, ?_⟩; exact a1; exact a2; exact d1; exact d2; exact ⟨_, rfl⟩) | (refine ⟨?_, ?_, ?_, ?_, ?_⟩ <;> first | assumption | exact ⟨q + 1, rfl⟩ | exact ⟨_, rfl⟩))
        ((go_at_call 10; (with_reducible refine (K10.out _).mono ?_); rintro _ _ ⟨rfl, q', rfl⟩))
      all_goals
        go_wp2_with fail
        go_roundw
        case rel => exact ⟨k + 1, HLT.out, by go_num, _, rfl⟩
        case measure => simp [intOf]; have := HLT.out; omega
    · obtain rfl : k = n := by omega
      go_wp2
      go_ret
      exact ⟨rfl, q, rfl⟩
set_option maxRecDepth 100000 in
set_option maxHeartbeats 4000000 in
/-- the same entries -/
theorem c16 (A B : Option Addr) (n c d : Nat) (g h : Nat → Ix) (w : World) (hn : n ≤ 16777216) (hA : Is w A n g) (hB : Is w B n h) (he : ∀ k, k < n → g k = h k) :
    Calls Tryz.prog 16 #[.slice A n c, .slice B n d] w fun e w' => e = .returned (.bool true) ∧ ∃ q, w' = w.drewN q := by
  have HE := Lib.hid he
  have HA := Lib.hid hA
  have HB := Lib.hid hB
  clear he hA hB
  have hq : ((n : Int) != (n : Int)) = false := by simp
  go_enter Tryz.func16, Tryz.ntmps16
  go_wp2
  go_loopw [5] (DR w n) (fun i _ => n - (intOf i).toNat)
  case atStart => exact ⟨0, Nat.zero_le _, rfl, 0, rfl⟩
  case round =>
    obtain ⟨k, hk, rfl, q, rfl⟩ := hrel
    by_cases hlt : k < n
    · obtain ⟨b, o, rfl, hb, hc⟩ := HA.out (by omega)
      obtain ⟨b', o', rfl, hb', hc'⟩ := HB.out (by omega)
      obtain ⟨a1, a2, a3, a4, a5⟩ := hc k hlt
      obtain ⟨d1, d2, -⟩ := hc' k hlt
      have HLT := Lib.hid hlt
      rw [← HE.out k hlt] at d1 d2
      clear hc hc'
      generalize g k = x at *
      go_wp2_with fail
      go_quiet (fail)
      go_wp2
      go_roundw
      case rel => exact ⟨k + 1, HLT.out, by go_num, _, rfl⟩
      case measure => simp [intOf]; have := HLT.out; omega
    · obtain rfl : k = n := by omega
      go_wp2
      go_ret
      exact ⟨rfl, q, rfl⟩
end Go.Proofs.YtgmifaadlaigdaaGreatDoor
