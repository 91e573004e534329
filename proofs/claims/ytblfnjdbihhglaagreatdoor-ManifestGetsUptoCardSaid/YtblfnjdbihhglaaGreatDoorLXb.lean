import Derived.Test.YtblfnjdbihhglaaGreatDoorLC
import Derived.Deep.Draws
namespace Go.Proofs.YtblfnjdbihhglaaGreatDoor.Li
open Go.ChangeShapes Go.WideShapes Go.ChangeAt Go.RowKit
set_option linter.unusedVariables false
def DR (w : World) (n : Nat) (i : Value) (wr : World) : Prop := ∃ k : Nat, k ≤ n ∧ i = .int .i64 (k : Int) ∧ ∃ q, wr = w.drewN q
set_option maxHeartbeats 2000000 in
/-- the same words -/
def AlikeW (n : Nat) (g g' : Nat → Wl) : Prop := ∀ k, k < n → (g k).n = (g' k).n ∧ ∀ j, j < (g k).n → (g k).f j = (g' k).f j
set_option maxHeartbeats 4000000 in
theorem c16 (A B : Option Addr) (n c d : Nat) (g g' : Nat → Wl) (w : World) (hn : n ≤ 9223372036854775807) (hA : Ws w A n g) (hB : Ws w B n g') (he : AlikeW n g g') :
    Calls Tryz.prog 13 #[.slice A n c, .slice B n d] w fun e w' => e = .returned (.bool true) ∧ ∃ q, w' = w.drewN q := by
  have HE := Lib.hid he
  have HA := Lib.hid hA
  have HB := Lib.hid hB
  clear he hA hB
  have hq : ((n : Int) != (n : Int)) = false := by simp
  go_enter Tryz.func13, Tryz.ntmps13
  go_wp2
  go_loopw [5] (DR w n) (fun i _ => n - (intOf i).toNat)
  case atStart => exact ⟨0, Nat.zero_le _, rfl, 0, rfl⟩
  case round =>
    obtain ⟨k, hk, rfl, q, rfl⟩ := hrel
    by_cases hlt : k < n
    · obtain ⟨b, o, rfl, hb, hc⟩ := HA.out (by omega)
      obtain ⟨b', o', rfl, hb', hc'⟩ := HB.out (by omega)
      obtain ⟨-, h1, hs, hn1, -⟩ := hc k hlt
      obtain ⟨-, h2, hs', hn2, -⟩ := hc' k hlt
      obtain ⟨he1, he2⟩ := HE.out k hlt
      rw [← he1] at h2 hs' hn2
      have HS := Lib.hid hs
      have HS' := Lib.hid hs'
      have HE2 := Lib.hid he2
      have HK : Hid (k + 1 ≤ n) := Lib.hid hlt
      clear hc hc' he2 hs hs' he1
      generalize (g k).n = m at *
      generalize (g k).A = A1 at *
      generalize (g' k).A = A2 at *
      generalize (g k).c = c1 at *
      generalize (g' k).c = c2 at *
      generalize (g k).f = f1 at *
      generalize (g' k).f = f2 at *
      have hq2 : ((m : Int) != (m : Int)) = false := by simp
      go_wp2_with fail
      go_quiet (fail)
      go_wp2_with fail
      go_loopw [6] (DR w m) (fun i _ => m - (intOf i).toNat)
      case atStart => exact ⟨0, Nat.zero_le _, rfl, _, World.drewN_drewN _ _ _⟩
      case round =>
        obtain ⟨j, hj, rfl, q2, rfl⟩ := hrel
        by_cases hlt2 : j < m
        · obtain ⟨b1, o1, rfl, hb1, hc1⟩ := HS.out (by omega)
          obtain ⟨b2, o2, rfl, hb2, hc2⟩ := HS'.out (by omega)
          have h3 := (hc1 j hlt2).1
          have h4 := (hc2 j hlt2).1
          rw [← HE2.out j hlt2] at h4
          clear hc1 hc2
          generalize f1 j = x at *
          have e1 : (!(x.toList == x.toList)) = false := by simp
          go_wp2_with fail
          go_quiet (fail)
          go_wp2
          go_roundw
          case rel => exact ⟨j + 1, hlt2, by go_num, _, rfl⟩
          case measure => simp [intOf]; omega
        · obtain rfl : j = m := by omega
          go_wp2_with fail
          go_roundw
          case rel => exact ⟨k + 1, HK.out, by go_num, _, rfl⟩
          case measure => simp [intOf]; have := HK.out; omega
    · obtain rfl : k = n := by omega
      go_wp2
      go_ret
      exact ⟨rfl, q, rfl⟩
end Go.Proofs.YtblfnjdbihhglaaGreatDoor.Li
