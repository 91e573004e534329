import Derived.Test.YtojjdhohhonheabF
import Derived.Test.YtojjdhohhonheabM
namespace Go.Proofs.Ytojjdhohhonheab
open Go.ChangeShapes Go.WideShapes Go.ChangeAt Go.RowKit
set_option linter.unusedVariables false
def DB (o a b : Nat) : Prop := ∃ (v e : Int), (∀ w, Calls Try.prog 7 #[.int .u8 (o : Int), .int .u32 (a : Int), .int .u32 (b : Int)] w fun en w' => en = .returned (.tuple #[.int .u32 v, .int .i64 e]) ∧ w = w') ∧ (∀ w, Calls Try.prog 8 #[.int .u8 (o : Int), .int .u32 (a : Int), .int .u32 (b : Int)] w fun en w' => en = .returned (.tuple #[.int .u32 v, .int .i64 e]) ∧ ∃ n, w' = w.drewN n)
def IB (o a b : Nat) : Prop := ∃ (v : Bool) (e : Int), (∀ w, Calls Try.prog 9 #[.int .u8 (o : Int), .int .u32 (a : Int), .int .u32 (b : Int)] w fun en w' => en = .returned (.tuple #[.bool v, .int .i64 e]) ∧ w = w') ∧ (∀ w, Calls Try.prog 10 #[.int .u8 (o : Int), .int .u32 (a : Int), .int .u32 (b : Int)] w fun en w' => en = .returned (.tuple #[.bool v, .int .i64 e]) ∧ w = w')
theorem dob (o a b : Nat) (ho : o < 256) (ha : a < 4294967296) (hb : b < 4294967296) : DB o a b := by
  by_cases h : 21 ≤ o ∧ o ≤ 47
  · have hh : o = 21 ∨ o = 22 ∨ o = 23 ∨ o = 24 ∨ o = 25 ∨ o = 26 ∨ o = 27 ∨ o = 28 ∨ o = 29 ∨ o = 30 ∨ o = 31 ∨ o = 32 ∨ o = 33 ∨ o = 34 ∨ o = 35 ∨ o = 36 ∨ o = 37 ∨ o = 38 ∨ o = 39 ∨ o = 40 ∨ o = 41 ∨ o = 42 ∨ o = 43 ∨ o = 44 ∨ o = 45 ∨ o = 46 ∨ o = 47 := by omega
    rcases hh with rfl | rfl | rfl | rfl | rfl | rfl | rfl | rfl | rfl | rfl | rfl | rfl | rfl | rfl | rfl | rfl | rfl | rfl | rfl | rfl | rfl | rfl | rfl | rfl | rfl | rfl | rfl
    · exact ⟨_, _, do21 a b ha hb, ro21 a b ha hb⟩
    · exact ⟨_, _, do22 a b ha hb, ro22 a b ha hb⟩
    · exact ⟨_, _, do23 a b ha hb, ro23 a b ha hb⟩
    · exact ⟨_, _, do24 a b ha hb, ro24 a b ha hb⟩
    · exact ⟨_, _, do25 a b ha hb, ro25 a b ha hb⟩
    · exact ⟨_, _, do26 a b ha hb, ro26 a b ha hb⟩
    · exact ⟨_, _, do27 a b ha hb, ro27 a b ha hb⟩
    · exact ⟨_, _, do28 a b ha hb, ro28 a b ha hb⟩
    · exact ⟨_, _, do29 a b ha hb, ro29 a b ha hb⟩
    · exact ⟨_, _, do30 a b ha hb, ro30 a b ha hb⟩
    · exact ⟨_, _, do31 a b ha hb, ro31 a b ha hb⟩
    · exact ⟨_, _, do32 a b ha hb, ro32 a b ha hb⟩
    · exact ⟨_, _, do33 a b ha hb, ro33 a b ha hb⟩
    · exact ⟨_, _, do34 a b ha hb, ro34 a b ha hb⟩
    · exact ⟨_, _, do35 a b ha hb, ro35 a b ha hb⟩
    · exact ⟨_, _, do36 a b ha hb, ro36 a b ha hb⟩
    · exact ⟨_, _, do37 a b ha hb, ro37 a b ha hb⟩
    · exact ⟨_, _, do38 a b ha hb, ro38 a b ha hb⟩
    · exact ⟨_, _, do39 a b ha hb, ro39 a b ha hb⟩
    · exact ⟨_, _, do40 a b ha hb, ro40 a b ha hb⟩
    · exact ⟨_, _, do41 a b ha hb, ro41 a b ha hb⟩
    · exact ⟨_, _, do42 a b ha hb, ro42 a b ha hb⟩
    · exact ⟨_, _, do43 a b ha hb, ro43 a b ha hb⟩
    · exact ⟨_, _, do44 a b ha hb, ro44 a b ha hb⟩
    · exact ⟨_, _, do45 a b ha hb, ro45 a b ha hb⟩
    · exact ⟨_, _, do46 a b ha hb, ro46 a b ha hb⟩
    · exact ⟨_, _, do47 a b ha hb, ro47 a b ha hb⟩
  · exact ⟨_, _, fun w => doX o a b ho ha hb w h, fun w => roX o a b ho ha hb w h⟩
theorem isb (o a b : Nat) (ho : o < 256) (ha : a < 4294967296) (hb : b < 4294967296) : IB o a b := by
  by_cases h : 5 ≤ o ∧ o ≤ 10
  · have hh : o = 5 ∨ o = 6 ∨ o = 7 ∨ o = 8 ∨ o = 9 ∨ o = 10 := by omega
    rcases hh with rfl | rfl | rfl | rfl | rfl | rfl
    · exact ⟨_, _, is5 a b ha hb, ri5 a b ha hb⟩
    · exact ⟨_, _, is6 a b ha hb, ri6 a b ha hb⟩
    · exact ⟨_, _, is7 a b ha hb, ri7 a b ha hb⟩
    · exact ⟨_, _, is8 a b ha hb, ri8 a b ha hb⟩
    · exact ⟨_, _, is9 a b ha hb, ri9 a b ha hb⟩
    · exact ⟨_, _, is10 a b ha hb, ri10 a b ha hb⟩
  · exact ⟨_, _, fun w => isX o a b ho ha hb w h, fun w => riX o a b ho ha hb w h⟩
theorem below_drewN (w : World) (n : Nat) : Below w.heap.size w (w.drewN n) := ⟨rfl, rfl, rfl, Nat.le_refl _, fun _ _ => rfl⟩
set_option maxHeartbeats 2000000 in
theorem law3 (o a b : Nat) (ho : o < 256) (ha : a < 4294967296) (hb : b < 4294967296) (w : World) : Calls Try.prog 3 #[.int .u8 (o : Int), .int .u32 (a : Int), .int .u32 (b : Int)] w fun en w' => en = .returned (.bool true) ∧ Below w.heap.size w w' := by
  obtain ⟨v, e, k7, k8⟩ := dob o a b ho ha hb
  obtain ⟨p, g, k9, k10⟩ := isb o a b ho ha hb
  have K7 := Lib.hid k7
  have K8 := Lib.hid k8
  have K9 := Lib.hid k9
  have K10 := Lib.hid k10
  clear k7 k8 k9 k10
  go_enter Try.func3, Try.ntmps3
  go_wp2_with fail
  refine (K7.out _).mono ?_
  rintro _ _ ⟨rfl, rfl⟩
  go_wp2_with fail
  refine (K8.out _).mono ?_
  rintro _ _ ⟨rfl, n, rfl⟩
  go_wp2_with fail
  refine (K9.out _).mono ?_
  rintro _ _ ⟨rfl, rfl⟩
  go_wp2_with fail
  refine (K10.out _).mono ?_
  rintro _ _ ⟨rfl, rfl⟩
  cases p
  all_goals
    go_wp2_with fail
    refine (works _).mono ?_
    rintro _ _ ⟨rfl, rfl⟩
    go_wp2_with fail
    go_ret
    exact ⟨rfl, below_drewN _ _⟩
end Go.Proofs.Ytojjdhohhonheab
