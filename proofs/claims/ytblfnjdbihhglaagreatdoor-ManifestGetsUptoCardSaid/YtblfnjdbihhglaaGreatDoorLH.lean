import Derived.Test.YtblfnjdbihhglaaGreatDoorLA
namespace Go.Proofs.YtblfnjdbihhglaaGreatDoor.Li
open Go.ChangeShapes Go.WideShapes Go.ChangeAt Go.RowKit
set_option linter.unusedVariables false
/-- a digit's worth -/
def dg (b : Nat) : Nat := if 48 ≤ b ∧ b ≤ 57 then b - 48 else if 97 ≤ b ∧ b ≤ 102 then b - 97 + 10 else 99
theorem dg_le (b : Nat) : dg b ≤ 99 := by unfold dg; split <;> (try split) <;> omega
/-- so many digits' number -/
def numN (base : Nat) (s : ByteArray) : Nat → Nat
  | 0 => 0
  | k + 1 => base * numN base s k + dg (bb s k)
theorem c24_1 (b : Nat) (h1 : 48 ≤ b) (h2 : b ≤ 57) (w : World) : Calls Tryz.prog 85 #[.int .u8 (b : Int)] w fun e w' => e = .returned (.int .u64 (dg b : Int)) ∧ w = w' := by
  have hd : Hid ((dg b : Int) = (b : Int) - 48) := Lib.hid (by unfold dg; rw [if_pos ⟨h1, h2⟩]; omega)
  go_enter Tryz.func85, Tryz.ntmps85
  go_wp2_with fail
  go_ret
  exact ⟨by rw [hd.out]; first | rfl | go_num, rfl⟩
theorem c24_2 (b : Nat) (h1 : 97 ≤ b) (h2 : b ≤ 102) (w : World) : Calls Tryz.prog 85 #[.int .u8 (b : Int)] w fun e w' => e = .returned (.int .u64 (dg b : Int)) ∧ w = w' := by
  have hd : Hid ((dg b : Int) = (b : Int) - 97 + 10) := Lib.hid (by unfold dg; rw [if_neg (by omega), if_pos ⟨h1, h2⟩]; omega)
  go_enter Tryz.func85, Tryz.ntmps85
  go_wp2_with fail
  go_ret
  exact ⟨by rw [hd.out]; first | rfl | go_num, rfl⟩
theorem c24_3 (b : Nat) (h1 : b < 48) (w : World) : Calls Tryz.prog 85 #[.int .u8 (b : Int)] w fun e w' => e = .returned (.int .u64 (dg b : Int)) ∧ w = w' := by
  have hd : Hid ((dg b : Int) = 99) := Lib.hid (by unfold dg; rw [if_neg (by omega), if_neg (by omega)]; rfl)
  go_enter Tryz.func85, Tryz.ntmps85
  go_wp2_with fail
  go_ret
  exact ⟨by rw [hd.out]; first | rfl | go_num, rfl⟩
theorem c24_4 (b : Nat) (h1 : 57 < b) (h2 : b < 97) (w : World) : Calls Tryz.prog 85 #[.int .u8 (b : Int)] w fun e w' => e = .returned (.int .u64 (dg b : Int)) ∧ w = w' := by
  have hd : Hid ((dg b : Int) = 99) := Lib.hid (by unfold dg; rw [if_neg (by omega), if_neg (by omega)]; rfl)
  go_enter Tryz.func85, Tryz.ntmps85
  go_wp2_with fail
  go_ret
  exact ⟨by rw [hd.out]; first | rfl | go_num, rfl⟩
theorem c24_5 (b : Nat) (h1 : 102 < b) (h2 : b < 256) (w : World) : Calls Tryz.prog 85 #[.int .u8 (b : Int)] w fun e w' => e = .returned (.int .u64 (dg b : Int)) ∧ w = w' := by
  have hd : Hid ((dg b : Int) = 99) := Lib.hid (by unfold dg; rw [if_neg (by omega), if_neg (by omega)]; rfl)
  go_enter Tryz.func85, Tryz.ntmps85
  go_wp2_with fail
  go_ret
  exact ⟨by rw [hd.out]; first | rfl | go_num, rfl⟩
theorem c24 (b : Nat) (h : b < 256) (w : World) : Calls Tryz.prog 85 #[.int .u8 (b : Int)] w fun e w' => e = .returned (.int .u64 (dg b : Int)) ∧ w = w' := by
  by_cases h1 : b < 48
  · exact c24_3 b h1 w
  · by_cases h2 : b ≤ 57
    · exact c24_1 b (by omega) h2 w
    · by_cases h3 : b < 97
      · exact c24_4 b (by omega) h3 w
      · by_cases h4 : b ≤ 102
        · exact c24_2 b (by omega) h4 w
        · exact c24_5 b (by omega) h w
end Go.Proofs.YtblfnjdbihhglaaGreatDoor.Li
