import Derived.Test.YtkiojljopigldaaC
namespace Go.Proofs.Ytkiojljopigldaa
open Go.ChangeShapes Go.WideShapes Go.ChangeAt Go.RowKit
set_option linter.unusedVariables false
theorem within13 (v : Int) (h1 : -2147483648 ≤ v) (h2 : v ≤ 2147483647) (w : World) : Calls Try.prog 13 #[.int .i32 v, .int .u64 13, .bool true] w fun en w' => en = .returned (if -4096 ≤ v ∧ v < 4096 ∧ v.tmod 2 = 0 then .tuple #[.int .i32 v, .int .i64 0] else .tuple #[.int .i32 0, .int .i64 3]) ∧ w = w' := by
  by_cases g1 : v < -4096
  · rw [if_neg (by omega)]
    go_enter Try.func13, Try.ntmps13
    go_wp2
    go_ret2
    exact ⟨rfl, rfl⟩
  · by_cases g2 : 4096 ≤ v
    · rw [if_neg (by omega)]
      go_enter Try.func13, Try.ntmps13
      go_wp2
      go_ret2
      exact ⟨rfl, rfl⟩
    · generalize hR : (if -4096 ≤ v ∧ v < 4096 ∧ v.tmod 2 = 0 then (.tuple #[.int .i32 v, .int .i64 0] : Value) else .tuple #[.int .i32 0, .int .i64 3]) = R
      have HR := Lib.hid hR
      clear hR
      go_enter Try.func13, Try.ntmps13
      go_wp2
      all_goals
        go_ret2
        refine ⟨?_, rfl⟩
        rw [← HR.out]
        first
          | (rw [if_pos ⟨by omega, by omega, by simpa using ‹(v.tmod 2 != 0) = false›⟩]; rfl)
          | (rw [if_neg (fun h => by have h5 := ‹(v.tmod 2 != 0) = true›; rw [h.2.2] at h5; exact absurd h5 (by decide))]; rfl)
theorem within21 (v : Int) (h1 : -2147483648 ≤ v) (h2 : v ≤ 2147483647) (w : World) : Calls Try.prog 13 #[.int .i32 v, .int .u64 21, .bool true] w fun en w' => en = .returned (if -1048576 ≤ v ∧ v < 1048576 ∧ v.tmod 2 = 0 then .tuple #[.int .i32 v, .int .i64 0] else .tuple #[.int .i32 0, .int .i64 3]) ∧ w = w' := by
  by_cases g1 : v < -1048576
  · rw [if_neg (by omega)]
    go_enter Try.func13, Try.ntmps13
    go_wp2
    go_ret2
    exact ⟨rfl, rfl⟩
  · by_cases g2 : 1048576 ≤ v
    · rw [if_neg (by omega)]
      go_enter Try.func13, Try.ntmps13
      go_wp2
      go_ret2
      exact ⟨rfl, rfl⟩
    · generalize hR : (if -1048576 ≤ v ∧ v < 1048576 ∧ v.tmod 2 = 0 then (.tuple #[.int .i32 v, .int .i64 0] : Value) else .tuple #[.int .i32 0, .int .i64 3]) = R
      have HR := Lib.hid hR
      clear hR
      go_enter Try.func13, Try.ntmps13
      go_wp2
      all_goals
        go_ret2
        refine ⟨?_, rfl⟩
        rw [← HR.out]
        first
          | (rw [if_pos ⟨by omega, by omega, by simpa using ‹(v.tmod 2 != 0) = false›⟩]; rfl)
          | (rw [if_neg (fun h => by have h5 := ‹(v.tmod 2 != 0) = true›; rw [h.2.2] at h5; exact absurd h5 (by decide))]; rfl)
theorem within12 (v : Int) (h1 : -2147483648 ≤ v) (h2 : v ≤ 2147483647) (w : World) : Calls Try.prog 13 #[.int .i32 v, .int .u64 12, .bool false] w fun en w' => en = .returned (if -2048 ≤ v ∧ v < 2048 then .tuple #[.int .i32 v, .int .i64 0] else .tuple #[.int .i32 0, .int .i64 3]) ∧ w = w' := by
  by_cases g1 : v < -2048
  · rw [if_neg (by omega)]
    go_enter Try.func13, Try.ntmps13
    go_wp2
    go_ret2
    exact ⟨rfl, rfl⟩
  · by_cases g2 : 2048 ≤ v
    · rw [if_neg (by omega)]
      go_enter Try.func13, Try.ntmps13
      go_wp2
      go_ret2
      exact ⟨rfl, rfl⟩
    · rw [if_pos (by omega)]
      go_enter Try.func13, Try.ntmps13
      go_wp2
      go_ret2
      exact ⟨rfl, rfl⟩
end Go.Proofs.Ytkiojljopigldaa
