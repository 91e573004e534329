import Derived.Test.YtcbnnaigopoieaaF
namespace Go.Proofs.Ytcbnnaigopoieaa
open Go.ChangeShapes Go.WideShapes Go.ChangeAt Go.RowKit
set_option linter.unusedVariables false
theorem R1 (w : World) : Calls Try.prog 5 #[.int .i64 4088] w fun en w' => en = .returned (.tuple #[.int .u8 3, .int .i64 4088, .bool true]) ∧ w = w' := by
  have h := c5 4088 (by omega) w
  rw [show rm 4088 = (3, 4088, true) by decide +kernel] at h
  exact h
theorem R2 (w : World) : Calls Try.prog 5 #[.int .i64 4089] w fun en w' => en = .returned (.tuple #[.int .u8 4, .int .i64 4096, .bool true]) ∧ w = w' := by
  have h := c5 4089 (by omega) w
  rw [show rm 4089 = (4, 4096, true) by decide +kernel] at h
  exact h
theorem R3 (w : World) : Calls Try.prog 7 #[.int .i64 64, .int .i64 100, .int .i64 8] w fun en w' => en = .returned (.tuple #[.int .i64 64, .int .i64 104, .bool true]) ∧ w = w' := by
  have h := c7 64 100 8 (by unfold inI; omega) (by unfold inI; omega) (by unfold inI; omega) w
  rw [show nx 64 100 8 = (64, 104, true) by decide +kernel] at h
  exact h
theorem R4 (w : World) : Calls Try.prog 7 #[.int .i64 65, .int .i64 8, .int .i64 64] w fun en w' => en = .returned (.tuple #[.int .i64 128, .int .i64 8, .bool true]) ∧ w = w' := by
  have h := c7 65 8 64 (by unfold inI; omega) (by unfold inI; omega) (by unfold inI; omega) w
  rw [show nx 65 8 64 = (128, 8, true) by decide +kernel] at h
  exact h
theorem R5 (w : World) : Calls Try.prog 7 #[.int .i64 65279, .int .i64 8, .int .i64 8] w fun en w' => en = .returned (.tuple #[.int .i64 0, .int .i64 0, .bool false]) ∧ w = w' := by
  have h := c7 65279 8 8 (by unfold inI; omega) (by unfold inI; omega) (by unfold inI; omega) w
  rw [show nx 65279 8 8 = (0, 0, false) by decide +kernel] at h
  exact h
theorem R6 (w : World) : Calls Try.prog 15 #[.agg #[.int .i64 0, .int .i64 0, .slice none 0 0, .slice none 0 0, .int .i64 0, .string ⟨#[]⟩], .int .i64 (-1), .slice none 0 0] w fun en w' => en = .returned (.tuple #[.slice none 0 0, .slice none 0 0, .int .i64 2]) ∧ Below w.heap.size w w' := by
  go_enter Try.func15, Try.ntmps15
  go_wp2_with fail
  exact bodyPost_ret (v := .tuple #[.slice none 0 0, .slice none 0 0, .int .i64 2]) (by simp [results, Try.results15, go_sem]) rfl ⟨rfl, by first | exact Below.refl _ _ | exact (Below.refl _ _).alloc (Nat.le_refl _) _⟩
theorem works (w : World) : Calls Try.prog 9 #[] w fun en w' => en = .returned (.bool true) ∧ Below w.heap.size w w' := by
  go_enter Try.func9, Try.ntmps9
  go_wp2_with fail
  refine (R1 _).mono ?_
  rintro _ _ ⟨rfl, rfl⟩
  go_wp2_with fail
  refine (R2 _).mono ?_
  rintro _ _ ⟨rfl, rfl⟩
  go_wp2_with fail
  refine (R3 _).mono ?_
  rintro _ _ ⟨rfl, rfl⟩
  go_wp2_with fail
  refine (R4 _).mono ?_
  rintro _ _ ⟨rfl, rfl⟩
  go_wp2_with fail
  refine (R5 _).mono ?_
  rintro _ _ ⟨rfl, rfl⟩
  go_wp2_with fail
  refine (R6 _).mono ?_
  rintro _ w1 ⟨rfl, hb⟩
  go_wp2_with fail
  go_ret
  exact ⟨rfl, hb⟩
theorem law3 (n t al : Int) (hn : inI n) (ht : inI t) (ha : inI al) (w : World) : Calls Try.prog 3 #[.int .i64 n, .int .i64 t, .int .i64 al] w fun en w' => en = .returned (.bool true) ∧ Below w.heap.size w w' := by
  have k1 := c5 n hn
  have k2 := c6 n hn
  have k3 := c7 t n al ht hn ha
  have k4 := c8 t n al ht hn ha
  generalize rm n = r at *
  generalize nx t n al = x at *
  obtain ⟨e, s, ok⟩ := r
  obtain ⟨f, g, is⟩ := x
  simp only [rmV, nxV] at k1 k2 k3 k4
  have K1 := Lib.hid k1
  have K2 := Lib.hid k2
  have K3 := Lib.hid k3
  have K4 := Lib.hid k4
  clear k1 k2 k3 k4
  go_enter Try.func3, Try.ntmps3
  go_wp2_with fail
  refine (K1.out _).mono ?_
  rintro _ _ ⟨rfl, rfl⟩
  go_wp2_with fail
  refine (K2.out _).mono ?_
  rintro _ _ ⟨rfl, rfl⟩
  go_wp2_with fail
  refine (K3.out _).mono ?_
  rintro _ _ ⟨rfl, rfl⟩
  go_wp2_with fail
  refine (K4.out _).mono ?_
  rintro _ _ ⟨rfl, rfl⟩
  cases ok <;> cases is
  all_goals
    go_wp2_with fail
    refine (works _).mono ?_
    rintro _ w1 ⟨rfl, hb⟩
    go_wp2_with fail
    go_ret
    exact ⟨rfl, hb⟩
end Go.Proofs.Ytcbnnaigopoieaa
