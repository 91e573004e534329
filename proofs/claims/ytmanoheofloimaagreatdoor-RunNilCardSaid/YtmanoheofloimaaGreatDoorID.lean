import Derived.Test.YtmanoheofloimaaGreatDoorIC
import Derived.Laws.EntriesVeiled
namespace Go.Proofs.YtmanoheofloimaaGreatDoor.In
open Go.ChangeShapes Go.WideShapes Go.ChangeAt Go.RowKit
set_option linter.unusedVariables false
set_option maxRecDepth 100000
theorem mk27 (v : Int) (w : World) : Calls Tryz.prog 84 #[.int .i32 v] w fun en w' => en = .returned (.func (Fn.func 108) #[] #[.pointer (some ⟨w.heap.size, 0, none⟩)]) ∧ w' = (w.alloc (.cells #[.int .i32 v] 21)) := by
  go_enter Tryz.func84, Tryz.ntmps84
  go_wp2
  go_ret
  exact ⟨rfl, rfl⟩
theorem mk28 (v : Int) (w : World) : Calls Tryz.prog 85 #[.int .u64 v] w fun en w' => en = .returned (.func (Fn.func 109) #[] #[.pointer (some ⟨w.heap.size, 0, none⟩)]) ∧ w' = (w.alloc (.cells #[.int .u64 v] 90)) := by
  go_enter Tryz.func85, Tryz.ntmps85
  go_wp2
  go_ret
  exact ⟨rfl, rfl⟩
theorem mk30 (v u : Int) (w : World) : Calls Tryz.prog 87 #[.int .u64 v, .int .i32 u] w fun en w' => en = .returned (.func (Fn.func 110) #[] #[.pointer (some ⟨w.heap.size, 0, none⟩), .pointer (some ⟨w.heap.size + 1, 0, none⟩)]) ∧ w' = ((w.alloc (.cells #[.int .u64 v] 90)).alloc (.cells #[.int .i32 u] 21)) := by
  go_enter Tryz.func87, Tryz.ntmps87
  go_wp2
  go_ret
  exact ⟨rfl, rfl⟩
theorem mk34 (v u : Int) (w : World) : Calls Tryz.prog 91 #[.int .i32 v, .int .i32 u] w fun en w' => en = .returned (.func (Fn.func 113) #[] #[.pointer (some ⟨w.heap.size, 0, none⟩), .pointer (some ⟨w.heap.size + 1, 0, none⟩)]) ∧ w' = ((w.alloc (.cells #[.int .i32 v] 21)).alloc (.cells #[.int .i32 u] 21)) := by
  go_enter Tryz.func91, Tryz.ntmps91
  go_wp2
  go_ret
  exact ⟨rfl, rfl⟩
theorem mk35 (v u : Int) (w : World) : Calls Tryz.prog 92 #[.int .u64 v, .int .u64 u] w fun en w' => en = .returned (.func (Fn.func 114) #[] #[.pointer (some ⟨w.heap.size, 0, none⟩), .pointer (some ⟨w.heap.size + 1, 0, none⟩)]) ∧ w' = ((w.alloc (.cells #[.int .u64 v] 90)).alloc (.cells #[.int .u64 u] 90)) := by
  go_enter Tryz.func92, Tryz.ntmps92
  go_wp2
  go_ret
  exact ⟨rfl, rfl⟩
theorem form0 (N : Nat) (w : World) (hN : w.heap.size = N) : Calls Tryz.prog 56 #[.int .u8 0] w fun en w' => en = .returned (.agg #[.int .i64 9, .func (Fn.func 108) #[] #[.pointer (some ⟨N + 1, 0, none⟩)], .func (Fn.func 109) #[] #[.pointer (some ⟨N + 2, 0, none⟩)], .func (Fn.func 86) #[] #[]]) ∧ Below N w w' ∧ N + 3 ≤ w'.heap.size ∧ w'.cell? ⟨N + 1, 0, none⟩ = some (.int .i32 4096) ∧ w'.cell? ⟨N + 2, 0, none⟩ = some (.int .u64 0) := by
  subst hN
  go_enter Tryz.func56, Tryz.ntmps56
  go_wp2_with (first | (go_at_call 84; refine (mk27 _ _).mono ?_; rintro _ _ ⟨rfl, rfl⟩) | (go_at_call 85; refine (mk28 _ _).mono ?_; rintro _ _ ⟨rfl, rfl⟩) | (go_at_call 87; refine (mk30 _ _ _).mono ?_; rintro _ _ ⟨rfl, rfl⟩) | (go_at_call 91; refine (mk34 _ _ _).mono ?_; rintro _ _ ⟨rfl, rfl⟩) | (go_at_call 92; refine (mk35 _ _ _).mono ?_; rintro _ _ ⟨rfl, rfl⟩))
  refine bodyPost_ret (v := .agg #[.int .i64 9, .func (Fn.func 108) #[] #[.pointer (some ⟨w.heap.size + 1, 0, none⟩)], .func (Fn.func 109) #[] #[.pointer (some ⟨w.heap.size + 2, 0, none⟩)], .func (Fn.func 86) #[] #[]]) (by simp [results, Tryz.results56, go_sem]) rfl ⟨rfl, ?_, ?_, ?_, ?_⟩
  · exact (((Below.refl _ _).alloc (Nat.le_refl _) _).alloc (by simp) _).alloc (by simp; omega) _
  · simp
  · go_simp
  · go_simp
theorem form1 (N : Nat) (w : World) (hN : w.heap.size = N) : Calls Tryz.prog 56 #[.int .u8 1] w fun en w' => en = .returned (.agg #[.int .i64 9, .func (Fn.func 110) #[] #[.pointer (some ⟨N + 1, 0, none⟩), .pointer (some ⟨N + 2, 0, none⟩)], .func (Fn.func 88) #[] #[], .func (Fn.func 89) #[] #[]]) ∧ Below N w w' ∧ N + 3 ≤ w'.heap.size ∧ w'.cell? ⟨N + 1, 0, none⟩ = some (.int .u64 21) ∧ w'.cell? ⟨N + 2, 0, none⟩ = some (.int .i32 2) := by
  subst hN
  go_enter Tryz.func56, Tryz.ntmps56
  go_wp2_with (first | (go_at_call 84; refine (mk27 _ _).mono ?_; rintro _ _ ⟨rfl, rfl⟩) | (go_at_call 85; refine (mk28 _ _).mono ?_; rintro _ _ ⟨rfl, rfl⟩) | (go_at_call 87; refine (mk30 _ _ _).mono ?_; rintro _ _ ⟨rfl, rfl⟩) | (go_at_call 91; refine (mk34 _ _ _).mono ?_; rintro _ _ ⟨rfl, rfl⟩) | (go_at_call 92; refine (mk35 _ _ _).mono ?_; rintro _ _ ⟨rfl, rfl⟩))
  refine bodyPost_ret (v := .agg #[.int .i64 9, .func (Fn.func 110) #[] #[.pointer (some ⟨w.heap.size + 1, 0, none⟩), .pointer (some ⟨w.heap.size + 2, 0, none⟩)], .func (Fn.func 88) #[] #[], .func (Fn.func 89) #[] #[]]) (by simp [results, Tryz.results56, go_sem]) rfl ⟨rfl, ?_, ?_, ?_, ?_⟩
  · exact (((Below.refl _ _).alloc (Nat.le_refl _) _).alloc (by simp) _).alloc (by simp; omega) _
  · simp
  · go_simp
  · go_simp
theorem form2 (N : Nat) (w : World) (hN : w.heap.size = N) : Calls Tryz.prog 56 #[.int .u8 2] w fun en w' => en = .returned (.agg #[.int .i64 11, .func (Fn.func 110) #[] #[.pointer (some ⟨N + 1, 0, none⟩), .pointer (some ⟨N + 2, 0, none⟩)], .func (Fn.func 109) #[] #[.pointer (some ⟨N + 3, 0, none⟩)], .func (Fn.func 90) #[] #[]]) ∧ Below N w w' ∧ N + 4 ≤ w'.heap.size ∧ w'.cell? ⟨N + 1, 0, none⟩ = some (.int .u64 12) ∧ w'.cell? ⟨N + 2, 0, none⟩ = some (.int .i32 1) ∧ w'.cell? ⟨N + 3, 0, none⟩ = some (.int .u64 20) := by
  subst hN
  go_enter Tryz.func56, Tryz.ntmps56
  go_wp2_with (first | (go_at_call 84; refine (mk27 _ _).mono ?_; rintro _ _ ⟨rfl, rfl⟩) | (go_at_call 85; refine (mk28 _ _).mono ?_; rintro _ _ ⟨rfl, rfl⟩) | (go_at_call 87; refine (mk30 _ _ _).mono ?_; rintro _ _ ⟨rfl, rfl⟩) | (go_at_call 91; refine (mk34 _ _ _).mono ?_; rintro _ _ ⟨rfl, rfl⟩) | (go_at_call 92; refine (mk35 _ _ _).mono ?_; rintro _ _ ⟨rfl, rfl⟩))
  refine bodyPost_ret (v := .agg #[.int .i64 11, .func (Fn.func 110) #[] #[.pointer (some ⟨w.heap.size + 1, 0, none⟩), .pointer (some ⟨w.heap.size + 2, 0, none⟩)], .func (Fn.func 109) #[] #[.pointer (some ⟨w.heap.size + 3, 0, none⟩)], .func (Fn.func 90) #[] #[]]) (by simp [results, Tryz.results56, go_sem]) rfl ⟨rfl, ?_, ?_, ?_, ?_, ?_⟩
  · exact ((((Below.refl _ _).alloc (Nat.le_refl _) _).alloc (by simp) _).alloc (by simp; omega) _).alloc (by simp; omega) _
  · simp
  · go_simp
  · go_simp
  · go_simp
theorem form3 (N : Nat) (w : World) (hN : w.heap.size = N) : Calls Tryz.prog 56 #[.int .u8 3] w fun en w' => en = .returned (.agg #[.int .i64 11, .func (Fn.func 113) #[] #[.pointer (some ⟨N + 1, 0, none⟩), .pointer (some ⟨N + 2, 0, none⟩)], .func (Fn.func 109) #[] #[.pointer (some ⟨N + 3, 0, none⟩)], .func (Fn.func 114) #[] #[.pointer (some ⟨N + 4, 0, none⟩), .pointer (some ⟨N + 5, 0, none⟩)]]) ∧ Below N w w' ∧ N + 6 ≤ w'.heap.size ∧ w'.cell? ⟨N + 1, 0, none⟩ = some (.int .i32 0) ∧ w'.cell? ⟨N + 2, 0, none⟩ = some (.int .i32 4095) ∧ w'.cell? ⟨N + 3, 0, none⟩ = some (.int .u64 20) ∧ w'.cell? ⟨N + 4, 0, none⟩ = some (.int .u64 20) ∧ w'.cell? ⟨N + 5, 0, none⟩ = some (.int .u64 12) := by
  subst hN
  go_enter Tryz.func56, Tryz.ntmps56
  go_wp2_with (first | (go_at_call 84; refine (mk27 _ _).mono ?_; rintro _ _ ⟨rfl, rfl⟩) | (go_at_call 85; refine (mk28 _ _).mono ?_; rintro _ _ ⟨rfl, rfl⟩) | (go_at_call 87; refine (mk30 _ _ _).mono ?_; rintro _ _ ⟨rfl, rfl⟩) | (go_at_call 91; refine (mk34 _ _ _).mono ?_; rintro _ _ ⟨rfl, rfl⟩) | (go_at_call 92; refine (mk35 _ _ _).mono ?_; rintro _ _ ⟨rfl, rfl⟩))
  refine bodyPost_ret (v := .agg #[.int .i64 11, .func (Fn.func 113) #[] #[.pointer (some ⟨w.heap.size + 1, 0, none⟩), .pointer (some ⟨w.heap.size + 2, 0, none⟩)], .func (Fn.func 109) #[] #[.pointer (some ⟨w.heap.size + 3, 0, none⟩)], .func (Fn.func 114) #[] #[.pointer (some ⟨w.heap.size + 4, 0, none⟩), .pointer (some ⟨w.heap.size + 5, 0, none⟩)]]) (by simp [results, Tryz.results56, go_sem]) rfl ⟨rfl, ?_, ?_, ?_, ?_, ?_, ?_, ?_⟩
  · exact ((((((Below.refl _ _).alloc (Nat.le_refl _) _).alloc (by simp) _).alloc (by simp; omega) _).alloc (by simp; omega) _).alloc (by simp; omega) _).alloc (by simp; omega) _
  · simp
  · go_simp
  · go_simp
  · go_simp
  · go_simp
  · go_simp
theorem form4 (N : Nat) (w : World) (hN : w.heap.size = N) : Calls Tryz.prog 56 #[.int .u8 4] w fun en w' => en = .returned (.agg #[.int .i64 11, .func (Fn.func 113) #[] #[.pointer (some ⟨N + 1, 0, none⟩), .pointer (some ⟨N + 2, 0, none⟩)], .func (Fn.func 109) #[] #[.pointer (some ⟨N + 3, 0, none⟩)], .func (Fn.func 114) #[] #[.pointer (some ⟨N + 4, 0, none⟩), .pointer (some ⟨N + 5, 0, none⟩)]]) ∧ Below N w w' ∧ N + 6 ≤ w'.heap.size ∧ w'.cell? ⟨N + 1, 0, none⟩ = some (.int .i32 0) ∧ w'.cell? ⟨N + 2, 0, none⟩ = some (.int .i32 31) ∧ w'.cell? ⟨N + 3, 0, none⟩ = some (.int .u64 20) ∧ w'.cell? ⟨N + 4, 0, none⟩ = some (.int .u64 20) ∧ w'.cell? ⟨N + 5, 0, none⟩ = some (.int .u64 5) := by
  subst hN
  go_enter Tryz.func56, Tryz.ntmps56
  go_wp2_with (first | (go_at_call 84; refine (mk27 _ _).mono ?_; rintro _ _ ⟨rfl, rfl⟩) | (go_at_call 85; refine (mk28 _ _).mono ?_; rintro _ _ ⟨rfl, rfl⟩) | (go_at_call 87; refine (mk30 _ _ _).mono ?_; rintro _ _ ⟨rfl, rfl⟩) | (go_at_call 91; refine (mk34 _ _ _).mono ?_; rintro _ _ ⟨rfl, rfl⟩) | (go_at_call 92; refine (mk35 _ _ _).mono ?_; rintro _ _ ⟨rfl, rfl⟩))
  refine bodyPost_ret (v := .agg #[.int .i64 11, .func (Fn.func 113) #[] #[.pointer (some ⟨w.heap.size + 1, 0, none⟩), .pointer (some ⟨w.heap.size + 2, 0, none⟩)], .func (Fn.func 109) #[] #[.pointer (some ⟨w.heap.size + 3, 0, none⟩)], .func (Fn.func 114) #[] #[.pointer (some ⟨w.heap.size + 4, 0, none⟩), .pointer (some ⟨w.heap.size + 5, 0, none⟩)]]) (by simp [results, Tryz.results56, go_sem]) rfl ⟨rfl, ?_, ?_, ?_, ?_, ?_, ?_, ?_⟩
  · exact ((((((Below.refl _ _).alloc (Nat.le_refl _) _).alloc (by simp) _).alloc (by simp; omega) _).alloc (by simp; omega) _).alloc (by simp; omega) _).alloc (by simp; omega) _
  · simp
  · go_simp
  · go_simp
  · go_simp
  · go_simp
  · go_simp
theorem form5 (N : Nat) (w : World) (hN : w.heap.size = N) : Calls Tryz.prog 56 #[.int .u8 5] w fun en w' => en = .returned (.agg #[.int .i64 14, .func (Fn.func 110) #[] #[.pointer (some ⟨N + 1, 0, none⟩), .pointer (some ⟨N + 2, 0, none⟩)], .func (Fn.func 93) #[] #[], .func (Fn.func 94) #[] #[]]) ∧ Below N w w' ∧ N + 3 ≤ w'.heap.size ∧ w'.cell? ⟨N + 1, 0, none⟩ = some (.int .u64 12) ∧ w'.cell? ⟨N + 2, 0, none⟩ = some (.int .i32 1) := by
  subst hN
  go_enter Tryz.func56, Tryz.ntmps56
  go_wp2_with (first | (go_at_call 84; refine (mk27 _ _).mono ?_; rintro _ _ ⟨rfl, rfl⟩) | (go_at_call 85; refine (mk28 _ _).mono ?_; rintro _ _ ⟨rfl, rfl⟩) | (go_at_call 87; refine (mk30 _ _ _).mono ?_; rintro _ _ ⟨rfl, rfl⟩) | (go_at_call 91; refine (mk34 _ _ _).mono ?_; rintro _ _ ⟨rfl, rfl⟩) | (go_at_call 92; refine (mk35 _ _ _).mono ?_; rintro _ _ ⟨rfl, rfl⟩))
  refine bodyPost_ret (v := .agg #[.int .i64 14, .func (Fn.func 110) #[] #[.pointer (some ⟨w.heap.size + 1, 0, none⟩), .pointer (some ⟨w.heap.size + 2, 0, none⟩)], .func (Fn.func 93) #[] #[], .func (Fn.func 94) #[] #[]]) (by simp [results, Tryz.results56, go_sem]) rfl ⟨rfl, ?_, ?_, ?_, ?_⟩
  · exact (((Below.refl _ _).alloc (Nat.le_refl _) _).alloc (by simp) _).alloc (by simp; omega) _
  · simp
  · go_simp
  · go_simp
theorem form6 (N : Nat) (w : World) (hN : w.heap.size = N) : Calls Tryz.prog 56 #[.int .u8 6] w fun en w' => en = .returned (.agg #[.int .i64 14, .func (Fn.func 110) #[] #[.pointer (some ⟨N + 1, 0, none⟩), .pointer (some ⟨N + 2, 0, none⟩)], .func (Fn.func 95) #[] #[], .func (Fn.func 96) #[] #[]]) ∧ Below N w w' ∧ N + 3 ≤ w'.heap.size ∧ w'.cell? ⟨N + 1, 0, none⟩ = some (.int .u64 13) ∧ w'.cell? ⟨N + 2, 0, none⟩ = some (.int .i32 2) := by
  subst hN
  go_enter Tryz.func56, Tryz.ntmps56
  go_wp2_with (first | (go_at_call 84; refine (mk27 _ _).mono ?_; rintro _ _ ⟨rfl, rfl⟩) | (go_at_call 85; refine (mk28 _ _).mono ?_; rintro _ _ ⟨rfl, rfl⟩) | (go_at_call 87; refine (mk30 _ _ _).mono ?_; rintro _ _ ⟨rfl, rfl⟩) | (go_at_call 91; refine (mk34 _ _ _).mono ?_; rintro _ _ ⟨rfl, rfl⟩) | (go_at_call 92; refine (mk35 _ _ _).mono ?_; rintro _ _ ⟨rfl, rfl⟩))
  refine bodyPost_ret (v := .agg #[.int .i64 14, .func (Fn.func 110) #[] #[.pointer (some ⟨w.heap.size + 1, 0, none⟩), .pointer (some ⟨w.heap.size + 2, 0, none⟩)], .func (Fn.func 95) #[] #[], .func (Fn.func 96) #[] #[]]) (by simp [results, Tryz.results56, go_sem]) rfl ⟨rfl, ?_, ?_, ?_, ?_⟩
  · exact (((Below.refl _ _).alloc (Nat.le_refl _) _).alloc (by simp) _).alloc (by simp; omega) _
  · simp
  · go_simp
  · go_simp
theorem form7 (N : Nat) (w : World) (hN : w.heap.size = N) : Calls Tryz.prog 56 #[.int .u8 7] w fun en w' => en = .returned (.agg #[.int .i64 7, .func (Fn.func 113) #[] #[.pointer (some ⟨N + 1, 0, none⟩), .pointer (some ⟨N + 2, 0, none⟩)], .func (Fn.func 109) #[] #[.pointer (some ⟨N + 3, 0, none⟩)], .func (Fn.func 114) #[] #[.pointer (some ⟨N + 4, 0, none⟩), .pointer (some ⟨N + 5, 0, none⟩)]]) ∧ Below N w w' ∧ N + 6 ≤ w'.heap.size ∧ w'.cell? ⟨N + 1, 0, none⟩ = some (.int .i32 0) ∧ w'.cell? ⟨N + 2, 0, none⟩ = some (.int .i32 0) ∧ w'.cell? ⟨N + 3, 0, none⟩ = some (.int .u64 0) ∧ w'.cell? ⟨N + 4, 0, none⟩ = some (.int .u64 0) ∧ w'.cell? ⟨N + 5, 0, none⟩ = some (.int .u64 0) := by
  subst hN
  go_enter Tryz.func56, Tryz.ntmps56
  go_wp2_with (first | (go_at_call 84; refine (mk27 _ _).mono ?_; rintro _ _ ⟨rfl, rfl⟩) | (go_at_call 85; refine (mk28 _ _).mono ?_; rintro _ _ ⟨rfl, rfl⟩) | (go_at_call 87; refine (mk30 _ _ _).mono ?_; rintro _ _ ⟨rfl, rfl⟩) | (go_at_call 91; refine (mk34 _ _ _).mono ?_; rintro _ _ ⟨rfl, rfl⟩) | (go_at_call 92; refine (mk35 _ _ _).mono ?_; rintro _ _ ⟨rfl, rfl⟩))
  refine bodyPost_ret (v := .agg #[.int .i64 7, .func (Fn.func 113) #[] #[.pointer (some ⟨w.heap.size + 1, 0, none⟩), .pointer (some ⟨w.heap.size + 2, 0, none⟩)], .func (Fn.func 109) #[] #[.pointer (some ⟨w.heap.size + 3, 0, none⟩)], .func (Fn.func 114) #[] #[.pointer (some ⟨w.heap.size + 4, 0, none⟩), .pointer (some ⟨w.heap.size + 5, 0, none⟩)]]) (by simp [results, Tryz.results56, go_sem]) rfl ⟨rfl, ?_, ?_, ?_, ?_, ?_, ?_, ?_⟩
  · exact ((((((Below.refl _ _).alloc (Nat.le_refl _) _).alloc (by simp) _).alloc (by simp; omega) _).alloc (by simp; omega) _).alloc (by simp; omega) _).alloc (by simp; omega) _
  · simp
  · go_simp
  · go_simp
  · go_simp
  · go_simp
  · go_simp
theorem form8 (N : Nat) (w : World) (hN : w.heap.size = N) : Calls Tryz.prog 56 #[.int .u8 8] w fun en w' => en = .returned (.agg #[.int .i64 3, .func (Fn.func 113) #[] #[.pointer (some ⟨N + 1, 0, none⟩), .pointer (some ⟨N + 2, 0, none⟩)], .func (Fn.func 109) #[] #[.pointer (some ⟨N + 3, 0, none⟩)], .func (Fn.func 114) #[] #[.pointer (some ⟨N + 4, 0, none⟩), .pointer (some ⟨N + 5, 0, none⟩)]]) ∧ Below N w w' ∧ N + 6 ≤ w'.heap.size ∧ w'.cell? ⟨N + 1, 0, none⟩ = some (.int .i32 0) ∧ w'.cell? ⟨N + 2, 0, none⟩ = some (.int .i32 0) ∧ w'.cell? ⟨N + 3, 0, none⟩ = some (.int .u64 0) ∧ w'.cell? ⟨N + 4, 0, none⟩ = some (.int .u64 0) ∧ w'.cell? ⟨N + 5, 0, none⟩ = some (.int .u64 0) := by
  subst hN
  go_enter Tryz.func56, Tryz.ntmps56
  go_wp2_with (first | (go_at_call 84; refine (mk27 _ _).mono ?_; rintro _ _ ⟨rfl, rfl⟩) | (go_at_call 85; refine (mk28 _ _).mono ?_; rintro _ _ ⟨rfl, rfl⟩) | (go_at_call 87; refine (mk30 _ _ _).mono ?_; rintro _ _ ⟨rfl, rfl⟩) | (go_at_call 91; refine (mk34 _ _ _).mono ?_; rintro _ _ ⟨rfl, rfl⟩) | (go_at_call 92; refine (mk35 _ _ _).mono ?_; rintro _ _ ⟨rfl, rfl⟩))
  refine bodyPost_ret (v := .agg #[.int .i64 3, .func (Fn.func 113) #[] #[.pointer (some ⟨w.heap.size + 1, 0, none⟩), .pointer (some ⟨w.heap.size + 2, 0, none⟩)], .func (Fn.func 109) #[] #[.pointer (some ⟨w.heap.size + 3, 0, none⟩)], .func (Fn.func 114) #[] #[.pointer (some ⟨w.heap.size + 4, 0, none⟩), .pointer (some ⟨w.heap.size + 5, 0, none⟩)]]) (by simp [results, Tryz.results56, go_sem]) rfl ⟨rfl, ?_, ?_, ?_, ?_, ?_, ?_, ?_⟩
  · exact ((((((Below.refl _ _).alloc (Nat.le_refl _) _).alloc (by simp) _).alloc (by simp; omega) _).alloc (by simp; omega) _).alloc (by simp; omega) _).alloc (by simp; omega) _
  · simp
  · go_simp
  · go_simp
  · go_simp
  · go_simp
  · go_simp
theorem form9 (N : Nat) (w : World) (hN : w.heap.size = N) : Calls Tryz.prog 56 #[.int .u8 9] w fun en w' => en = .returned (.agg #[.int .i64 11, .func (Fn.func 113) #[] #[.pointer (some ⟨N + 1, 0, none⟩), .pointer (some ⟨N + 2, 0, none⟩)], .func (Fn.func 109) #[] #[.pointer (some ⟨N + 3, 0, none⟩)], .func (Fn.func 114) #[] #[.pointer (some ⟨N + 4, 0, none⟩), .pointer (some ⟨N + 5, 0, none⟩)]]) ∧ Below N w w' ∧ N + 6 ≤ w'.heap.size ∧ w'.cell? ⟨N + 1, 0, none⟩ = some (.int .i32 27) ∧ w'.cell? ⟨N + 2, 0, none⟩ = some (.int .i32 31) ∧ w'.cell? ⟨N + 3, 0, none⟩ = some (.int .u64 20) ∧ w'.cell? ⟨N + 4, 0, none⟩ = some (.int .u64 20) ∧ w'.cell? ⟨N + 5, 0, none⟩ = some (.int .u64 5) := by
  subst hN
  go_enter Tryz.func56, Tryz.ntmps56
  go_wp2_with (first | (go_at_call 84; refine (mk27 _ _).mono ?_; rintro _ _ ⟨rfl, rfl⟩) | (go_at_call 85; refine (mk28 _ _).mono ?_; rintro _ _ ⟨rfl, rfl⟩) | (go_at_call 87; refine (mk30 _ _ _).mono ?_; rintro _ _ ⟨rfl, rfl⟩) | (go_at_call 91; refine (mk34 _ _ _).mono ?_; rintro _ _ ⟨rfl, rfl⟩) | (go_at_call 92; refine (mk35 _ _ _).mono ?_; rintro _ _ ⟨rfl, rfl⟩))
  refine bodyPost_ret (v := .agg #[.int .i64 11, .func (Fn.func 113) #[] #[.pointer (some ⟨w.heap.size + 1, 0, none⟩), .pointer (some ⟨w.heap.size + 2, 0, none⟩)], .func (Fn.func 109) #[] #[.pointer (some ⟨w.heap.size + 3, 0, none⟩)], .func (Fn.func 114) #[] #[.pointer (some ⟨w.heap.size + 4, 0, none⟩), .pointer (some ⟨w.heap.size + 5, 0, none⟩)]]) (by simp [results, Tryz.results56, go_sem]) rfl ⟨rfl, ?_, ?_, ?_, ?_, ?_, ?_, ?_⟩
  · exact ((((((Below.refl _ _).alloc (Nat.le_refl _) _).alloc (by simp) _).alloc (by simp; omega) _).alloc (by simp; omega) _).alloc (by simp; omega) _).alloc (by simp; omega) _
  · simp
  · go_simp
  · go_simp
  · go_simp
  · go_simp
  · go_simp
theorem form10 (N : Nat) (w : World) (hN : w.heap.size = N) : Calls Tryz.prog 56 #[.int .u8 10] w fun en w' => en = .returned (.agg #[.int .i64 0, .func (Fn.func 113) #[] #[.pointer (some ⟨N + 1, 0, none⟩), .pointer (some ⟨N + 2, 0, none⟩)], .func (Fn.func 109) #[] #[.pointer (some ⟨N + 3, 0, none⟩)], .func (Fn.func 114) #[] #[.pointer (some ⟨N + 4, 0, none⟩), .pointer (some ⟨N + 5, 0, none⟩)]]) ∧ Below N w w' ∧ N + 6 ≤ w'.heap.size ∧ w'.cell? ⟨N + 1, 0, none⟩ = some (.int .i32 0) ∧ w'.cell? ⟨N + 2, 0, none⟩ = some (.int .i32 0) ∧ w'.cell? ⟨N + 3, 0, none⟩ = some (.int .u64 0) ∧ w'.cell? ⟨N + 4, 0, none⟩ = some (.int .u64 0) ∧ w'.cell? ⟨N + 5, 0, none⟩ = some (.int .u64 0) := by
  subst hN
  go_enter Tryz.func56, Tryz.ntmps56
  go_wp2_with (first | (go_at_call 84; refine (mk27 _ _).mono ?_; rintro _ _ ⟨rfl, rfl⟩) | (go_at_call 85; refine (mk28 _ _).mono ?_; rintro _ _ ⟨rfl, rfl⟩) | (go_at_call 87; refine (mk30 _ _ _).mono ?_; rintro _ _ ⟨rfl, rfl⟩) | (go_at_call 91; refine (mk34 _ _ _).mono ?_; rintro _ _ ⟨rfl, rfl⟩) | (go_at_call 92; refine (mk35 _ _ _).mono ?_; rintro _ _ ⟨rfl, rfl⟩))
  refine bodyPost_ret (v := .agg #[.int .i64 0, .func (Fn.func 113) #[] #[.pointer (some ⟨w.heap.size + 1, 0, none⟩), .pointer (some ⟨w.heap.size + 2, 0, none⟩)], .func (Fn.func 109) #[] #[.pointer (some ⟨w.heap.size + 3, 0, none⟩)], .func (Fn.func 114) #[] #[.pointer (some ⟨w.heap.size + 4, 0, none⟩), .pointer (some ⟨w.heap.size + 5, 0, none⟩)]]) (by simp [results, Tryz.results56, go_sem]) rfl ⟨rfl, ?_, ?_, ?_, ?_, ?_, ?_, ?_⟩
  · exact ((((((Below.refl _ _).alloc (Nat.le_refl _) _).alloc (by simp) _).alloc (by simp; omega) _).alloc (by simp; omega) _).alloc (by simp; omega) _).alloc (by simp; omega) _
  · simp
  · go_simp
  · go_simp
  · go_simp
  · go_simp
  · go_simp
end Go.Proofs.YtmanoheofloimaaGreatDoor.In

