import Derived.Test.YtodpeiamophjjaaDoorKC
import Derived.Laws.EntriesVeiled
namespace Go.Proofs.YtodpeiamophjjaaDoor.In
open Go.ChangeShapes Go.WideShapes Go.ChangeAt Go.RowKit
set_option linter.unusedVariables false
theorem mk27 (v : Int) (w : World) : Calls Tryd.prog 21 #[.int .i32 v] w fun en w' => en = .returned (.func (Fn.func 38) #[] #[.pointer (some ⟨w.heap.size, 0, none⟩)]) ∧ w' = (w.alloc (.cells #[.int .i32 v] 21)) := by
  go_enter Tryd.func21, Tryd.ntmps21
  go_wp2
  go_ret
  exact ⟨rfl, rfl⟩
theorem mk28 (v : Int) (w : World) : Calls Tryd.prog 22 #[.int .u64 v] w fun en w' => en = .returned (.func (Fn.func 39) #[] #[.pointer (some ⟨w.heap.size, 0, none⟩)]) ∧ w' = (w.alloc (.cells #[.int .u64 v] 57)) := by
  go_enter Tryd.func22, Tryd.ntmps22
  go_wp2
  go_ret
  exact ⟨rfl, rfl⟩
theorem mk30 (v u : Int) (w : World) : Calls Tryd.prog 24 #[.int .u64 v, .int .i32 u] w fun en w' => en = .returned (.func (Fn.func 40) #[] #[.pointer (some ⟨w.heap.size, 0, none⟩), .pointer (some ⟨w.heap.size + 1, 0, none⟩)]) ∧ w' = ((w.alloc (.cells #[.int .u64 v] 57)).alloc (.cells #[.int .i32 u] 21)) := by
  go_enter Tryd.func24, Tryd.ntmps24
  go_wp2
  go_ret
  exact ⟨rfl, rfl⟩
theorem mk34 (v u : Int) (w : World) : Calls Tryd.prog 28 #[.int .i32 v, .int .i32 u] w fun en w' => en = .returned (.func (Fn.func 43) #[] #[.pointer (some ⟨w.heap.size, 0, none⟩), .pointer (some ⟨w.heap.size + 1, 0, none⟩)]) ∧ w' = ((w.alloc (.cells #[.int .i32 v] 21)).alloc (.cells #[.int .i32 u] 21)) := by
  go_enter Tryd.func28, Tryd.ntmps28
  go_wp2
  go_ret
  exact ⟨rfl, rfl⟩
theorem mk35 (v u : Int) (w : World) : Calls Tryd.prog 29 #[.int .u64 v, .int .u64 u] w fun en w' => en = .returned (.func (Fn.func 44) #[] #[.pointer (some ⟨w.heap.size, 0, none⟩), .pointer (some ⟨w.heap.size + 1, 0, none⟩)]) ∧ w' = ((w.alloc (.cells #[.int .u64 v] 57)).alloc (.cells #[.int .u64 u] 57)) := by
  go_enter Tryd.func29, Tryd.ntmps29
  go_wp2
  go_ret
  exact ⟨rfl, rfl⟩
theorem form0 (N : Nat) (w : World) (hN : w.heap.size = N) : Calls Tryd.prog 14 #[.int .u8 0] w fun en w' => en = .returned (.agg #[.int .i64 9, .func (Fn.func 38) #[] #[.pointer (some ⟨N + 1, 0, none⟩)], .func (Fn.func 39) #[] #[.pointer (some ⟨N + 2, 0, none⟩)], .func (Fn.func 23) #[] #[]]) ∧ Below N w w' ∧ N + 3 ≤ w'.heap.size ∧ w'.cell? ⟨N + 1, 0, none⟩ = some (.int .i32 4096) ∧ w'.cell? ⟨N + 2, 0, none⟩ = some (.int .u64 0) := by
  subst hN
  go_enter Tryd.func14, Tryd.ntmps14
  go_wp2_with (first | (go_at_call 21; refine (mk27 _ _).mono ?_; rintro _ _ ⟨rfl, rfl⟩) | (go_at_call 22; refine (mk28 _ _).mono ?_; rintro _ _ ⟨rfl, rfl⟩) | (go_at_call 24; refine (mk30 _ _ _).mono ?_; rintro _ _ ⟨rfl, rfl⟩) | (go_at_call 28; refine (mk34 _ _ _).mono ?_; rintro _ _ ⟨rfl, rfl⟩) | (go_at_call 29; refine (mk35 _ _ _).mono ?_; rintro _ _ ⟨rfl, rfl⟩))
  refine bodyPost_ret (v := .agg #[.int .i64 9, .func (Fn.func 38) #[] #[.pointer (some ⟨w.heap.size + 1, 0, none⟩)], .func (Fn.func 39) #[] #[.pointer (some ⟨w.heap.size + 2, 0, none⟩)], .func (Fn.func 23) #[] #[]]) (by simp [results, Tryd.results14, go_sem]) rfl ⟨rfl, ?_, ?_, ?_, ?_⟩
  · exact (((Below.refl _ _).alloc (Nat.le_refl _) _).alloc (by simp) _).alloc (by simp; omega) _
  · simp
  · go_simp
  · go_simp
theorem form1 (N : Nat) (w : World) (hN : w.heap.size = N) : Calls Tryd.prog 14 #[.int .u8 1] w fun en w' => en = .returned (.agg #[.int .i64 9, .func (Fn.func 40) #[] #[.pointer (some ⟨N + 1, 0, none⟩), .pointer (some ⟨N + 2, 0, none⟩)], .func (Fn.func 25) #[] #[], .func (Fn.func 26) #[] #[]]) ∧ Below N w w' ∧ N + 3 ≤ w'.heap.size ∧ w'.cell? ⟨N + 1, 0, none⟩ = some (.int .u64 21) ∧ w'.cell? ⟨N + 2, 0, none⟩ = some (.int .i32 2) := by
  subst hN
  go_enter Tryd.func14, Tryd.ntmps14
  go_wp2_with (first | (go_at_call 21; refine (mk27 _ _).mono ?_; rintro _ _ ⟨rfl, rfl⟩) | (go_at_call 22; refine (mk28 _ _).mono ?_; rintro _ _ ⟨rfl, rfl⟩) | (go_at_call 24; refine (mk30 _ _ _).mono ?_; rintro _ _ ⟨rfl, rfl⟩) | (go_at_call 28; refine (mk34 _ _ _).mono ?_; rintro _ _ ⟨rfl, rfl⟩) | (go_at_call 29; refine (mk35 _ _ _).mono ?_; rintro _ _ ⟨rfl, rfl⟩))
  refine bodyPost_ret (v := .agg #[.int .i64 9, .func (Fn.func 40) #[] #[.pointer (some ⟨w.heap.size + 1, 0, none⟩), .pointer (some ⟨w.heap.size + 2, 0, none⟩)], .func (Fn.func 25) #[] #[], .func (Fn.func 26) #[] #[]]) (by simp [results, Tryd.results14, go_sem]) rfl ⟨rfl, ?_, ?_, ?_, ?_⟩
  · exact (((Below.refl _ _).alloc (Nat.le_refl _) _).alloc (by simp) _).alloc (by simp; omega) _
  · simp
  · go_simp
  · go_simp
theorem form2 (N : Nat) (w : World) (hN : w.heap.size = N) : Calls Tryd.prog 14 #[.int .u8 2] w fun en w' => en = .returned (.agg #[.int .i64 11, .func (Fn.func 40) #[] #[.pointer (some ⟨N + 1, 0, none⟩), .pointer (some ⟨N + 2, 0, none⟩)], .func (Fn.func 39) #[] #[.pointer (some ⟨N + 3, 0, none⟩)], .func (Fn.func 27) #[] #[]]) ∧ Below N w w' ∧ N + 4 ≤ w'.heap.size ∧ w'.cell? ⟨N + 1, 0, none⟩ = some (.int .u64 12) ∧ w'.cell? ⟨N + 2, 0, none⟩ = some (.int .i32 1) ∧ w'.cell? ⟨N + 3, 0, none⟩ = some (.int .u64 20) := by
  subst hN
  go_enter Tryd.func14, Tryd.ntmps14
  go_wp2_with (first | (go_at_call 21; refine (mk27 _ _).mono ?_; rintro _ _ ⟨rfl, rfl⟩) | (go_at_call 22; refine (mk28 _ _).mono ?_; rintro _ _ ⟨rfl, rfl⟩) | (go_at_call 24; refine (mk30 _ _ _).mono ?_; rintro _ _ ⟨rfl, rfl⟩) | (go_at_call 28; refine (mk34 _ _ _).mono ?_; rintro _ _ ⟨rfl, rfl⟩) | (go_at_call 29; refine (mk35 _ _ _).mono ?_; rintro _ _ ⟨rfl, rfl⟩))
  refine bodyPost_ret (v := .agg #[.int .i64 11, .func (Fn.func 40) #[] #[.pointer (some ⟨w.heap.size + 1, 0, none⟩), .pointer (some ⟨w.heap.size + 2, 0, none⟩)], .func (Fn.func 39) #[] #[.pointer (some ⟨w.heap.size + 3, 0, none⟩)], .func (Fn.func 27) #[] #[]]) (by simp [results, Tryd.results14, go_sem]) rfl ⟨rfl, ?_, ?_, ?_, ?_, ?_⟩
  · exact ((((Below.refl _ _).alloc (Nat.le_refl _) _).alloc (by simp) _).alloc (by simp; omega) _).alloc (by simp; omega) _
  · simp
  · go_simp
  · go_simp
  · go_simp
theorem form3 (N : Nat) (w : World) (hN : w.heap.size = N) : Calls Tryd.prog 14 #[.int .u8 3] w fun en w' => en = .returned (.agg #[.int .i64 11, .func (Fn.func 43) #[] #[.pointer (some ⟨N + 1, 0, none⟩), .pointer (some ⟨N + 2, 0, none⟩)], .func (Fn.func 39) #[] #[.pointer (some ⟨N + 3, 0, none⟩)], .func (Fn.func 44) #[] #[.pointer (some ⟨N + 4, 0, none⟩), .pointer (some ⟨N + 5, 0, none⟩)]]) ∧ Below N w w' ∧ N + 6 ≤ w'.heap.size ∧ w'.cell? ⟨N + 1, 0, none⟩ = some (.int .i32 0) ∧ w'.cell? ⟨N + 2, 0, none⟩ = some (.int .i32 4095) ∧ w'.cell? ⟨N + 3, 0, none⟩ = some (.int .u64 20) ∧ w'.cell? ⟨N + 4, 0, none⟩ = some (.int .u64 20) ∧ w'.cell? ⟨N + 5, 0, none⟩ = some (.int .u64 12) := by
  subst hN
  go_enter Tryd.func14, Tryd.ntmps14
  go_wp2_with (first | (go_at_call 21; refine (mk27 _ _).mono ?_; rintro _ _ ⟨rfl, rfl⟩) | (go_at_call 22; refine (mk28 _ _).mono ?_; rintro _ _ ⟨rfl, rfl⟩) | (go_at_call 24; refine (mk30 _ _ _).mono ?_; rintro _ _ ⟨rfl, rfl⟩) | (go_at_call 28; refine (mk34 _ _ _).mono ?_; rintro _ _ ⟨rfl, rfl⟩) | (go_at_call 29; refine (mk35 _ _ _).mono ?_; rintro _ _ ⟨rfl, rfl⟩))
  refine bodyPost_ret (v := .agg #[.int .i64 11, .func (Fn.func 43) #[] #[.pointer (some ⟨w.heap.size + 1, 0, none⟩), .pointer (some ⟨w.heap.size + 2, 0, none⟩)], .func (Fn.func 39) #[] #[.pointer (some ⟨w.heap.size + 3, 0, none⟩)], .func (Fn.func 44) #[] #[.pointer (some ⟨w.heap.size + 4, 0, none⟩), .pointer (some ⟨w.heap.size + 5, 0, none⟩)]]) (by simp [results, Tryd.results14, go_sem]) rfl ⟨rfl, ?_, ?_, ?_, ?_, ?_, ?_, ?_⟩
  · exact ((((((Below.refl _ _).alloc (Nat.le_refl _) _).alloc (by simp) _).alloc (by simp; omega) _).alloc (by simp; omega) _).alloc (by simp; omega) _).alloc (by simp; omega) _
  · simp
  · go_simp
  · go_simp
  · go_simp
  · go_simp
  · go_simp
theorem form4 (N : Nat) (w : World) (hN : w.heap.size = N) : Calls Tryd.prog 14 #[.int .u8 4] w fun en w' => en = .returned (.agg #[.int .i64 11, .func (Fn.func 43) #[] #[.pointer (some ⟨N + 1, 0, none⟩), .pointer (some ⟨N + 2, 0, none⟩)], .func (Fn.func 39) #[] #[.pointer (some ⟨N + 3, 0, none⟩)], .func (Fn.func 44) #[] #[.pointer (some ⟨N + 4, 0, none⟩), .pointer (some ⟨N + 5, 0, none⟩)]]) ∧ Below N w w' ∧ N + 6 ≤ w'.heap.size ∧ w'.cell? ⟨N + 1, 0, none⟩ = some (.int .i32 0) ∧ w'.cell? ⟨N + 2, 0, none⟩ = some (.int .i32 31) ∧ w'.cell? ⟨N + 3, 0, none⟩ = some (.int .u64 20) ∧ w'.cell? ⟨N + 4, 0, none⟩ = some (.int .u64 20) ∧ w'.cell? ⟨N + 5, 0, none⟩ = some (.int .u64 5) := by
  subst hN
  go_enter Tryd.func14, Tryd.ntmps14
  go_wp2_with (first | (go_at_call 21; refine (mk27 _ _).mono ?_; rintro _ _ ⟨rfl, rfl⟩) | (go_at_call 22; refine (mk28 _ _).mono ?_; rintro _ _ ⟨rfl, rfl⟩) | (go_at_call 24; refine (mk30 _ _ _).mono ?_; rintro _ _ ⟨rfl, rfl⟩) | (go_at_call 28; refine (mk34 _ _ _).mono ?_; rintro _ _ ⟨rfl, rfl⟩) | (go_at_call 29; refine (mk35 _ _ _).mono ?_; rintro _ _ ⟨rfl, rfl⟩))
  refine bodyPost_ret (v := .agg #[.int .i64 11, .func (Fn.func 43) #[] #[.pointer (some ⟨w.heap.size + 1, 0, none⟩), .pointer (some ⟨w.heap.size + 2, 0, none⟩)], .func (Fn.func 39) #[] #[.pointer (some ⟨w.heap.size + 3, 0, none⟩)], .func (Fn.func 44) #[] #[.pointer (some ⟨w.heap.size + 4, 0, none⟩), .pointer (some ⟨w.heap.size + 5, 0, none⟩)]]) (by simp [results, Tryd.results14, go_sem]) rfl ⟨rfl, ?_, ?_, ?_, ?_, ?_, ?_, ?_⟩
  · exact ((((((Below.refl _ _).alloc (Nat.le_refl _) _).alloc (by simp) _).alloc (by simp; omega) _).alloc (by simp; omega) _).alloc (by simp; omega) _).alloc (by simp; omega) _
  · simp
  · go_simp
  · go_simp
  · go_simp
  · go_simp
  · go_simp
theorem form5 (N : Nat) (w : World) (hN : w.heap.size = N) : Calls Tryd.prog 14 #[.int .u8 5] w fun en w' => en = .returned (.agg #[.int .i64 14, .func (Fn.func 40) #[] #[.pointer (some ⟨N + 1, 0, none⟩), .pointer (some ⟨N + 2, 0, none⟩)], .func (Fn.func 30) #[] #[], .func (Fn.func 31) #[] #[]]) ∧ Below N w w' ∧ N + 3 ≤ w'.heap.size ∧ w'.cell? ⟨N + 1, 0, none⟩ = some (.int .u64 12) ∧ w'.cell? ⟨N + 2, 0, none⟩ = some (.int .i32 1) := by
  subst hN
  go_enter Tryd.func14, Tryd.ntmps14
  go_wp2_with (first | (go_at_call 21; refine (mk27 _ _).mono ?_; rintro _ _ ⟨rfl, rfl⟩) | (go_at_call 22; refine (mk28 _ _).mono ?_; rintro _ _ ⟨rfl, rfl⟩) | (go_at_call 24; refine (mk30 _ _ _).mono ?_; rintro _ _ ⟨rfl, rfl⟩) | (go_at_call 28; refine (mk34 _ _ _).mono ?_; rintro _ _ ⟨rfl, rfl⟩) | (go_at_call 29; refine (mk35 _ _ _).mono ?_; rintro _ _ ⟨rfl, rfl⟩))
  refine bodyPost_ret (v := .agg #[.int .i64 14, .func (Fn.func 40) #[] #[.pointer (some ⟨w.heap.size + 1, 0, none⟩), .pointer (some ⟨w.heap.size + 2, 0, none⟩)], .func (Fn.func 30) #[] #[], .func (Fn.func 31) #[] #[]]) (by simp [results, Tryd.results14, go_sem]) rfl ⟨rfl, ?_, ?_, ?_, ?_⟩
  · exact (((Below.refl _ _).alloc (Nat.le_refl _) _).alloc (by simp) _).alloc (by simp; omega) _
  · simp
  · go_simp
  · go_simp
theorem form6 (N : Nat) (w : World) (hN : w.heap.size = N) : Calls Tryd.prog 14 #[.int .u8 6] w fun en w' => en = .returned (.agg #[.int .i64 14, .func (Fn.func 40) #[] #[.pointer (some ⟨N + 1, 0, none⟩), .pointer (some ⟨N + 2, 0, none⟩)], .func (Fn.func 32) #[] #[], .func (Fn.func 33) #[] #[]]) ∧ Below N w w' ∧ N + 3 ≤ w'.heap.size ∧ w'.cell? ⟨N + 1, 0, none⟩ = some (.int .u64 13) ∧ w'.cell? ⟨N + 2, 0, none⟩ = some (.int .i32 2) := by
  subst hN
  go_enter Tryd.func14, Tryd.ntmps14
  go_wp2_with (first | (go_at_call 21; refine (mk27 _ _).mono ?_; rintro _ _ ⟨rfl, rfl⟩) | (go_at_call 22; refine (mk28 _ _).mono ?_; rintro _ _ ⟨rfl, rfl⟩) | (go_at_call 24; refine (mk30 _ _ _).mono ?_; rintro _ _ ⟨rfl, rfl⟩) | (go_at_call 28; refine (mk34 _ _ _).mono ?_; rintro _ _ ⟨rfl, rfl⟩) | (go_at_call 29; refine (mk35 _ _ _).mono ?_; rintro _ _ ⟨rfl, rfl⟩))
  refine bodyPost_ret (v := .agg #[.int .i64 14, .func (Fn.func 40) #[] #[.pointer (some ⟨w.heap.size + 1, 0, none⟩), .pointer (some ⟨w.heap.size + 2, 0, none⟩)], .func (Fn.func 32) #[] #[], .func (Fn.func 33) #[] #[]]) (by simp [results, Tryd.results14, go_sem]) rfl ⟨rfl, ?_, ?_, ?_, ?_⟩
  · exact (((Below.refl _ _).alloc (Nat.le_refl _) _).alloc (by simp) _).alloc (by simp; omega) _
  · simp
  · go_simp
  · go_simp
theorem form7 (N : Nat) (w : World) (hN : w.heap.size = N) : Calls Tryd.prog 14 #[.int .u8 7] w fun en w' => en = .returned (.agg #[.int .i64 7, .func (Fn.func 43) #[] #[.pointer (some ⟨N + 1, 0, none⟩), .pointer (some ⟨N + 2, 0, none⟩)], .func (Fn.func 39) #[] #[.pointer (some ⟨N + 3, 0, none⟩)], .func (Fn.func 44) #[] #[.pointer (some ⟨N + 4, 0, none⟩), .pointer (some ⟨N + 5, 0, none⟩)]]) ∧ Below N w w' ∧ N + 6 ≤ w'.heap.size ∧ w'.cell? ⟨N + 1, 0, none⟩ = some (.int .i32 0) ∧ w'.cell? ⟨N + 2, 0, none⟩ = some (.int .i32 0) ∧ w'.cell? ⟨N + 3, 0, none⟩ = some (.int .u64 0) ∧ w'.cell? ⟨N + 4, 0, none⟩ = some (.int .u64 0) ∧ w'.cell? ⟨N + 5, 0, none⟩ = some (.int .u64 0) := by
  subst hN
  go_enter Tryd.func14, Tryd.ntmps14
  go_wp2_with (first | (go_at_call 21; refine (mk27 _ _).mono ?_; rintro _ _ ⟨rfl, rfl⟩) | (go_at_call 22; refine (mk28 _ _).mono ?_; rintro _ _ ⟨rfl, rfl⟩) | (go_at_call 24; refine (mk30 _ _ _).mono ?_; rintro _ _ ⟨rfl, rfl⟩) | (go_at_call 28; refine (mk34 _ _ _).mono ?_; rintro _ _ ⟨rfl, rfl⟩) | (go_at_call 29; refine (mk35 _ _ _).mono ?_; rintro _ _ ⟨rfl, rfl⟩))
  refine bodyPost_ret (v := .agg #[.int .i64 7, .func (Fn.func 43) #[] #[.pointer (some ⟨w.heap.size + 1, 0, none⟩), .pointer (some ⟨w.heap.size + 2, 0, none⟩)], .func (Fn.func 39) #[] #[.pointer (some ⟨w.heap.size + 3, 0, none⟩)], .func (Fn.func 44) #[] #[.pointer (some ⟨w.heap.size + 4, 0, none⟩), .pointer (some ⟨w.heap.size + 5, 0, none⟩)]]) (by simp [results, Tryd.results14, go_sem]) rfl ⟨rfl, ?_, ?_, ?_, ?_, ?_, ?_, ?_⟩
  · exact ((((((Below.refl _ _).alloc (Nat.le_refl _) _).alloc (by simp) _).alloc (by simp; omega) _).alloc (by simp; omega) _).alloc (by simp; omega) _).alloc (by simp; omega) _
  · simp
  · go_simp
  · go_simp
  · go_simp
  · go_simp
  · go_simp
theorem form8 (N : Nat) (w : World) (hN : w.heap.size = N) : Calls Tryd.prog 14 #[.int .u8 8] w fun en w' => en = .returned (.agg #[.int .i64 3, .func (Fn.func 43) #[] #[.pointer (some ⟨N + 1, 0, none⟩), .pointer (some ⟨N + 2, 0, none⟩)], .func (Fn.func 39) #[] #[.pointer (some ⟨N + 3, 0, none⟩)], .func (Fn.func 44) #[] #[.pointer (some ⟨N + 4, 0, none⟩), .pointer (some ⟨N + 5, 0, none⟩)]]) ∧ Below N w w' ∧ N + 6 ≤ w'.heap.size ∧ w'.cell? ⟨N + 1, 0, none⟩ = some (.int .i32 0) ∧ w'.cell? ⟨N + 2, 0, none⟩ = some (.int .i32 0) ∧ w'.cell? ⟨N + 3, 0, none⟩ = some (.int .u64 0) ∧ w'.cell? ⟨N + 4, 0, none⟩ = some (.int .u64 0) ∧ w'.cell? ⟨N + 5, 0, none⟩ = some (.int .u64 0) := by
  subst hN
  go_enter Tryd.func14, Tryd.ntmps14
  go_wp2_with (first | (go_at_call 21; refine (mk27 _ _).mono ?_; rintro _ _ ⟨rfl, rfl⟩) | (go_at_call 22; refine (mk28 _ _).mono ?_; rintro _ _ ⟨rfl, rfl⟩) | (go_at_call 24; refine (mk30 _ _ _).mono ?_; rintro _ _ ⟨rfl, rfl⟩) | (go_at_call 28; refine (mk34 _ _ _).mono ?_; rintro _ _ ⟨rfl, rfl⟩) | (go_at_call 29; refine (mk35 _ _ _).mono ?_; rintro _ _ ⟨rfl, rfl⟩))
  refine bodyPost_ret (v := .agg #[.int .i64 3, .func (Fn.func 43) #[] #[.pointer (some ⟨w.heap.size + 1, 0, none⟩), .pointer (some ⟨w.heap.size + 2, 0, none⟩)], .func (Fn.func 39) #[] #[.pointer (some ⟨w.heap.size + 3, 0, none⟩)], .func (Fn.func 44) #[] #[.pointer (some ⟨w.heap.size + 4, 0, none⟩), .pointer (some ⟨w.heap.size + 5, 0, none⟩)]]) (by simp [results, Tryd.results14, go_sem]) rfl ⟨rfl, ?_, ?_, ?_, ?_, ?_, ?_, ?_⟩
  · exact ((((((Below.refl _ _).alloc (Nat.le_refl _) _).alloc (by simp) _).alloc (by simp; omega) _).alloc (by simp; omega) _).alloc (by simp; omega) _).alloc (by simp; omega) _
  · simp
  · go_simp
  · go_simp
  · go_simp
  · go_simp
  · go_simp
theorem form9 (N : Nat) (w : World) (hN : w.heap.size = N) : Calls Tryd.prog 14 #[.int .u8 9] w fun en w' => en = .returned (.agg #[.int .i64 11, .func (Fn.func 43) #[] #[.pointer (some ⟨N + 1, 0, none⟩), .pointer (some ⟨N + 2, 0, none⟩)], .func (Fn.func 39) #[] #[.pointer (some ⟨N + 3, 0, none⟩)], .func (Fn.func 44) #[] #[.pointer (some ⟨N + 4, 0, none⟩), .pointer (some ⟨N + 5, 0, none⟩)]]) ∧ Below N w w' ∧ N + 6 ≤ w'.heap.size ∧ w'.cell? ⟨N + 1, 0, none⟩ = some (.int .i32 27) ∧ w'.cell? ⟨N + 2, 0, none⟩ = some (.int .i32 31) ∧ w'.cell? ⟨N + 3, 0, none⟩ = some (.int .u64 20) ∧ w'.cell? ⟨N + 4, 0, none⟩ = some (.int .u64 20) ∧ w'.cell? ⟨N + 5, 0, none⟩ = some (.int .u64 5) := by
  subst hN
  go_enter Tryd.func14, Tryd.ntmps14
  go_wp2_with (first | (go_at_call 21; refine (mk27 _ _).mono ?_; rintro _ _ ⟨rfl, rfl⟩) | (go_at_call 22; refine (mk28 _ _).mono ?_; rintro _ _ ⟨rfl, rfl⟩) | (go_at_call 24; refine (mk30 _ _ _).mono ?_; rintro _ _ ⟨rfl, rfl⟩) | (go_at_call 28; refine (mk34 _ _ _).mono ?_; rintro _ _ ⟨rfl, rfl⟩) | (go_at_call 29; refine (mk35 _ _ _).mono ?_; rintro _ _ ⟨rfl, rfl⟩))
  refine bodyPost_ret (v := .agg #[.int .i64 11, .func (Fn.func 43) #[] #[.pointer (some ⟨w.heap.size + 1, 0, none⟩), .pointer (some ⟨w.heap.size + 2, 0, none⟩)], .func (Fn.func 39) #[] #[.pointer (some ⟨w.heap.size + 3, 0, none⟩)], .func (Fn.func 44) #[] #[.pointer (some ⟨w.heap.size + 4, 0, none⟩), .pointer (some ⟨w.heap.size + 5, 0, none⟩)]]) (by simp [results, Tryd.results14, go_sem]) rfl ⟨rfl, ?_, ?_, ?_, ?_, ?_, ?_, ?_⟩
  · exact ((((((Below.refl _ _).alloc (Nat.le_refl _) _).alloc (by simp) _).alloc (by simp; omega) _).alloc (by simp; omega) _).alloc (by simp; omega) _).alloc (by simp; omega) _
  · simp
  · go_simp
  · go_simp
  · go_simp
  · go_simp
  · go_simp
theorem form10 (N : Nat) (w : World) (hN : w.heap.size = N) : Calls Tryd.prog 14 #[.int .u8 10] w fun en w' => en = .returned (.agg #[.int .i64 0, .func (Fn.func 43) #[] #[.pointer (some ⟨N + 1, 0, none⟩), .pointer (some ⟨N + 2, 0, none⟩)], .func (Fn.func 39) #[] #[.pointer (some ⟨N + 3, 0, none⟩)], .func (Fn.func 44) #[] #[.pointer (some ⟨N + 4, 0, none⟩), .pointer (some ⟨N + 5, 0, none⟩)]]) ∧ Below N w w' ∧ N + 6 ≤ w'.heap.size ∧ w'.cell? ⟨N + 1, 0, none⟩ = some (.int .i32 0) ∧ w'.cell? ⟨N + 2, 0, none⟩ = some (.int .i32 0) ∧ w'.cell? ⟨N + 3, 0, none⟩ = some (.int .u64 0) ∧ w'.cell? ⟨N + 4, 0, none⟩ = some (.int .u64 0) ∧ w'.cell? ⟨N + 5, 0, none⟩ = some (.int .u64 0) := by
  subst hN
  go_enter Tryd.func14, Tryd.ntmps14
  go_wp2_with (first | (go_at_call 21; refine (mk27 _ _).mono ?_; rintro _ _ ⟨rfl, rfl⟩) | (go_at_call 22; refine (mk28 _ _).mono ?_; rintro _ _ ⟨rfl, rfl⟩) | (go_at_call 24; refine (mk30 _ _ _).mono ?_; rintro _ _ ⟨rfl, rfl⟩) | (go_at_call 28; refine (mk34 _ _ _).mono ?_; rintro _ _ ⟨rfl, rfl⟩) | (go_at_call 29; refine (mk35 _ _ _).mono ?_; rintro _ _ ⟨rfl, rfl⟩))
  refine bodyPost_ret (v := .agg #[.int .i64 0, .func (Fn.func 43) #[] #[.pointer (some ⟨w.heap.size + 1, 0, none⟩), .pointer (some ⟨w.heap.size + 2, 0, none⟩)], .func (Fn.func 39) #[] #[.pointer (some ⟨w.heap.size + 3, 0, none⟩)], .func (Fn.func 44) #[] #[.pointer (some ⟨w.heap.size + 4, 0, none⟩), .pointer (some ⟨w.heap.size + 5, 0, none⟩)]]) (by simp [results, Tryd.results14, go_sem]) rfl ⟨rfl, ?_, ?_, ?_, ?_, ?_, ?_, ?_⟩
  · exact ((((((Below.refl _ _).alloc (Nat.le_refl _) _).alloc (by simp) _).alloc (by simp; omega) _).alloc (by simp; omega) _).alloc (by simp; omega) _).alloc (by simp; omega) _
  · simp
  · go_simp
  · go_simp
  · go_simp
  · go_simp
  · go_simp
end Go.Proofs.YtodpeiamophjjaaDoor.In
