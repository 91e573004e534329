import Derived.Test.YtnkoknfihhdelaaGreatDoorIC
import Derived.Laws.EntriesVeiled
namespace Go.Proofs.YtnkoknfihhdelaaGreatDoor.In
open Go.ChangeShapes Go.WideShapes Go.ChangeAt Go.RowKit
set_option linter.unusedVariables false
set_option maxRecDepth 100000
theorem mk27 (v : Int) (w : World) : Calls Tryz.prog 153 #[.int .i32 v] w fun en w' => en = .returned (.func (Fn.func 174) #[] #[.pointer (some ⟨w.heap.size, 0, none⟩)]) ∧ w' = (w.alloc (.cells #[.int .i32 v] 21)) := by
  go_enter Tryz.func153, Tryz.ntmps153
  go_wp2
  go_ret
  exact ⟨rfl, rfl⟩
theorem mk28 (v : Int) (w : World) : Calls Tryz.prog 154 #[.int .u64 v] w fun en w' => en = .returned (.func (Fn.func 175) #[] #[.pointer (some ⟨w.heap.size, 0, none⟩)]) ∧ w' = (w.alloc (.cells #[.int .u64 v] 105)) := by
  go_enter Tryz.func154, Tryz.ntmps154
  go_wp2
  go_ret
  exact ⟨rfl, rfl⟩
theorem mk30 (v u : Int) (w : World) : Calls Tryz.prog 156 #[.int .u64 v, .int .i32 u] w fun en w' => en = .returned (.func (Fn.func 176) #[] #[.pointer (some ⟨w.heap.size, 0, none⟩), .pointer (some ⟨w.heap.size + 1, 0, none⟩)]) ∧ w' = ((w.alloc (.cells #[.int .u64 v] 105)).alloc (.cells #[.int .i32 u] 21)) := by
  go_enter Tryz.func156, Tryz.ntmps156
  go_wp2
  go_ret
  exact ⟨rfl, rfl⟩
theorem mk34 (v u : Int) (w : World) : Calls Tryz.prog 160 #[.int .i32 v, .int .i32 u] w fun en w' => en = .returned (.func (Fn.func 179) #[] #[.pointer (some ⟨w.heap.size, 0, none⟩), .pointer (some ⟨w.heap.size + 1, 0, none⟩)]) ∧ w' = ((w.alloc (.cells #[.int .i32 v] 21)).alloc (.cells #[.int .i32 u] 21)) := by
  go_enter Tryz.func160, Tryz.ntmps160
  go_wp2
  go_ret
  exact ⟨rfl, rfl⟩
theorem mk35 (v u : Int) (w : World) : Calls Tryz.prog 161 #[.int .u64 v, .int .u64 u] w fun en w' => en = .returned (.func (Fn.func 180) #[] #[.pointer (some ⟨w.heap.size, 0, none⟩), .pointer (some ⟨w.heap.size + 1, 0, none⟩)]) ∧ w' = ((w.alloc (.cells #[.int .u64 v] 105)).alloc (.cells #[.int .u64 u] 105)) := by
  go_enter Tryz.func161, Tryz.ntmps161
  go_wp2
  go_ret
  exact ⟨rfl, rfl⟩
theorem form0 (N : Nat) (w : World) (hN : w.heap.size = N) : Calls Tryz.prog 127 #[.int .u8 0] w fun en w' => en = .returned (.agg #[.int .i64 9, .func (Fn.func 174) #[] #[.pointer (some ⟨N + 1, 0, none⟩)], .func (Fn.func 175) #[] #[.pointer (some ⟨N + 2, 0, none⟩)], .func (Fn.func 155) #[] #[]]) ∧ Below N w w' ∧ N + 3 ≤ w'.heap.size ∧ w'.cell? ⟨N + 1, 0, none⟩ = some (.int .i32 4096) ∧ w'.cell? ⟨N + 2, 0, none⟩ = some (.int .u64 0) := by
  subst hN
  go_enter Tryz.func127, Tryz.ntmps127
  go_wp2_with (first | (go_at_call 153; refine (mk27 _ _).mono ?_; rintro _ _ ⟨rfl, rfl⟩) | (go_at_call 154; refine (mk28 _ _).mono ?_; rintro _ _ ⟨rfl, rfl⟩) | (go_at_call 156; refine (mk30 _ _ _).mono ?_; rintro _ _ ⟨rfl, rfl⟩) | (go_at_call 160; refine (mk34 _ _ _).mono ?_; rintro _ _ ⟨rfl, rfl⟩) | (go_at_call 161; refine (mk35 _ _ _).mono ?_; rintro _ _ ⟨rfl, rfl⟩))
  refine bodyPost_ret (v := .agg #[.int .i64 9, .func (Fn.func 174) #[] #[.pointer (some ⟨w.heap.size + 1, 0, none⟩)], .func (Fn.func 175) #[] #[.pointer (some ⟨w.heap.size + 2, 0, none⟩)], .func (Fn.func 155) #[] #[]]) (by simp [results, Tryz.results127, go_sem]) rfl ⟨rfl, ?_, ?_, ?_, ?_⟩
  · exact (((Below.refl _ _).alloc (Nat.le_refl _) _).alloc (by simp) _).alloc (by simp; omega) _
  · simp
  · go_simp
  · go_simp
theorem form1 (N : Nat) (w : World) (hN : w.heap.size = N) : Calls Tryz.prog 127 #[.int .u8 1] w fun en w' => en = .returned (.agg #[.int .i64 9, .func (Fn.func 176) #[] #[.pointer (some ⟨N + 1, 0, none⟩), .pointer (some ⟨N + 2, 0, none⟩)], .func (Fn.func 157) #[] #[], .func (Fn.func 158) #[] #[]]) ∧ Below N w w' ∧ N + 3 ≤ w'.heap.size ∧ w'.cell? ⟨N + 1, 0, none⟩ = some (.int .u64 21) ∧ w'.cell? ⟨N + 2, 0, none⟩ = some (.int .i32 2) := by
  subst hN
  go_enter Tryz.func127, Tryz.ntmps127
  go_wp2_with (first | (go_at_call 153; refine (mk27 _ _).mono ?_; rintro _ _ ⟨rfl, rfl⟩) | (go_at_call 154; refine (mk28 _ _).mono ?_; rintro _ _ ⟨rfl, rfl⟩) | (go_at_call 156; refine (mk30 _ _ _).mono ?_; rintro _ _ ⟨rfl, rfl⟩) | (go_at_call 160; refine (mk34 _ _ _).mono ?_; rintro _ _ ⟨rfl, rfl⟩) | (go_at_call 161; refine (mk35 _ _ _).mono ?_; rintro _ _ ⟨rfl, rfl⟩))
  refine bodyPost_ret (v := .agg #[.int .i64 9, .func (Fn.func 176) #[] #[.pointer (some ⟨w.heap.size + 1, 0, none⟩), .pointer (some ⟨w.heap.size + 2, 0, none⟩)], .func (Fn.func 157) #[] #[], .func (Fn.func 158) #[] #[]]) (by simp [results, Tryz.results127, go_sem]) rfl ⟨rfl, ?_, ?_, ?_, ?_⟩
  · exact (((Below.refl _ _).alloc (Nat.le_refl _) _).alloc (by simp) _).alloc (by simp; omega) _
  · simp
  · go_simp
  · go_simp
theorem form2 (N : Nat) (w : World) (hN : w.heap.size = N) : Calls Tryz.prog 127 #[.int .u8 2] w fun en w' => en = .returned (.agg #[.int .i64 11, .func (Fn.func 176) #[] #[.pointer (some ⟨N + 1, 0, none⟩), .pointer (some ⟨N + 2, 0, none⟩)], .func (Fn.func 175) #[] #[.pointer (some ⟨N + 3, 0, none⟩)], .func (Fn.func 159) #[] #[]]) ∧ Below N w w' ∧ N + 4 ≤ w'.heap.size ∧ w'.cell? ⟨N + 1, 0, none⟩ = some (.int .u64 12) ∧ w'.cell? ⟨N + 2, 0, none⟩ = some (.int .i32 1) ∧ w'.cell? ⟨N + 3, 0, none⟩ = some (.int .u64 20) := by
  subst hN
  go_enter Tryz.func127, Tryz.ntmps127
  go_wp2_with (first | (go_at_call 153; refine (mk27 _ _).mono ?_; rintro _ _ ⟨rfl, rfl⟩) | (go_at_call 154; refine (mk28 _ _).mono ?_; rintro _ _ ⟨rfl, rfl⟩) | (go_at_call 156; refine (mk30 _ _ _).mono ?_; rintro _ _ ⟨rfl, rfl⟩) | (go_at_call 160; refine (mk34 _ _ _).mono ?_; rintro _ _ ⟨rfl, rfl⟩) | (go_at_call 161; refine (mk35 _ _ _).mono ?_; rintro _ _ ⟨rfl, rfl⟩))
  refine bodyPost_ret (v := .agg #[.int .i64 11, .func (Fn.func 176) #[] #[.pointer (some ⟨w.heap.size + 1, 0, none⟩), .pointer (some ⟨w.heap.size + 2, 0, none⟩)], .func (Fn.func 175) #[] #[.pointer (some ⟨w.heap.size + 3, 0, none⟩)], .func (Fn.func 159) #[] #[]]) (by simp [results, Tryz.results127, go_sem]) rfl ⟨rfl, ?_, ?_, ?_, ?_, ?_⟩
  · exact ((((Below.refl _ _).alloc (Nat.le_refl _) _).alloc (by simp) _).alloc (by simp; omega) _).alloc (by simp; omega) _
  · simp
  · go_simp
  · go_simp
  · go_simp
theorem form3 (N : Nat) (w : World) (hN : w.heap.size = N) : Calls Tryz.prog 127 #[.int .u8 3] w fun en w' => en = .returned (.agg #[.int .i64 11, .func (Fn.func 179) #[] #[.pointer (some ⟨N + 1, 0, none⟩), .pointer (some ⟨N + 2, 0, none⟩)], .func (Fn.func 175) #[] #[.pointer (some ⟨N + 3, 0, none⟩)], .func (Fn.func 180) #[] #[.pointer (some ⟨N + 4, 0, none⟩), .pointer (some ⟨N + 5, 0, none⟩)]]) ∧ Below N w w' ∧ N + 6 ≤ w'.heap.size ∧ w'.cell? ⟨N + 1, 0, none⟩ = some (.int .i32 0) ∧ w'.cell? ⟨N + 2, 0, none⟩ = some (.int .i32 4095) ∧ w'.cell? ⟨N + 3, 0, none⟩ = some (.int .u64 20) ∧ w'.cell? ⟨N + 4, 0, none⟩ = some (.int .u64 20) ∧ w'.cell? ⟨N + 5, 0, none⟩ = some (.int .u64 12) := by
  subst hN
  go_enter Tryz.func127, Tryz.ntmps127
  go_wp2_with (first | (go_at_call 153; refine (mk27 _ _).mono ?_; rintro _ _ ⟨rfl, rfl⟩) | (go_at_call 154; refine (mk28 _ _).mono ?_; rintro _ _ ⟨rfl, rfl⟩) | (go_at_call 156; refine (mk30 _ _ _).mono ?_; rintro _ _ ⟨rfl, rfl⟩) | (go_at_call 160; refine (mk34 _ _ _).mono ?_; rintro _ _ ⟨rfl, rfl⟩) | (go_at_call 161; refine (mk35 _ _ _).mono ?_; rintro _ _ ⟨rfl, rfl⟩))
  refine bodyPost_ret (v := .agg #[.int .i64 11, .func (Fn.func 179) #[] #[.pointer (some ⟨w.heap.size + 1, 0, none⟩), .pointer (some ⟨w.heap.size + 2, 0, none⟩)], .func (Fn.func 175) #[] #[.pointer (some ⟨w.heap.size + 3, 0, none⟩)], .func (Fn.func 180) #[] #[.pointer (some ⟨w.heap.size + 4, 0, none⟩), .pointer (some ⟨w.heap.size + 5, 0, none⟩)]]) (by simp [results, Tryz.results127, go_sem]) rfl ⟨rfl, ?_, ?_, ?_, ?_, ?_, ?_, ?_⟩
  · exact ((((((Below.refl _ _).alloc (Nat.le_refl _) _).alloc (by simp) _).alloc (by simp; omega) _).alloc (by simp; omega) _).alloc (by simp; omega) _).alloc (by simp; omega) _
  · simp
  · go_simp
  · go_simp
  · go_simp
  · go_simp
  · go_simp
theorem form4 (N : Nat) (w : World) (hN : w.heap.size = N) : Calls Tryz.prog 127 #[.int .u8 4] w fun en w' => en = .returned (.agg #[.int .i64 11, .func (Fn.func 179) #[] #[.pointer (some ⟨N + 1, 0, none⟩), .pointer (some ⟨N + 2, 0, none⟩)], .func (Fn.func 175) #[] #[.pointer (some ⟨N + 3, 0, none⟩)], .func (Fn.func 180) #[] #[.pointer (some ⟨N + 4, 0, none⟩), .pointer (some ⟨N + 5, 0, none⟩)]]) ∧ Below N w w' ∧ N + 6 ≤ w'.heap.size ∧ w'.cell? ⟨N + 1, 0, none⟩ = some (.int .i32 0) ∧ w'.cell? ⟨N + 2, 0, none⟩ = some (.int .i32 31) ∧ w'.cell? ⟨N + 3, 0, none⟩ = some (.int .u64 20) ∧ w'.cell? ⟨N + 4, 0, none⟩ = some (.int .u64 20) ∧ w'.cell? ⟨N + 5, 0, none⟩ = some (.int .u64 5) := by
  subst hN
  go_enter Tryz.func127, Tryz.ntmps127
  go_wp2_with (first | (go_at_call 153; refine (mk27 _ _).mono ?_; rintro _ _ ⟨rfl, rfl⟩) | (go_at_call 154; refine (mk28 _ _).mono ?_; rintro _ _ ⟨rfl, rfl⟩) | (go_at_call 156; refine (mk30 _ _ _).mono ?_; rintro _ _ ⟨rfl, rfl⟩) | (go_at_call 160; refine (mk34 _ _ _).mono ?_; rintro _ _ ⟨rfl, rfl⟩) | (go_at_call 161; refine (mk35 _ _ _).mono ?_; rintro _ _ ⟨rfl, rfl⟩))
  refine bodyPost_ret (v := .agg #[.int .i64 11, .func (Fn.func 179) #[] #[.pointer (some ⟨w.heap.size + 1, 0, none⟩), .pointer (some ⟨w.heap.size + 2, 0, none⟩)], .func (Fn.func 175) #[] #[.pointer (some ⟨w.heap.size + 3, 0, none⟩)], .func (Fn.func 180) #[] #[.pointer (some ⟨w.heap.size + 4, 0, none⟩), .pointer (some ⟨w.heap.size + 5, 0, none⟩)]]) (by simp [results, Tryz.results127, go_sem]) rfl ⟨rfl, ?_, ?_, ?_, ?_, ?_, ?_, ?_⟩
  · exact ((((((Below.refl _ _).alloc (Nat.le_refl _) _).alloc (by simp) _).alloc (by simp; omega) _).alloc (by simp; omega) _).alloc (by simp; omega) _).alloc (by simp; omega) _
  · simp
  · go_simp
  · go_simp
  · go_simp
  · go_simp
  · go_simp
theorem form5 (N : Nat) (w : World) (hN : w.heap.size = N) : Calls Tryz.prog 127 #[.int .u8 5] w fun en w' => en = .returned (.agg #[.int .i64 14, .func (Fn.func 176) #[] #[.pointer (some ⟨N + 1, 0, none⟩), .pointer (some ⟨N + 2, 0, none⟩)], .func (Fn.func 162) #[] #[], .func (Fn.func 163) #[] #[]]) ∧ Below N w w' ∧ N + 3 ≤ w'.heap.size ∧ w'.cell? ⟨N + 1, 0, none⟩ = some (.int .u64 12) ∧ w'.cell? ⟨N + 2, 0, none⟩ = some (.int .i32 1) := by
  subst hN
  go_enter Tryz.func127, Tryz.ntmps127
  go_wp2_with (first | (go_at_call 153; refine (mk27 _ _).mono ?_; rintro _ _ ⟨rfl, rfl⟩) | (go_at_call 154; refine (mk28 _ _).mono ?_; rintro _ _ ⟨rfl, rfl⟩) | (go_at_call 156; refine (mk30 _ _ _).mono ?_; rintro _ _ ⟨rfl, rfl⟩) | (go_at_call 160; refine (mk34 _ _ _).mono ?_; rintro _ _ ⟨rfl, rfl⟩) | (go_at_call 161; refine (mk35 _ _ _).mono ?_; rintro _ _ ⟨rfl, rfl⟩))
  refine bodyPost_ret (v := .agg #[.int .i64 14, .func (Fn.func 176) #[] #[.pointer (some ⟨w.heap.size + 1, 0, none⟩), .pointer (some ⟨w.heap.size + 2, 0, none⟩)], .func (Fn.func 162) #[] #[], .func (Fn.func 163) #[] #[]]) (by simp [results, Tryz.results127, go_sem]) rfl ⟨rfl, ?_, ?_, ?_, ?_⟩
  · exact (((Below.refl _ _).alloc (Nat.le_refl _) _).alloc (by simp) _).alloc (by simp; omega) _
  · simp
  · go_simp
  · go_simp
theorem form6 (N : Nat) (w : World) (hN : w.heap.size = N) : Calls Tryz.prog 127 #[.int .u8 6] w fun en w' => en = .returned (.agg #[.int .i64 14, .func (Fn.func 176) #[] #[.pointer (some ⟨N + 1, 0, none⟩), .pointer (some ⟨N + 2, 0, none⟩)], .func (Fn.func 164) #[] #[], .func (Fn.func 165) #[] #[]]) ∧ Below N w w' ∧ N + 3 ≤ w'.heap.size ∧ w'.cell? ⟨N + 1, 0, none⟩ = some (.int .u64 13) ∧ w'.cell? ⟨N + 2, 0, none⟩ = some (.int .i32 2) := by
  subst hN
  go_enter Tryz.func127, Tryz.ntmps127
  go_wp2_with (first | (go_at_call 153; refine (mk27 _ _).mono ?_; rintro _ _ ⟨rfl, rfl⟩) | (go_at_call 154; refine (mk28 _ _).mono ?_; rintro _ _ ⟨rfl, rfl⟩) | (go_at_call 156; refine (mk30 _ _ _).mono ?_; rintro _ _ ⟨rfl, rfl⟩) | (go_at_call 160; refine (mk34 _ _ _).mono ?_; rintro _ _ ⟨rfl, rfl⟩) | (go_at_call 161; refine (mk35 _ _ _).mono ?_; rintro _ _ ⟨rfl, rfl⟩))
  refine bodyPost_ret (v := .agg #[.int .i64 14, .func (Fn.func 176) #[] #[.pointer (some ⟨w.heap.size + 1, 0, none⟩), .pointer (some ⟨w.heap.size + 2, 0, none⟩)], .func (Fn.func 164) #[] #[], .func (Fn.func 165) #[] #[]]) (by simp [results, Tryz.results127, go_sem]) rfl ⟨rfl, ?_, ?_, ?_, ?_⟩
  · exact (((Below.refl _ _).alloc (Nat.le_refl _) _).alloc (by simp) _).alloc (by simp; omega) _
  · simp
  · go_simp
  · go_simp
theorem form7 (N : Nat) (w : World) (hN : w.heap.size = N) : Calls Tryz.prog 127 #[.int .u8 7] w fun en w' => en = .returned (.agg #[.int .i64 7, .func (Fn.func 179) #[] #[.pointer (some ⟨N + 1, 0, none⟩), .pointer (some ⟨N + 2, 0, none⟩)], .func (Fn.func 175) #[] #[.pointer (some ⟨N + 3, 0, none⟩)], .func (Fn.func 180) #[] #[.pointer (some ⟨N + 4, 0, none⟩), .pointer (some ⟨N + 5, 0, none⟩)]]) ∧ Below N w w' ∧ N + 6 ≤ w'.heap.size ∧ w'.cell? ⟨N + 1, 0, none⟩ = some (.int .i32 0) ∧ w'.cell? ⟨N + 2, 0, none⟩ = some (.int .i32 0) ∧ w'.cell? ⟨N + 3, 0, none⟩ = some (.int .u64 0) ∧ w'.cell? ⟨N + 4, 0, none⟩ = some (.int .u64 0) ∧ w'.cell? ⟨N + 5, 0, none⟩ = some (.int .u64 0) := by
  subst hN
  go_enter Tryz.func127, Tryz.ntmps127
  go_wp2_with (first | (go_at_call 153; refine (mk27 _ _).mono ?_; rintro _ _ ⟨rfl, rfl⟩) | (go_at_call 154; refine (mk28 _ _).mono ?_; rintro _ _ ⟨rfl, rfl⟩) | (go_at_call 156; refine (mk30 _ _ _).mono ?_; rintro _ _ ⟨rfl, rfl⟩) | (go_at_call 160; refine (mk34 _ _ _).mono ?_; rintro _ _ ⟨rfl, rfl⟩) | (go_at_call 161; refine (mk35 _ _ _).mono ?_; rintro _ _ ⟨rfl, rfl⟩))
  refine bodyPost_ret (v := .agg #[.int .i64 7, .func (Fn.func 179) #[] #[.pointer (some ⟨w.heap.size + 1, 0, none⟩), .pointer (some ⟨w.heap.size + 2, 0, none⟩)], .func (Fn.func 175) #[] #[.pointer (some ⟨w.heap.size + 3, 0, none⟩)], .func (Fn.func 180) #[] #[.pointer (some ⟨w.heap.size + 4, 0, none⟩), .pointer (some ⟨w.heap.size + 5, 0, none⟩)]]) (by simp [results, Tryz.results127, go_sem]) rfl ⟨rfl, ?_, ?_, ?_, ?_, ?_, ?_, ?_⟩
  · exact ((((((Below.refl _ _).alloc (Nat.le_refl _) _).alloc (by simp) _).alloc (by simp; omega) _).alloc (by simp; omega) _).alloc (by simp; omega) _).alloc (by simp; omega) _
  · simp
  · go_simp
  · go_simp
  · go_simp
  · go_simp
  · go_simp
theorem form8 (N : Nat) (w : World) (hN : w.heap.size = N) : Calls Tryz.prog 127 #[.int .u8 8] w fun en w' => en = .returned (.agg #[.int .i64 3, .func (Fn.func 179) #[] #[.pointer (some ⟨N + 1, 0, none⟩), .pointer (some ⟨N + 2, 0, none⟩)], .func (Fn.func 175) #[] #[.pointer (some ⟨N + 3, 0, none⟩)], .func (Fn.func 180) #[] #[.pointer (some ⟨N + 4, 0, none⟩), .pointer (some ⟨N + 5, 0, none⟩)]]) ∧ Below N w w' ∧ N + 6 ≤ w'.heap.size ∧ w'.cell? ⟨N + 1, 0, none⟩ = some (.int .i32 0) ∧ w'.cell? ⟨N + 2, 0, none⟩ = some (.int .i32 0) ∧ w'.cell? ⟨N + 3, 0, none⟩ = some (.int .u64 0) ∧ w'.cell? ⟨N + 4, 0, none⟩ = some (.int .u64 0) ∧ w'.cell? ⟨N + 5, 0, none⟩ = some (.int .u64 0) := by
  subst hN
  go_enter Tryz.func127, Tryz.ntmps127
  go_wp2_with (first | (go_at_call 153; refine (mk27 _ _).mono ?_; rintro _ _ ⟨rfl, rfl⟩) | (go_at_call 154; refine (mk28 _ _).mono ?_; rintro _ _ ⟨rfl, rfl⟩) | (go_at_call 156; refine (mk30 _ _ _).mono ?_; rintro _ _ ⟨rfl, rfl⟩) | (go_at_call 160; refine (mk34 _ _ _).mono ?_; rintro _ _ ⟨rfl, rfl⟩) | (go_at_call 161; refine (mk35 _ _ _).mono ?_; rintro _ _ ⟨rfl, rfl⟩))
  refine bodyPost_ret (v := .agg #[.int .i64 3, .func (Fn.func 179) #[] #[.pointer (some ⟨w.heap.size + 1, 0, none⟩), .pointer (some ⟨w.heap.size + 2, 0, none⟩)], .func (Fn.func 175) #[] #[.pointer (some ⟨w.heap.size + 3, 0, none⟩)], .func (Fn.func 180) #[] #[.pointer (some ⟨w.heap.size + 4, 0, none⟩), .pointer (some ⟨w.heap.size + 5, 0, none⟩)]]) (by simp [results, Tryz.results127, go_sem]) rfl ⟨rfl, ?_, ?_, ?_, ?_, ?_, ?_, ?_⟩
  · exact ((((((Below.refl _ _).alloc (Nat.le_refl _) _).alloc (by simp) _).alloc (by simp; omega) _).alloc (by simp; omega) _).alloc (by simp; omega) _).alloc (by simp; omega) _
  · simp
  · go_simp
  · go_simp
  · go_simp
  · go_simp
  · go_simp
theorem form9 (N : Nat) (w : World) (hN : w.heap.size = N) : Calls Tryz.prog 127 #[.int .u8 9] w fun en w' => en = .returned (.agg #[.int .i64 11, .func (Fn.func 179) #[] #[.pointer (some ⟨N + 1, 0, none⟩), .pointer (some ⟨N + 2, 0, none⟩)], .func (Fn.func 175) #[] #[.pointer (some ⟨N + 3, 0, none⟩)], .func (Fn.func 180) #[] #[.pointer (some ⟨N + 4, 0, none⟩), .pointer (some ⟨N + 5, 0, none⟩)]]) ∧ Below N w w' ∧ N + 6 ≤ w'.heap.size ∧ w'.cell? ⟨N + 1, 0, none⟩ = some (.int .i32 27) ∧ w'.cell? ⟨N + 2, 0, none⟩ = some (.int .i32 31) ∧ w'.cell? ⟨N + 3, 0, none⟩ = some (.int .u64 20) ∧ w'.cell? ⟨N + 4, 0, none⟩ = some (.int .u64 20) ∧ w'.cell? ⟨N + 5, 0, none⟩ = some (.int .u64 5) := by
  subst hN
  go_enter Tryz.func127, Tryz.ntmps127
  go_wp2_with (first | (go_at_call 153; refine (mk27 _ _).mono ?_; rintro _ _ ⟨rfl, rfl⟩) | (go_at_call 154; refine (mk28 _ _).mono ?_; rintro _ _ ⟨rfl, rfl⟩) | (go_at_call 156; refine (mk30 _ _ _).mono ?_; rintro _ _ ⟨rfl, rfl⟩) | (go_at_call 160; refine (mk34 _ _ _).mono ?_; rintro _ _ ⟨rfl, rfl⟩) | (go_at_call 161; refine (mk35 _ _ _).mono ?_; rintro _ _ ⟨rfl, rfl⟩))
  refine bodyPost_ret (v := .agg #[.int .i64 11, .func (Fn.func 179) #[] #[.pointer (some ⟨w.heap.size + 1, 0, none⟩), .pointer (some ⟨w.heap.size + 2, 0, none⟩)], .func (Fn.func 175) #[] #[.pointer (some ⟨w.heap.size + 3, 0, none⟩)], .func (Fn.func 180) #[] #[.pointer (some ⟨w.heap.size + 4, 0, none⟩), .pointer (some ⟨w.heap.size + 5, 0, none⟩)]]) (by simp [results, Tryz.results127, go_sem]) rfl ⟨rfl, ?_, ?_, ?_, ?_, ?_, ?_, ?_⟩
  · exact ((((((Below.refl _ _).alloc (Nat.le_refl _) _).alloc (by simp) _).alloc (by simp; omega) _).alloc (by simp; omega) _).alloc (by simp; omega) _).alloc (by simp; omega) _
  · simp
  · go_simp
  · go_simp
  · go_simp
  · go_simp
  · go_simp
theorem form10 (N : Nat) (w : World) (hN : w.heap.size = N) : Calls Tryz.prog 127 #[.int .u8 10] w fun en w' => en = .returned (.agg #[.int .i64 0, .func (Fn.func 179) #[] #[.pointer (some ⟨N + 1, 0, none⟩), .pointer (some ⟨N + 2, 0, none⟩)], .func (Fn.func 175) #[] #[.pointer (some ⟨N + 3, 0, none⟩)], .func (Fn.func 180) #[] #[.pointer (some ⟨N + 4, 0, none⟩), .pointer (some ⟨N + 5, 0, none⟩)]]) ∧ Below N w w' ∧ N + 6 ≤ w'.heap.size ∧ w'.cell? ⟨N + 1, 0, none⟩ = some (.int .i32 0) ∧ w'.cell? ⟨N + 2, 0, none⟩ = some (.int .i32 0) ∧ w'.cell? ⟨N + 3, 0, none⟩ = some (.int .u64 0) ∧ w'.cell? ⟨N + 4, 0, none⟩ = some (.int .u64 0) ∧ w'.cell? ⟨N + 5, 0, none⟩ = some (.int .u64 0) := by
  subst hN
  go_enter Tryz.func127, Tryz.ntmps127
  go_wp2_with (first | (go_at_call 153; refine (mk27 _ _).mono ?_; rintro _ _ ⟨rfl, rfl⟩) | (go_at_call 154; refine (mk28 _ _).mono ?_; rintro _ _ ⟨rfl, rfl⟩) | (go_at_call 156; refine (mk30 _ _ _).mono ?_; rintro _ _ ⟨rfl, rfl⟩) | (go_at_call 160; refine (mk34 _ _ _).mono ?_; rintro _ _ ⟨rfl, rfl⟩) | (go_at_call 161; refine (mk35 _ _ _).mono ?_; rintro _ _ ⟨rfl, rfl⟩))
  refine bodyPost_ret (v := .agg #[.int .i64 0, .func (Fn.func 179) #[] #[.pointer (some ⟨w.heap.size + 1, 0, none⟩), .pointer (some ⟨w.heap.size + 2, 0, none⟩)], .func (Fn.func 175) #[] #[.pointer (some ⟨w.heap.size + 3, 0, none⟩)], .func (Fn.func 180) #[] #[.pointer (some ⟨w.heap.size + 4, 0, none⟩), .pointer (some ⟨w.heap.size + 5, 0, none⟩)]]) (by simp [results, Tryz.results127, go_sem]) rfl ⟨rfl, ?_, ?_, ?_, ?_, ?_, ?_, ?_⟩
  · exact ((((((Below.refl _ _).alloc (Nat.le_refl _) _).alloc (by simp) _).alloc (by simp; omega) _).alloc (by simp; omega) _).alloc (by simp; omega) _).alloc (by simp; omega) _
  · simp
  · go_simp
  · go_simp
  · go_simp
  · go_simp
  · go_simp
end Go.Proofs.YtnkoknfihhdelaaGreatDoor.In
