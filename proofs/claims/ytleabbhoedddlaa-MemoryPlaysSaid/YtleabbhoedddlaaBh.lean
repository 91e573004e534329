import Derived.Test.YtleabbhoedddlaaBg
import Derived.Test.YtleabbhoedddlaaBd
namespace Go.Proofs.Ytleabbhoedddlaa
open Go.ChangeShapes Go.WideShapes Go.ChangeAt Go.RowKit
open Pt (info5)
set_option linter.unusedVariables false
theorem info4 : (Try.prog.info? 4).map (fun i => (i.zero, i.size, i.bytes)) = some (some (.bool false), 1, 1) := by kernel_rfl
theorem made_at (z : Value) (n j : Nat) (hj : j < n) : (madeCells #[z] n)[j]? = some z := by
  rw [← Array.getElem?_toList, toList_madeCells_one, List.getElem?_replicate, if_pos hj]
theorem n1 (w : World) (M : Array Value) (t : TypeId) (o1 o2 : Obj) : Blk (((w.alloc (.cells M t)).alloc o1).alloc o2) w.heap.size t M := ((Blk.new w t M).alloc _).alloc _
theorem n2 (w : World) (o1 : Obj) (M : Array Value) (t : TypeId) (o2 : Obj) : Blk (((w.alloc o1).alloc (.cells M t)).alloc o2) (w.heap.size + 1) t M := by
  have := (Blk.new (w.alloc o1) t M).alloc o2
  simpa using this
theorem n3 (w : World) (o1 o2 : Obj) (M : Array Value) (t : TypeId) : Blk (((w.alloc o1).alloc o2).alloc (.cells M t)) (w.heap.size + 1 + 1) t M := by
  have := Blk.new ((w.alloc o1).alloc o2) t M
  simpa using this
set_option maxHeartbeats 4000000 in
theorem rNew (w : World) : Calls Try.prog 8 #[] w fun en w' => ∃ r x y c1 c2, en = .returned (.pointer (some ⟨r, 0, none⟩)) ∧ Below w.heap.size w w' ∧ RM w' r x y c1 c2 (fun _ => 0) (fun _ => false) ∧ w.heap.size ≤ r ∧ w.heap.size ≤ x ∧ w.heap.size ≤ y := by
  obtain ⟨i0, hi, hz0, hz1, hz2⟩ := info_parts info5
  obtain ⟨j0, ki, kz0, kz1, kz2⟩ := info_parts info4
  have hmk := fun W => run_make_row (P := Try.prog) 44 5 i0 (.int .u8 0) Try.underlying44 hi hz0 hz1 rfl .i64 .i64 65536 (by rw [hz2]; omega) (by omega) W
  have kmk := fun W => run_make_row (P := Try.prog) 66 4 j0 (.bool false) Try.underlying66 ki kz0 kz1 rfl .i64 .i64 8192 (by rw [kz2]; omega) (by omega) W
  have m1 : ∀ j, j < 65536 → (madeCells #[(.int .u8 0 : Value)] 65536)[j]? = some (.int .u8 0) := fun j hj => made_at _ _ j hj
  have m2 : ∀ j, j < 8192 → (madeCells #[(.bool false : Value)] 8192)[j]? = some (.bool false) := fun j hj => made_at _ _ j hj
  have s1 : (madeCells #[(.int .u8 0 : Value)] 65536).size = 65536 := size_madeCells _ _
  have s2 : (madeCells #[(.bool false : Value)] 8192).size = 8192 := size_madeCells _ _
  generalize madeCells #[(.int .u8 0 : Value)] 65536 = M1 at *
  generalize madeCells #[(.bool false : Value)] 8192 = M2 at *
  have hmk' : ∀ W, (Instr.makeSlice 44 (.int .i64 65536) (.int .i64 65536)).run Try.prog W = .ok (.slice (some ⟨W.heap.size, 0, none⟩) 65536 65536) (W.alloc (.cells M1 5)) := hmk
  have kmk' : ∀ W, (Instr.makeSlice 66 (.int .i64 8192) (.int .i64 8192)).run Try.prog W = .ok (.slice (some ⟨W.heap.size, 0, none⟩) 8192 8192) (W.alloc (.cells M2 4)) := kmk
  clear hmk kmk
  go_enter Try.func8, Try.ntmps8
  go_wp2_with fail
  go_region
  all_goals
    go_wp2_with fail
    go_ret
  · exact ⟨_, _, _, _, _, rfl, (((((Below.refl _ _).alloc (Nat.le_refl _) _).alloc (by simp) _).alloc (by simp; omega) _).drew), ⟨Blk.drew (n3 _ _ _ _ _), ⟨M1, (n1 w M1 5 _ _).drew, by omega, m1⟩, ⟨M2, (n2 w _ M2 4 _).drew, by omega, m2⟩, fun _ => by omega, by omega, by omega, by omega⟩, by omega, by omega, by omega⟩
  · exact ⟨_, _, _, _, _, rfl, (((((Below.refl _ _).alloc (Nat.le_refl _) _).alloc (by simp) _).alloc (by simp; omega) _).drew), ⟨Blk.drew (n3 _ _ _ _ _), ⟨M1, (n2 w _ M1 5 _).drew, by omega, m1⟩, ⟨M2, (n1 w M2 4 _ _).drew, by omega, m2⟩, fun _ => by omega, by omega, by omega, by omega⟩, by omega, by omega, by omega⟩
end Go.Proofs.Ytleabbhoedddlaa
