import Derived.Test.YtapdiionikfgpaaGreatDoorQaz
import Derived.Laws.StructEq
namespace Go.Proofs.YtapdiionikfgpaaGreatDoor
open Go.ChangeShapes Go.WideShapes Go.ChangeAt Go.RowKit
set_option linter.unusedVariables false
set_option linter.unusedSimpArgs false
theorem ent_77 (args : Array Value) (W : World) : (callFunc 77 args).run Tryz.prog W = .ok (.enter 77 args) W := by kernel_rfl
set_option maxRecDepth 100000 in
set_option maxHeartbeats 4000000 in
theorem clo_77 (x : Sv × Co) (b : Nat) (w : World) (n cc wb o : Nat) (u : ByteArray) (hn : 1 < n) (hb : w.cell? ⟨b, 0, none⟩ = some (.slice (some ⟨wb, o, none⟩) n cc)) (hu : w.cell? ⟨wb, o + 1, none⟩ = some (.string u)) :
    Calls Tryz.prog 77 #[.agg #[.string x.2.nm, x.1.f, x.1.e, x.1.i, x.1.d, x.1.g], .pointer (some ⟨b, 0, none⟩)] w fun e w' => e = .returned (.bool (decide (x.2.nm = u))) ∧ Below w.heap.size w w' := by
  have hb1 := World.block_lt_of_cell? w _ hb
  have hu1 := World.block_lt_of_cell? w _ hu
  have HBA : Hid (Below w.heap.size w (w.alloc (.cells #[.string x.2.nm, x.1.f, x.1.e, x.1.i, x.1.d, x.1.g] 48))) := Lib.hid ((Below.refl _ w).alloc (Nat.le_refl _) _)
  have p0 : (w.alloc (.cells #[.string x.2.nm, x.1.f, x.1.e, x.1.i, x.1.d, x.1.g] 48)).cell? ⟨b, 0, none⟩ = some (.slice (some ⟨wb, o, none⟩) n cc) := (HBA.out.cell (p := ⟨b, 0, none⟩) hb1).trans hb
  have p1 : (w.alloc (.cells #[.string x.2.nm, x.1.f, x.1.e, x.1.i, x.1.d, x.1.g] 48)).cell? ⟨wb, o + 1, none⟩ = some (.string u) := (HBA.out.cell (p := ⟨wb, _, none⟩) hu1).trans hu
  have hni : (1 : Int) < (n : Int) := by omega
  have e1 : (x.2.nm.toList == u.toList) = decide (x.2.nm = u) := bs_eq _ _
  generalize hz : decide (x.2.nm = u) = z at e1
  have HE := Lib.hid hz
  clear hz hb hu hb1 hu1 hn
  go_enter Tryz.func77, Tryz.ntmps77
  go_wp2_with fail
  go_quiet (fail)
  go_wp2_with fail
  go_ret
  exact ⟨by first | rfl | (rw [HE.out]; rfl), below_drewN HBA.out _⟩
theorem ent_118 (args : Array Value) (W : World) : (callFunc 118 args).run Tryz.prog W = .ok (.enter 118 args) W := by kernel_rfl
set_option maxRecDepth 100000 in
set_option maxHeartbeats 4000000 in
theorem clo_118 (x : Sv × Co) (b : Nat) (w : World) (u : ByteArray) (hb : w.cell? ⟨b, 0, none⟩ = some (.string u)) :
    Calls Tryz.prog 118 #[.agg #[.string x.2.nm, x.1.f, x.1.e, x.1.i, x.1.d, x.1.g], .pointer (some ⟨b, 0, none⟩)] w fun e w' => e = .returned (.bool (decide (x.2.nm = u))) ∧ Below w.heap.size w w' := by
  have hb1 := World.block_lt_of_cell? w _ hb
  have HBA : Hid (Below w.heap.size w (w.alloc (.cells #[.string x.2.nm, x.1.f, x.1.e, x.1.i, x.1.d, x.1.g] 48))) := Lib.hid ((Below.refl _ w).alloc (Nat.le_refl _) _)
  have p0 : (w.alloc (.cells #[.string x.2.nm, x.1.f, x.1.e, x.1.i, x.1.d, x.1.g] 48)).cell? ⟨b, 0, none⟩ = some (.string u) := (HBA.out.cell (p := ⟨b, 0, none⟩) hb1).trans hb
  have e1 : (x.2.nm.toList == u.toList) = decide (x.2.nm = u) := bs_eq _ _
  generalize hz : decide (x.2.nm = u) = z at e1
  have HE := Lib.hid hz
  clear hz hb hb1
  go_enter Tryz.func118, Tryz.ntmps118
  go_wp2_with fail
  go_ret
  exact ⟨by first | rfl | (rw [HE.out]; rfl), HBA.out⟩
theorem ent_81 (args : Array Value) (W : World) : (callFunc 81 args).run Tryz.prog W = .ok (.enter 81 args) W := by kernel_rfl
set_option maxRecDepth 100000 in
set_option maxHeartbeats 4000000 in
theorem clo_81 (x : ByteArray × Bool) (b : Nat) (w : World) (n cc wb o : Nat) (u : ByteArray) (hn : 2 < n) (hb : w.cell? ⟨b, 0, none⟩ = some (.slice (some ⟨wb, o, none⟩) n cc)) (hu : w.cell? ⟨wb, o + 2, none⟩ = some (.string u)) :
    Calls Tryz.prog 81 #[.agg #[.string x.1, .bool x.2], .pointer (some ⟨b, 0, none⟩)] w fun e w' => e = .returned (.bool (decide (x.1 = u))) ∧ Below w.heap.size w w' := by
  have hb1 := World.block_lt_of_cell? w _ hb
  have hu1 := World.block_lt_of_cell? w _ hu
  have HBA : Hid (Below w.heap.size w (w.alloc (.cells #[.string x.1, .bool x.2] 88))) := Lib.hid ((Below.refl _ w).alloc (Nat.le_refl _) _)
  have p0 : (w.alloc (.cells #[.string x.1, .bool x.2] 88)).cell? ⟨b, 0, none⟩ = some (.slice (some ⟨wb, o, none⟩) n cc) := (HBA.out.cell (p := ⟨b, 0, none⟩) hb1).trans hb
  have p1 : (w.alloc (.cells #[.string x.1, .bool x.2] 88)).cell? ⟨wb, o + 2, none⟩ = some (.string u) := (HBA.out.cell (p := ⟨wb, _, none⟩) hu1).trans hu
  have hni : (2 : Int) < (n : Int) := by omega
  have e1 : (x.1.toList == u.toList) = decide (x.1 = u) := bs_eq _ _
  generalize hz : decide (x.1 = u) = z at e1
  have HE := Lib.hid hz
  clear hz hb hu hb1 hu1 hn
  go_enter Tryz.func81, Tryz.ntmps81
  go_wp2_with fail
  go_quiet (fail)
  go_wp2_with fail
  go_ret
  exact ⟨by first | rfl | (rw [HE.out]; rfl), below_drewN HBA.out _⟩
theorem ent_84 (args : Array Value) (W : World) : (callFunc 84 args).run Tryz.prog W = .ok (.enter 84 args) W := by kernel_rfl
set_option maxRecDepth 100000 in
set_option maxHeartbeats 4000000 in
theorem clo_84 (x : ByteArray × Nat × Nat) (b : Nat) (w : World) (n cc wb o : Nat) (u : ByteArray) (hn : 2 < n) (hb : w.cell? ⟨b, 0, none⟩ = some (.slice (some ⟨wb, o, none⟩) n cc)) (hu : w.cell? ⟨wb, o + 2, none⟩ = some (.string u)) :
    Calls Tryz.prog 84 #[.agg #[.string x.1, .int .i64 (x.2.1 : Int), .int .i64 (x.2.2 : Int)], .pointer (some ⟨b, 0, none⟩)] w fun e w' => e = .returned (.bool (decide (x.1 = u))) ∧ Below w.heap.size w w' := by
  have hb1 := World.block_lt_of_cell? w _ hb
  have hu1 := World.block_lt_of_cell? w _ hu
  have HBA : Hid (Below w.heap.size w (w.alloc (.cells #[.string x.1, .int .i64 (x.2.1 : Int), .int .i64 (x.2.2 : Int)] 50))) := Lib.hid ((Below.refl _ w).alloc (Nat.le_refl _) _)
  have p0 : (w.alloc (.cells #[.string x.1, .int .i64 (x.2.1 : Int), .int .i64 (x.2.2 : Int)] 50)).cell? ⟨b, 0, none⟩ = some (.slice (some ⟨wb, o, none⟩) n cc) := (HBA.out.cell (p := ⟨b, 0, none⟩) hb1).trans hb
  have p1 : (w.alloc (.cells #[.string x.1, .int .i64 (x.2.1 : Int), .int .i64 (x.2.2 : Int)] 50)).cell? ⟨wb, o + 2, none⟩ = some (.string u) := (HBA.out.cell (p := ⟨wb, _, none⟩) hu1).trans hu
  have hni : (2 : Int) < (n : Int) := by omega
  have e1 : (x.1.toList == u.toList) = decide (x.1 = u) := bs_eq _ _
  generalize hz : decide (x.1 = u) = z at e1
  have HE := Lib.hid hz
  clear hz hb hu hb1 hu1 hn
  go_enter Tryz.func84, Tryz.ntmps84
  go_wp2_with fail
  go_quiet (fail)
  go_wp2_with fail
  go_ret
  exact ⟨by first | rfl | (rw [HE.out]; rfl), below_drewN HBA.out _⟩
theorem ent_96 (args : Array Value) (W : World) : (callFunc 96 args).run Tryz.prog W = .ok (.enter 96 args) W := by kernel_rfl
set_option maxRecDepth 100000 in
set_option maxHeartbeats 4000000 in
theorem clo_96 (x : ByteArray × Nat × Nat) (b : Nat) (w : World) (u : ByteArray) (hb : w.cell? ⟨b, 0, none⟩ = some (.string u)) :
    Calls Tryz.prog 96 #[.agg #[.string x.1, .int .i64 (x.2.1 : Int), .int .i64 (x.2.2 : Int)], .pointer (some ⟨b, 0, none⟩)] w fun e w' => e = .returned (.bool (decide (x.1 = u))) ∧ Below w.heap.size w w' := by
  have hb1 := World.block_lt_of_cell? w _ hb
  have HBA : Hid (Below w.heap.size w (w.alloc (.cells #[.string x.1, .int .i64 (x.2.1 : Int), .int .i64 (x.2.2 : Int)] 50))) := Lib.hid ((Below.refl _ w).alloc (Nat.le_refl _) _)
  have p0 : (w.alloc (.cells #[.string x.1, .int .i64 (x.2.1 : Int), .int .i64 (x.2.2 : Int)] 50)).cell? ⟨b, 0, none⟩ = some (.string u) := (HBA.out.cell (p := ⟨b, 0, none⟩) hb1).trans hb
  have e1 : (x.1.toList == u.toList) = decide (x.1 = u) := bs_eq _ _
  generalize hz : decide (x.1 = u) = z at e1
  have HE := Lib.hid hz
  clear hz hb hb1
  go_enter Tryz.func96, Tryz.ntmps96
  go_wp2_with fail
  go_ret
  exact ⟨by first | rfl | (rw [HE.out]; rfl), HBA.out⟩
theorem ent_86 (args : Array Value) (W : World) : (callFunc 86 args).run Tryz.prog W = .ok (.enter 86 args) W := by kernel_rfl
set_option maxRecDepth 100000 in
set_option maxHeartbeats 4000000 in
theorem clo_86 (x : Nat × ByteArray) (b : Nat) (w : World) (d : Nat) (u : ByteArray) (hb : w.cell? ⟨b, 0, none⟩ = some (.int .i64 (d : Int))) (hu : w.cell? ⟨b, 1, none⟩ = some (.string u)) :
    Calls Tryz.prog 86 #[.agg #[.int .i64 (x.1 : Int), .string x.2], .pointer (some ⟨b, 0, none⟩)] w fun e w' => e = .returned (.bool (decide (x = (d, u)))) ∧ Below w.heap.size w w' := by
  have hb1 := World.block_lt_of_cell? w _ hb
  have HBA : Hid (Below w.heap.size w (w.alloc (.cells #[.int .i64 (x.1 : Int), .string x.2] 79))) := Lib.hid ((Below.refl _ w).alloc (Nat.le_refl _) _)
  have p0 : (w.alloc (.cells #[.int .i64 (x.1 : Int), .string x.2] 79)).cell? ⟨b, 0, none⟩ = some (.int .i64 (d : Int)) := (HBA.out.cell (p := ⟨b, 0, none⟩) hb1).trans hb
  have p1 : (w.alloc (.cells #[.int .i64 (x.1 : Int), .string x.2] 79)).cell? ⟨b, 1, none⟩ = some (.string u) := (HBA.out.cell (p := ⟨b, 1, none⟩) hb1).trans hu
  by_cases h1 : x.1 = d
  · by_cases h2 : x.2 = u
    · have HE : Hid (decide (x = (d, u)) = true) := Lib.hid (decide_eq_true (Prod.ext h1 h2))
      have e1 : ((d : Int) == (x.1 : Int)) = true := by simp; omega
      have e1' : ((x.1 : Int) == (d : Int)) = true := by simp; omega
      have e2 : (u.toList == x.2.toList) = true := by rw [bs_eq]; exact decide_eq_true h2.symm
      have e2' : (x.2.toList == u.toList) = true := by rw [bs_eq]; exact decide_eq_true h2
      clear hb hu hb1 h1 h2
      go_enter Tryz.func86, Tryz.ntmps86
      go_wp2_with fail
      go_ret
      exact ⟨by first | rfl | (rw [HE.out]; rfl), HBA.out⟩
    · have HE : Hid (decide (x = (d, u)) = false) := Lib.hid (decide_eq_false (fun e => h2 (by rw [e])))
      have e1 : ((d : Int) == (x.1 : Int)) = true := by simp; omega
      have e1' : ((x.1 : Int) == (d : Int)) = true := by simp; omega
      have e2 : (u.toList == x.2.toList) = false := by rw [bs_eq]; exact decide_eq_false (fun e => h2 e.symm)
      have e2' : (x.2.toList == u.toList) = false := by rw [bs_eq]; exact decide_eq_false h2
      clear hb hu hb1 h1 h2
      go_enter Tryz.func86, Tryz.ntmps86
      go_wp2_with fail
      go_ret
      exact ⟨by first | rfl | (rw [HE.out]; rfl), HBA.out⟩
  · have HE : Hid (decide (x = (d, u)) = false) := Lib.hid (decide_eq_false (fun e => h1 (by rw [e])))
    have e1 : ((d : Int) == (x.1 : Int)) = false := by simp; omega
    have e1' : ((x.1 : Int) == (d : Int)) = false := by simp; omega
    clear hb hu hb1 h1
    go_enter Tryz.func86, Tryz.ntmps86
    go_wp2_with fail
    go_ret
    exact ⟨by first | rfl | (rw [HE.out]; rfl), HBA.out⟩
theorem ent_88 (args : Array Value) (W : World) : (callFunc 88 args).run Tryz.prog W = .ok (.enter 88 args) W := by kernel_rfl
set_option maxRecDepth 100000 in
set_option maxHeartbeats 4000000 in
theorem clo_88 (x : ByteArray × Nat × Nat) (b : Nat) (w : World) (n cc wb o : Nat) (u : ByteArray) (hn : 2 < n) (hb : w.cell? ⟨b, 0, none⟩ = some (.slice (some ⟨wb, o, none⟩) n cc)) (hu : w.cell? ⟨wb, o + 2, none⟩ = some (.string u)) :
    Calls Tryz.prog 88 #[.agg #[.string x.1, .int .u32 (x.2.1 : Int), .int .u32 (x.2.2 : Int)], .pointer (some ⟨b, 0, none⟩)] w fun e w' => e = .returned (.bool (decide (x.1 = u))) ∧ Below w.heap.size w w' := by
  have hb1 := World.block_lt_of_cell? w _ hb
  have hu1 := World.block_lt_of_cell? w _ hu
  have HBA : Hid (Below w.heap.size w (w.alloc (.cells #[.string x.1, .int .u32 (x.2.1 : Int), .int .u32 (x.2.2 : Int)] 90))) := Lib.hid ((Below.refl _ w).alloc (Nat.le_refl _) _)
  have p0 : (w.alloc (.cells #[.string x.1, .int .u32 (x.2.1 : Int), .int .u32 (x.2.2 : Int)] 90)).cell? ⟨b, 0, none⟩ = some (.slice (some ⟨wb, o, none⟩) n cc) := (HBA.out.cell (p := ⟨b, 0, none⟩) hb1).trans hb
  have p1 : (w.alloc (.cells #[.string x.1, .int .u32 (x.2.1 : Int), .int .u32 (x.2.2 : Int)] 90)).cell? ⟨wb, o + 2, none⟩ = some (.string u) := (HBA.out.cell (p := ⟨wb, _, none⟩) hu1).trans hu
  have hni : (2 : Int) < (n : Int) := by omega
  have e1 : (x.1.toList == u.toList) = decide (x.1 = u) := bs_eq _ _
  generalize hz : decide (x.1 = u) = z at e1
  have HE := Lib.hid hz
  clear hz hb hu hb1 hu1 hn
  go_enter Tryz.func88, Tryz.ntmps88
  go_wp2_with fail
  go_quiet (fail)
  go_wp2_with fail
  go_ret
  exact ⟨by first | rfl | (rw [HE.out]; rfl), below_drewN HBA.out _⟩
theorem ent_94 (args : Array Value) (W : World) : (callFunc 94 args).run Tryz.prog W = .ok (.enter 94 args) W := by kernel_rfl
set_option maxRecDepth 100000 in
set_option maxHeartbeats 4000000 in
theorem clo_94 (x : Nat × Bool) (b : Nat) (w : World) (u : Nat) (hb : w.cell? ⟨b, 0, none⟩ = some (.int .i64 (u : Int))) :
    Calls Tryz.prog 94 #[.agg #[.int .i64 (x.1 : Int), .bool x.2], .pointer (some ⟨b, 0, none⟩)] w fun e w' => e = .returned (.bool (decide (x.1 = u))) ∧ Below w.heap.size w w' := by
  have hb1 := World.block_lt_of_cell? w _ hb
  have HBA : Hid (Below w.heap.size w (w.alloc (.cells #[.int .i64 (x.1 : Int), .bool x.2] 92))) := Lib.hid ((Below.refl _ w).alloc (Nat.le_refl _) _)
  have p0 : (w.alloc (.cells #[.int .i64 (x.1 : Int), .bool x.2] 92)).cell? ⟨b, 0, none⟩ = some (.int .i64 (u : Int)) := (HBA.out.cell (p := ⟨b, 0, none⟩) hb1).trans hb
  have e1 : ((x.1 : Int) == (u : Int)) = decide (x.1 = u) := by rw [Bool.eq_iff_iff]; simp; omega
  generalize hz : decide (x.1 = u) = z at e1
  have HE := Lib.hid hz
  clear hz hb hb1
  go_enter Tryz.func94, Tryz.ntmps94
  go_wp2_with fail
  go_ret
  exact ⟨by first | rfl | (rw [HE.out]; rfl), HBA.out⟩
theorem ent_90 (args : Array Value) (W : World) : (callFunc 90 args).run Tryz.prog W = .ok (.enter 90 args) W := by kernel_rfl
set_option maxRecDepth 100000 in
set_option maxHeartbeats 4000000 in
theorem clo_90 (x : ByteArray × Nat) (b : Nat) (w : World) (n cc wb o : Nat) (u : ByteArray) (hn : 1 < n) (hb : w.cell? ⟨b, 0, none⟩ = some (.slice (some ⟨wb, o, none⟩) n cc)) (hu : w.cell? ⟨wb, o + 1, none⟩ = some (.string u)) :
    Calls Tryz.prog 90 #[.agg #[.string x.1, .int .i64 (x.2 : Int)], .pointer (some ⟨b, 0, none⟩)] w fun e w' => e = .returned (.bool (decide (x.1 = u))) ∧ Below w.heap.size w w' := by
  have hb1 := World.block_lt_of_cell? w _ hb
  have hu1 := World.block_lt_of_cell? w _ hu
  have HBA : Hid (Below w.heap.size w (w.alloc (.cells #[.string x.1, .int .i64 (x.2 : Int)] 68))) := Lib.hid ((Below.refl _ w).alloc (Nat.le_refl _) _)
  have p0 : (w.alloc (.cells #[.string x.1, .int .i64 (x.2 : Int)] 68)).cell? ⟨b, 0, none⟩ = some (.slice (some ⟨wb, o, none⟩) n cc) := (HBA.out.cell (p := ⟨b, 0, none⟩) hb1).trans hb
  have p1 : (w.alloc (.cells #[.string x.1, .int .i64 (x.2 : Int)] 68)).cell? ⟨wb, o + 1, none⟩ = some (.string u) := (HBA.out.cell (p := ⟨wb, _, none⟩) hu1).trans hu
  have hni : (1 : Int) < (n : Int) := by omega
  have e1 : (x.1.toList == u.toList) = decide (x.1 = u) := bs_eq _ _
  generalize hz : decide (x.1 = u) = z at e1
  have HE := Lib.hid hz
  clear hz hb hu hb1 hu1 hn
  go_enter Tryz.func90, Tryz.ntmps90
  go_wp2_with fail
  go_quiet (fail)
  go_wp2_with fail
  go_ret
  exact ⟨by first | rfl | (rw [HE.out]; rfl), below_drewN HBA.out _⟩
theorem ent_92 (args : Array Value) (W : World) : (callFunc 92 args).run Tryz.prog W = .ok (.enter 92 args) W := by kernel_rfl
set_option maxRecDepth 100000 in
set_option maxHeartbeats 4000000 in
theorem clo_92 (x : ByteArray × Nat) (b : Nat) (w : World) (n cc wb o : Nat) (u : ByteArray) (hn : 2 < n) (hb : w.cell? ⟨b, 0, none⟩ = some (.slice (some ⟨wb, o, none⟩) n cc)) (hu : w.cell? ⟨wb, o + 2, none⟩ = some (.string u)) :
    Calls Tryz.prog 92 #[.agg #[.string x.1, .int .i64 (x.2 : Int)], .pointer (some ⟨b, 0, none⟩)] w fun e w' => e = .returned (.bool (decide (x.1 = u))) ∧ Below w.heap.size w w' := by
  have hb1 := World.block_lt_of_cell? w _ hb
  have hu1 := World.block_lt_of_cell? w _ hu
  have HBA : Hid (Below w.heap.size w (w.alloc (.cells #[.string x.1, .int .i64 (x.2 : Int)] 68))) := Lib.hid ((Below.refl _ w).alloc (Nat.le_refl _) _)
  have p0 : (w.alloc (.cells #[.string x.1, .int .i64 (x.2 : Int)] 68)).cell? ⟨b, 0, none⟩ = some (.slice (some ⟨wb, o, none⟩) n cc) := (HBA.out.cell (p := ⟨b, 0, none⟩) hb1).trans hb
  have p1 : (w.alloc (.cells #[.string x.1, .int .i64 (x.2 : Int)] 68)).cell? ⟨wb, o + 2, none⟩ = some (.string u) := (HBA.out.cell (p := ⟨wb, _, none⟩) hu1).trans hu
  have hni : (2 : Int) < (n : Int) := by omega
  have e1 : (x.1.toList == u.toList) = decide (x.1 = u) := bs_eq _ _
  generalize hz : decide (x.1 = u) = z at e1
  have HE := Lib.hid hz
  clear hz hb hu hb1 hu1 hn
  go_enter Tryz.func92, Tryz.ntmps92
  go_wp2_with fail
  go_quiet (fail)
  go_wp2_with fail
  go_ret
  exact ⟨by first | rfl | (rw [HE.out]; rfl), below_drewN HBA.out _⟩
end Go.Proofs.YtapdiionikfgpaaGreatDoor
