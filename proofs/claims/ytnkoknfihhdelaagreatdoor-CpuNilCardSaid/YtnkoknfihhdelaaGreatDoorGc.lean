import Derived.Test.YtnkoknfihhdelaaGreatDoorGb
import Derived.Test.YtnkoknfihhdelaaGreatDoorGa
import Derived.Laws.Tables
namespace Go.Proofs.YtnkoknfihhdelaaGreatDoor
open Go.ChangeShapes Go.WideShapes Go.ChangeAt Go.RowKit
set_option linter.unusedVariables false
set_option maxRecDepth 100000
theorem Zone : Z.toList.all (·.oneCell') = true := by kernel_rfl
theorem size64 : (Tryz.prog.info? 69).map (·.size) = some 73729 := by kernel_rfl
/-- each cell is one -/
def One (C : Array Value) : Prop := C.toList.all (·.oneCell') = true
theorem One.at_ {C : Array Value} (h : One C) : C.all (·.oneCell') = true := by
  rw [← Array.all_toList]; exact h
theorem One.set_ {C : Array Value} (h : One C) (i : Nat) (v : Value) (hv : v.oneCell' = true) : One (C.setIfInBounds i v) := by
  unfold One at *
  rw [Array.toList_setIfInBounds, List.all_eq_true]
  intro x hx
  rcases List.mem_or_eq_of_mem_set hx with h1 | h1
  · exact List.all_eq_true.1 h x h1
  · rw [h1]; exact hv
theorem One.put {C : Array Value} (h : One C) (at_ n : Nat) : ∀ k, One (putB C at_ n k)
  | 0 => h
  | k + 1 => (One.put h at_ n k).set_ _ _ rfl
set_option maxHeartbeats 1000000 in
theorem copy (b : Nat) (C : Array Value) (w : World) (hm : Me w b C) (h1 : One C) :
    Calls Tryz.prog 16 #[.pointer (some ⟨b, 0, none⟩)] w fun e w' => e = .returned (.pointer (some ⟨w.heap.size, 0, none⟩)) ∧ Below w.heap.size w w' ∧ w'.heap.size = w.heap.size + 1 ∧ Me w' w.heap.size C := by
  have KT := Lib.hid hm.there
  have HM := Lib.hid hm
  have HO := Lib.hid h1
  have hz := zeroValue64
  have hne := Zne
  clear hm h1
  go_enter Tryz.func16, Tryz.ntmps16
  go_wp2_with fail
  refine KT.out.mono ?_
  rintro _ _ ⟨rfl, rfl⟩
  go_wp2_with (first | (refine wpList_load_row rfl 69 (.tmp 8) rfl b rfl 69 C (0, 0) _ HM.out.1 Tryz.underlying69 rfl (by rw [size64, HM.out.2.1]) ?_) | (refine wpList_store_row rfl 69 (.tmp 3) (.tmp 9) rfl w.heap.size C rfl rfl 69 Z (Blk.new w 69 Z) (by rw [size64, HM.out.2.1]) (by rw [Zsize, HM.out.2.1]) HO.out.at_ ?_))
  go_ret
  exact ⟨rfl, below_setRow ((Below.refl _ _).alloc (Nat.le_refl _) _) (Nat.le_refl _) _, by simp [World.setRow], setRow_heap _ _ _ _ _ _ (Blk.new w 69 Z), HM.out.2⟩
end Go.Proofs.YtnkoknfihhdelaaGreatDoor
namespace Go.Proofs.YtnkoknfihhdelaaGreatDoor
open Go.ChangeShapes Go.WideShapes Go.ChangeAt Go.RowKit
set_option linter.unusedVariables false
theorem sliceT2 (b : Nat) (w : World) :
    (Instr.sliceAt 67 (.pointer (some ⟨b, 65537, none⟩)) (some (.int .i64 0)) (some (.int .i64 2)) none).run Tryz.prog w = .ok (.slice (some ⟨b, 65537, none⟩) 2 8192) w := by
  have e : Tryz.prog.arrayLen 67 = 8192 := by kernel_rfl
  rw [run_sliceAt_array_lh w 67 ⟨b, 65537, none⟩ (by kernel_rfl) .i64 .i64 _ _ (by omega) (by omega) (by rw [e]; omega)]
  rw [show (sizeOf (Tryz.prog.elem 67)).run Tryz.prog w = .ok 1 w by kernel_rfl, e]
  rfl
def cnt2 (g0 g1 : Bool) : Nat → Int
  | 0 => 0
  | 1 => if g0 then 1 else 0
  | _ => (if g0 then 1 else 0) + (if g1 then 1 else 0)
set_option maxHeartbeats 1000000 in
theorem tags2 (b : Nat) (C : Array Value) (g0 g1 : Bool) (w : World) (hm : Me w b C) (h0 : C[65537]? = some (.bool g0)) (h1 : C[65538]? = some (.bool g1)) :
    Calls Tryz.prog 42 #[.pointer (some ⟨b, 0, none⟩), .int .i64 0, .int .i64 16] w fun e w' => e = .returned (.tuple #[.int .i64 (cnt2 g0 g1 2), .int .i64 0]) ∧ w = w' := by
  have KT := Lib.hid hm.there
  have c0 : w.cell? ⟨b, 65537, none⟩ = some (.bool g0) := by rw [hm.1.cell]; exact h0
  have c1 : w.cell? ⟨b, 65537 + 1, none⟩ = some (.bool g1) := by rw [hm.1.cell]; exact h1
  have hsl := sliceT2 b
  have C0 := Lib.hid c0; have C1 := Lib.hid c1
  clear hm h0 h1 c0 c1
  go_enter Tryz.func42, Tryz.ntmps42
  go_wp2_with fail
  refine KT.out.mono ?_
  rintro _ _ ⟨rfl, rfl⟩
  go_wp2_with fail
  go_loop [8, 45] (fun t i => ∃ k : Nat, k ≤ 2 ∧ i = .int .i64 (k : Int) ∧ t = .int .i64 (cnt2 g0 g1 k)) (fun _ i => 2 - (intOf i).toNat)
  case atStart => exact ⟨0, by omega, rfl, rfl⟩
  case round =>
    obtain ⟨k, hk, rfl, rfl⟩ := hrel
    have hk3 : k = 0 ∨ k = 1 ∨ k = 2 := by omega
    clear hk
    rcases hk3 with rfl | rfl | rfl
    · have c0 := C0.out
      cases g0
      all_goals
        go_wp2_with fail
        go_round
        case rel => exact ⟨1, by omega, rfl, by first | rfl | simp [cnt2, wrap64]⟩
        case measure => simp [intOf]
    · have c1 := C1.out
      cases g0 <;> cases g1
      all_goals
        simp only [cnt2] at *
        go_wp2_with fail
        go_round
        case rel => exact ⟨2, by omega, rfl, rfl⟩
        case measure => simp [intOf]
    · go_wp2_with fail
      go_ret2
      exact ⟨rfl, rfl⟩
set_option maxHeartbeats 1000000 in
theorem load1 (b at_ x : Nat) (C : Array Value) (w : World) (hm : Me w b C) (ha : at_ < 65536) (hw : wordB at_ 1 = true) (hx : x < 256) (h0 : C[1 + at_]? = some (.int .u8 (x : Int))) :
    Calls Tryz.prog 27 #[.pointer (some ⟨b, 0, none⟩), .int .u32 (at_ : Int), .int .i64 1] w fun e w' => e = .returned (.tuple #[.int .u32 (x : Int), .int .i64 0]) ∧ w = w' := by
  have KT := Lib.hid hm.there
  have K := Lib.hid (c30 at_ 1)
  rw [hw] at K
  have c0 : w.cell? ⟨b, 1 + at_, none⟩ = some (.int .u8 (x : Int)) := by rw [hm.1.cell]; exact h0
  clear hm h0 hw
  have hi : (at_ : Int) < 65536 := by omega
  have ho : bits .or .u32 0 (x : Int) = (x : Int) := by
    have := u32_or_nat 0 x (by omega) (by omega)
    simpa using this
  go_enter Tryz.func27, Tryz.ntmps27
  go_wp2_with fail
  refine KT.out.mono ?_
  rintro _ _ ⟨rfl, rfl⟩
  go_wp2_with fail
  refine (K.out _).mono ?_
  rintro _ _ ⟨rfl, rfl⟩
  go_wp2_with fail
  go_loop [8, 9] (fun t i => (i = .int .i64 0 ∧ t = .int .u32 0) ∨ (i = .int .i64 (-1) ∧ t = .int .u32 (x : Int))) (fun _ i => (1 + intOf i).toNat)
  case atStart => exact Or.inl ⟨rfl, rfl⟩
  case round =>
    rcases hrel with ⟨rfl, rfl⟩ | ⟨rfl, rfl⟩
    · go_wp2_with fail
      go_round
      case rel => exact Or.inr ⟨rfl, rfl⟩
      case measure => simp [intOf]
    · go_wp2_with fail
      go_ret2
      exact ⟨rfl, rfl⟩
end Go.Proofs.YtnkoknfihhdelaaGreatDoor
namespace Go.Proofs.YtnkoknfihhdelaaGreatDoor
open Go.ChangeShapes Go.WideShapes Go.ChangeAt Go.RowKit
open Cp (cp arr mt)
set_option linter.unusedVariables false
set_option maxRecDepth 100000
/-- the cells after the capability at 8 -/
noncomputable def LA : Array Value := scC Z1 8 (bytes8 (Cp.En.bt 4096 0) (Cp.En.bt 4096 1) (Cp.En.bt 4096 2) (Cp.En.bt 4096 3) (Cp.En.bt (mt 39 0 4 256 0) 0) (Cp.En.bt (mt 39 0 4 256 0) 1) (Cp.En.bt (mt 39 0 4 256 0) 2) (Cp.En.bt (mt 39 0 4 256 0) 3)) true
noncomputable def LB : Array Value := stC LA 12 1 7
theorem LA_t0 : LA[65537]? = some (.bool false) := by
  unfold LA scC
  rw [Array.getElem?_setIfInBounds_ne (by omega), putA_out _ _ _ (by rw [Z1size]; simp [bytes8]) 65537 (Or.inr (by simp [bytes8])), Z1_at _ (by omega)]
  exact Z3
theorem LA_size : LA.size = 73729 := by
  unfold LA scC
  rw [Array.size_setIfInBounds, putA_size _ _ _ (by rw [Z1size]; simp [bytes8]), Z1size]
theorem LA_t1 : LA[65538]? = some (.bool true) := by
  unfold LA scC
  rw [show 65537 + 8 / 8 = 65538 from rfl, Array.getElem?_setIfInBounds_self_of_lt (by rw [putA_size _ _ _ (by rw [Z1size]; simp [bytes8]), Z1size]; omega)]
theorem LB_t0 : LB[65537]? = some (.bool false) := by
  unfold LB stC putB putB
  rw [Array.getElem?_setIfInBounds_ne (by omega), Array.getElem?_setIfInBounds_ne (by omega)]
  exact LA_t0
theorem LB_t1 : LB[65538]? = some (.bool false) := by
  unfold LB stC putB putB
  rw [show 65537 + 12 / 8 = 65538 from rfl, Array.getElem?_setIfInBounds_self_of_lt (by rw [Array.size_setIfInBounds, LA_size]; omega)]
theorem LB_b : LB[1 + 12]? = some (.int .u8 ((7 : Nat) : Int)) := by
  unfold LB stC putB putB
  rw [Array.getElem?_setIfInBounds_ne (by omega), show 1 + (12 + 0) = 1 + 12 from rfl, Array.getElem?_setIfInBounds_self_of_lt (by rw [LA_size]; omega)]
  rfl
theorem root (w : World) : Calls Tryz.prog 44 #[.int .u64 4096, .int .u64 8192, .int .u8 39] w fun en w' => en = .returned (.tuple #[cp true 4096 39 0 4 256 0, .int .i64 0]) ∧ Below w.heap.size w w' := by
  have h := Cp.c33 4096 8192 39 (by omega) (by omega) (by omega) w
  unfold Cp.rootV at h
  rw [show Cp.ex 4096 8192 = (4, 256, 0, 0) by decide, if_pos rfl] at h
  exact h
theorem sA (b : Nat) (w : World) (hm : Me w b Z1) : Calls Tryz.prog 24 #[.pointer (some ⟨b, 0, none⟩), .int .u32 8, cp true 4096 39 0 4 256 0] w fun e w' => e = .returned (.int .i64 0) ∧ Only b w w' ∧ Me w' b LA :=
  storeCap b 8 Z1 true 4096 39 0 4 256 0 _ _ _ _ _ _ _ _ w hm (by omega) (by decide) (Lib.hid fun w => Cp.cb11 true 4096 39 0 4 256 0 (by omega) (by omega) (by omega) (by omega) (by omega) (by omega) w)
theorem sB (b : Nat) (w : World) (hm : Me w b LA) : Calls Tryz.prog 22 #[.pointer (some ⟨b, 0, none⟩), .int .u32 12, .int .i64 1, .int .u32 7] w fun e w' => e = .returned (.int .i64 0) ∧ Only b w w' ∧ Me w' b LB :=
  store1 b 12 7 LA w hm (by omega) (by omega) (by decide)
end Go.Proofs.YtnkoknfihhdelaaGreatDoor
namespace Go.Proofs.YtnkoknfihhdelaaGreatDoor
open Go.ChangeShapes Go.WideShapes Go.ChangeAt Go.RowKit
open Cp (cp arr mt num4)
set_option linter.unusedVariables false
set_option maxRecDepth 100000
theorem scC_at {C : Array Value} (hC : C.size = 73729) (at_ : Nat) (ha : at_ + 8 ≤ 65536) (g : Bool) (l : List Value) (hl : l.length = 8) (j : Nat) (v : Value) (hj : l[j]? = some v) : (scC C at_ l g)[1 + at_ + j]? = some v := by
  have hlt : j < l.length := by
    rcases Nat.lt_or_ge j l.length with h | h
    · exact h
    · rw [List.getElem?_eq_none h] at hj; cases hj
  unfold scC
  rw [Array.getElem?_setIfInBounds_ne (by omega), putA_in _ _ _ (by omega) j hlt]
  exact hj
theorem scC_tag {C : Array Value} (hC : C.size = 73729) (at_ : Nat) (ha : at_ + 8 ≤ 65536) (g : Bool) (l : List Value) (hl : l.length = 8) : (scC C at_ l g)[65537 + at_ / 8]? = some (.bool g) := by
  unfold scC
  rw [Array.getElem?_setIfInBounds_self_of_lt (by rw [putA_size _ _ _ (by omega)]; omega)]
theorem scC_size {C : Array Value} (hC : C.size = 73729) (at_ : Nat) (ha : at_ + 8 ≤ 65536) (g : Bool) (l : List Value) (hl : l.length = 8) : (scC C at_ l g).size = 73729 := by
  unfold scC
  rw [Array.size_setIfInBounds, putA_size _ _ _ (by omega), hC]
theorem putB_in {C : Array Value} (at_ n : Nat) : ∀ (k j : Nat), j < k → at_ + k < C.size → (putB C at_ n k)[1 + (at_ + j)]? = some (.int .u8 (bt n j : Int))
  | 0, j, h, _ => by omega
  | k + 1, j, h, hs => by
    unfold putB
    by_cases e : j = k
    · rw [e, Array.getElem?_setIfInBounds_self_of_lt (by rw [putB_size]; omega)]
    · rw [Array.getElem?_setIfInBounds_ne (by omega)]
      exact putB_in at_ n k j (by omega) (by omega)
theorem putB_out {C : Array Value} (at_ n i : Nat) : ∀ k, (i < 1 + at_ ∨ 1 + at_ + k ≤ i) → (putB C at_ n k)[i]? = C[i]?
  | 0, _ => rfl
  | k + 1, h => by
    unfold putB
    rw [Array.getElem?_setIfInBounds_ne (by omega)]
    exact putB_out at_ n i k (by omega)
theorem One.putA_ {C : Array Value} (h : One C) (off : Nat) (l : List Value) (hl : l.all (·.oneCell') = true) : One (putA C off l) := by
  unfold One putA at *
  rw [List.all_eq_true] at *
  intro x hx
  simp only [List.mem_append] at hx
  rcases hx with hx | hx | hx
  · exact h x (List.mem_of_mem_take hx)
  · exact hl x hx
  · exact h x (List.mem_of_mem_drop hx)
theorem One.sc {C : Array Value} (h : One C) (at_ : Nat) (l : List Value) (hl : l.all (·.oneCell') = true) (g : Bool) : One (scC C at_ l g) := (h.putA_ _ l hl).set_ _ _ rfl
theorem One.z1 : One Z1 := One.set_ (show One Z from Zone) _ _ rfl
/-- what stands behind a number of four bytes over a capability -/
theorem over4 {C : Array Value} (hC : C.size = 73729) (at_ n : Nat) (ha : at_ + 8 ≤ 65536) (h8 : at_ % 8 = 0) (g : Bool) (x0 x1 x2 x3 x4 x5 x6 x7 : Nat) (j : Nat) (v : Value) (hj : (bytes8 (bt n 0) (bt n 1) (bt n 2) (bt n 3) x4 x5 x6 x7)[j]? = some v) :
    (stC (scC C at_ (bytes8 x0 x1 x2 x3 x4 x5 x6 x7) g) at_ 4 n)[1 + at_ + j]? = some v := by
  have hs := scC_size hC at_ ha g (bytes8 x0 x1 x2 x3 x4 x5 x6 x7) rfl
  have hlt : j < 8 := by
    rcases Nat.lt_or_ge j 8 with h | h
    · exact h
    · rw [List.getElem?_eq_none (by simp [bytes8]; omega)] at hj; cases hj
  unfold stC
  rw [Array.getElem?_setIfInBounds_ne (by omega)]
  by_cases h4 : j < 4
  · rw [show 1 + at_ + j = 1 + (at_ + j) by omega, putB_in at_ n 4 j h4 (by rw [hs]; omega), ← hj]
    have : j = 0 ∨ j = 1 ∨ j = 2 ∨ j = 3 := by omega
    rcases this with rfl | rfl | rfl | rfl <;> rfl
  · rw [putB_out at_ n _ 4 (by omega)]
    refine scC_at hC at_ ha g _ rfl j v ?_
    rw [← hj]
    have : j = 4 ∨ j = 5 ∨ j = 6 ∨ j = 7 := by omega
    rcases this with rfl | rfl | rfl | rfl <;> rfl
theorem over4_tag {C : Array Value} (hC : C.size = 73729) (at_ n : Nat) (ha : at_ + 8 ≤ 65536) (g : Bool) (l : List Value) (hl : l.length = 8) : (stC (scC C at_ l g) at_ 4 n)[65537 + at_ / 8]? = some (.bool false) := by
  unfold stC
  rw [Array.getElem?_setIfInBounds_self_of_lt (by rw [putB_size, scC_size hC at_ ha g l hl]; omega)]
theorem num4_bt (n : Nat) (hn : n < 4294967296) : num4 (bt n 0) (bt n 1) (bt n 2) (bt n 3) = n := by
  unfold num4 bt
  simp only [Nat.pow_zero, Nat.div_one, show 256 ^ 1 = 256 from rfl, show 256 ^ 2 = 65536 from rfl, show 256 ^ 3 = 16777216 from rfl]
  omega
theorem bt_lt (n k : Nat) : bt n k < 256 := Nat.mod_lt _ (by omega)
/-- the capability of eight bytes -/
def ofV (x0 x1 x2 x3 x4 x5 x6 x7 : Nat) (g : Bool) : Value := cp g (num4 x0 x1 x2 x3) (num4 x4 x5 x6 x7 % 128) (num4 x4 x5 x6 x7 / 128 % 8) (num4 x4 x5 x6 x7 / 1024 % 16) (num4 x4 x5 x6 x7 / 16384 % 512) (num4 x4 x5 x6 x7 / 8388608 % 512)
theorem storeCapNo (b at_ : Nat) (C : Array Value) (v0 v1 v2 v3 v4 v5 v6 : Value) (w : World) (hm : Me w b C) (hw : granB at_ = false) :
    Calls Tryz.prog 24 #[.pointer (some ⟨b, 0, none⟩), .int .u32 (at_ : Int), .agg #[v0, v1, v2, v3, v4, v5, v6]] w fun e w' => e = .returned (.int .i64 2) ∧ Below w.heap.size w w' := by
  have K := Lib.hid (c31 at_)
  rw [hw] at K
  have HM := Lib.hid hm
  clear hw hm
  go_enter Tryz.func24, Tryz.ntmps24
  go_wp2_with fail
  refine (Me.there (C := C) (w := w.alloc _) ⟨HM.out.1.alloc _, HM.out.2⟩).mono ?_
  rintro _ _ ⟨rfl, rfl⟩
  go_wp2_with fail
  refine (K.out _).mono ?_
  rintro _ _ ⟨rfl, rfl⟩
  go_wp2_with fail
  go_ret
  exact ⟨rfl, (Below.refl _ _).alloc (Nat.le_refl _) _⟩
end Go.Proofs.YtnkoknfihhdelaaGreatDoor
