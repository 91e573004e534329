import Derived.Test.YtmanoheofloimaaGreatDoorGb
import Derived.Test.YtmanoheofloimaaGreatDoorGa
import Derived.Laws.Tables
import Derived.Deep.DeepCutAuto
import Derived.Deep.CutBlock
namespace Go.Proofs.YtmanoheofloimaaGreatDoor
open Go.ChangeShapes Go.WideShapes Go.ChangeAt Go.RowKit
set_option linter.unusedVariables false
set_option maxRecDepth 100000
theorem Zone : Z.toList.all (·.oneCell') = true := by kernel_rfl
/-- each cell is one -/
def One (C : Array Value) : Prop := C.toList.all (·.oneCell') = true
theorem One.at_ {C : Array Value} (h : One C) : C.all (·.oneCell') = true := by
  rw [← Array.all_toList]; exact h
theorem One.set_ {C : Array Value} (h : One C) (i : Nat) (v : Value) (hv : v.oneCell' = true) : One (C.setIfInBounds i v) := by
  unfold One at *
  rw [Array.toList_setIfInBounds, List.all_eq_true]
  intro x hx
  rcases List.mem_or_eq_of_mem_set hx with h1 | h1
  · exact List.all_eq_true.1 h x h1
  · rw [h1]; exact hv
theorem One.put {C : Array Value} (h : One C) (at_ n : Nat) : ∀ k, One (putB C at_ n k)
  | 0 => h
  | k + 1 => (One.put h at_ n k).set_ _ _ rfl
end Go.Proofs.YtmanoheofloimaaGreatDoor
namespace Go.Proofs.YtmanoheofloimaaGreatDoor
open Go.ChangeShapes Go.WideShapes Go.ChangeAt Go.RowKit
set_option linter.unusedVariables false
set_option maxHeartbeats 1000000 in
theorem load1 (b at_ x : Nat) (C : Array Value) (w : World) (hm : Me w b C) (ha : at_ < 65536) (hw : wordB at_ 1 = true) (hx : x < 256) (h0 : C[1 + at_]? = some (.int .u8 (x : Int))) :
    Calls Tryz.prog 15 #[.pointer (some ⟨b, 0, none⟩), .int .u32 (at_ : Int), .int .i64 1] w fun e w' => e = .returned (.tuple #[.int .u32 (x : Int), .int .i64 0]) ∧ w = w' := by
  have KT := Lib.hid hm.there
  have K := Lib.hid (c30 at_ 1)
  rw [hw] at K
  have c0 : w.cell? ⟨b, 1 + at_, none⟩ = some (.int .u8 (x : Int)) := by rw [hm.1.cell]; exact h0
  clear hm h0 hw
  have hi : (at_ : Int) < 65536 := by omega
  have ho : bits .or .u32 0 (x : Int) = (x : Int) := by
    have := u32_or_nat 0 x (by omega) (by omega)
    simpa using this
  go_enter Tryz.func15, Tryz.ntmps15
  go_wp2_with fail
  refine KT.out.mono ?_
  rintro _ _ ⟨rfl, rfl⟩
  go_wp2_with fail
  refine (K.out _).mono ?_
  rintro _ _ ⟨rfl, rfl⟩
  go_wp2_with fail
  go_loop [8, 9] (fun t i => (i = .int .i64 0 ∧ t = .int .u32 0) ∨ (i = .int .i64 (-1) ∧ t = .int .u32 (x : Int))) (fun _ i => (1 + intOf i).toNat)
  case atStart => exact Or.inl ⟨rfl, rfl⟩
  case round =>
    rcases hrel with ⟨rfl, rfl⟩ | ⟨rfl, rfl⟩
    · go_wp2_with fail
      go_round
      case rel => exact Or.inr ⟨rfl, rfl⟩
      case measure => simp [intOf]
    · go_wp2_with fail
      go_ret2
      exact ⟨rfl, rfl⟩
end Go.Proofs.YtmanoheofloimaaGreatDoor
namespace Go.Proofs.YtmanoheofloimaaGreatDoor
open Go.ChangeShapes Go.WideShapes Go.ChangeAt Go.RowKit
open Cp (cp arr mt num4)
set_option linter.unusedVariables false
set_option maxRecDepth 100000
theorem putB_in {C : Array Value} (at_ n : Nat) : ∀ (k j : Nat), j < k → at_ + k < C.size → (putB C at_ n k)[1 + (at_ + j)]? = some (.int .u8 (bt n j : Int))
  | 0, j, h, _ => by omega
  | k + 1, j, h, hs => by
    unfold putB
    by_cases e : j = k
    · rw [e, Array.getElem?_setIfInBounds_self_of_lt (by rw [putB_size]; omega)]
    · rw [Array.getElem?_setIfInBounds_ne (by omega)]
      exact putB_in at_ n k j (by omega) (by omega)
theorem putB_out {C : Array Value} (at_ n i : Nat) : ∀ k, (i < 1 + at_ ∨ 1 + at_ + k ≤ i) → (putB C at_ n k)[i]? = C[i]?
  | 0, _ => rfl
  | k + 1, h => by
    unfold putB
    rw [Array.getElem?_setIfInBounds_ne (by omega)]
    exact putB_out at_ n i k (by omega)
theorem One.z1 : One Z1 := One.set_ (show One Z from Zone) _ _ rfl
theorem bt_lt (n k : Nat) : bt n k < 256 := Nat.mod_lt _ (by omega)
end Go.Proofs.YtmanoheofloimaaGreatDoor
