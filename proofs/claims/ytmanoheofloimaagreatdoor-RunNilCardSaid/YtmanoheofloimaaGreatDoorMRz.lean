import Derived.Test.YtmanoheofloimaaGreatDoorMQz
namespace Go.Proofs.YtmanoheofloimaaGreatDoor
open Go.ChangeShapes Go.WideShapes Go.ChangeAt Go.RowKit
set_option linter.unusedVariables false
set_option maxRecDepth 100000
def isB0 (v : Value) : Bool := match v with | .int .u8 z => decide (z = 0) | _ => false
def isF (v : Value) : Bool := match v with | .bool b => !b | _ => false
set_option maxRecDepth 100000 in
theorem ZB : ((Z.toList.drop 1).take 65536).all isB0 = true := by kernel_rfl
set_option maxRecDepth 100000 in
theorem ZT : (Z.toList.drop 65537).all isF = true := by kernel_rfl
theorem isB0_eq {v : Value} (h : isB0 v = true) : v = .int .u8 0 := by
  unfold isB0 at h
  split at h
  · rename_i z; rw [of_decide_eq_true h]
  · cases h
theorem isF_eq {v : Value} (h : isF v = true) : v = .bool false := by
  unfold isF at h
  split at h
  · rename_i b; cases b
    · rfl
    · cases h
  · cases h
theorem Z_byte (i : Nat) (hi : i < 65536) : Z[1 + i]? = some (.int .u8 0) := by
  have hs : Z.toList.length = 73729 := by rw [Array.length_toList]; exact Zsize
  have hl : 1 + i < Z.toList.length := by omega
  have h := List.all_eq_true.1 ZB (Z.toList[1 + i]) (by
    rw [List.mem_iff_getElem?]
    refine ⟨i, ?_⟩
    rw [List.getElem?_take_of_lt hi, List.getElem?_drop, List.getElem?_eq_getElem hl])
  rw [← Array.getElem?_toList, List.getElem?_eq_getElem hl, isB0_eq h]
theorem Z_tag (i : Nat) (hi : i < 8192) : Z[65537 + i]? = some (.bool false) := by
  have hs : Z.toList.length = 73729 := by rw [Array.length_toList]; exact Zsize
  have hl : 65537 + i < Z.toList.length := by omega
  have h := List.all_eq_true.1 ZT (Z.toList[65537 + i]) (by
    rw [List.mem_iff_getElem?]
    refine ⟨i, ?_⟩
    rw [List.getElem?_drop, List.getElem?_eq_getElem hl])
  rw [← Array.getElem?_toList, List.getElem?_eq_getElem hl, isF_eq h]
theorem Rds.new : Rds Z1 (fun _ => 0) (fun _ => false) where
  size := Z1size
  made := Z1_0
  bytes := fun i hi => by rw [Z1_at _ (by omega), Z_byte i hi]; rfl
  tags := fun i hi => by rw [Z1_at _ (by omega), Z_tag i hi]
  lt := fun _ => by omega
end Go.Proofs.YtmanoheofloimaaGreatDoor
