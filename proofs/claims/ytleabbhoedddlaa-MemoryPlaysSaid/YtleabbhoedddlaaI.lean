import Derived.Test.YtleabbhoedddlaaD
import Derived.Test.YtleabbhoedddlaaC
import Derived.Laws.Tables
namespace Go.Proofs.Ytleabbhoedddlaa
open Go.ChangeShapes Go.WideShapes Go.ChangeAt Go.RowKit
set_option linter.unusedVariables false
theorem Zone : Z.toList.all (·.oneCell') = true := by kernel_rfl
theorem size64 : (Try.prog.info? 64).map (·.size) = some 73729 := by kernel_rfl
/-- each cell is one -/
def One (C : Array Value) : Prop := C.toList.all (·.oneCell') = true
theorem One.at_ {C : Array Value} (h : One C) : C.all (·.oneCell') = true := by
  rw [← Array.all_toList]; exact h
theorem One.set_ {C : Array Value} (h : One C) (i : Nat) (v : Value) (hv : v.oneCell' = true) : One (C.setIfInBounds i v) := by
  unfold One at *
  rw [Array.toList_setIfInBounds, List.all_eq_true]
  intro x hx
  rcases List.mem_or_eq_of_mem_set hx with h1 | h1
  · exact List.all_eq_true.1 h x h1
  · rw [h1]; exact hv
theorem One.put {C : Array Value} (h : One C) (at_ n : Nat) : ∀ k, One (putB C at_ n k)
  | 0 => h
  | k + 1 => (One.put h at_ n k).set_ _ _ rfl
set_option maxHeartbeats 1000000 in
theorem copy (b : Nat) (C : Array Value) (w : World) (hm : Me w b C) (h1 : One C) :
    Calls Try.prog 19 #[.pointer (some ⟨b, 0, none⟩)] w fun e w' => e = .returned (.pointer (some ⟨w.heap.size, 0, none⟩)) ∧ Below w.heap.size w w' ∧ w'.heap.size = w.heap.size + 1 ∧ Me w' w.heap.size C := by
  have KT := Lib.hid hm.there
  have HM := Lib.hid hm
  have HO := Lib.hid h1
  have hz := zeroValue64
  have hne := Zne
  clear hm h1
  go_enter Try.func19, Try.ntmps19
  go_wp2_with fail
  refine KT.out.mono ?_
  rintro _ _ ⟨rfl, rfl⟩
  go_wp2_with (first | (refine wpList_load_row rfl 64 (.tmp 8) rfl b rfl 64 C (0, 0) _ HM.out.1 Try.underlying64 rfl (by rw [size64, HM.out.2.1]) ?_) | (refine wpList_store_row rfl 64 (.tmp 3) (.tmp 9) rfl w.heap.size C rfl rfl 64 Z (Blk.new w 64 Z) (by rw [size64, HM.out.2.1]) (by rw [Zsize, HM.out.2.1]) HO.out.at_ ?_))
  go_ret
  exact ⟨rfl, below_setRow ((Below.refl _ _).alloc (Nat.le_refl _) _) (Nat.le_refl _) _, by simp [World.setRow], setRow_heap _ _ _ _ _ _ (Blk.new w 64 Z), HM.out.2⟩
end Go.Proofs.Ytleabbhoedddlaa
