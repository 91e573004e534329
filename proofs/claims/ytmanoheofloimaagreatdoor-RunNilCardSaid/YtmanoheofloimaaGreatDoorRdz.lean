import Derived.Test.YtmanoheofloimaaGreatDoorRcz
namespace Go.Proofs.YtmanoheofloimaaGreatDoor
open Go.ChangeShapes Go.WideShapes Go.ChangeAt Go.RowKit
set_option linter.unusedVariables false
/-- an image of those bytes -/
def im (b : Value) : List Value := [.slice none 0 0, b, .slice none 0 0] ++ (st0.L ++ [.int .i64 0, .int .i64 0, .slice none 0 0, .slice none 0 0, .int .i64 0, .string ⟨#[]⟩])
theorem zIm (W : World) : (zeroValue 69).run Tryz.prog W = .ok (.agg (im (.slice none 0 0)).toArray) W := by kernel_rfl
theorem bIm (p : Option Addr) (n c : Nat) : Tryz.prog.built 69 [(1, .slice p n c)] = some (im (.slice p n c)).toArray := by kernel_rfl
theorem infoIm : (Tryz.prog.info? 69).map (·.size) = some 160 := by kernel_rfl
theorem im_len (b : Value) : (im b).toArray.size = 160 := by
  unfold im
  simp [st0.len]
theorem im_one (p : Option Addr) (n c : Nat) : (im (.slice p n c)).toArray.all (·.oneCell') = true := by kernel_rfl
theorem im_1 (b : Value) : (im b).toArray[1]? = some b := by unfold im; simp
theorem im_2 (b : Value) : (im b).toArray[2]? = some (.slice none 0 0) := by unfold im; simp
theorem rise0 (w : World) : Calls Tryz.prog 29 #[.slice none 0 0] w fun e w' => e = .returned (.bool true) ∧ w = w' := by
  go_enter Tryz.func29, Tryz.ntmps29
  go_wp2_with fail
  go_loopw [8] (fun i wr => i = .int .i64 0 ∧ wr = w) (fun _ _ => 0)
  case atStart => exact ⟨rfl, rfl⟩
  case round =>
    obtain ⟨rfl, rfl⟩ := hrel
    go_wp2_with fail
    go_ret
    exact ⟨rfl, rfl⟩
theorem writer0 (b : Nat) (w : World) : Calls Tryz.prog 31 #[.pointer (some ⟨b, 0, none⟩), .int .u32 0] w fun e w' => e = .returned (.func (.func 48) #[] #[.pointer (some ⟨w.heap.size, 0, none⟩), .pointer (some ⟨w.heap.size + 1, 0, none⟩)]) ∧ w' = (w.alloc (.cells #[.pointer (some ⟨b, 0, none⟩)] 26)).alloc (.cells #[.int .u32 0] 22) := by
  go_enter Tryz.func31, Tryz.ntmps31
  go_wp2_with fail
  go_ret
  exact ⟨by simp, rfl⟩
theorem load0 (w : World) : Calls Tryz.prog 22 #[.agg (im (.slice none 0 0)).toArray] w fun e w' => e = .returned (.tuple #[.pointer none, .int .i64 5]) ∧ Below w.heap.size w w' := by
  obtain ⟨IA, hIA⟩ : ∃ IA, (im (.slice none 0 0)).toArray = IA := ⟨_, rfl⟩
  rw [hIA]
  have hb : Blk (w.alloc (.cells IA 69)) w.heap.size 69 IA := Blk.new w 69 IA
  have c1 : (w.alloc (.cells IA 69)).cell? ⟨w.heap.size, 1, none⟩ = some (.slice none 0 0) := by rw [hb.cell, ← hIA, im_1]
  clear hIA hb
  go_enter Tryz.func22, Tryz.ntmps22
  go_wp2_with fail
  go_ret2
  exact ⟨rfl, (Below.refl _ _).alloc (Nat.le_refl _) _⟩
end Go.Proofs.YtmanoheofloimaaGreatDoor
