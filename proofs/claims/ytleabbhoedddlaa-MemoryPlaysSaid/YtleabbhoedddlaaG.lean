import Derived.Test.YtleabbhoedddlaaB
namespace Go.Proofs.Ytleabbhoedddlaa
open Go.ChangeShapes Go.WideShapes Go.ChangeAt Go.RowKit
set_option linter.unusedVariables false
theorem sliceT2 (b : Nat) (w : World) :
    (Instr.sliceAt 62 (.pointer (some ⟨b, 65537, none⟩)) (some (.int .i64 0)) (some (.int .i64 2)) none).run Try.prog w = .ok (.slice (some ⟨b, 65537, none⟩) 2 8192) w := by
  have e : Try.prog.arrayLen 62 = 8192 := by kernel_rfl
  rw [run_sliceAt_array_lh w 62 ⟨b, 65537, none⟩ (by kernel_rfl) .i64 .i64 _ _ (by omega) (by omega) (by rw [e]; omega)]
  rw [show (sizeOf (Try.prog.elem 62)).run Try.prog w = .ok 1 w by kernel_rfl, e]
  rfl
def cnt2 (g0 g1 : Bool) : Nat → Int
  | 0 => 0
  | 1 => if g0 then 1 else 0
  | _ => (if g0 then 1 else 0) + (if g1 then 1 else 0)
set_option maxHeartbeats 1000000 in
theorem tags2 (b : Nat) (C : Array Value) (g0 g1 : Bool) (w : World) (hm : Me w b C) (h0 : C[65537]? = some (.bool g0)) (h1 : C[65538]? = some (.bool g1)) :
    Calls Try.prog 15 #[.pointer (some ⟨b, 0, none⟩), .int .i64 0, .int .i64 16] w fun e w' => e = .returned (.tuple #[.int .i64 (cnt2 g0 g1 2), .int .i64 0]) ∧ w = w' := by
  have KT := Lib.hid hm.there
  have c0 : w.cell? ⟨b, 65537, none⟩ = some (.bool g0) := by rw [hm.1.cell]; exact h0
  have c1 : w.cell? ⟨b, 65537 + 1, none⟩ = some (.bool g1) := by rw [hm.1.cell]; exact h1
  have hsl := sliceT2 b
  have C0 := Lib.hid c0; have C1 := Lib.hid c1
  clear hm h0 h1 c0 c1
  go_enter Try.func15, Try.ntmps15
  go_wp2_with fail
  refine KT.out.mono ?_
  rintro _ _ ⟨rfl, rfl⟩
  go_wp2_with fail
  go_loop [8, 45] (fun t i => ∃ k : Nat, k ≤ 2 ∧ i = .int .i64 (k : Int) ∧ t = .int .i64 (cnt2 g0 g1 k)) (fun _ i => 2 - (intOf i).toNat)
  case atStart => exact ⟨0, by omega, rfl, rfl⟩
  case round =>
    obtain ⟨k, hk, rfl, rfl⟩ := hrel
    have hk3 : k = 0 ∨ k = 1 ∨ k = 2 := by omega
    clear hk
    rcases hk3 with rfl | rfl | rfl
    · have c0 := C0.out
      cases g0
      all_goals
        go_wp2_with fail
        go_round
        case rel => exact ⟨1, by omega, rfl, by first | rfl | simp [cnt2, wrap64]⟩
        case measure => simp [intOf]
    · have c1 := C1.out
      cases g0 <;> cases g1
      all_goals
        simp only [cnt2] at *
        go_wp2_with fail
        go_round
        case rel => exact ⟨2, by omega, rfl, rfl⟩
        case measure => simp [intOf]
    · go_wp2_with fail
      go_ret2
      exact ⟨rfl, rfl⟩
set_option maxHeartbeats 1000000 in
theorem load1 (b at_ x : Nat) (C : Array Value) (w : World) (hm : Me w b C) (ha : at_ < 65536) (hw : wordB at_ 1 = true) (hx : x < 256) (h0 : C[1 + at_]? = some (.int .u8 (x : Int))) :
    Calls Try.prog 17 #[.pointer (some ⟨b, 0, none⟩), .int .u32 (at_ : Int), .int .i64 1] w fun e w' => e = .returned (.tuple #[.int .u32 (x : Int), .int .i64 0]) ∧ w = w' := by
  have KT := Lib.hid hm.there
  have K := Lib.hid (c30 at_ 1)
  rw [hw] at K
  have c0 : w.cell? ⟨b, 1 + at_, none⟩ = some (.int .u8 (x : Int)) := by rw [hm.1.cell]; exact h0
  clear hm h0 hw
  have hi : (at_ : Int) < 65536 := by omega
  have ho : bits .or .u32 0 (x : Int) = (x : Int) := by
    have := u32_or_nat 0 x (by omega) (by omega)
    simpa using this
  go_enter Try.func17, Try.ntmps17
  go_wp2_with fail
  refine KT.out.mono ?_
  rintro _ _ ⟨rfl, rfl⟩
  go_wp2_with fail
  refine (K.out _).mono ?_
  rintro _ _ ⟨rfl, rfl⟩
  go_wp2_with fail
  go_loop [8, 9] (fun t i => (i = .int .i64 0 ∧ t = .int .u32 0) ∨ (i = .int .i64 (-1) ∧ t = .int .u32 (x : Int))) (fun _ i => (1 + intOf i).toNat)
  case atStart => exact Or.inl ⟨rfl, rfl⟩
  case round =>
    rcases hrel with ⟨rfl, rfl⟩ | ⟨rfl, rfl⟩
    · go_wp2_with fail
      go_round
      case rel => exact Or.inr ⟨rfl, rfl⟩
      case measure => simp [intOf]
    · go_wp2_with fail
      go_ret2
      exact ⟨rfl, rfl⟩
end Go.Proofs.Ytleabbhoedddlaa
