import Derived.Test.YtbclgkjljgcfbaaC
namespace Go.Proofs.Ytbclgkjljgcfbaa
open Go.ChangeShapes Go.WideShapes Go.ChangeAt Go.RowKit
open Cp (Blk cp bs ln ex ex_err rootV set7 set7a bcell cellAlloc)
set_option linter.unusedVariables false
theorem r1 : rtV 65280 8 19 = .tuple #[cp true 65280 19 0 0 256 264, .int .i64 0] := by
  have h : ex 65280 (65280 + 8) = (0, 256, 264, 0) := by decide +kernel
  unfold rtV; rw [h]; rfl
theorem r2 : cpV 64 104 23 64 = .tuple #[cp true 64 23 0 0 64 168, .int .i64 0] := by
  have h : ex 64 (64 + 104) = (0, 64, 168, 0) := by decide +kernel
  rw [cpV_self]; unfold rtV; rw [h]; rfl
theorem r3 : bs (0 % 16) (64 % 512) 64 + ln (0 % 16) (64 % 512) (168 % 512) = 168 := by decide +kernel
set_option maxHeartbeats 8000000 in
theorem works (w : World) : Calls Try.prog 11 #[] w fun en w' => en = .returned (.bool true) ∧ Below w.heap.size w w' := by
  have k9' := c9 ⟨#[97]⟩ 65280 8 (by omega) (by omega)
  rw [r1] at k9'
  have k9 : ∀ w, Calls Try.prog 9 #[.agg #[.string ⟨#[97]⟩, .int .u32 65280, .int .u32 8]] w fun en w' => en = .returned (.tuple #[.agg #[.bool true, .int .u32 65280, .int .u8 19, .int .u8 0, .int .u8 0, .int .u16 256, .int .u16 264], .int .i64 0]) ∧ Below w.heap.size w w' := k9'
  have k7' := c7 0 0 64 104 23 64 (by omega) (by omega) (by omega) (by omega)
  rw [r2] at k7'
  have k7 : ∀ w, Calls Try.prog 7 #[.agg #[.int .u8 0, .int .i64 0, .int .u32 64, .int .u32 104], .int .u8 23, .int .u32 64] w fun en w' => en = .returned (.tuple #[.agg #[.bool true, .int .u32 64, .int .u8 23, .int .u8 0, .int .u8 0, .int .u16 64, .int .u16 168], .int .i64 0]) ∧ Below w.heap.size w w' := k7'
  have k5' := fun w => c5 none 0 0 1 0 (fun _ => ⟨0, 0, 0, 0⟩) w (fun h => absurd h (by omega)) (by omega) (by omega)
  have k5 : ∀ w, Calls Try.prog 5 #[.slice none 0 0, .int .u8 1, .int .i64 0] w fun en w' => en = .returned (.tuple #[.agg #[.int .u8 0, .int .i64 0, .int .u32 0, .int .u32 0], .bool false]) ∧ Below w.heap.size w w' := k5'
  have k24' := Cp.c41 true 64 23 0 0 64 168 (by omega) (by omega) (by omega) (by omega)
  rw [r3] at k24'
  have k24 : ∀ w, Calls Try.prog 24 #[.agg #[.bool true, .int .u32 64, .int .u8 23, .int .u8 0, .int .u8 0, .int .u16 64, .int .u16 168]] w fun en w' => en = .returned (.int .u64 168) ∧ Below w.heap.size w w' := k24'
  have K9 := Lib.hid k9; have K7 := Lib.hid k7; have K5 := Lib.hid k5; have K24 := Lib.hid k24
  clear k9 k9' k7 k7' k5 k5' k24 k24'
  go_enter Try.func11, Try.ntmps11
  go_wp2_with fail
  refine (K9.out _).mono ?_
  rintro en w1 ⟨rfl, hb1⟩
  go_wp2_with fail
  refine (K7.out _).mono ?_
  rintro en w2 ⟨rfl, hb2⟩
  have HB2 : Below w.heap.size w w2 := (hb1.alloc (hb1.size) _).trans (hb2.mono (by have := hb1.size; simp; omega))
  have D1 : Blk w2 w1.heap.size 34 #[.bool true, .int .u32 65280, .int .u8 19, .int .u8 0, .int .u8 0, .int .u16 256, .int .u16 264] := (Blk.new w1 34 _).below hb2 (by simp)
  go_wp2_with fail
  refine (K5.out _).mono ?_
  rintro en w3 ⟨rfl, hb3⟩
  have HB3 : Below w.heap.size w w3 := (HB2.alloc (HB2.size) _).trans (hb3.mono (by have := HB2.size; simp; omega))
  have D2 : Blk w3 w2.heap.size 34 #[.bool true, .int .u32 64, .int .u8 23, .int .u8 0, .int .u8 0, .int .u16 64, .int .u16 168] := (Blk.new w2 34 _).below hb3 (by simp)
  have D3 : Blk w3 w1.heap.size 34 #[.bool true, .int .u32 65280, .int .u8 19, .int .u8 0, .int .u8 0, .int .u16 256, .int .u16 264] := (D1.alloc _).below hb3 (by have := D1.lt; simp; omega)
  have l1 := D3.lt
  have l2 := D2.lt
  obtain ⟨x0, x1, x2, x3, x4, x5, x6⟩ := D2.cells7
  obtain ⟨z0, z1, z2, z3, z4, z5, z6⟩ := D3.cells7
  go_wp2_with fail
  refine (K24.out _).mono ?_
  rintro en w4 ⟨rfl, hb4⟩
  have HB4 : Below w.heap.size w w4 := (HB3.alloc (HB3.size) _).trans (hb4.mono (by have := HB3.size; simp; omega))
  go_wp2_with fail
  go_ret
  exact ⟨rfl, HB4⟩
theorem rgV_form (f : Nat → Rg) (r : Option Nat) : ∃ (k : Nat) (o : Int) (a n : Nat) (h : Bool), rgV f r = .tuple #[rg k o a n, .bool h] := by
  cases r with
  | none => exact ⟨0, 0, 0, 0, false, rfl⟩
  | some j => exact ⟨_, _, _, _, true, rfl⟩
theorem cpV_form (a n m d : Nat) : ∃ (g : Bool) (a' p y e b t r : Nat), cpV a n m d = .tuple #[cp g a' p y e b t, .int .i64 (r : Int)] := by
  unfold cpV
  split
  · split
    · exact ⟨_, _, _, 0, _, _, _, 0, rfl⟩
    · exact ⟨_, _, _, _, _, _, _, 2, rfl⟩
  · exact ⟨_, _, _, _, _, _, _, 5, rfl⟩
end Go.Proofs.Ytbclgkjljgcfbaa
