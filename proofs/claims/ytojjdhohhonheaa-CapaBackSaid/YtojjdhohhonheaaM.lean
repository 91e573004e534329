import Derived.Test.YtojjdhohhonheaaF
import Derived.Test.YtojjdhohhonheaaK
import Derived.Laws.StructEq
namespace Go.Proofs.Ytojjdhohhonheaa
open Go.ChangeShapes Go.WideShapes Go.ChangeAt Go.RowKit
set_option linter.unusedVariables false
theorem V1 (w : World) : Calls Try.prog 32 #[.int .u64 4096, .int .u64 8192, .int .u8 39] w fun en w' => en = .returned (.tuple #[.agg #[.bool true, .int .u32 4096, .int .u8 39, .int .u8 0, .int .u8 4, .int .u16 256, .int .u16 0], .int .i64 0]) ∧ Below w.heap.size w w' := by
  have h := c32 4096 8192 39 (by omega) (by omega) (by omega) w
  unfold rootV at h
  rw [show ex 4096 8192 = (4, 256, 0, 0) by decide, if_pos rfl] at h
  exact h
theorem V2 (w : World) : Calls Try.prog 32 #[.int .u64 1, .int .u64 513, .int .u8 1] w fun en w' => en = .returned (.tuple #[.agg #[.bool false, .int .u32 0, .int .u8 0, .int .u8 0, .int .u8 0, .int .u16 0, .int .u16 0], .int .i64 5]) ∧ Below w.heap.size w w' := by
  have h := c32 1 513 1 (by omega) (by omega) (by omega) w
  unfold rootV at h
  rw [show ex 1 513 = (0, 0, 0, 5) by decide, if_neg (by decide)] at h
  exact h
theorem V3 (w : World) : Calls Try.prog 20 #[.agg #[.bool true, .int .u32 4096, .int .u8 39, .int .u8 0, .int .u8 4, .int .u16 256, .int .u16 0], .int .u32 64] w fun en w' => en = .returned (.agg #[.bool true, .int .u32 4096, .int .u8 39, .int .u8 0, .int .u8 0, .int .u16 0, .int .u16 64]) ∧ Below w.heap.size w w' := by
  have h := c20s true 4096 39 0 4 256 0 64 (by omega) (by omega) (by omega) (by omega) (by omega) (by omega) w
  unfold sbV at h
  rw [show ex 4096 (4096 + 64) = (0, 0, 64, 0) by decide, show wi (4 % 16) (256 % 512) (0 % 512) 4096 4096 64 = true by decide, if_pos (by decide)] at h
  exact h
theorem V4 (w : World) : Calls Try.prog 28 #[.agg #[.bool true, .int .u32 4096, .int .u8 39, .int .u8 0, .int .u8 4, .int .u16 256, .int .u16 0], .int .u32 4] w fun en w' => en = .returned (.agg #[.bool true, .int .u32 4096, .int .u8 39, .int .u8 4, .int .u8 4, .int .u16 256, .int .u16 0]) ∧ Below w.heap.size w w' := by
  have h := c28 true 4096 39 0 4 256 0 4 (by omega) (by omega) w
  rw [show (true && (decide (0 = 0) && !decide (4 % 8 = 0))) = true by decide] at h
  exact h
theorem V5 (w : World) : Calls Try.prog 40 #[.agg #[.bool true, .int .u32 4096, .int .u8 39, .int .u8 0, .int .u8 0, .int .u16 0, .int .u16 64]] w fun en w' => en = .returned (.int .u64 4160) ∧ Below w.heap.size w w' := by
  have h := c40 true 4096 39 0 0 0 64 (by omega) (by omega) (by omega) (by omega) w
  rw [show bs (0 % 16) (0 % 512) 4096 + ln (0 % 16) (0 % 512) (64 % 512) = 4160 by decide] at h
  exact h
theorem V6 (w : World) : Calls Try.prog 30 #[.agg #[.bool true, .int .u32 4096, .int .u8 39, .int .u8 4, .int .u8 4, .int .u16 256, .int .u16 0]] w fun en w' => en = .returned (.agg #[.bool true, .int .u32 4096, .int .u8 39, .int .u8 0, .int .u8 4, .int .u16 256, .int .u16 0]) ∧ Below w.heap.size w w' := by
  have h := c30 true 4096 39 4 4 256 0 (by omega) w
  rw [show (true && !decide (4 = 0)) = true by decide] at h
  exact h
theorem V7 (w : World) : Calls Try.prog 36 #[.agg #[.bool true, .int .u32 4096, .int .u8 39, .int .u8 0, .int .u8 4, .int .u16 256, .int .u16 0], .int .u8 8, .int .u64 4096, .int .u64 1] w fun en w' => en = .returned (.bool false) ∧ Below w.heap.size w w' := by
  have h := c36 true 4096 39 0 4 256 0 8 4096 1 (by omega) (by omega) (by omega) (by omega) (by omega) (by omega) (by omega) (by omega) (by omega) w
  rw [show may true 4096 39 0 4 256 0 8 4096 1 = false by decide] at h
  exact h
theorem V8 (w : World) : Calls Try.prog 15 #[.int .u32 5] w fun en w' => en = .returned (.agg #[.bool false, .int .u32 5, .int .u8 0, .int .u8 0, .int .u8 0, .int .u16 0, .int .u16 0]) ∧ Below w.heap.size w w' := c15n 5 w
theorem keep777 {A1 A2 A3 : World} {k1 k2 k3 : Nat} {u0 u1 u2 u3 u4 u5 u6 v0 v1 v2 v3 v4 v5 v6 x0 x1 x2 x3 x4 x5 x6 : Value} {wp w1 : World}
    (h : (Below A1.heap.size A1 wp ∧ k1 < wp.heap.size ∧ wp.cell? ⟨k1, 0, none⟩ = some u0 ∧ wp.cell? ⟨k1, 1, none⟩ = some u1 ∧ wp.cell? ⟨k1, 2, none⟩ = some u2 ∧ wp.cell? ⟨k1, 3, none⟩ = some u3 ∧ wp.cell? ⟨k1, 4, none⟩ = some u4 ∧ wp.cell? ⟨k1, 5, none⟩ = some u5 ∧ wp.cell? ⟨k1, 6, none⟩ = some u6) ∧ (Below A2.heap.size A2 wp ∧ k2 < wp.heap.size ∧ wp.cell? ⟨k2, 0, none⟩ = some v0 ∧ wp.cell? ⟨k2, 1, none⟩ = some v1 ∧ wp.cell? ⟨k2, 2, none⟩ = some v2 ∧ wp.cell? ⟨k2, 3, none⟩ = some v3 ∧ wp.cell? ⟨k2, 4, none⟩ = some v4 ∧ wp.cell? ⟨k2, 5, none⟩ = some v5 ∧ wp.cell? ⟨k2, 6, none⟩ = some v6) ∧ (Below A3.heap.size A3 wp ∧ k3 < wp.heap.size ∧ wp.cell? ⟨k3, 0, none⟩ = some x0 ∧ wp.cell? ⟨k3, 1, none⟩ = some x1 ∧ wp.cell? ⟨k3, 2, none⟩ = some x2 ∧ wp.cell? ⟨k3, 3, none⟩ = some x3 ∧ wp.cell? ⟨k3, 4, none⟩ = some x4 ∧ wp.cell? ⟨k3, 5, none⟩ = some x5 ∧ wp.cell? ⟨k3, 6, none⟩ = some x6))
    (hb : Below wp.heap.size wp w1) :
    (Below A1.heap.size A1 w1 ∧ k1 < w1.heap.size ∧ w1.cell? ⟨k1, 0, none⟩ = some u0 ∧ w1.cell? ⟨k1, 1, none⟩ = some u1 ∧ w1.cell? ⟨k1, 2, none⟩ = some u2 ∧ w1.cell? ⟨k1, 3, none⟩ = some u3 ∧ w1.cell? ⟨k1, 4, none⟩ = some u4 ∧ w1.cell? ⟨k1, 5, none⟩ = some u5 ∧ w1.cell? ⟨k1, 6, none⟩ = some u6) ∧ (Below A2.heap.size A2 w1 ∧ k2 < w1.heap.size ∧ w1.cell? ⟨k2, 0, none⟩ = some v0 ∧ w1.cell? ⟨k2, 1, none⟩ = some v1 ∧ w1.cell? ⟨k2, 2, none⟩ = some v2 ∧ w1.cell? ⟨k2, 3, none⟩ = some v3 ∧ w1.cell? ⟨k2, 4, none⟩ = some v4 ∧ w1.cell? ⟨k2, 5, none⟩ = some v5 ∧ w1.cell? ⟨k2, 6, none⟩ = some v6) ∧ (Below A3.heap.size A3 w1 ∧ k3 < w1.heap.size ∧ w1.cell? ⟨k3, 0, none⟩ = some x0 ∧ w1.cell? ⟨k3, 1, none⟩ = some x1 ∧ w1.cell? ⟨k3, 2, none⟩ = some x2 ∧ w1.cell? ⟨k3, 3, none⟩ = some x3 ∧ w1.cell? ⟨k3, 4, none⟩ = some x4 ∧ w1.cell? ⟨k3, 5, none⟩ = some x5 ∧ w1.cell? ⟨k3, 6, none⟩ = some x6) :=
  ⟨keep7 h.1 hb, keep7 h.2.1 hb, keep7 h.2.2 hb⟩
set_option maxHeartbeats 8000000 in
theorem lives (w : World) : Calls Try.prog 17 #[] w fun en w' => en = .returned (.bool true) ∧ Below w.heap.size w w' := by
  go_enter Try.func17, Try.ntmps17
  go_wp2_with fail
  refine (V1 _).mono ?_
  rintro en w1 ⟨rfl, b1⟩
  go_wp2_with fail
  refine (V3 _).mono ?_
  rintro en w2 ⟨rfl, b2⟩
  have s1 := init7 b2
  obtain ⟨-, z1, q0, q1, q2, q3, q4, q5, q6⟩ := id s1
  clear b2
  go_wp2_with fail
  refine (V4 _).mono ?_
  rintro en w3 ⟨rfl, b3⟩
  have s2 := init7 b3
  have s1' := keep7 s1 (s2.1)
  clear b3 q0 q1 q2 q3 q4 q5 q6 s1
  go_wp2_with fail
  refine (V2 _).mono ?_
  rintro en w4 ⟨rfl, b4⟩
  have s3 := init7 b4
  have s2' := keep7 s2 (s3.1)
  have s1'' := keep7 s1' (s3.1)
  have hB := b1.trans (s1''.1.mono b1.size)
  clear b4 s1' s2
  have hS := keep777 (⟨s1'', s2', s3⟩) ((Below.refl _ _).alloc (Nat.le_refl _) (.cells #[.bool false, .int .u32 0, .int .u8 0, .int .u8 0, .int .u8 0, .int .u16 0, .int .u16 0] 27))
  have hfield : ∀ wz : World, (Instr.field 27 (.agg #[.bool false, .int .u32 5, .int .u8 0, .int .u8 0, .int .u8 0, .int .u16 0, .int .u16 0]) 1).run Try.prog wz = .ok (.int .u32 5) wz := fun _ => by kernel_rfl
  have HS := Lib.hid hS
  clear hS s1'' s2' s3
  go_wp2_with fail
  have hS := HS.out
  go_region_held3 (fun w' => (Below w1.heap.size w1 w' ∧ w1.heap.size < w'.heap.size ∧ w'.cell? ⟨w1.heap.size, 0, none⟩ = some (.bool true) ∧ w'.cell? ⟨w1.heap.size, 1, none⟩ = some (.int .u32 4096) ∧ w'.cell? ⟨w1.heap.size, 2, none⟩ = some (.int .u8 39) ∧ w'.cell? ⟨w1.heap.size, 3, none⟩ = some (.int .u8 0) ∧ w'.cell? ⟨w1.heap.size, 4, none⟩ = some (.int .u8 4) ∧ w'.cell? ⟨w1.heap.size, 5, none⟩ = some (.int .u16 256) ∧ w'.cell? ⟨w1.heap.size, 6, none⟩ = some (.int .u16 0)) ∧ (Below w2.heap.size w2 w' ∧ w2.heap.size < w'.heap.size ∧ w'.cell? ⟨w2.heap.size, 0, none⟩ = some (.bool true) ∧ w'.cell? ⟨w2.heap.size, 1, none⟩ = some (.int .u32 4096) ∧ w'.cell? ⟨w2.heap.size, 2, none⟩ = some (.int .u8 39) ∧ w'.cell? ⟨w2.heap.size, 3, none⟩ = some (.int .u8 0) ∧ w'.cell? ⟨w2.heap.size, 4, none⟩ = some (.int .u8 0) ∧ w'.cell? ⟨w2.heap.size, 5, none⟩ = some (.int .u16 0) ∧ w'.cell? ⟨w2.heap.size, 6, none⟩ = some (.int .u16 64)) ∧ (Below w3.heap.size w3 w' ∧ w3.heap.size < w'.heap.size ∧ w'.cell? ⟨w3.heap.size, 0, none⟩ = some (.bool true) ∧ w'.cell? ⟨w3.heap.size, 1, none⟩ = some (.int .u32 4096) ∧ w'.cell? ⟨w3.heap.size, 2, none⟩ = some (.int .u8 39) ∧ w'.cell? ⟨w3.heap.size, 3, none⟩ = some (.int .u8 4) ∧ w'.cell? ⟨w3.heap.size, 4, none⟩ = some (.int .u8 4) ∧ w'.cell? ⟨w3.heap.size, 5, none⟩ = some (.int .u16 256) ∧ w'.cell? ⟨w3.heap.size, 6, none⟩ = some (.int .u16 0)))
    (first | exact keep777 (by assumption) ((Below.refl _ _).drew) | exact keep777 (by assumption) hbx)
    (first | (go_at_call 40; (with_reducible refine (V5 _).mono ?_); rintro _ wx ⟨rfl, hbx⟩) | (go_at_call 30; (with_reducible refine (V6 _).mono ?_); rintro _ wx ⟨rfl, hbx⟩) | (go_at_call 36; (with_reducible refine (V7 _).mono ?_); rintro _ wx ⟨rfl, hbx⟩) | (go_at_call 46; (with_reducible refine (c46 _).mono ?_); rintro _ wx ⟨rfl, hbx⟩) | (go_at_call 15; (with_reducible refine (V8 _).mono ?_); rintro _ wx ⟨rfl, hbx⟩))
  have hE : Below w1.heap.size w1 wx := And.left (And.left (by assumption))
  have hF := b1.trans (hE.mono b1.size)
  go_wp2
  go_ret
  exact ⟨rfl, hF⟩
end Go.Proofs.Ytojjdhohhonheaa
