import Derived.Test.YtbbcljffcjhiaaaN
namespace Go.Proofs.Ytbbcljffcjhiaaa
open Go.ChangeShapes Go.WideShapes Go.ChangeAt Go.RowKit
set_option linter.unusedVariables false
set_option linter.unusedSimpArgs false
theorem lo_start (w : World) : Lo (((w.alloc (.cells #[.string ⟨#[102]⟩, .int .u32 0, .int .u32 0, .int .u8 1, .int .u8 0, .bool false, .int .i64 (-2), .string ⟨#[115, 119, 105, 116, 99, 104]⟩, .int .u32 0, .int .u32 0, .int .u8 1, .int .u8 0, .bool false, .int .i64 (-1)] 48)).alloc (.cells #[.string ⟨#[]⟩, .slice none 0 0, .slice (some ⟨w.heap.size, 0, none⟩) 2 2, .slice none 0 0] 55)).alloc (.cells #[.string ⟨#[115, 119, 105, 116, 99, 104]⟩] 9)) (w.heap.size + 1) w.heap.size ∧ (((w.alloc (.cells #[.string ⟨#[102]⟩, .int .u32 0, .int .u32 0, .int .u8 1, .int .u8 0, .bool false, .int .i64 (-2), .string ⟨#[115, 119, 105, 116, 99, 104]⟩, .int .u32 0, .int .u32 0, .int .u8 1, .int .u8 0, .bool false, .int .i64 (-1)] 48)).alloc (.cells #[.string ⟨#[]⟩, .slice none 0 0, .slice (some ⟨w.heap.size, 0, none⟩) 2 2, .slice none 0 0] 55)).alloc (.cells #[.string ⟨#[115, 119, 105, 116, 99, 104]⟩] 9)).cell? ⟨w.heap.size + 2, 0, none⟩ = some (.string ⟨#[115, 119, 105, 116, 99, 104]⟩) ∧ Below w.heap.size w (((w.alloc (.cells #[.string ⟨#[102]⟩, .int .u32 0, .int .u32 0, .int .u8 1, .int .u8 0, .bool false, .int .i64 (-2), .string ⟨#[115, 119, 105, 116, 99, 104]⟩, .int .u32 0, .int .u32 0, .int .u8 1, .int .u8 0, .bool false, .int .i64 (-1)] 48)).alloc (.cells #[.string ⟨#[]⟩, .slice none 0 0, .slice (some ⟨w.heap.size, 0, none⟩) 2 2, .slice none 0 0] 55)).alloc (.cells #[.string ⟨#[115, 119, 105, 116, 99, 104]⟩] 9)) := by
  have b0 : (((w.alloc (.cells #[.string ⟨#[102]⟩, .int .u32 0, .int .u32 0, .int .u8 1, .int .u8 0, .bool false, .int .i64 (-2), .string ⟨#[115, 119, 105, 116, 99, 104]⟩, .int .u32 0, .int .u32 0, .int .u8 1, .int .u8 0, .bool false, .int .i64 (-1)] 48)).alloc (.cells #[.string ⟨#[]⟩, .slice none 0 0, .slice (some ⟨w.heap.size, 0, none⟩) 2 2, .slice none 0 0] 55)).alloc (.cells #[.string ⟨#[115, 119, 105, 116, 99, 104]⟩] 9)).heap[w.heap.size]? = some (.cells #[.string ⟨#[102]⟩, .int .u32 0, .int .u32 0, .int .u8 1, .int .u8 0, .bool false, .int .i64 (-2), .string ⟨#[115, 119, 105, 116, 99, 104]⟩, .int .u32 0, .int .u32 0, .int .u8 1, .int .u8 0, .bool false, .int .i64 (-1)] 48 (0, 0)) := (Below.heap_alloc _ _ _ (by simp; omega)).trans ((Below.heap_alloc _ _ _ (by simp)).trans (heap_alloc_new w _))
  have b1 : (((w.alloc (.cells #[.string ⟨#[102]⟩, .int .u32 0, .int .u32 0, .int .u8 1, .int .u8 0, .bool false, .int .i64 (-2), .string ⟨#[115, 119, 105, 116, 99, 104]⟩, .int .u32 0, .int .u32 0, .int .u8 1, .int .u8 0, .bool false, .int .i64 (-1)] 48)).alloc (.cells #[.string ⟨#[]⟩, .slice none 0 0, .slice (some ⟨w.heap.size, 0, none⟩) 2 2, .slice none 0 0] 55)).alloc (.cells #[.string ⟨#[115, 119, 105, 116, 99, 104]⟩] 9)).heap[w.heap.size + 1]? = some (.cells #[.string ⟨#[]⟩, .slice none 0 0, .slice (some ⟨w.heap.size, 0, none⟩) 2 2, .slice none 0 0] 55 (0, 0)) := (Below.heap_alloc _ _ _ (by simp)).trans (by
    have := heap_alloc_new (w.alloc (.cells #[.string ⟨#[102]⟩, .int .u32 0, .int .u32 0, .int .u8 1, .int .u8 0, .bool false, .int .i64 (-2), .string ⟨#[115, 119, 105, 116, 99, 104]⟩, .int .u32 0, .int .u32 0, .int .u8 1, .int .u8 0, .bool false, .int .i64 (-1)] 48)) (.cells #[.string ⟨#[]⟩, .slice none 0 0, .slice (some ⟨w.heap.size, 0, none⟩) 2 2, .slice none 0 0] 55)
    simp only [World.size_alloc] at this
    exact this)
  have b2 : (((w.alloc (.cells #[.string ⟨#[102]⟩, .int .u32 0, .int .u32 0, .int .u8 1, .int .u8 0, .bool false, .int .i64 (-2), .string ⟨#[115, 119, 105, 116, 99, 104]⟩, .int .u32 0, .int .u32 0, .int .u8 1, .int .u8 0, .bool false, .int .i64 (-1)] 48)).alloc (.cells #[.string ⟨#[]⟩, .slice none 0 0, .slice (some ⟨w.heap.size, 0, none⟩) 2 2, .slice none 0 0] 55)).alloc (.cells #[.string ⟨#[115, 119, 105, 116, 99, 104]⟩] 9)).heap[w.heap.size + 2]? = some (.cells #[.string ⟨#[115, 119, 105, 116, 99, 104]⟩] 9 (0, 0)) := by
    have := heap_alloc_new ((w.alloc (.cells #[.string ⟨#[102]⟩, .int .u32 0, .int .u32 0, .int .u8 1, .int .u8 0, .bool false, .int .i64 (-2), .string ⟨#[115, 119, 105, 116, 99, 104]⟩, .int .u32 0, .int .u32 0, .int .u8 1, .int .u8 0, .bool false, .int .i64 (-1)] 48)).alloc (.cells #[.string ⟨#[]⟩, .slice none 0 0, .slice (some ⟨w.heap.size, 0, none⟩) 2 2, .slice none 0 0] 55)) (.cells #[.string ⟨#[115, 119, 105, 116, 99, 104]⟩] 9)
    simp only [World.size_alloc] at this
    exact this
  refine ⟨⟨by simp, by simp; omega, fun j v hv => ?_, fun j v hv => ?_⟩, ?_, ?_⟩
  · rw [cell_of_row _ _ _ _ _ _ b1]; simpa using hv
  · rw [cell_of_row _ _ _ _ _ _ b0]; simpa using hv
  · rw [cell_of_row _ _ _ _ _ _ b2]; rfl
  · exact (((Below.refl _ w).alloc (Nat.le_refl _) _).alloc (by simp) _).alloc (by simp; omega) _
set_option maxRecDepth 100000 in
set_option maxHeartbeats 8000000 in
/-- the works' closed run -/
theorem f7 (w : World) : Calls Try.prog 7 #[] w fun e w' => e = .returned (.bool true) ∧ Below w.heap.size w w' := by
  have HS := Lib.hid (lo_start w)
  have H8 := Lib.hid (f8s (((w.alloc (.cells #[.string ⟨#[102]⟩, .int .u32 0, .int .u32 0, .int .u8 1, .int .u8 0, .bool false, .int .i64 (-2), .string ⟨#[115, 119, 105, 116, 99, 104]⟩, .int .u32 0, .int .u32 0, .int .u8 1, .int .u8 0, .bool false, .int .i64 (-1)] 48)).alloc (.cells #[.string ⟨#[]⟩, .slice none 0 0, .slice (some ⟨w.heap.size, 0, none⟩) 2 2, .slice none 0 0] 55)).alloc (.cells #[.string ⟨#[115, 119, 105, 116, 99, 104]⟩] 9)) (w.heap.size + 1) w.heap.size (w.heap.size + 2) HS.out.1 HS.out.2.1)
  go_enter Try.func7, Try.ntmps7
  go_wp2_with fail
  with_reducible refine H8.out.mono ?_
  rintro _ w5 ⟨B, tg, tc, rfl, hr5, hb5⟩
  have HR5 := Lib.hid hr5
  have HL5 := Lib.hid (HS.out.1.below hb5)
  have HB5 := Lib.hid (HS.out.2.2.trans (hb5.mono HS.out.2.2.size))
  clear HS H8 hr5 hb5
  go_wp2_with fail
  with_reducible refine (f8n w5 (w.heap.size + 1) w.heap.size HL5.out).mono ?_
  rintro _ w6 ⟨rfl, hb6⟩
  have HR6 := Lib.hid (HR5.out.kept (grown_of_below hb6 none) (by simp [Value.ownBlock]))
  have HL6 := Lib.hid (HL5.out.below hb6)
  have HB6 := Lib.hid (HB5.out.trans (hb6.mono HB5.out.size))
  clear HR5 HL5 HB5 hb6
  go_wp2_with fail
  with_reducible refine (f9 w6 B tg tc (w.heap.size + 1) w.heap.size HL6.out HR6.out).mono ?_
  rintro _ w7 ⟨rfl, hb7⟩
  have HR7 := Lib.hid ((HR6.out.kept (grown_of_below hb7 none) (by simp [Value.ownBlock])).alloc (.cells #[.int .i64 (-1), .int .i64 0, .int .i64 0] 62))
  have HB7 := Lib.hid (HB6.out.trans (hb7.mono HB6.out.size))
  have HB8 := Lib.hid (HB7.out.alloc HB7.out.size (.cells #[.int .i64 (-1), .int .i64 0, .int .i64 0] 62))
  have q0 := HR7.out.cellAt 0 (by omega)
  have q1 := HR7.out.cellAt 1 (by omega)
  have q2 := HR7.out.cellAt 2 (by omega)
  have q3 := HR7.out.cellAt 3 (by omega)
  clear HR6 HL6 HB6 hb7
  go_wp2_with fail
  go_ret
  exact ⟨by rfl, HB8.out⟩
end Go.Proofs.Ytbbcljffcjhiaaa
