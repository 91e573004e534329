import Derived.Test.YtbbcljffcjhiaaaM
namespace Go.Proofs.Ytbbcljffcjhiaaa
open Go.ChangeShapes Go.WideShapes Go.ChangeAt Go.RowKit
set_option linter.unusedVariables false
set_option linter.unusedSimpArgs false
theorem f19F (w : World) (xb : Nat) (h : w.cell? ⟨xb, 0, none⟩ = some (.string ⟨#[115, 119, 105, 116, 99, 104]⟩)) : Calls Try.prog 19 #[.agg #[.string ⟨#[102]⟩, .int .i64 0, .int .i64 0, .int .i64 (-1)], .pointer (some ⟨xb, 0, none⟩)] w fun e w' => e = .returned (.bool false) ∧ Below w.heap.size w w' := by
  have hb := (Below.refl _ w).alloc (Nat.le_refl _) (.cells #[.string ⟨#[102]⟩, .int .i64 0, .int .i64 0, .int .i64 (-1)] 66)
  have h1 := (hb.cell (p := ⟨xb, 0, none⟩) (World.block_lt_of_cell? w _ h)).trans h
  go_enter Try.func19, Try.ntmps19
  go_wp2_with fail
  go_ret
  exact ⟨by rfl, hb⟩
theorem f19S (w : World) (xb : Nat) (h : w.cell? ⟨xb, 0, none⟩ = some (.string ⟨#[115, 119, 105, 116, 99, 104]⟩)) : Calls Try.prog 19 #[.agg #[.string ⟨#[115, 119, 105, 116, 99, 104]⟩, .int .i64 (-1), .int .i64 0, .int .i64 0], .pointer (some ⟨xb, 0, none⟩)] w fun e w' => e = .returned (.bool true) ∧ Below w.heap.size w w' := by
  have hb := (Below.refl _ w).alloc (Nat.le_refl _) (.cells #[.string ⟨#[115, 119, 105, 116, 99, 104]⟩, .int .i64 (-1), .int .i64 0, .int .i64 0] 66)
  have h1 := (hb.cell (p := ⟨xb, 0, none⟩) (World.block_lt_of_cell? w _ h)).trans h
  go_enter Try.func19, Try.ntmps19
  go_wp2_with fail
  go_ret
  exact ⟨by rfl, hb⟩
set_option maxHeartbeats 8000000 in
theorem f18 (w : World) (B tg tc xb : Nat) (h : w.ownsRow B 66 4 (.slice (some ⟨tg, 0, none⟩) 2 tc) 2 row2) (hx : w.cell? ⟨xb, 0, none⟩ = some (.string ⟨#[115, 119, 105, 116, 99, 104]⟩)) : Calls Try.prog 18 #[.slice (some ⟨tg, 0, none⟩) 2 tc, .func (.func 19) #[] #[.pointer (some ⟨xb, 0, none⟩)]] w fun e w' => e = .returned (.int .i64 1) ∧ Below w.heap.size w w' := by
  have HR := Lib.hid h
  have HX := Lib.hid hx
  have q0 := h.cellAt 0 (by omega)
  have q1 := h.cellAt 1 (by omega)
  have q2 := h.cellAt 2 (by omega)
  have q3 := h.cellAt 3 (by omega)
  simp at q0 q1 q2 q3
  clear h hx
  go_enter Try.func18, Try.ntmps18
  go_wp2_with fail
  refine wp_loop_rounds 3 ?_
  rw [rounds_succ]
  go_wp2_with fail
  with_reducible refine (f19F _ xb HX.out).mono ?_
  rintro _ w5 ⟨rfl, hb5⟩
  have HB5 := Lib.hid hb5
  have HX5 := (hb5.cell (p := ⟨xb, 0, none⟩) (World.block_lt_of_cell? w _ HX.out)).trans HX.out
  have HR5 := HR.out.kept (grown_of_below hb5 none) (by simp [Value.ownBlock])
  have HXX := Lib.hid HX5
  clear q0 q1 q2 q3 hb5 HX5
  have q0 := HR5.cellAt 4 (by omega)
  have q1 := HR5.cellAt 5 (by omega)
  have q2 := HR5.cellAt 6 (by omega)
  have q3 := HR5.cellAt 7 (by omega)
  simp at q0 q1 q2 q3
  clear HR5
  go_wp2_with fail
  rw [rounds_succ]
  go_wp2_with fail
  with_reducible refine (f19S _ xb HXX.out).mono ?_
  rintro _ w6 ⟨rfl, hb6⟩
  have HB6 := Lib.hid (HB5.out.trans (hb6.mono HB5.out.size))
  go_wp2_with fail
  go_ret
  exact ⟨rfl, HB6.out⟩
set_option maxRecDepth 100000 in
set_option maxHeartbeats 8000000 in
theorem f9 (w : World) (B tg tc lb sb : Nat) (hl : Lo w lb sb) (h : w.ownsRow B 66 4 (.slice (some ⟨tg, 0, none⟩) 2 tc) 2 row2) : Calls Try.prog 9 #[.slice (some ⟨tg, 0, none⟩) 2 tc, .slice (some ⟨lb, 0, none⟩) 1 1, .int .i64 0, .int .i64 1] w fun e w' => e = .returned (.tuple #[.agg #[.int .i64 (-1), .int .i64 0, .int .i64 0], .bool true]) ∧ Below w.heap.size w w' := by
  have hb1 := (Below.refl w.heap.size w).alloc (Nat.le_refl _) (.cells #[.int .i64 0, .int .i64 0, .int .i64 0] 62)
  have hw : ∃ W1, w.alloc (.cells #[.int .i64 0, .int .i64 0, .int .i64 0] 62) = W1 := ⟨_, rfl⟩
  have HXR : Hid (Bx (w.alloc (.cells #[.int .i64 0, .int .i64 0, .int .i64 0] 62)) w.heap.size #[.int .i64 0, .int .i64 0, .int .i64 0] 62) := Lib.hid (heap_alloc_new w _)
  have HL := Lib.hid (hl.below hb1)
  have HR := Lib.hid (h.alloc (.cells #[.int .i64 0, .int .i64 0, .int .i64 0] 62))
  have HB1 := Lib.hid hb1
  have p1 := HL.out.2.2.1 2 _ rfl
  have s0 := HL.out.2.2.2 7 _ rfl
  have s1 := HL.out.2.2.2 8 _ rfl
  have s2 := HL.out.2.2.2 9 _ rfl
  have s3 := HL.out.2.2.2 10 _ rfl
  have s4 := HL.out.2.2.2 11 _ rfl
  have s5 := HL.out.2.2.2 12 _ rfl
  have s6 := HL.out.2.2.2 13 _ rfl
  clear hl h hw hb1
  go_enter Try.func9, Try.ntmps9
  go_upto_region 6 with fail
  have HX : Hid (Bx ((w.alloc (.cells #[.int .i64 0, .int .i64 0, .int .i64 0] 62)).alloc (.cells #[.string ⟨#[115, 119, 105, 116, 99, 104]⟩, .int .u32 0, .int .u32 0, .int .u8 1, .int .u8 0, .bool false, .int .i64 (-1)] 48)) (w.heap.size + 1) #[.string ⟨#[115, 119, 105, 116, 99, 104]⟩, .int .u32 0, .int .u32 0, .int .u8 1, .int .u8 0, .bool false, .int .i64 (-1)] 48) := Lib.hid (by
    have := heap_alloc_new (w.alloc (.cells #[.int .i64 0, .int .i64 0, .int .i64 0] 62)) (.cells #[.string ⟨#[115, 119, 105, 116, 99, 104]⟩, .int .u32 0, .int .u32 0, .int .u8 1, .int .u8 0, .bool false, .int .i64 (-1)] 48)
    simp only [World.size_alloc] at this
    exact this)
  have HBA : Hid (Below w.heap.size w ((w.alloc (.cells #[.int .i64 0, .int .i64 0, .int .i64 0] 62)).alloc (.cells #[.string ⟨#[115, 119, 105, 116, 99, 104]⟩, .int .u32 0, .int .u32 0, .int .u8 1, .int .u8 0, .bool false, .int .i64 (-1)] 48))) := Lib.hid (HB1.out.alloc HB1.out.size _)
  have HRA := Lib.hid (HR.out.alloc (.cells #[.string ⟨#[115, 119, 105, 116, 99, 104]⟩, .int .u32 0, .int .u32 0, .int .u8 1, .int .u8 0, .bool false, .int .i64 (-1)] 48))
  have HXA := Lib.hid (HXR.out.below ((Below.refl _ _).alloc (Nat.le_refl _) (.cells #[.string ⟨#[115, 119, 105, 116, 99, 104]⟩, .int .u32 0, .int .u32 0, .int .u8 1, .int .u8 0, .bool false, .int .i64 (-1)] 48)))
  have HC := Lib.hid (f18 _ B tg tc (w.heap.size + 1) HRA.out (HX.out.cell 0))
  clear s0 s1 s2 s3 s4 s5 s6 p1
  go_wp2_with fail
  with_reducible refine HC.out.mono ?_
  rintro _ w5 ⟨rfl, hb5⟩
  have HR5 := HRA.out.kept (grown_of_below hb5 none) (by simp [Value.ownBlock])
  have q0 := HR5.cellAt 5 (by omega)
  have q1 := HR5.cellAt 6 (by omega)
  have q2 := HR5.cellAt 7 (by omega)
  simp at q0 q1 q2
  have HX5 := Lib.hid (HXA.out.below hb5)
  have r0 := HX5.out.cell 0
  have r1 := HX5.out.cell 1
  have r2 := HX5.out.cell 2
  simp at r0 r1 r2
  have z0 := HX5.out.frz 0
  have z1 := HX5.out.frz 1
  have z2 := HX5.out.frz 2
  have HB5 := Lib.hid (HBA.out.trans (hb5.mono HBA.out.size))
  clear HR5 hb5
  go_wp2_with fail
  exact bodyPost_ret (v := .tuple #[.agg #[.int .i64 (-1), .int .i64 0, .int .i64 0], .bool true]) (by simp [results, Try.results9, go_sem, r0, r1, r2]) rfl ⟨rfl, ((HB5.out.setCell (by simp) _).setCell (by simp) _).setCell (by simp) _⟩
end Go.Proofs.Ytbbcljffcjhiaaa
