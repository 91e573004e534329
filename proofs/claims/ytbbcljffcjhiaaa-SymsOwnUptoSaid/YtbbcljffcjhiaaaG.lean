import Derived.Test.YtbbcljffcjhiaaaF
namespace Go.Proofs.Ytbbcljffcjhiaaa
open Go.ChangeShapes Go.WideShapes Go.ChangeAt Go.RowKit
set_option linter.unusedVariables false
set_option linter.unusedSimpArgs false
set_option maxHeartbeats 4000000 in
theorem f27 (g cap : Nat) (w : World) (h : Two w g) : Calls Try.prog 27 #[.slice (some ⟨g, 0, none⟩) 2 cap, .int .i64 0, .int .i64 2, .int .i64 2, .func (.func 23) #[] #[]] w fun e w' => e = .returned (.tuple #[]) ∧ Below w.heap.size w w' := by
  have H := Lib.hid (f30 g cap w h)
  go_enter Try.func27, Try.ntmps27
  go_wp2_with fail
  refine wp_loop_rounds 1 ?_
  rw [rounds_succ]
  go_wp2_with fail
  with_reducible refine H.out.mono ?_
  rintro e5 w5 ⟨rfl, hb5⟩
  go_wp2_with fail
  exact bodyPost_ret (v := .tuple #[]) (by simp [results, Try.results27, go_sem]) rfl ⟨rfl, hb5⟩
set_option maxRecDepth 100000 in
theorem f39 (w : World) : Calls Try.prog 39 #[.int .u64 2] w fun e w' => e = .returned (.int .i64 2) ∧ w' = w := by
  go_enter Try.func39, Try.ntmps39
  go_wp2_with fail
  go_ret
  exact ⟨by kernel_rfl, rfl⟩
theorem f28 (w : World) : Calls Try.prog 28 #[.int .u64 2] w fun e w' => e = .returned (.int .i64 2) ∧ w' = w := by
  have H := Lib.hid f39
  go_enter Try.func28, Try.ntmps28
  go_wp2_with (with_reducible refine (H.out _).mono ?_; rintro e5 w5 ⟨rfl, rfl⟩)
  go_ret
  exact ⟨rfl, rfl⟩
theorem f22 (g cap : Nat) (w : World) (h : Two w g) : Calls Try.prog 22 #[.slice (some ⟨g, 0, none⟩) 2 cap, .func (.func 23) #[] #[]] w fun e w' => e = .returned (.tuple #[]) ∧ Below w.heap.size w w' := by
  have H := Lib.hid (f27 g cap w h)
  have H8 := Lib.hid f28
  go_enter Try.func22, Try.ntmps22
  go_wp2_with (first | (go_at_call 28; (with_reducible refine (H8.out _).mono ?_); rintro e5 w5 ⟨rfl, rfl⟩) | (go_at_call 27; (with_reducible refine H.out.mono ?_); rintro e5 w5 ⟨rfl, hb5⟩))
  exact bodyPost_end (v := .tuple #[]) (by simp [results, Try.results22, go_sem]) rfl ⟨rfl, hb5⟩
/-- a closure 'first' over a target: what nobody has becomes its -/
theorem f26 (w : World) (g o tb : Nat) (a b c : Int) (h0 : w.cell? ⟨g, o, none⟩ = some (.int .i64 (-1))) (h1 : w.cell? ⟨g, o + 1, none⟩ = some (.int .i64 0)) (h2 : w.cell? ⟨g, o + 2, none⟩ = some (.int .i64 (-1)))
    (z0 : w.frozen? ⟨g, o, none⟩ = false) (z1 : w.frozen? ⟨g, o + 1, none⟩ = false) (z2 : w.frozen? ⟨g, o + 2, none⟩ = false)
    (t0 : w.cell? ⟨tb, 0, none⟩ = some (.int .i64 a)) (t1 : w.cell? ⟨tb, 1, none⟩ = some (.int .i64 b)) (t2 : w.cell? ⟨tb, 2, none⟩ = some (.int .i64 c)) :
    Calls Try.prog 26 #[.pointer (some ⟨g, o, none⟩), .pointer (some ⟨tb, 0, none⟩)] w fun e w' => e = .returned (.tuple #[]) ∧ ∃ wN, Below w.heap.size w wN ∧ w' = ((wN.setCell ⟨g, o, none⟩ (.int .i64 a)).setCell ⟨g, o + 1, none⟩ (.int .i64 b)).setCell ⟨g, o + 2, none⟩ (.int .i64 c) := by
  have H := Lib.hid f17
  have lg := World.block_lt_of_cell? w _ h0
  have lt := World.block_lt_of_cell? w _ t0
  simp only at lg lt
  have HZ : Hid (∀ W, Below w.heap.size w W → W.cell? ⟨g, o, none⟩ = some (.int .i64 (-1)) ∧ W.cell? ⟨g, o + 1, none⟩ = some (.int .i64 0) ∧ W.cell? ⟨g, o + 2, none⟩ = some (.int .i64 (-1)) ∧ W.frozen? ⟨g, o, none⟩ = false ∧ W.frozen? ⟨g, o + 1, none⟩ = false ∧ W.frozen? ⟨g, o + 2, none⟩ = false ∧ W.cell? ⟨tb, 0, none⟩ = some (.int .i64 a) ∧ W.cell? ⟨tb, 1, none⟩ = some (.int .i64 b) ∧ W.cell? ⟨tb, 2, none⟩ = some (.int .i64 c)) :=
    Lib.hid (fun W hW => by
      refine ⟨?_, ?_, ?_, ?_, ?_, ?_, ?_, ?_, ?_⟩
      · rw [hW.cell (by exact lg)]; exact h0
      · rw [hW.cell (by exact lg)]; exact h1
      · rw [hW.cell (by exact lg)]; exact h2
      · rw [hW.frozen (by exact lg)]; exact z0
      · rw [hW.frozen (by exact lg)]; exact z1
      · rw [hW.frozen (by exact lg)]; exact z2
      · rw [hW.cell (by exact lt)]; exact t0
      · rw [hW.cell (by exact lt)]; exact t1
      · rw [hW.cell (by exact lt)]; exact t2)
  clear h0 h1 h2 z0 z1 z2 t0 t1 t2 lg lt
  go_enter Try.func26, Try.ntmps26
  go_upto_region 0 with fail
  have HI : Hid ((w.drew.cell? ⟨g, o, none⟩ = some (.int .i64 (-1)) ∧ w.drew.cell? ⟨g, o + 1, none⟩ = some (.int .i64 0) ∧ w.drew.cell? ⟨g, o + 2, none⟩ = some (.int .i64 (-1))) ∧ Below w.heap.size w w.drew) := Lib.hid (by
    have hb := (Below.refl w.heap.size w).drew
    obtain ⟨q0, q1, q2, _⟩ := HZ.out _ hb
    exact ⟨⟨q0, q1, q2⟩, hb⟩)
  go_region_held3 (fun W => (W.cell? ⟨g, o, none⟩ = some (.int .i64 (-1)) ∧ W.cell? ⟨g, o + 1, none⟩ = some (.int .i64 0) ∧ W.cell? ⟨g, o + 2, none⟩ = some (.int .i64 (-1))) ∧ Below w.heap.size w W)
    (first | assumption | exact HI.out | (with_reducible exact (by have hz := HZ.out _ (by assumption); exact ⟨⟨hz.1, hz.2.1, hz.2.2.1⟩, by assumption⟩)))
    (first | (go_at_call 17; (with_reducible refine (H.out _).mono ?_); rintro _ w6 ⟨rfl, hb6⟩; have HB6 : Below w.heap.size w w6 := ((Below.refl _ _).drew).trans (hb6.mono (by simp)); have HS6 : (w6.cell? ⟨g, o, none⟩ = some (.int .i64 (-1)) ∧ w6.cell? ⟨g, o + 1, none⟩ = some (.int .i64 0) ∧ w6.cell? ⟨g, o + 2, none⟩ = some (.int .i64 (-1))) ∧ Below w.heap.size w w6 := (by have hz := HZ.out _ HB6; exact ⟨⟨hz.1, hz.2.1, hz.2.2.1⟩, HB6⟩)))
  obtain ⟨q0, q1, q2, y0, y1, y2, t0, t1, t2⟩ := HZ.out _ HB6
  have HBB := Lib.hid HB6
  clear HZ HI HS6 H HB6 hb6
  go_wp2_with fail
  exact bodyPost_end (v := .tuple #[]) (by simp [results, Try.results26, go_sem]) rfl ⟨rfl, _, HBB.out, rfl⟩
end Go.Proofs.Ytbbcljffcjhiaaa
