import Derived.Test.YtbbcljffcjhiaaaJ
namespace Go.Proofs.Ytbbcljffcjhiaaa
open Go.ChangeShapes Go.WideShapes Go.ChangeAt Go.RowKit
set_option linter.unusedVariables false
set_option linter.unusedSimpArgs false
theorem f14F (w : World) : Calls Try.prog 14 #[.agg #[.string ⟨#[102]⟩, .int .i64 0, .int .i64 0, .int .i64 (-1), .int .i64 (-1), .int .i64 0, .int .i64 (-1), .int .i64 (-1), .int .i64 0, .int .i64 (-1), .bool false, .bool false]] w fun e w' => e = .returned (.bool false) ∧ Below w.heap.size w w' := by
  have hb := Lib.hid ((Below.refl _ w).alloc (Nat.le_refl _) (.cells #[.string ⟨#[102]⟩, .int .i64 0, .int .i64 0, .int .i64 (-1), .int .i64 (-1), .int .i64 0, .int .i64 (-1), .int .i64 (-1), .int .i64 0, .int .i64 (-1), .bool false, .bool false] 74))
  go_enter Try.func14, Try.ntmps14
  go_wp2_with fail
  go_ret
  exact ⟨rfl, hb.out⟩
theorem f14S (w : World) : Calls Try.prog 14 #[.agg #[.string ⟨#[115, 119, 105, 116, 99, 104]⟩, .int .i64 (-1), .int .i64 0, .int .i64 (-1), .int .i64 (-1), .int .i64 0, .int .i64 (-1), .int .i64 (-1), .int .i64 0, .int .i64 (-1), .bool false, .bool true]] w fun e w' => e = .returned (.bool false) ∧ Below w.heap.size w w' := by
  have hb := Lib.hid ((Below.refl _ w).alloc (Nat.le_refl _) (.cells #[.string ⟨#[115, 119, 105, 116, 99, 104]⟩, .int .i64 (-1), .int .i64 0, .int .i64 (-1), .int .i64 (-1), .int .i64 0, .int .i64 (-1), .int .i64 (-1), .int .i64 0, .int .i64 (-1), .bool false, .bool true] 74))
  go_enter Try.func14, Try.ntmps14
  go_wp2_with fail
  go_ret
  exact ⟨rfl, hb.out⟩
theorem f15F (w : World) (p : Addr) : Calls Try.prog 15 #[.agg #[.string ⟨#[102]⟩, .int .i64 0, .int .i64 0, .int .i64 (-1), .int .i64 (-1), .int .i64 0, .int .i64 (-1), .int .i64 (-1), .int .i64 0, .int .i64 (-1), .bool false, .bool false], .pointer (some p)] w fun e w' => e = .returned (.bool false) ∧ Below w.heap.size w w' := by
  have hb := Lib.hid ((Below.refl _ w).alloc (Nat.le_refl _) (.cells #[.string ⟨#[102]⟩, .int .i64 0, .int .i64 0, .int .i64 (-1), .int .i64 (-1), .int .i64 0, .int .i64 (-1), .int .i64 (-1), .int .i64 0, .int .i64 (-1), .bool false, .bool false] 74))
  go_enter Try.func15, Try.ntmps15
  go_wp2_with fail
  go_ret
  exact ⟨rfl, hb.out⟩
theorem f15S (w : World) (mp mb : Nat) (is : Bool) (hp : w.cell? ⟨mp, 0, none⟩ = some (.map (some mb))) (hm : Mn w mb is) : Calls Try.prog 15 #[.agg #[.string ⟨#[115, 119, 105, 116, 99, 104]⟩, .int .i64 (-1), .int .i64 0, .int .i64 (-1), .int .i64 (-1), .int .i64 0, .int .i64 (-1), .int .i64 (-1), .int .i64 0, .int .i64 (-1), .bool false, .bool true], .pointer (some ⟨mp, 0, none⟩)] w fun e w' => e = .returned (.bool (!is)) ∧ Below w.heap.size w w' := by
  have hb := (Below.refl _ w).alloc (Nat.le_refl _) (.cells #[.string ⟨#[115, 119, 105, 116, 99, 104]⟩, .int .i64 (-1), .int .i64 0, .int .i64 (-1), .int .i64 (-1), .int .i64 0, .int .i64 (-1), .int .i64 (-1), .int .i64 0, .int .i64 (-1), .bool false, .bool true] 74)
  have HB := Lib.hid hb
  have h1 := (hb.cell (p := ⟨mp, 0, none⟩) (World.block_lt_of_cell? w _ hp)).trans hp
  have HC := Lib.hid (f16S (w.alloc (.cells #[.string ⟨#[115, 119, 105, 116, 99, 104]⟩, .int .i64 (-1), .int .i64 0, .int .i64 (-1), .int .i64 (-1), .int .i64 0, .int .i64 (-1), .int .i64 (-1), .int .i64 0, .int .i64 (-1), .bool false, .bool true] 74)) mb is (hm.below hb))
  have H17 := Lib.hid f17
  clear hp hm hb
  go_enter Try.func15, Try.ntmps15
  go_wp2_with fail
  with_reducible refine HC.out.mono ?_
  rintro _ w5 ⟨rfl, hb5⟩
  have HB5 := Lib.hid (HB.out.trans (hb5.mono HB.out.size))
  clear hb5 h1
  cases is
  · go_wp2_with fail
    with_reducible refine (H17.out _).mono ?_
    rintro _ w6 ⟨rfl, hb6⟩
    have HB6 := Lib.hid (HB5.out.trans (hb6.mono HB5.out.size))
    go_wp2_with fail
    go_ret
    exact ⟨rfl, HB6.out⟩
  · go_wp2_with fail
    with_reducible refine (H17.out _).mono ?_
    rintro _ w6 ⟨rfl, hb6⟩
    have HB6 := Lib.hid (HB5.out.trans (hb6.mono HB5.out.size))
    go_wp2_with fail
    go_ret
    exact ⟨rfl, HB6.out⟩
set_option maxHeartbeats 8000000 in
theorem f13a (w : World) (g cap : Nat) (h : Two w g) : Calls Try.prog 13 #[.slice (some ⟨g, 0, none⟩) 2 cap, .func (.func 14) #[] #[]] w fun e w' => e = .returned (.int .i64 (-1)) ∧ Below w.heap.size w w' := by
  have HT := Lib.hid h
  go_enter Try.func13, Try.ntmps13
  go_wp2_with fail
  refine wp_loop_rounds 3 ?_
  rw [rounds_succ]
  have q0 := HT.out.2 0 _ rfl
  have q1 := HT.out.2 1 _ rfl
  have q2 := HT.out.2 2 _ rfl
  have q3 := HT.out.2 3 _ rfl
  have q4 := HT.out.2 4 _ rfl
  have q5 := HT.out.2 5 _ rfl
  have q6 := HT.out.2 6 _ rfl
  have q7 := HT.out.2 7 _ rfl
  have q8 := HT.out.2 8 _ rfl
  have q9 := HT.out.2 9 _ rfl
  have q10 := HT.out.2 10 _ rfl
  have q11 := HT.out.2 11 _ rfl
  go_wp2_with fail
  with_reducible refine (f14F _).mono ?_
  rintro _ w5 ⟨rfl, hb5⟩
  have HT5 := Lib.hid (HT.out.below hb5)
  have HB5 := Lib.hid hb5
  clear q0 q1 q2 q3 q4 q5 q6 q7 q8 q9 q10 q11 hb5
  go_wp2_with fail
  rw [rounds_succ]
  have q0 := HT5.out.2 12 _ rfl
  have q1 := HT5.out.2 13 _ rfl
  have q2 := HT5.out.2 14 _ rfl
  have q3 := HT5.out.2 15 _ rfl
  have q4 := HT5.out.2 16 _ rfl
  have q5 := HT5.out.2 17 _ rfl
  have q6 := HT5.out.2 18 _ rfl
  have q7 := HT5.out.2 19 _ rfl
  have q8 := HT5.out.2 20 _ rfl
  have q9 := HT5.out.2 21 _ rfl
  have q10 := HT5.out.2 22 _ rfl
  have q11 := HT5.out.2 23 _ rfl
  go_wp2_with fail
  with_reducible refine (f14S _).mono ?_
  rintro _ w6 ⟨rfl, hb6⟩
  have HB6 := Lib.hid (HB5.out.trans (hb6.mono HB5.out.size))
  clear q0 q1 q2 q3 q4 q5 q6 q7 q8 q9 q10 q11 hb6
  go_wp2_with fail
  rw [rounds_succ]
  go_wp2_with fail
  go_ret
  exact ⟨rfl, HB6.out⟩
set_option maxHeartbeats 8000000 in
theorem f13b (w : World) (g cap : Nat) (h : Two w g) (mp mb : Nat) (is : Bool) (hp : w.cell? ⟨mp, 0, none⟩ = some (.map (some mb))) (hm : Mn w mb is) : Calls Try.prog 13 #[.slice (some ⟨g, 0, none⟩) 2 cap, .func (.func 15) #[] #[.pointer (some ⟨mp, 0, none⟩)]] w fun e w' => e = .returned (.int .i64 (if is = true then -1 else 1)) ∧ Below w.heap.size w w' := by
  have HT := Lib.hid h
  have HP : Hid (∀ W, Below w.heap.size w W → W.cell? ⟨mp, 0, none⟩ = some (.map (some mb)) ∧ Mn W mb is) := Lib.hid (fun W hW => ⟨(hW.cell (p := ⟨mp, 0, none⟩) (World.block_lt_of_cell? w _ hp)).trans hp, hm.below hW⟩)
  clear hp hm
  go_enter Try.func13, Try.ntmps13
  go_wp2_with fail
  refine wp_loop_rounds 3 ?_
  rw [rounds_succ]
  have q0 := HT.out.2 0 _ rfl
  have q1 := HT.out.2 1 _ rfl
  have q2 := HT.out.2 2 _ rfl
  have q3 := HT.out.2 3 _ rfl
  have q4 := HT.out.2 4 _ rfl
  have q5 := HT.out.2 5 _ rfl
  have q6 := HT.out.2 6 _ rfl
  have q7 := HT.out.2 7 _ rfl
  have q8 := HT.out.2 8 _ rfl
  have q9 := HT.out.2 9 _ rfl
  have q10 := HT.out.2 10 _ rfl
  have q11 := HT.out.2 11 _ rfl
  go_wp2_with fail
  with_reducible refine (f15F _ _).mono ?_
  rintro _ w5 ⟨rfl, hb5⟩
  have HT5 := Lib.hid (HT.out.below hb5)
  have HB5 := Lib.hid hb5
  clear q0 q1 q2 q3 q4 q5 q6 q7 q8 q9 q10 q11 hb5
  go_wp2_with fail
  rw [rounds_succ]
  have q0 := HT5.out.2 12 _ rfl
  have q1 := HT5.out.2 13 _ rfl
  have q2 := HT5.out.2 14 _ rfl
  have q3 := HT5.out.2 15 _ rfl
  have q4 := HT5.out.2 16 _ rfl
  have q5 := HT5.out.2 17 _ rfl
  have q6 := HT5.out.2 18 _ rfl
  have q7 := HT5.out.2 19 _ rfl
  have q8 := HT5.out.2 20 _ rfl
  have q9 := HT5.out.2 21 _ rfl
  have q10 := HT5.out.2 22 _ rfl
  have q11 := HT5.out.2 23 _ rfl
  go_wp2_with fail
  with_reducible refine (f15S _ mp mb is (HP.out _ HB5.out).1 (HP.out _ HB5.out).2).mono ?_
  rintro _ w6 ⟨rfl, hb6⟩
  have HB6 := Lib.hid (HB5.out.trans (hb6.mono HB5.out.size))
  clear q0 q1 q2 q3 q4 q5 q6 q7 q8 q9 q10 q11 hb6
  cases is
  · go_wp2_with fail
    go_ret
    exact ⟨rfl, HB6.out⟩
  · go_wp2_with fail
    rw [rounds_succ]
    go_wp2_with fail
    go_ret
    exact ⟨rfl, HB6.out⟩
end Go.Proofs.Ytbbcljffcjhiaaa
