import Derived.Test.YtbbcljffcjhiaaaK
import Derived.Laws.MakeOwn
namespace Go.Proofs.Ytbbcljffcjhiaaa
open Go.ChangeShapes Go.WideShapes Go.ChangeAt Go.RowKit
set_option linter.unusedVariables false
set_option linter.unusedSimpArgs false
/-- how Table stands: its two variables, what they hold -/
def Tv (w W : World) (np mp mb g cap : Nat) (is : Bool) : Prop :=
  W.cell? ⟨np, 0, none⟩ = some (.slice (some ⟨g, 0, none⟩) 2 cap) ∧ W.cell? ⟨mp, 0, none⟩ = some (.map (some mb)) ∧ Two W g ∧ Mn W mb is ∧ Below w.heap.size w W
theorem Tv.below {w W W' : World} {np mp mb g cap : Nat} {is : Bool} (h : Tv w W np mp mb g cap is) (hb : Below W.heap.size W W') : Tv w W' np mp mb g cap is :=
  ⟨(hb.cell (p := ⟨np, 0, none⟩) (World.block_lt_of_cell? W _ h.1)).trans h.1, (hb.cell (p := ⟨mp, 0, none⟩) (World.block_lt_of_cell? W _ h.2.1)).trans h.2.1, h.2.2.1.below hb, h.2.2.2.1.below hb, h.2.2.2.2.trans (hb.mono h.2.2.2.2.size)⟩
theorem tv_start {w W : World} {mb g cap : Nat} {is : Bool} (h1 : Two W g) (h2 : Mn W mb is) (hb : Below w.heap.size w W) : Tv w ((W.alloc (.cells #[.slice (some ⟨g, 0, none⟩) 2 cap] 67)).alloc (.cells #[.map (some mb)] 69)) W.heap.size (W.heap.size + 1) mb g cap is := by
  have hx := (Below.refl W.heap.size W).alloc (Nat.le_refl _) (.cells #[.slice (some ⟨g, 0, none⟩) 2 cap] 67)
  have hy := hx.alloc (by simp) (.cells #[.map (some mb)] 69)
  have b0 := heap_alloc_new W (.cells #[.slice (some ⟨g, 0, none⟩) 2 cap] 67)
  have b1 := heap_alloc_new (W.alloc (.cells #[.slice (some ⟨g, 0, none⟩) 2 cap] 67)) (.cells #[.map (some mb)] 69)
  simp only [World.size_alloc] at b1
  refine ⟨?_, ?_, h1.below hy, h2.below hy, hb.trans (hy.mono hb.size)⟩
  · rw [cell_of_row _ _ _ _ _ _ ((Below.heap_alloc _ _ _ (by simp)).trans b0)]; rfl
  · rw [cell_of_row _ _ _ _ _ _ b1]; rfl
theorem f12a (w : World) (np mp mb g cap : Nat) (is : Bool) (W : World) (h : Tv w W np mp mb g cap is) : Calls Try.prog 12 #[.func (.func 14) #[] #[], .pointer (some ⟨np, 0, none⟩)] W fun e w' => e = .returned (.int .i64 (-1)) ∧ Below W.heap.size W w' := by
  have q := h.1
  have HC := Lib.hid (f13a W g cap h.2.2.1)
  clear h
  go_enter Try.func12, Try.ntmps12
  go_wp2_with fail
  with_reducible refine HC.out.mono ?_
  rintro _ w5 ⟨rfl, hb5⟩
  go_wp2_with fail
  all_goals (go_ret; exact ⟨rfl, hb5⟩)
theorem f12b (w : World) (np mp mb g cap : Nat) (is : Bool) (W : World) (h : Tv w W np mp mb g cap is) : Calls Try.prog 12 #[.func (.func 15) #[] #[.pointer (some ⟨mp, 0, none⟩)], .pointer (some ⟨np, 0, none⟩)] W fun e w' => e = .returned (.int .i64 (if is = true then -1 else 1)) ∧ Below W.heap.size W w' := by
  have q := h.1
  have HC := Lib.hid (f13b W g cap h.2.2.1 mp mb is h.2.1 h.2.2.2.1)
  clear h
  go_enter Try.func12, Try.ntmps12
  go_wp2_with fail
  with_reducible refine HC.out.mono ?_
  rintro _ w5 ⟨rfl, hb5⟩
  go_wp2_with fail
  all_goals (go_ret; exact ⟨rfl, hb5⟩)
set_option maxRecDepth 100000 in
set_option maxHeartbeats 8000000 in
/-- with no names of the linker's: the least name that nobody has -/
theorem f8n (w : World) (lb sb : Nat) (h : Lo w lb sb) : Calls Try.prog 8 #[.slice (some ⟨lb, 0, none⟩) 1 1, .slice none 0 0] w fun e w' => e = .returned (.tuple #[.slice none 0 0, .string ⟨#[115, 119, 105, 116, 99, 104]⟩, .int .i64 6]) ∧ Below w.heap.size w w' := by
  have H10 := Lib.hid (f10 w lb sb h)
  have H11 := Lib.hid f11n
  clear h
  go_enter Try.func8, Try.ntmps8
  go_wp2_with fail
  with_reducible refine H10.out.mono ?_
  rintro _ w5 ⟨g, cap, rfl, ht5, hb5⟩
  have HT5 := Lib.hid ht5
  have HB5 := Lib.hid hb5
  clear ht5 hb5
  go_wp2_with fail
  with_reducible refine (H11.out w5).mono ?_
  rintro _ w6 ⟨mb, rfl, hm6, hb6⟩
  have HTV := Lib.hid (tv_start (cap := cap) (HT5.out.below hb6) hm6 (HB5.out.trans (hb6.mono HB5.out.size)))
  have hq0 := HTV.out.1
  have hq1 := HTV.out.2.1
  clear hm6 hb6
  go_wp2_with fail
  with_reducible refine (f12a w _ _ mb g cap _ _ HTV.out).mono ?_
  rintro _ w7 ⟨rfl, hb7⟩
  have HTV7 := Lib.hid (HTV.out.below hb7)
  clear hb7 hq0 hq1 HTV
  go_wp2_with fail
  with_reducible refine (f12b w _ _ mb g cap _ _ HTV7.out).mono ?_
  rintro _ w8 ⟨rfl, hb8⟩
  have HTV8 := Lib.hid (HTV7.out.below hb8)
  have hq0 := HTV8.out.1
  have hq1 := HTV8.out.2.1
  have e0 := HTV8.out.2.2.1.2 12 _ rfl
  clear hb8 HTV7
  go_wp2_with fail
  go_quiet (fail)
  go_wp2_with fail
  exact bodyPost_ret (v := .tuple #[.slice none 0 0, .string ⟨#[115, 119, 105, 116, 99, 104]⟩, .int .i64 6]) (by simp [results, Try.results8, go_sem]) rfl ⟨rfl, (HTV8.out.2.2.2.2).trans ⟨rfl, rfl, rfl, Nat.le_refl _, fun _ _ => rfl⟩⟩
end Go.Proofs.Ytbbcljffcjhiaaa
