import Derived.Test.YtbbcljffcjhiaaaI
namespace Go.Proofs.Ytbbcljffcjhiaaa
open Go.ChangeShapes Go.WideShapes Go.ChangeAt Go.RowKit
set_option linter.unusedVariables false
set_option linter.unusedSimpArgs false
/-- a map of numbers, its keys' one -/
def Mn (w : World) (b : Nat) (is : Bool) : Prop := ∃ k D, w.ownsMap Try.prog 9 (plainElem Try.prog 3 : Value → Option (DataW Unit × List MemPlace)) b k D ∧ Maps.has D (Lit.string [115, 119, 105, 116, 99, 104]) = is ∧ (is = true → D.atKey (Lit.string [115, 119, 105, 116, 99, 104]) (.lit (.int .i64 0)) = .lit (.int .i64 0))
theorem Mn.below {w w' : World} {b : Nat} {is : Bool} (h : Mn w b is) (hb : Below w.heap.size w w') : Mn w' b is := by
  obtain ⟨k, D, h1, h2⟩ := h
  exact ⟨k, D, h1.kept (grown_of_below hb none) (by simp), h2⟩
theorem Mn.lt {w : World} {b : Nat} {is : Bool} (h : Mn w b is) : b < w.heap.size := by
  obtain ⟨k, D, h1, h2⟩ := h
  exact h1.lt
theorem f11n (w : World) : Calls Try.prog 11 #[.slice none 0 0] w fun e w' => ∃ b, e = .returned (.map (some b)) ∧ Mn w' b false ∧ Below w.heap.size w w' := by
  have hmm := @run_makeMap Try.prog
  have H : Hid (Mn (w.alloc (.map #[] 0)) w.heap.size false) := Lib.hid ⟨0, .map [], World.ownsMap_made w _ _ _, rfl, fun h => by cases h⟩
  have HB : Hid (Below w.heap.size w (w.alloc (.map #[] 0))) := Lib.hid ((Below.refl _ _).alloc (Nat.le_refl _) _)
  go_enter Try.func11, Try.ntmps11
  go_wp2_with fail
  refine wp_loop_rounds 1 ?_
  rw [rounds_succ]
  go_wp2_with fail
  go_ret
  exact ⟨_, rfl, H.out, HB.out⟩
theorem f11s (w : World) (ob : Nat) (h : w.cell? ⟨ob, 0, none⟩ = some (.string ⟨#[115, 119, 105, 116, 99, 104]⟩)) : Calls Try.prog 11 #[.slice (some ⟨ob, 0, none⟩) 1 1] w fun e w' => ∃ b, e = .returned (.map (some b)) ∧ Mn w' b true ∧ Below w.heap.size w w' := by
  have hmm := @run_makeMap Try.prog
  have HB : Hid (Below w.heap.size w (w.alloc (.map #[] 0))) := Lib.hid ((Below.refl _ _).alloc (Nat.le_refl _) _)
  have h1 := (HB.out.cell (p := ⟨ob, 0, none⟩) (World.block_lt_of_cell? w _ h)).trans h
  have HO3 : Hid ((w.alloc (.map #[] 0)).ownsMap Try.prog 9 (plainElem Try.prog 3) w.heap.size 0 (.map [] : DataW Unit)) := Lib.hid (World.ownsMap_made w _ _ _)
  have HK := Lib.hid (key9 ⟨#[115, 119, 105, 116, 99, 104]⟩ (by decide))
  have hh : Maps.has (DataW.map [] : DataW Unit) (Lit.string [115, 119, 105, 116, 99, 104]) = false := by rfl
  go_enter Try.func11, Try.ntmps11
  go_wp2_with fail
  refine wp_loop_rounds 2 ?_
  rw [rounds_succ]
  go_wp2_with (first | (at_lookup; refine wpList_lookup_own_ok_int _ rfl _ _ 69 rfl 9 3 .i64 law9 Try.underlying69 Try.underlying3 (zero3 _) w.heap.size 0 (.map []) rfl HO3.out _ _ rfl HK.out ?_; intro c hat hwc) | (at_mapUpdate; refine wpList_mapUpdate_own _ rfl _ _ _ 69 rfl 9 3 law9 Try.underlying69 _ w.heap.size 0 (.map []) rfl HO3.out (by unfold maxLen; omega) _ _ _ rfl rfl HK.out _ [] (plainElem_int Try.underlying3 (by decide)) ?_; intro w1 hown1 hgrow1))
  rw [rounds_succ]
  go_wp2_with fail
  go_ret
  exact ⟨_, rfl, ⟨_, _, hown1, by decide, fun _ => by rfl⟩, HB.out.grown hgrow1 HB.out.size (fun j hj => by cases hj; exact Nat.le_refl _)⟩
/-- how target stands: its name's box, its answer's, its three -/
def Tg (w W : World) (A nn : Array Value) : Prop := Bx W w.heap.size A 74 ∧ Bx W (w.heap.size + 1) #[.int .i64 0, .int .i64 0, .int .i64 0] 62 ∧ Bx W (w.heap.size + 2) nn 62 ∧ Below w.heap.size w W
theorem Tg.below {w W W' : World} {A nn : Array Value} (h : Tg w W A nn) (hb : Below W.heap.size W W') : Tg w W' A nn := ⟨h.1.below hb, h.2.1.below hb, h.2.2.1.below hb, h.2.2.2.trans (hb.mono h.2.2.2.size)⟩
theorem Tg.drew {w W : World} {A nn : Array Value} (h : Tg w W A nn) : Tg w W.drew A nn := ⟨h.1, h.2.1, h.2.2.1, h.2.2.2.drew⟩
theorem Bx.frz {W : World} {b t : Nat} {cs : Array Value} (h : Bx W b cs t) (j : Nat) : W.frozen? ⟨b, j, none⟩ = false := frozen_of_row W b j cs t h
theorem tg_start (w : World) (A nn : Array Value) : Tg w (((w.alloc (.cells A 74)).alloc (.cells #[.int .i64 0, .int .i64 0, .int .i64 0] 62)).alloc (.cells nn 62)) A nn := by
  refine ⟨?_, ?_, ?_, ?_⟩
  · exact (Below.heap_alloc _ _ _ (by simp; omega)).trans ((Below.heap_alloc _ _ _ (by simp)).trans (heap_alloc_new w _))
  · have := heap_alloc_new (w.alloc (.cells A 74)) (.cells #[.int .i64 0, .int .i64 0, .int .i64 0] 62)
    simp only [World.size_alloc] at this
    exact (Below.heap_alloc _ _ _ (by simp)).trans this
  · have := heap_alloc_new ((w.alloc (.cells A 74)).alloc (.cells #[.int .i64 0, .int .i64 0, .int .i64 0] 62)) (.cells nn 62)
    simp only [World.size_alloc] at this
    exact this
  · exact (((Below.refl _ w).alloc (Nat.le_refl _) _).alloc (by simp) _).alloc (by simp; omega) _
theorem ans_below {w W : World} (h : Below w.heap.size w W) (a b c : Value) : Below w.heap.size w (((W.setCell ⟨w.heap.size + 1, 0, none⟩ a).setCell ⟨w.heap.size + 1, 1, none⟩ b).setCell ⟨w.heap.size + 1, 2, none⟩ c) :=
  ((h.setCell (by simp) _).setCell (by simp) _).setCell (by simp) _
set_option maxRecDepth 100000 in
set_option maxHeartbeats 8000000 in
theorem f16F (w : World) (mb : Nat) (is : Bool) (h : Mn w mb is) : Calls Try.prog 16 #[.agg #[.string ⟨#[102]⟩, .int .i64 0, .int .i64 0, .int .i64 (-1), .int .i64 (-1), .int .i64 0, .int .i64 (-1), .int .i64 (-1), .int .i64 0, .int .i64 (-1), .bool false, .bool false], .map (some mb)] w fun e w' => e = .returned (.agg #[.int .i64 0, .int .i64 0, .int .i64 (-1)]) ∧ Below w.heap.size w w' := by
  have H17 := Lib.hid f17
  have HM : Hid (∀ W, Below w.heap.size w W → Mn W mb is) := Lib.hid (fun W hW => h.below hW)
  have HT : Hid (Tg w (((w.alloc (.cells #[.string ⟨#[102]⟩, .int .i64 0, .int .i64 0, .int .i64 (-1), .int .i64 (-1), .int .i64 0, .int .i64 (-1), .int .i64 (-1), .int .i64 0, .int .i64 (-1), .bool false, .bool false] 74)).alloc (.cells #[.int .i64 0, .int .i64 0, .int .i64 0] 62)).alloc (.cells #[.int .i64 0, .int .i64 0, .int .i64 (-1), .int .i64 (-1), .int .i64 0, .int .i64 (-1), .int .i64 (-1), .int .i64 0, .int .i64 (-1)] 62)) #[.string ⟨#[102]⟩, .int .i64 0, .int .i64 0, .int .i64 (-1), .int .i64 (-1), .int .i64 0, .int .i64 (-1), .int .i64 (-1), .int .i64 0, .int .i64 (-1), .bool false, .bool false] #[.int .i64 0, .int .i64 0, .int .i64 (-1), .int .i64 (-1), .int .i64 0, .int .i64 (-1), .int .i64 (-1), .int .i64 0, .int .i64 (-1)]) := Lib.hid (tg_start w _ _)
  clear h
  go_enter Try.func16, Try.ntmps16
  go_wp2_with fail
  refine wp_loop_rounds 4 ?_
  generalize (((w.alloc (.cells #[.string ⟨#[102]⟩, .int .i64 0, .int .i64 0, .int .i64 (-1), .int .i64 (-1), .int .i64 0, .int .i64 (-1), .int .i64 (-1), .int .i64 0, .int .i64 (-1), .bool false, .bool false] 74)).alloc (.cells #[.int .i64 0, .int .i64 0, .int .i64 0] 62)).alloc (.cells #[.int .i64 0, .int .i64 0, .int .i64 (-1), .int .i64 (-1), .int .i64 0, .int .i64 (-1), .int .i64 (-1), .int .i64 0, .int .i64 (-1)] 62)) = W0 at *
  rw [rounds_succ]
  have n0 := HT.out.2.2.1.cell 0
  have n1 := HT.out.2.2.1.cell 1
  have n2 := HT.out.2.2.1.cell 2
  simp at n0 n1 n2
  have HX : Hid (Bx (W0.alloc (.cells #[.int .i64 0, .int .i64 0, .int .i64 (-1)] 62)) W0.heap.size #[.int .i64 0, .int .i64 0, .int .i64 (-1)] 62) := Lib.hid (heap_alloc_new W0 _)
  have HTA := Lib.hid (HT.out.below ((Below.refl _ _).alloc (Nat.le_refl _) (.cells #[.int .i64 0, .int .i64 0, .int .i64 (-1)] 62)))
  go_wp2_with fail
  have HI : Hid ((W0.alloc (.cells #[.int .i64 0, .int .i64 0, .int .i64 (-1)] 62)).drew.cell? ⟨W0.heap.size, 0, none⟩ = some (.int .i64 0) ∧ (W0.alloc (.cells #[.int .i64 0, .int .i64 0, .int .i64 (-1)] 62)).drew.cell? ⟨W0.heap.size, 1, none⟩ = some (.int .i64 0) ∧ (W0.alloc (.cells #[.int .i64 0, .int .i64 0, .int .i64 (-1)] 62)).drew.cell? ⟨W0.heap.size, 2, none⟩ = some (.int .i64 (-1))) := Lib.hid ⟨HX.out.cell 0, HX.out.cell 1, HX.out.cell 2⟩
  go_region_held3 (fun W => W.cell? ⟨W0.heap.size, 0, none⟩ = some (.int .i64 0) ∧ W.cell? ⟨W0.heap.size, 1, none⟩ = some (.int .i64 0) ∧ W.cell? ⟨W0.heap.size, 2, none⟩ = some (.int .i64 (-1)))
    (first | assumption | exact HI.out)
    (first | (go_at_call 17; (with_reducible refine (H17.out _).mono ?_); rintro _ w6 ⟨rfl, hb6⟩; have HX6 : Bx w6 W0.heap.size #[.int .i64 0, .int .i64 0, .int .i64 (-1)] 62 := Bx.below (W := (W0.alloc (.cells #[.int .i64 0, .int .i64 0, .int .i64 (-1)] 62)).drew) HX.out hb6; have HS6 : w6.cell? ⟨W0.heap.size, 0, none⟩ = some (.int .i64 0) ∧ w6.cell? ⟨W0.heap.size, 1, none⟩ = some (.int .i64 0) ∧ w6.cell? ⟨W0.heap.size, 2, none⟩ = some (.int .i64 (-1)) := ⟨HX6.cell 0, HX6.cell 1, HX6.cell 2⟩))
  have HT := Lib.hid (Tg.below (HTA.out.drew) hb6)
  have HX := Lib.hid HX6
  rename_i hHeld
  clear hHeld HI HX6 hb6 n0 n1 n2
  have a0 := HX.out.cell 0
  have a1 := HX.out.cell 1
  have a2 := HX.out.cell 2
  simp at a0 a1 a2
  have r0 := HT.out.2.1.cell 0
  have r1 := HT.out.2.1.cell 1
  have r2 := HT.out.2.1.cell 2
  simp at r0 r1 r2
  have z0 := HT.out.2.1.frz 0
  have z1 := HT.out.2.1.frz 1
  have z2 := HT.out.2.1.frz 2
  clear HS6
  go_wp2_with fail
  exact bodyPost_ret (v := .agg #[.int .i64 0, .int .i64 0, .int .i64 (-1)]) (by simp [results, Try.results16, go_sem, r0, r1, r2]) rfl ⟨rfl, ans_below HT.out.2.2.2 _ _ _⟩
set_option maxRecDepth 100000 in
set_option maxHeartbeats 8000000 in
theorem f16S (w : World) (mb : Nat) (is : Bool) (h : Mn w mb is) : Calls Try.prog 16 #[.agg #[.string ⟨#[115, 119, 105, 116, 99, 104]⟩, .int .i64 (-1), .int .i64 0, .int .i64 (-1), .int .i64 (-1), .int .i64 0, .int .i64 (-1), .int .i64 (-1), .int .i64 0, .int .i64 (-1), .bool false, .bool true], .map (some mb)] w fun e w' => e = .returned (if is = true then .agg #[.int .i64 (-1), .int .i64 0, .int .i64 0] else noT) ∧ Below w.heap.size w w' := by
  have H17 := Lib.hid f17
  have HM : Hid (∀ W, Below w.heap.size w W → Mn W mb is) := Lib.hid (fun W hW => h.below hW)
  have HT : Hid (Tg w (((w.alloc (.cells #[.string ⟨#[115, 119, 105, 116, 99, 104]⟩, .int .i64 (-1), .int .i64 0, .int .i64 (-1), .int .i64 (-1), .int .i64 0, .int .i64 (-1), .int .i64 (-1), .int .i64 0, .int .i64 (-1), .bool false, .bool true] 74)).alloc (.cells #[.int .i64 0, .int .i64 0, .int .i64 0] 62)).alloc (.cells #[.int .i64 (-1), .int .i64 0, .int .i64 (-1), .int .i64 (-1), .int .i64 0, .int .i64 (-1), .int .i64 (-1), .int .i64 0, .int .i64 (-1)] 62)) #[.string ⟨#[115, 119, 105, 116, 99, 104]⟩, .int .i64 (-1), .int .i64 0, .int .i64 (-1), .int .i64 (-1), .int .i64 0, .int .i64 (-1), .int .i64 (-1), .int .i64 0, .int .i64 (-1), .bool false, .bool true] #[.int .i64 (-1), .int .i64 0, .int .i64 (-1), .int .i64 (-1), .int .i64 0, .int .i64 (-1), .int .i64 (-1), .int .i64 0, .int .i64 (-1)]) := Lib.hid (tg_start w _ _)
  clear h
  go_enter Try.func16, Try.ntmps16
  go_wp2_with fail
  refine wp_loop_rounds 4 ?_
  generalize (((w.alloc (.cells #[.string ⟨#[115, 119, 105, 116, 99, 104]⟩, .int .i64 (-1), .int .i64 0, .int .i64 (-1), .int .i64 (-1), .int .i64 0, .int .i64 (-1), .int .i64 (-1), .int .i64 0, .int .i64 (-1), .bool false, .bool true] 74)).alloc (.cells #[.int .i64 0, .int .i64 0, .int .i64 0] 62)).alloc (.cells #[.int .i64 (-1), .int .i64 0, .int .i64 (-1), .int .i64 (-1), .int .i64 0, .int .i64 (-1), .int .i64 (-1), .int .i64 0, .int .i64 (-1)] 62)) = W0 at *
  rw [rounds_succ]
  have n0 := HT.out.2.2.1.cell 0
  have n1 := HT.out.2.2.1.cell 1
  have n2 := HT.out.2.2.1.cell 2
  simp at n0 n1 n2
  have HX : Hid (Bx (W0.alloc (.cells #[.int .i64 (-1), .int .i64 0, .int .i64 (-1)] 62)) W0.heap.size #[.int .i64 (-1), .int .i64 0, .int .i64 (-1)] 62) := Lib.hid (heap_alloc_new W0 _)
  have HTA := Lib.hid (HT.out.below ((Below.refl _ _).alloc (Nat.le_refl _) (.cells #[.int .i64 (-1), .int .i64 0, .int .i64 (-1)] 62)))
  go_wp2_with fail
  have HI : Hid ((W0.alloc (.cells #[.int .i64 (-1), .int .i64 0, .int .i64 (-1)] 62)).drew.cell? ⟨W0.heap.size, 0, none⟩ = some (.int .i64 (-1)) ∧ (W0.alloc (.cells #[.int .i64 (-1), .int .i64 0, .int .i64 (-1)] 62)).drew.cell? ⟨W0.heap.size, 1, none⟩ = some (.int .i64 0) ∧ (W0.alloc (.cells #[.int .i64 (-1), .int .i64 0, .int .i64 (-1)] 62)).drew.cell? ⟨W0.heap.size, 2, none⟩ = some (.int .i64 (-1))) := Lib.hid ⟨HX.out.cell 0, HX.out.cell 1, HX.out.cell 2⟩
  go_region_held3 (fun W => W.cell? ⟨W0.heap.size, 0, none⟩ = some (.int .i64 (-1)) ∧ W.cell? ⟨W0.heap.size, 1, none⟩ = some (.int .i64 0) ∧ W.cell? ⟨W0.heap.size, 2, none⟩ = some (.int .i64 (-1)))
    (first | assumption | exact HI.out)
    (first | (go_at_call 17; (with_reducible refine (H17.out _).mono ?_); rintro _ w6 ⟨rfl, hb6⟩; have HX6 : Bx w6 W0.heap.size #[.int .i64 (-1), .int .i64 0, .int .i64 (-1)] 62 := Bx.below (W := (W0.alloc (.cells #[.int .i64 (-1), .int .i64 0, .int .i64 (-1)] 62)).drew) HX.out hb6; have HS6 : w6.cell? ⟨W0.heap.size, 0, none⟩ = some (.int .i64 (-1)) ∧ w6.cell? ⟨W0.heap.size, 1, none⟩ = some (.int .i64 0) ∧ w6.cell? ⟨W0.heap.size, 2, none⟩ = some (.int .i64 (-1)) := ⟨HX6.cell 0, HX6.cell 1, HX6.cell 2⟩))
  have HT := Lib.hid (Tg.below (HTA.out.drew) hb6)
  have HX := Lib.hid HX6
  rename_i hHeld
  clear hHeld HI HX6 hb6 n0 n1 n2
  clear HS6 HTA HX
  go_wp2_with fail
  generalize w6 = W1 at *
  rw [rounds_succ]
  have n0 := HT.out.2.2.1.cell 3
  have n1 := HT.out.2.2.1.cell 4
  have n2 := HT.out.2.2.1.cell 5
  simp at n0 n1 n2
  have HX : Hid (Bx (W1.alloc (.cells #[.int .i64 (-1), .int .i64 0, .int .i64 (-1)] 62)) W1.heap.size #[.int .i64 (-1), .int .i64 0, .int .i64 (-1)] 62) := Lib.hid (heap_alloc_new W1 _)
  have HTA := Lib.hid (HT.out.below ((Below.refl _ _).alloc (Nat.le_refl _) (.cells #[.int .i64 (-1), .int .i64 0, .int .i64 (-1)] 62)))
  go_wp2_with fail
  have HI : Hid ((W1.alloc (.cells #[.int .i64 (-1), .int .i64 0, .int .i64 (-1)] 62)).drew.cell? ⟨W1.heap.size, 0, none⟩ = some (.int .i64 (-1)) ∧ (W1.alloc (.cells #[.int .i64 (-1), .int .i64 0, .int .i64 (-1)] 62)).drew.cell? ⟨W1.heap.size, 1, none⟩ = some (.int .i64 0) ∧ (W1.alloc (.cells #[.int .i64 (-1), .int .i64 0, .int .i64 (-1)] 62)).drew.cell? ⟨W1.heap.size, 2, none⟩ = some (.int .i64 (-1))) := Lib.hid ⟨HX.out.cell 0, HX.out.cell 1, HX.out.cell 2⟩
  go_region_held3 (fun W => W.cell? ⟨W1.heap.size, 0, none⟩ = some (.int .i64 (-1)) ∧ W.cell? ⟨W1.heap.size, 1, none⟩ = some (.int .i64 0) ∧ W.cell? ⟨W1.heap.size, 2, none⟩ = some (.int .i64 (-1)))
    (first | assumption | exact HI.out)
    (first | (go_at_call 17; (with_reducible refine (H17.out _).mono ?_); rintro _ w6 ⟨rfl, hb6⟩; have HX6 : Bx w6 W1.heap.size #[.int .i64 (-1), .int .i64 0, .int .i64 (-1)] 62 := Bx.below (W := (W1.alloc (.cells #[.int .i64 (-1), .int .i64 0, .int .i64 (-1)] 62)).drew) HX.out hb6; have HS6 : w6.cell? ⟨W1.heap.size, 0, none⟩ = some (.int .i64 (-1)) ∧ w6.cell? ⟨W1.heap.size, 1, none⟩ = some (.int .i64 0) ∧ w6.cell? ⟨W1.heap.size, 2, none⟩ = some (.int .i64 (-1)) := ⟨HX6.cell 0, HX6.cell 1, HX6.cell 2⟩))
  have HT := Lib.hid (Tg.below (HTA.out.drew) hb6)
  have HX := Lib.hid HX6
  rename_i hHeld
  clear hHeld HI HX6 hb6 n0 n1 n2
  clear HS6 HTA HX
  go_wp2_with fail
  generalize w6 = W2 at *
  rw [rounds_succ]
  have n0 := HT.out.2.2.1.cell 6
  have n1 := HT.out.2.2.1.cell 7
  have n2 := HT.out.2.2.1.cell 8
  simp at n0 n1 n2
  have HX : Hid (Bx (W2.alloc (.cells #[.int .i64 (-1), .int .i64 0, .int .i64 (-1)] 62)) W2.heap.size #[.int .i64 (-1), .int .i64 0, .int .i64 (-1)] 62) := Lib.hid (heap_alloc_new W2 _)
  have HTA := Lib.hid (HT.out.below ((Below.refl _ _).alloc (Nat.le_refl _) (.cells #[.int .i64 (-1), .int .i64 0, .int .i64 (-1)] 62)))
  go_wp2_with fail
  have HI : Hid ((W2.alloc (.cells #[.int .i64 (-1), .int .i64 0, .int .i64 (-1)] 62)).drew.cell? ⟨W2.heap.size, 0, none⟩ = some (.int .i64 (-1)) ∧ (W2.alloc (.cells #[.int .i64 (-1), .int .i64 0, .int .i64 (-1)] 62)).drew.cell? ⟨W2.heap.size, 1, none⟩ = some (.int .i64 0) ∧ (W2.alloc (.cells #[.int .i64 (-1), .int .i64 0, .int .i64 (-1)] 62)).drew.cell? ⟨W2.heap.size, 2, none⟩ = some (.int .i64 (-1))) := Lib.hid ⟨HX.out.cell 0, HX.out.cell 1, HX.out.cell 2⟩
  go_region_held3 (fun W => W.cell? ⟨W2.heap.size, 0, none⟩ = some (.int .i64 (-1)) ∧ W.cell? ⟨W2.heap.size, 1, none⟩ = some (.int .i64 0) ∧ W.cell? ⟨W2.heap.size, 2, none⟩ = some (.int .i64 (-1)))
    (first | assumption | exact HI.out)
    (first | (go_at_call 17; (with_reducible refine (H17.out _).mono ?_); rintro _ w6 ⟨rfl, hb6⟩; have HX6 : Bx w6 W2.heap.size #[.int .i64 (-1), .int .i64 0, .int .i64 (-1)] 62 := Bx.below (W := (W2.alloc (.cells #[.int .i64 (-1), .int .i64 0, .int .i64 (-1)] 62)).drew) HX.out hb6; have HS6 : w6.cell? ⟨W2.heap.size, 0, none⟩ = some (.int .i64 (-1)) ∧ w6.cell? ⟨W2.heap.size, 1, none⟩ = some (.int .i64 0) ∧ w6.cell? ⟨W2.heap.size, 2, none⟩ = some (.int .i64 (-1)) := ⟨HX6.cell 0, HX6.cell 1, HX6.cell 2⟩))
  have HT := Lib.hid (Tg.below (HTA.out.drew) hb6)
  have HX := Lib.hid HX6
  rename_i hHeld
  clear hHeld HI HX6 hb6 n0 n1 n2
  clear HS6 HTA HX
  go_wp2_with fail
  generalize w6 = W3 at *
  rw [rounds_succ]
  obtain ⟨k, D, ho, hh, hat0⟩ := HM.out _ HT.out.2.2.2
  have HO := Lib.hid ho
  have HK := Lib.hid (key9 ⟨#[115, 119, 105, 116, 99, 104]⟩ (by decide))
  have HAT := Lib.hid hat0
  have q0 := HT.out.1.cell 0
  simp at q0
  have r0 := HT.out.2.1.cell 0
  have r1 := HT.out.2.1.cell 1
  have r2 := HT.out.2.1.cell 2
  simp at r0 r1 r2
  have z0 := HT.out.2.1.frz 0
  have z1 := HT.out.2.1.frz 1
  have z2 := HT.out.2.1.frz 2
  clear ho hat0
  cases is
  · go_wp2_with (at_lookup; refine wpList_lookup_own_ok_int _ rfl _ _ 69 rfl 9 3 .i64 law9 Try.underlying69 Try.underlying3 (zero3 _) mb k D rfl HO.out _ _ rfl HK.out ?_; intro c hat hwc)
    with_reducible refine (H17.out _).mono ?_
    rintro _ w7 ⟨rfl, hb7⟩
    have HT7 := Lib.hid (HT.out.below hb7)
    have r0 := HT7.out.2.1.cell 0
    have r1 := HT7.out.2.1.cell 1
    have r2 := HT7.out.2.1.cell 2
    simp at r0 r1 r2
    have z0 := HT7.out.2.1.frz 0
    have z1 := HT7.out.2.1.frz 1
    have z2 := HT7.out.2.1.frz 2
    go_wp2_with fail
    exact bodyPost_ret (v := noT) (by simp [results, Try.results16, go_sem, r0, r1, r2]) rfl ⟨by rfl, ans_below HT7.out.2.2.2 _ _ _⟩
  · go_wp2_with (at_lookup; refine wpList_lookup_own_ok_int _ rfl _ _ 69 rfl 9 3 .i64 law9 Try.underlying69 Try.underlying3 (zero3 _) mb k D rfl HO.out _ _ rfl HK.out ?_; intro c hat hwc; obtain rfl : c = 0 := by (have hq := (HAT.out rfl).symm.trans hat; cases hq; rfl))
    exact bodyPost_ret (v := .agg #[.int .i64 (-1), .int .i64 0, .int .i64 0]) (by simp [results, Try.results16, go_sem, r0, r1, r2]) rfl ⟨by rfl, ans_below HT.out.2.2.2 _ _ _⟩
end Go.Proofs.Ytbbcljffcjhiaaa
