import Derived.Test.YtmanoheofloimaaGreatDoorRoz
namespace Go.Proofs.YtmanoheofloimaaGreatDoor
open Go.ChangeShapes Go.WideShapes Go.ChangeAt Go.RowKit
set_option linter.unusedVariables false
set_option maxRecDepth 100000
theorem getD_tf {l : Array Bool} {i : Nat} (h : l.getD i true = false) : l.getD i false = false := by
  rw [Array.getD_eq_getD_getElem?] at h ⊢
  cases hq : l[i]? with
  | none => rfl
  | some v => rw [hq] at h; exact h
set_option maxHeartbeats 2000000 in
theorem step3 {x rb b rd B : Nat} {SL NL DL : List Value} {tm : Bool} {y : Int} {MA RA : Array Value} {M : Nat → Nat} {G : Nat → Bool} {w0 : World} (hB : B ≤ w0.heap.size) (hx : x < B) (hrb : rb < B) (hb : b < B)
    (hM0 : MA[0]? = some (P b 0)) (hMS : ∀ j v, SL[j]? = some v → MA[1 + j]? = some v) (hSI : (Tryz.prog.info? 34).map (·.size) = some SL.length) (hR0 : RA[0]? = some (.bool tm)) (hR1 : RA[1]? = some (.int .u32 y))
    (hNL : NL.length = 151) (hDL : DL.length = 5) (hN1 : NL.toArray.all (·.oneCell') = true) (hD1 : DL.toArray.all (·.oneCell') = true)
    (KC : ∀ W, Mem W b M G → Calls Tryz.prog 11 #[P b 0, .agg SL.toArray, .bool tm, .int .u32 y] W fun e w' => e = .returned (.tuple #[.agg NL.toArray, .agg DL.toArray, .int .i64 0]) ∧ Below W.heap.size W w')
    (a : Act) (w : World) (Q : Exit → Act → World → Prop) (h0 : J3 x rb b rd B SL NL DL tm y MA RA M G w0 (Array.replicate O3.size false) a w.drew) (hQ : ∀ l' a' w', (∀ i, i < 22 → l'.getD i false = true) → J3 x rb b rd B SL NL DL tm y MA RA M G w0 l' a' w' → Q .normal a' w') :
    (Code.region 3 O3 true).wp Tryz.prog Q a w := by
  refine wp_region_inv (by kernel_rfl) (J3 x rb b rd B SL NL DL tm y MA RA M G w0) h0 ?_ ?_
  · intro l a w i hsz hi h
    have hsz : l.size = 22 := hsz
    obtain ⟨hun, op, hop, hpre⟩ := mem_ready.1 hi
    have hi22 : i < 22 := (Array.getElem?_eq_some_iff.1 hop).1
    clear hi
    have : i = 0 ∨ i = 1 ∨ i = 2 ∨ i = 3 ∨ i = 4 ∨ i = 5 ∨ i = 6 ∨ i = 7 ∨ i = 8 ∨ i = 9 ∨ i = 10 ∨ i = 11 ∨ i = 12 ∨ i = 13 ∨ i = 14 ∨ i = 15 ∨ i = 16 ∨ i = 17 ∨ i = 18 ∨ i = 19 ∨ i = 20 ∨ i = 21 := by omega
    rcases this with rfl | rfl | rfl | rfl | rfl | rfl | rfl | rfl | rfl | rfl | rfl | rfl | rfl | rfl | rfl | rfl | rfl | rfl | rfl | rfl | rfl | rfl
    · exact wpOp_of rfl rfl (wp_move (.tmp 0) rfl _ (h.fx (0, P x 0) (by simp [F3])) (h.pure hsz 0 14 _ (by decide) (by decide) rfl (by intro e he hd; simp only [T3, List.mem_cons, List.not_mem_nil, or_false] at he; rcases he with rfl | rfl | rfl | rfl | rfl | rfl | rfl | rfl | rfl | rfl | rfl | rfl | rfl | rfl | rfl | rfl | rfl | rfl <;> first | rfl | (exact absurd hd (by simp))) (by intro e he hd; simp only [T3, List.mem_cons, List.not_mem_nil, or_false] at he; rcases he with rfl | rfl | rfl | rfl | rfl | rfl | rfl | rfl | rfl | rfl | rfl | rfl | rfl | rfl | rfl | rfl | rfl | rfl <;> first | rfl | (exact absurd hd (by simp))) (by decide)))
    · have q0 : l.getD 0 false = true := by
        cases hop
        exact hpre ⟨0, .data⟩ (Array.mem_of_getElem? (i := 0) rfl) rfl
      exact wpOp_of rfl rfl (wp_nil (.tmp 14) rfl _ (h.tv (0, 14, P x 0) (by simp [T3]) q0) (h.pure hsz 1 15 _ (by decide) (by decide) rfl (by intro e he hd; simp only [T3, List.mem_cons, List.not_mem_nil, or_false] at he; rcases he with rfl | rfl | rfl | rfl | rfl | rfl | rfl | rfl | rfl | rfl | rfl | rfl | rfl | rfl | rfl | rfl | rfl | rfl <;> first | rfl | (exact absurd hd (by simp))) (by intro e he hd; simp only [T3, List.mem_cons, List.not_mem_nil, or_false] at he; rcases he with rfl | rfl | rfl | rfl | rfl | rfl | rfl | rfl | rfl | rfl | rfl | rfl | rfl | rfl | rfl | rfl | rfl | rfl <;> first | rfl | (exact absurd hd (by simp))) (by decide)))
    · have q1 : l.getD 1 false = true := by
        cases hop
        exact hpre ⟨1, .data⟩ (Array.mem_of_getElem? (i := 0) rfl) rfl
      exact wpOp_of rfl rfl (wp_fa 36 (.tmp 15) 0 0 rfl x 0 0 (h.tv (1, 15, P x 0) (by simp [T3]) q1) (fun W => by kernel_rfl) (h.pure hsz 2 16 _ (by decide) (by decide) rfl (by intro e he hd; simp only [T3, List.mem_cons, List.not_mem_nil, or_false] at he; rcases he with rfl | rfl | rfl | rfl | rfl | rfl | rfl | rfl | rfl | rfl | rfl | rfl | rfl | rfl | rfl | rfl | rfl | rfl <;> first | rfl | (exact absurd hd (by simp))) (by intro e he hd; simp only [T3, List.mem_cons, List.not_mem_nil, or_false] at he; rcases he with rfl | rfl | rfl | rfl | rfl | rfl | rfl | rfl | rfl | rfl | rfl | rfl | rfl | rfl | rfl | rfl | rfl | rfl <;> first | rfl | (exact absurd hd (by simp))) (by decide)))
    · have q2 : l.getD 2 false = true := by
        cases hop
        exact hpre ⟨2, .data⟩ (Array.mem_of_getElem? (i := 0) rfl) rfl
      exact wpOp_of rfl rfl (wp_ld 26 (.tmp 16) rfl _ _ (h.tv (2, 16, P x 0) (by simp [T3]) q2) (fun W => by kernel_rfl) (by rw [h.mx.cell]; exact hM0) (h.pure hsz 3 17 _ (by decide) (by decide) rfl (by intro e he hd; simp only [T3, List.mem_cons, List.not_mem_nil, or_false] at he; rcases he with rfl | rfl | rfl | rfl | rfl | rfl | rfl | rfl | rfl | rfl | rfl | rfl | rfl | rfl | rfl | rfl | rfl | rfl <;> first | rfl | (exact absurd hd (by simp))) (by intro e he hd; simp only [T3, List.mem_cons, List.not_mem_nil, or_false] at he; rcases he with rfl | rfl | rfl | rfl | rfl | rfl | rfl | rfl | rfl | rfl | rfl | rfl | rfl | rfl | rfl | rfl | rfl | rfl <;> first | rfl | (exact absurd hd (by simp))) (by decide)))
    · exact wpOp_of rfl rfl (wp_move (.tmp 0) rfl _ (h.fx (0, P x 0) (by simp [F3])) (h.pure hsz 4 18 _ (by decide) (by decide) rfl (by intro e he hd; simp only [T3, List.mem_cons, List.not_mem_nil, or_false] at he; rcases he with rfl | rfl | rfl | rfl | rfl | rfl | rfl | rfl | rfl | rfl | rfl | rfl | rfl | rfl | rfl | rfl | rfl | rfl <;> first | rfl | (exact absurd hd (by simp))) (by intro e he hd; simp only [T3, List.mem_cons, List.not_mem_nil, or_false] at he; rcases he with rfl | rfl | rfl | rfl | rfl | rfl | rfl | rfl | rfl | rfl | rfl | rfl | rfl | rfl | rfl | rfl | rfl | rfl <;> first | rfl | (exact absurd hd (by simp))) (by decide)))
    · have q4 : l.getD 4 false = true := by
        cases hop
        exact hpre ⟨4, .data⟩ (Array.mem_of_getElem? (i := 0) rfl) rfl
      exact wpOp_of rfl rfl (wp_nil (.tmp 18) rfl _ (h.tv (4, 18, P x 0) (by simp [T3]) q4) (h.pure hsz 5 19 _ (by decide) (by decide) rfl (by intro e he hd; simp only [T3, List.mem_cons, List.not_mem_nil, or_false] at he; rcases he with rfl | rfl | rfl | rfl | rfl | rfl | rfl | rfl | rfl | rfl | rfl | rfl | rfl | rfl | rfl | rfl | rfl | rfl <;> first | rfl | (exact absurd hd (by simp))) (by intro e he hd; simp only [T3, List.mem_cons, List.not_mem_nil, or_false] at he; rcases he with rfl | rfl | rfl | rfl | rfl | rfl | rfl | rfl | rfl | rfl | rfl | rfl | rfl | rfl | rfl | rfl | rfl | rfl <;> first | rfl | (exact absurd hd (by simp))) (by decide)))
    · have q5 : l.getD 5 false = true := by
        cases hop
        exact hpre ⟨5, .data⟩ (Array.mem_of_getElem? (i := 0) rfl) rfl
      exact wpOp_of rfl rfl (wp_fa 36 (.tmp 19) 1 0 rfl x 0 1 (h.tv (5, 19, P x 0) (by simp [T3]) q5) (fun W => by kernel_rfl) (h.pure hsz 6 20 _ (by decide) (by decide) rfl (by intro e he hd; simp only [T3, List.mem_cons, List.not_mem_nil, or_false] at he; rcases he with rfl | rfl | rfl | rfl | rfl | rfl | rfl | rfl | rfl | rfl | rfl | rfl | rfl | rfl | rfl | rfl | rfl | rfl <;> first | rfl | (exact absurd hd (by simp))) (by intro e he hd; simp only [T3, List.mem_cons, List.not_mem_nil, or_false] at he; rcases he with rfl | rfl | rfl | rfl | rfl | rfl | rfl | rfl | rfl | rfl | rfl | rfl | rfl | rfl | rfl | rfl | rfl | rfl <;> first | rfl | (exact absurd hd (by simp))) (by decide)))
    · have q6 : l.getD 6 false = true := by
        cases hop
        exact hpre ⟨6, .data⟩ (Array.mem_of_getElem? (i := 0) rfl) rfl
      exact wpOp_of rfl rfl (wp_load_sub 34 (.tmp 20) rfl x 1 (h.tv (6, 20, P x 1) (by simp [T3]) q6) 36 MA SL (0, 0) _ h.mx hMS Tryz.underlying34 rfl hSI (h.pure hsz 7 21 _ (by decide) (by decide) rfl (by intro e he hd; simp only [T3, List.mem_cons, List.not_mem_nil, or_false] at he; rcases he with rfl | rfl | rfl | rfl | rfl | rfl | rfl | rfl | rfl | rfl | rfl | rfl | rfl | rfl | rfl | rfl | rfl | rfl <;> first | rfl | (exact absurd hd (by simp))) (by intro e he hd; simp only [T3, List.mem_cons, List.not_mem_nil, or_false] at he; rcases he with rfl | rfl | rfl | rfl | rfl | rfl | rfl | rfl | rfl | rfl | rfl | rfl | rfl | rfl | rfl | rfl | rfl | rfl <;> first | rfl | (exact absurd hd (by simp))) (by decide)))
    · exact wpOp_of rfl rfl (wp_fa 24 (.tmp 3) 0 0 rfl rb 0 0 (h.fx (3, P rb 0) (by simp [F3])) (fun W => by kernel_rfl) (h.pure hsz 8 22 _ (by decide) (by decide) rfl (by intro e he hd; simp only [T3, List.mem_cons, List.not_mem_nil, or_false] at he; rcases he with rfl | rfl | rfl | rfl | rfl | rfl | rfl | rfl | rfl | rfl | rfl | rfl | rfl | rfl | rfl | rfl | rfl | rfl <;> first | rfl | (exact absurd hd (by simp))) (by intro e he hd; simp only [T3, List.mem_cons, List.not_mem_nil, or_false] at he; rcases he with rfl | rfl | rfl | rfl | rfl | rfl | rfl | rfl | rfl | rfl | rfl | rfl | rfl | rfl | rfl | rfl | rfl | rfl <;> first | rfl | (exact absurd hd (by simp))) (by decide)))
    · have q8 : l.getD 8 false = true := by
        cases hop
        exact hpre ⟨8, .data⟩ (Array.mem_of_getElem? (i := 0) rfl) rfl
      exact wpOp_of rfl rfl (wp_ld 4 (.tmp 22) rfl _ _ (h.tv (8, 22, P rb 0) (by simp [T3]) q8) (fun W => by kernel_rfl) (by rw [h.mr.cell]; exact hR0) (h.pure hsz 9 23 _ (by decide) (by decide) rfl (by intro e he hd; simp only [T3, List.mem_cons, List.not_mem_nil, or_false] at he; rcases he with rfl | rfl | rfl | rfl | rfl | rfl | rfl | rfl | rfl | rfl | rfl | rfl | rfl | rfl | rfl | rfl | rfl | rfl <;> first | rfl | (exact absurd hd (by simp))) (by intro e he hd; simp only [T3, List.mem_cons, List.not_mem_nil, or_false] at he; rcases he with rfl | rfl | rfl | rfl | rfl | rfl | rfl | rfl | rfl | rfl | rfl | rfl | rfl | rfl | rfl | rfl | rfl | rfl <;> first | rfl | (exact absurd hd (by simp))) (by decide)))
    · exact wpOp_of rfl rfl (wp_fa 24 (.tmp 3) 1 0 rfl rb 0 1 (h.fx (3, P rb 0) (by simp [F3])) (fun W => by kernel_rfl) (h.pure hsz 10 24 _ (by decide) (by decide) rfl (by intro e he hd; simp only [T3, List.mem_cons, List.not_mem_nil, or_false] at he; rcases he with rfl | rfl | rfl | rfl | rfl | rfl | rfl | rfl | rfl | rfl | rfl | rfl | rfl | rfl | rfl | rfl | rfl | rfl <;> first | rfl | (exact absurd hd (by simp))) (by intro e he hd; simp only [T3, List.mem_cons, List.not_mem_nil, or_false] at he; rcases he with rfl | rfl | rfl | rfl | rfl | rfl | rfl | rfl | rfl | rfl | rfl | rfl | rfl | rfl | rfl | rfl | rfl | rfl <;> first | rfl | (exact absurd hd (by simp))) (by decide)))
    · have q10 : l.getD 10 false = true := by
        cases hop
        exact hpre ⟨10, .data⟩ (Array.mem_of_getElem? (i := 0) rfl) rfl
      exact wpOp_of rfl rfl (wp_ld 22 (.tmp 24) rfl _ _ (h.tv (10, 24, P rb 1) (by simp [T3]) q10) (fun W => by kernel_rfl) (by rw [h.mr.cell]; exact hR1) (h.pure hsz 11 25 _ (by decide) (by decide) rfl (by intro e he hd; simp only [T3, List.mem_cons, List.not_mem_nil, or_false] at he; rcases he with rfl | rfl | rfl | rfl | rfl | rfl | rfl | rfl | rfl | rfl | rfl | rfl | rfl | rfl | rfl | rfl | rfl | rfl <;> first | rfl | (exact absurd hd (by simp))) (by intro e he hd; simp only [T3, List.mem_cons, List.not_mem_nil, or_false] at he; rcases he with rfl | rfl | rfl | rfl | rfl | rfl | rfl | rfl | rfl | rfl | rfl | rfl | rfl | rfl | rfl | rfl | rfl | rfl <;> first | rfl | (exact absurd hd (by simp))) (by decide)))
    · have q3 : l.getD 3 false = true := by
        cases hop
        exact hpre ⟨3, .data⟩ (Array.mem_of_getElem? (i := 0) rfl) rfl
      have q7 : l.getD 7 false = true := by
        cases hop
        exact hpre ⟨7, .data⟩ (Array.mem_of_getElem? (i := 1) rfl) rfl
      have q9 : l.getD 9 false = true := by
        cases hop
        exact hpre ⟨9, .data⟩ (Array.mem_of_getElem? (i := 2) rfl) rfl
      have q11 : l.getD 11 false = true := by
        cases hop
        exact hpre ⟨11, .data⟩ (Array.mem_of_getElem? (i := 3) rfl) rfl
      refine wpOp_of rfl rfl (wp_call4 11 (.tmp 17) (.tmp 21) (.tmp 23) (.tmp 25) 26 34 4 22 rfl _ _ _ _ (h.tv (3, 17, P b 0) (by simp [T3]) q3) (h.tv (7, 21, .agg SL.toArray) (by simp [T3]) q7) (h.tv (9, 23, .bool tm) (by simp [T3]) q9) (h.tv (11, 25, .int .u32 y) (by simp [T3]) q11) (fun W => by kernel_rfl) ((KC w h.mm).mono ?_))
      rintro _ w' ⟨rfl, hbw⟩
      exact (h.world hbw hB).pure hsz 12 26 _ (by decide) (by decide) rfl (by intro e he hd; simp only [T3, List.mem_cons, List.not_mem_nil, or_false] at he; rcases he with rfl | rfl | rfl | rfl | rfl | rfl | rfl | rfl | rfl | rfl | rfl | rfl | rfl | rfl | rfl | rfl | rfl | rfl <;> first | rfl | (exact absurd hd (by simp))) (by intro e he hd; simp only [T3, List.mem_cons, List.not_mem_nil, or_false] at he; rcases he with rfl | rfl | rfl | rfl | rfl | rfl | rfl | rfl | rfl | rfl | rfl | rfl | rfl | rfl | rfl | rfl | rfl | rfl <;> first | rfl | (exact absurd hd (by simp))) (by decide)
    · have q12 : l.getD 12 false = true := by
        cases hop
        exact hpre ⟨12, .data⟩ (Array.mem_of_getElem? (i := 0) rfl) rfl
      exact wpOp_of rfl rfl (wp_move (.tmp 26) rfl _ (h.tv (12, 26, .tuple #[.agg NL.toArray, .agg DL.toArray, .int .i64 0]) (by simp [T3]) q12) (h.pure hsz 13 13 _ (by decide) (by decide) rfl (by intro e he hd; simp only [T3, List.mem_cons, List.not_mem_nil, or_false] at he; rcases he with rfl | rfl | rfl | rfl | rfl | rfl | rfl | rfl | rfl | rfl | rfl | rfl | rfl | rfl | rfl | rfl | rfl | rfl <;> first | rfl | (exact absurd hd (by simp))) (by intro e he hd; simp only [T3, List.mem_cons, List.not_mem_nil, or_false] at he; rcases he with rfl | rfl | rfl | rfl | rfl | rfl | rfl | rfl | rfl | rfl | rfl | rfl | rfl | rfl | rfl | rfl | rfl | rfl <;> first | rfl | (exact absurd hd (by simp))) (by decide)))
    · have q13 : l.getD 13 false = true := by
        cases hop
        exact hpre ⟨13, .data⟩ (Array.mem_of_getElem? (i := 0) rfl) rfl
      exact wpOp_of rfl rfl (wp_extract (.tmp 13) 0 rfl _ _ (h.tv (13, 13, .tuple #[.agg NL.toArray, .agg DL.toArray, .int .i64 0]) (by simp [T3]) q13) rfl (h.pure hsz 14 27 _ (by decide) (by decide) rfl (by intro e he hd; simp only [T3, List.mem_cons, List.not_mem_nil, or_false] at he; rcases he with rfl | rfl | rfl | rfl | rfl | rfl | rfl | rfl | rfl | rfl | rfl | rfl | rfl | rfl | rfl | rfl | rfl | rfl <;> first | rfl | (exact absurd hd (by simp))) (by intro e he hd; simp only [T3, List.mem_cons, List.not_mem_nil, or_false] at he; rcases he with rfl | rfl | rfl | rfl | rfl | rfl | rfl | rfl | rfl | rfl | rfl | rfl | rfl | rfl | rfl | rfl | rfl | rfl <;> first | rfl | (exact absurd hd (by simp))) (by decide)))
    · have q13 : l.getD 13 false = true := by
        cases hop
        exact hpre ⟨13, .data⟩ (Array.mem_of_getElem? (i := 0) rfl) rfl
      exact wpOp_of rfl rfl (wp_extract (.tmp 13) 1 rfl _ _ (h.tv (13, 13, .tuple #[.agg NL.toArray, .agg DL.toArray, .int .i64 0]) (by simp [T3]) q13) rfl (h.pure hsz 15 28 _ (by decide) (by decide) rfl (by intro e he hd; simp only [T3, List.mem_cons, List.not_mem_nil, or_false] at he; rcases he with rfl | rfl | rfl | rfl | rfl | rfl | rfl | rfl | rfl | rfl | rfl | rfl | rfl | rfl | rfl | rfl | rfl | rfl <;> first | rfl | (exact absurd hd (by simp))) (by intro e he hd; simp only [T3, List.mem_cons, List.not_mem_nil, or_false] at he; rcases he with rfl | rfl | rfl | rfl | rfl | rfl | rfl | rfl | rfl | rfl | rfl | rfl | rfl | rfl | rfl | rfl | rfl | rfl <;> first | rfl | (exact absurd hd (by simp))) (by decide)))
    · have q13 : l.getD 13 false = true := by
        cases hop
        exact hpre ⟨13, .data⟩ (Array.mem_of_getElem? (i := 0) rfl) rfl
      exact wpOp_of rfl rfl (wp_extract (.tmp 13) 2 rfl _ _ (h.tv (13, 13, .tuple #[.agg NL.toArray, .agg DL.toArray, .int .i64 0]) (by simp [T3]) q13) rfl (h.pure hsz 16 29 _ (by decide) (by decide) rfl (by intro e he hd; simp only [T3, List.mem_cons, List.not_mem_nil, or_false] at he; rcases he with rfl | rfl | rfl | rfl | rfl | rfl | rfl | rfl | rfl | rfl | rfl | rfl | rfl | rfl | rfl | rfl | rfl | rfl <;> first | rfl | (exact absurd hd (by simp))) (by intro e he hd; simp only [T3, List.mem_cons, List.not_mem_nil, or_false] at he; rcases he with rfl | rfl | rfl | rfl | rfl | rfl | rfl | rfl | rfl | rfl | rfl | rfl | rfl | rfl | rfl | rfl | rfl | rfl <;> first | rfl | (exact absurd hd (by simp))) (by decide)))
    · exact wpOp_of rfl rfl (wp_al 34 rfl _ zSt (h.al6 hsz hB _ (by rw [List.size_toArray]; exact st0.len) (getD_tf hun)))
    · exact wpOp_of rfl rfl (wp_al 39 rfl _ zDn (h.al7 hsz hB _ rfl (getD_tf hun)))
    · have q17 : l.getD 17 false = true := by
        cases hop
        exact hpre ⟨17, .data⟩ (Array.mem_of_getElem? (i := 0) rfl) rfl
      have q14 : l.getD 14 false = true := by
        cases hop
        exact hpre ⟨14, .data⟩ (Array.mem_of_getElem? (i := 1) rfl) rfl
      obtain ⟨r, C, c1, c2, c3, c4, c5⟩ := h.a6 q17
      exact wpOp_of rfl rfl (wp_store_row 34 (.tmp 6) (.tmp 27) rfl r NL.toArray c1 (h.tv (14, 27, .agg NL.toArray) (by simp [T3]) q14) 34 C c3 (by rw [List.size_toArray, hNL]; exact info32s) (by rw [c4, List.size_toArray, hNL]) hN1 (h.st6 hsz hx hrb hb r C c2 c3 (fun _ _ => c1) hNL q17))
    · have q18 : l.getD 18 false = true := by
        cases hop
        exact hpre ⟨18, .data⟩ (Array.mem_of_getElem? (i := 0) rfl) rfl
      have q15 : l.getD 15 false = true := by
        cases hop
        exact hpre ⟨15, .data⟩ (Array.mem_of_getElem? (i := 1) rfl) rfl
      obtain ⟨r, C, c1, c2, c3, c4, c5⟩ := h.a7 q18
      exact wpOp_of rfl rfl (wp_store_row 39 (.tmp 7) (.tmp 28) rfl r DL.toArray c1 (h.tv (15, 28, .agg DL.toArray) (by simp [T3]) q15) 39 C c3 (by rw [List.size_toArray, hDL]; exact info41s) (by rw [c4, List.size_toArray, hDL]) hD1 (h.st7 hsz hx hrb hb r C c2 c3 (fun _ _ => c1) hDL q18))
    · have q16 : l.getD 16 false = true := by
        cases hop
        exact hpre ⟨16, .data⟩ (Array.mem_of_getElem? (i := 0) rfl) rfl
      exact wpOp_of rfl rfl (wp_assign (.tmp 29) rfl _ (h.tv (16, 29, .int .i64 0) (by simp [T3]) q16) (h.pure hsz 21 8 _ (by decide) (by decide) rfl (by intro e he hd; simp only [T3, List.mem_cons, List.not_mem_nil, or_false] at he; rcases he with rfl | rfl | rfl | rfl | rfl | rfl | rfl | rfl | rfl | rfl | rfl | rfl | rfl | rfl | rfl | rfl | rfl | rfl <;> first | rfl | (exact absurd hd (by simp))) (by intro e he hd; simp only [T3, List.mem_cons, List.not_mem_nil, or_false] at he; rcases he with rfl | rfl | rfl | rfl | rfl | rfl | rfl | rfl | rfl | rfl | rfl | rfl | rfl | rfl | rfl | rfl | rfl | rfl <;> first | rfl | (exact absurd hd (by simp))) (by decide)))
  · intro l a w hsz hr h
    exact hQ l a w (fun i hi => ready_done id o3_rank hsz hr i hi) h
end Go.Proofs.YtmanoheofloimaaGreatDoor
