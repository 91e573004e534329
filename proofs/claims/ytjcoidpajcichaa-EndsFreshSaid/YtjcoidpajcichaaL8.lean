import Derived.Test.YtjcoidpajcichaaL5
namespace Go.Proofs.Ytjcoidpajcichaa
open Go.ChangeShapes Go.WideShapes Go.ChangeAt Go.RowKit
set_option linter.unusedVariables false
def zF (n : Nat) (f : Nat → Nat) (j : Nat) : Nat := if j < n then f j else 0
/-- A new slice: its whole room lies in one new block and is known. -/
def New (w w' : World) (v : Value) (n : Nat) (f : Nat → Nat) : Prop :=
  Below w.heap.size w w' ∧ ∃ A C, v = .slice A n C ∧ n ≤ C ∧ C ≤ 9223372036854775807 ∧ (A = none → C = 0) ∧ (0 < C → ∃ g, A = some ⟨g, 0, none⟩ ∧ w.heap.size ≤ g ∧ w'.rowIs g 5 C (bV (zF n f)))
theorem grown_row (w : World) (f : Nat → Nat) (m C : Nat) (hC : m ≤ C) :
    (w.drew.alloc (.cells (([] : List Value).toArray ++ (rowL f m).toArray ++ Builtin.zeroCells #[.int .u8 0] (C - m)) 5)).rowIs w.heap.size 5 C (bV (zF m f)) := by
  refine ⟨_, heap_alloc_new w.drew _, by simp [rowL_len, size_zeroCells]; omega, fun i hi => ?_⟩
  rw [← Array.getElem?_toList]
  simp only [Array.toList_append, List.nil_append]
  by_cases hj : i < m
  · rw [List.getElem?_append_left (by rw [rowL_len]; exact hj), rowL_get f m i hj]
    unfold bV zF
    rw [if_pos hj]
  · rw [List.getElem?_append_right (by rw [rowL_len]; omega), rowL_len, Array.getElem?_toList]
    have : i - m < C - m := by omega
    simp [Builtin.zeroCells, this, Nat.mod_one, bV, zF, hj]
theorem app_new {w : World} {ops : Array Oper} {rest : List Oper} {o : Oper} {a : Act} {Q : Exit → Act → World → Prop} (hgd : o.guard = none) (s x : Operand)
    (ho : o.op = .call { callee := .builtin .append, args := #[s, x], argTypes := #[23, 23] })
    (w0 : World) (hb : Below w0.heap.size w0 w) (g : Nat) (hgB : w0.heap.size ≤ g) (hg : w.heap[g]? = some (.cells #[] 5 (0, 0))) (hs : a.eval s = .slice (some ⟨g, 0, none⟩) 0 0)
    (A : Option Addr) (m c : Nat) (f : Nat → Nat) (hx : a.eval x = .slice A m c) (hA0 : A = none → c = 0) (hR : Rd w A m f) (hm : m ≤ 140737488355328)
    (h : ∀ v' w', New w0 w' v' m f → wpList Try.prog ops Q rest (a.put o.dst v') w') : wpList Try.prog ops Q (o :: rest) a w := by
  obtain ⟨i0, hi, hz0, hz1, hz2⟩ := info_parts info5
  have he : New w0 w (.slice (some ⟨g, 0, none⟩) 0 0) 0 f := ⟨hb, _, 0, rfl, Nat.le_refl _, by omega, (fun h => by cases h), fun h => absurd h (by omega)⟩
  have hown : w.ownsRow w0.heap.size 5 1 (.slice (some ⟨g, 0, none⟩) 0 0) 0 [] := ⟨rfl, .inr ⟨g, 0, #[], rfl, hgB, hg, Nat.le_refl _, by unfold maxLen; omega, rfl, by simp⟩⟩
  rcases A with _ | ad
  · obtain rfl : c = 0 := hA0 rfl
    obtain rfl : m = 0 := hR.none_
    exact wpList_append_own_none hgd s x 23 ho w0.heap.size 5 i0 1 Try.underlying23 hi _ 0 [] hs hown hx (h _ w he)
  · rcases Nat.eq_zero_or_pos m with h0 | h0
    · subst h0
      have hr := run_append_room (P := Try.prog) w 23 o.type 5 i0 Try.underlying23 hi g 0 0 #[] hg ad 0 c [] (by simp) (fun j u h => by simp at h) (fun u h => by cases h) (Nat.le_refl _) (by simp)
      refine wpList_plain hgd fun K hK => ?_
      unfold Oper.wp execOp
      simp only [ho, resolve, invoke, builtin, Sem.run_bind, Sem.run_pure, Result.andThen_ok, List.map_toArray, List.map_cons, List.map_nil, hs, hx, hr]
      refine hK _ _ (h _ _ ⟨hb.trans ⟨rfl, rfl, rfl, by simp [World.setRow], fun k hk => setRow_other w g k _ (by omega)⟩, _, 0, rfl, Nat.le_refl _, by omega, (fun h => by cases h), fun h => absurd h (by omega)⟩)
    · have hr := run_append_grow (P := Try.prog) w 23 o.type 5 i0 (.int .u8 0) Try.underlying23 hi hz0 ⟨g, 0, none⟩ 0 0 [] (by simp) (fun j u h => by simp at h) ad m c (rowL f m) (by rw [rowL_len, hz1, Nat.mul_one]) hR.news (by omega) (by omega) (growslice_fits (by omega) (by rw [hz2]; omega))
      refine wpList_plain hgd fun K hK => ?_
      unfold Oper.wp execOp
      simp only [ho, resolve, invoke, builtin, Sem.run_bind, Sem.run_pure, Result.andThen_ok, List.map_toArray, List.map_cons, List.map_nil, hs, hx, hr]
      have hge := grownCap_ge w (0 + m) 0 5
      have hle := grownCap_le_maxLen w (0 + m) 0 5 (by unfold maxLen; omega)
      unfold maxLen at hle
      refine hK _ _ (h _ _ ⟨?_, some ⟨w.heap.size, 0, none⟩, grownCap w (0 + m) 0 5, by rw [Nat.zero_add], by omega, hle, (fun h => by cases h), fun _ => ⟨w.heap.size, rfl, hb.size, ?_⟩⟩)
      · exact hb.trans (((Below.refl _ _).drew).alloc (by simp) _ |>.mono hb.size)
      · have := grown_row w f m (grownCap w (0 + m) 0 5) (by omega)
        rw [Nat.zero_add] at this ⊢
        exact this
def SpR (w : World) (B g C : Nat) (i : Value) (wr : World) : Prop := ∃ (k : Nat) (F : Nat → Nat), k ≤ C ∧ i = .int .i64 (k : Int) ∧ Below B w wr ∧ wr.rowIs g 5 C (bV F)
theorem SpR.step {w wr : World} {B g C k : Nat} {F : Nat → Nat} {z : Int} (hk : k < C) (hb : Below B w wr) (hg : B ≤ g) (hr : wr.rowIs g 5 C (bV F)) (hz : 0 ≤ z) : SpR w B g C (.int .i64 ((k + 1 : Nat) : Int)) (wr.setCell ⟨g, k, none⟩ (.int .u8 z)) := by
  refine ⟨k + 1, fun j => if j = k then z.toNat else F j, hk, rfl, hb.setCell hg _, (hr.set k _).congr fun j _ => ?_⟩
  show (if j = k then Value.int .u8 z else bV F j) = .int .u8 ((if j = k then z.toNat else F j : Nat) : Int)
  unfold bV
  by_cases h1 : j = k
  · rw [if_pos h1, if_pos h1, Int.toNat_of_nonneg hz]
  · rw [if_neg h1, if_neg h1]
theorem c24 (A : Option Addr) (n C B : Nat) (f : Nat → Nat) (w : World) (hC : C ≤ 9223372036854775807) (hB : B ≤ w.heap.size) (h0 : 0 < C → ∃ g, A = some ⟨g, 0, none⟩ ∧ B ≤ g ∧ w.rowIs g 5 C (bV f)) :
    Calls Try.prog 24 #[.slice A n C, .int .u8 3] w fun e w' => e = .returned (.tuple #[]) ∧ Below B w w' := by
  rcases Nat.eq_zero_or_pos C with hz | hz
  · subst hz
    clear h0
    go_enter Try.func24, Try.ntmps24
    go_wp2_with fail
    go_loopw [5] (fun i wr => i = .int .i64 0 ∧ wr = w) (fun i _ => 0)
    case atStart => exact ⟨rfl, rfl⟩
    case round =>
      obtain ⟨rfl, rfl⟩ := hrel
      go_wp2
      go_end0
      exact ⟨rfl, Below.refl _ _⟩
  · obtain ⟨g, rfl, hg, hr⟩ := h0 hz
    have hst : SpR w B g C (.int .i64 0) w := ⟨0, f, Nat.zero_le _, rfl, Below.refl _ _, hr⟩
    have hst := Lib.hid hst
    clear hr h0
    go_enter Try.func24, Try.ntmps24
    go_wp2_with fail
    go_loopw [5] (SpR w B g C) (fun i _ => C - (intOf i).toNat)
    case atStart => exact hst.out
    case round =>
      obtain ⟨k, F, hk, rfl, hb, hr⟩ := hrel
      have HB := Lib.hid hb
      have HR := Lib.hid hr
      clear hb hr hst
      by_cases hlt : k < C
      · have hc := HR.out.cell hlt
        have hfz := HR.out.frozen k
        unfold bV at hc
        generalize F k = x at hc
        have hx : (0 : Int) ≤ IntKind.u8.wrap ((x : Int) + 3) := by rw [IntKind.wrap_u8]; omega
        go_wp2
        go_roundw
        case rel => exact SpR.step hlt HB.out hg HR.out hx
        case measure => simp [intOf]; omega
      · obtain rfl : k = C := by omega
        go_wp2
        go_end0
        exact ⟨rfl, HB.out⟩
theorem c23 (A : Option Addr) (n c : Nat) (f : Nat → Nat) (w : World) (hc : c ≤ 140737488351300) (hn : n ≤ c) (hA : Rd w A n f) (hA0 : A = none → c = 0) :
    Calls Try.prog 23 #[.slice A n c] w fun e w' => ∃ v, e = .returned v ∧ Below w.heap.size w w' ∧ w'.ownsRow w.heap.size 5 1 v n (rowL f n) := by
  have hown0 : Hid (w.ownsRow w.heap.size 5 1 (.slice none 0 0) 0 []) := Lib.hid ⟨rfl, .inl ⟨rfl, rfl⟩⟩
  have HA := Lib.hid hA
  have HA0 := Lib.hid hA0
  clear hA hA0
  go_enter Try.func23, Try.ntmps23
  go_wp2_with (first
    | (refine app_any rfl (.tmp 4) (.tmp 5) rfl w.heap.size (.slice none 0 0) 0 [] rfl hown0.out A n c f rfl HA0.out HA.out (by omega) (Nat.le_refl _) ?_
       intro v4 w4 hown4 hg4
       have B4 := Lib.hid (own_below (Below.refl _ _) hown0.out hg4)
       have HO4 := Lib.hid hown4
       clear hown4 hg4)
    | fail)
  go_ret
  have h := HO4.out
  rw [Nat.zero_add, List.nil_append] at h
  exact ⟨_, rfl, B4.out, h⟩
def NOut (w : World) (E : Int) (n : Nat) (f : Nat → Nat) (e : Ending) (w' : World) : Prop := ∃ v, e = .returned (.tuple #[v, .int .i64 E]) ∧ New w w' v n f
theorem c16n (A : Option Addr) (n c p s : Nat) (f : Nat → Nat) (w : World) (hn : n ≤ c) (hc : c ≤ 140737488351300) (hA : Rd w A n f) (hA0 : A = none → c = 0) (hp : p + s ≤ n) :
    Calls Try.prog 16 #[.slice A n c, .int .i64 (p : Int), .int .i64 (s : Int)] w (NOut w 0 s (fun j => f (p + j))) := by
  have k28 := c28 A n c p s f w hn (by omega) hA hA0 hp
  have K28 := Lib.hid k28
  obtain ⟨g, hg⟩ : ∃ g, g = fun j => f (p + j) := ⟨_, rfl⟩
  rw [← hg]
  have HG := Lib.hid hg
  have hs : s ≤ 140737488351300 := by omega
  clear hg k28 hA hA0 hp hn hc
  go_enter Try.func16, Try.ntmps16
  go_wp2_with fail
  refine K28.out.mono ?_
  rintro _ _ ⟨A', rfl, rfl, hR⟩
  rw [← HG.out] at hR
  clear HG K28
  have hz : A' = none → s = 0 := fun h => by rw [h] at hR; exact hR.none_
  have HZ := Lib.hid hz
  have HR := Lib.hid (hR.below ((Below.refl _ _).alloc (Nat.le_refl _) (.cells #[] 5)))
  clear hR hz
  go_wp2_with (first
    | (refine app_new rfl (.tmp 20) (.tmp 21) rfl w ((Below.refl _ _).alloc (Nat.le_refl _) _) w.heap.size (Nat.le_refl _) (heap_alloc_new w _) rfl A' s s g rfl HZ.out HR.out (by omega) ?_
       intro v4 w4 hN
       have HN := Lib.hid hN
       clear hN)
    | fail)
  go_ret2
  exact ⟨_, rfl, HN.out⟩
theorem New.none_ (w : World) : New w w (.slice none 0 0) 0 (fun _ => 0) := ⟨Below.refl _ _, none, 0, rfl, Nat.le_refl _, by omega, fun _ => rfl, fun h => absurd h (by omega)⟩
theorem New.rd {w w' : World} {v : Value} {n : Nat} {f : Nat → Nat} (h : New w w' v n f) : ∃ A C, v = .slice A n C ∧ Rd w' A n f ∧ C ≤ 9223372036854775807 ∧ (0 < C → ∃ g, A = some ⟨g, 0, none⟩ ∧ w.heap.size ≤ g ∧ w'.rowIs g 5 C (bV (zF n f))) := by
  obtain ⟨hb, A, C, rfl, h1, h2, h3, h4⟩ := h
  refine ⟨A, C, rfl, fun h0 => ?_, h2, h4⟩
  obtain ⟨g, e, hg, hr⟩ := h4 (by omega)
  refine ⟨g, 0, e, hr.lt, fun j hj => ?_⟩
  rw [Nat.zero_add, hr.cell (by omega)]
  unfold bV zF
  rw [if_pos hj]
theorem c18n (A : Option Addr) (n c : Nat) (f : Nat → Nat) (w : World) (hn : n ≤ c) (hc : c ≤ 140737488351300) (hA : Rd w A n f) :
    Calls Try.prog 18 #[.slice A n c] w fun e w' => ∃ v, e = .returned v ∧ New w w' v (padN n) (padF n f) := by
  obtain ⟨i0, hi, hz0, hz1, hz2⟩ := info_parts info5
  obtain ⟨q, hq⟩ : ∃ q, q = (8 - n % 8) % 8 := ⟨_, rfl⟩
  obtain ⟨r, hr⟩ : ∃ r, r = n % 8 := ⟨_, rfl⟩
  have hqr : q = (8 - r) % 8 := by omega
  have hN : padN n = n + q := by unfold padN; omega
  have e1 : (n : Int) % 8 = (r : Int) := by omega
  have e1' : (n : Int).tmod 8 = (r : Int) := by rw [Int.tmod_eq_emod_of_nonneg (by omega)]; omega
  have e2 : (8 - (r : Int)) % 8 = (q : Int) := by omega
  have e2' : (8 - (r : Int)).tmod 8 = (q : Int) := by rw [Int.tmod_eq_emod_of_nonneg (by omega)]; omega
  have hmk := fun W => run_make_row (P := Try.prog) 23 5 i0 (.int .u8 0) Try.underlying23 hi hz0 hz1 rfl .i64 .i64 (n + q) (by rw [hz2]; omega) (by omega) W
  simp only [Int.natCast_add] at hmk
  have hb : r ≤ 7 ∧ q ≤ 7 := by omega
  obtain ⟨hb1, hb2⟩ := hb
  rw [hN]
  clear hq hr hqr hN
  have hsrc : 0 < (rowL f n).length → ∃ ad, A = some ad ∧ ∀ j v, (rowL f n)[j]? = some v → (w.alloc (.cells (madeCells #[.int .u8 0] (n + q)) 5)).cell? (ad.add j) = some v := fun h0 => by
    rw [rowL_len] at h0
    obtain ⟨b, o, e, _⟩ := hA h0
    subst e
    exact ⟨_, rfl, (hA.below ((Below.refl _ _).alloc (Nat.le_refl _) _)).news⟩
  have HC := Lib.hid hsrc
  clear hA hsrc
  go_enter Try.func18, Try.ntmps18
  go_wp2_with (refine wpList_copy_splice rfl (.tmp 13) (.tmp 14) 23 23 rfl 5 Try.underlying23 size5 (some ⟨w.heap.size, 0, none⟩) A (n + q) (n + q) n c rfl rfl w.heap.size 0 (madeCells #[.int .u8 0] (n + q)).toList 5 (by simpa using heap_alloc_new w _) (rowL f n) (by rw [rowL_len]; exact (Nat.min_eq_left (by omega)).symm) (fun h0 => ⟨rfl, HC.out h0⟩) (by rw [rowL_len]; simp [size_madeCells]) (rowL_one f n) w.heap.size w ((Below.refl _ _).alloc (Nat.le_refl _) _) (Nat.le_refl _) ?_; intro w2 hg2 hb2)
  go_ret
  exact ⟨_, rfl, hb2, _, n + q, rfl, Nat.le_refl _, by omega, (fun h => by cases h), fun _ => ⟨w.heap.size, rfl, Nat.le_refl _, _, hg2.out, by simp [length_splice, rowL_len, size_madeCells], fun i hi => by
    rw [List.getElem?_toArray, splice_row f n (n + q) (by omega), rowL_get _ _ _ hi]
    unfold bV zF
    rw [if_pos hi]⟩⟩
set_option maxHeartbeats 2000000 in
theorem c17w (A : Option Addr) (n c p s : Nat) (f : Nat → Nat) (w : World) (hn : n ≤ c) (hc : c ≤ 9223372036854775807) (hn2 : n ≤ 140737488351300) (hA : Rd w A n f) (hA0 : A = none → c = 0) (hp : p + s ≤ n) :
    Calls Try.prog 17 #[.slice A n c, .int .i64 (p : Int), .int .i64 (s : Int)] w (PartOut w s (fun j => f (p + j))) := by
  have q1 : decide ((p : Int) < 0) = false := by simp
  have q2 : decide ((s : Int) < 0) = false := by simp
  have q3 : decide (n < p) = false := by simp; omega
  have q4 : decide ((n : Int) - (p : Int) < (s : Int)) = false := by simp; omega
  have f1 : (p : Int) + (s : Int) ≤ (c : Int) := by omega
  have f2 : (0 : Int) ≤ (p : Int) + (s : Int) := by omega
  have f3 : (p : Int) ≤ (p : Int) + (s : Int) := by omega
  have f4 : (p : Int) + (s : Int) ≤ (n : Int) := by omega
  have f5 : ((p : Int) + (s : Int)).toNat = p + s := by omega
  obtain ⟨i0, hi, hz0, hz1, hz2⟩ := info_parts info5
  have hown : w.ownsRow w.heap.size 5 1 (.slice none 0 0) 0 [] := ⟨rfl, .inl ⟨rfl, rfl⟩⟩
  have hR := hA.cut hp
  obtain ⟨g, hg⟩ : ∃ g, g = fun j => f (p + j) := ⟨_, rfl⟩
  rw [← hg] at hR ⊢
  clear hg
  rcases A with _ | ad
  · obtain rfl : c = 0 := hA0 rfl
    obtain rfl : s = 0 := by omega
    obtain rfl : p = 0 := by omega
    obtain rfl : n = 0 := by omega
    go_enter Try.func17, Try.ntmps17
    go_wp2_with (at_builtin; refine wpList_append_own_none rfl (.tmp 27) (.tmp 33) 23 rfl w.heap.size 5 i0 1 Try.underlying23 hi _ 0 [] rfl hown rfl ?_)
    go_ret2
    exact ⟨_, rfl, Below.refl _ _, hown⟩
  · by_cases hcp : c = p
    · obtain rfl : s = 0 := by omega
      clear hR hA
      go_enter Try.func17, Try.ntmps17
      go_wp2_with (at_builtin; refine wpList_append_own _ rfl (.tmp 27) (.tmp 33) 23 rfl w.heap.size 5 i0 (.int .u8 0) 1 1 Try.underlying23 hi hz0 hz1 hz2 rfl (by decide) _ 0 [] rfl hown ad 0 0 [] rfl rfl (fun j u h => by simp at h) (fun u h => by cases h) (by unfold maxLen; omega) (by omega) (Nat.le_refl _) ?_; intro v2 w2 hown2 hg2 _)
      go_ret2
      exact ⟨_, rfl, (Below.refl _ _).grown hg2 (Nat.le_refl _) (fun k hk => by cases hk), by simpa [rowL] using hown2⟩
    · have HR := Lib.hid (Rd.news hR)
      clear hR hA
      go_enter Try.func17, Try.ntmps17
      go_wp2_with (at_builtin; refine wpList_append_own _ rfl (.tmp 27) (.tmp 33) 23 rfl w.heap.size 5 i0 (.int .u8 0) 1 1 Try.underlying23 hi hz0 hz1 hz2 rfl (by decide) _ 0 [] rfl hown (ad.add p) s (c - p) (rowL g s) rfl (by rw [rowL_len]; omega) HR.out (rowL_one g s) (by unfold maxLen; omega) (by omega) (Nat.le_refl _) ?_; intro v2 w2 hown2 hg2 _)
      go_ret2
      exact ⟨_, rfl, (Below.refl _ _).grown hg2 (Nat.le_refl _) (fun k hk => by cases hk), by simpa using hown2⟩
theorem sp24 {w w' : World} {v : Value} {n : Nat} {f : Nat → Nat} (h : New w w' v n f) : Calls Try.prog 24 #[v, .int .u8 3] w' fun e w'' => e = .returned (.tuple #[]) ∧ Below w.heap.size w' w'' := by
  obtain ⟨hb, A, C, rfl, h1, h2, h3, h4⟩ := h
  exact c24 A n C w.heap.size _ w' h2 hb.size h4
set_option maxHeartbeats 4000000 in
theorem walk8 (A : Option Addr) (n c : Nat) (f : Nat → Nat) (at' k : Int) (E : Int) (M : Nat) (h : Nat → Nat) (w : World) (hn : n ≤ c) (hc : c ≤ 140737488351300) (hM : M ≤ 9223372036854775807) (hA : Rd w A n f) (hA0 : A = none → c = 0)
    (K16 : ∀ w' : World, Rd w' A n f → Calls Try.prog 16 #[.slice A n c, .int .i64 at', .int .i64 k] w' (NOut w' E M h))
    (K17 : ∀ (w' : World) (A' : Option Addr) (c' : Nat), n ≤ c' → c' ≤ 9223372036854775807 → Rd w' A' n f → (A' = none → c' = 0) → Calls Try.prog 17 #[.slice A' n c', .int .i64 at', .int .i64 k] w' (POut w' E M h)) :
    Calls Try.prog 8 #[.slice A n c, .int .i64 at', .int .i64 k] w fun e w' => e = .returned (.bool true) ∧ Below w.heap.size w w' := by
  have b2 : (E == E) = true := by simp
  have HK16 := Lib.hid K16
  have HK17 := Lib.hid K17
  have HA := Lib.hid hA
  have HA0 := Lib.hid hA0
  clear K16 K17 hA hA0
  go_enter Try.func8, Try.ntmps8
  go_wp2_with fail
  refine (c23 A n c f w hc hn HA.out HA0.out).mono ?_
  rintro _ w1 ⟨v1, rfl, hb1, hown1⟩
  obtain ⟨A1, c1, rfl, hr1, hn1, hc1, hz1⟩ := own_rd hown1
  have B1 := Lib.hid hb1
  have R1 := Lib.hid hr1
  have Z1 := Lib.hid hz1
  have HA1 := Lib.hid (HA.out.below hb1)
  clear hb1 hown1 hr1 hz1
  go_wp2_with fail
  refine (HK16.out _ HA1.out).mono ?_
  rintro _ w2 ⟨v2, rfl, hN2⟩
  have B2 := Lib.hid (B1.out.trans (hN2.1.mono B1.out.size))
  have N2 := Lib.hid hN2
  clear hN2
  go_wp2_with fail
  refine (sp24 N2.out).mono ?_
  rintro _ w3 ⟨rfl, hb3⟩
  have B13 := Lib.hid (N2.out.1.trans hb3)
  have B3 := Lib.hid (B1.out.trans (B13.out.mono B1.out.size))
  clear hb3 N2 B2
  go_wp2_with fail
  refine (c18n A n c f w3 hn hc (HA.out.below B3.out)).mono ?_
  rintro _ w4 ⟨v4, rfl, hN4⟩
  have N4 := Lib.hid hN4
  clear hN4
  go_wp2_with fail
  refine (sp24 N4.out).mono ?_
  rintro _ w5 ⟨rfl, hb5⟩
  have B35 := Lib.hid (N4.out.1.trans hb5)
  have B15 := Lib.hid (B13.out.trans (B35.out.mono B13.out.size))
  have B5 := Lib.hid (B3.out.trans (B35.out.mono B3.out.size))
  clear hb5 N4 B3 B13
  go_wp2_with fail
  refine (HK16.out _ (HA.out.below B5.out)).mono ?_
  rintro _ w6 ⟨v6, rfl, hN6⟩
  obtain ⟨A6, c6, rfl, hr6, _, _⟩ := hN6.rd
  have B16 := Lib.hid (B15.out.trans (hN6.1.mono B15.out.size))
  have B6 := Lib.hid (B5.out.trans (hN6.1.mono B5.out.size))
  have R6 := Lib.hid hr6
  clear hr6 hN6 B5 B15 B35
  go_wp2_with fail
  refine (HK17.out _ A1 c1 hn1 hc1 (R1.out.below B16.out) Z1.out).mono ?_
  rintro _ w7 ⟨A7, c7, rfl, hb7, hr7⟩
  have B17 := Lib.hid (B16.out.trans (hb7.mono B16.out.size))
  have B7 := Lib.hid (B6.out.trans (hb7.mono B6.out.size))
  have R6' := Lib.hid (R6.out.below hb7)
  have R7 := Lib.hid hr7
  clear hb7 hr7 B6 B16 R6
  go_wp2_with fail
  refine (s11 A6 A7 M c6 c7 h h _ hM R6'.out R7.out (fun _ _ => rfl)).mono ?_
  rintro _ w8 ⟨rfl, hb8⟩
  have B18 := Lib.hid (B17.out.trans (hb8.mono B17.out.size))
  have B8 := Lib.hid (B7.out.trans (hb8.mono B7.out.size))
  clear hb8 B17 B7 R6' R7
  go_wp2_with fail
  refine (s11 A A1 n c c1 f f _ (by omega) (HA.out.below B8.out) (R1.out.below B18.out) (fun _ _ => rfl)).mono ?_
  rintro _ w9 ⟨rfl, hb9⟩
  have B9 := Lib.hid (B8.out.trans (hb9.mono B8.out.size))
  clear hb9 B8
  go_wp2_with fail
  refine (lives _).mono ?_
  rintro _ w10 ⟨rfl, hb10⟩
  have B10 := Lib.hid (B9.out.trans (hb10.mono B9.out.size))
  clear hb10 B9
  go_wp2_with fail
  go_ret
  exact ⟨rfl, B10.out⟩
theorem law8 (A : Option Addr) (len cap : Nat) (zs : List Int) (at' k : Int) {w : World} (h : IsRow .u8 w A len cap zs) (hc : cap * 1 ≤ 140737488351232)
    (hat : -9223372036854775808 ≤ at' ∧ at' ≤ 9223372036854775807) (hk : -9223372036854775808 ≤ k ∧ k ≤ 9223372036854775807) (_W : World) :
    Calls Try.prog 8 #[.slice A len cap, .int .i64 at', .int .i64 k] w fun e w' => e = .returned (.bool true) ∧ Below w.heap.size w w' := by
  obtain ⟨f, hf, hR, h1, h2, h3⟩ := h.rd
  by_cases hp : 0 ≤ at' ∧ 0 ≤ k ∧ at' + k ≤ len
  · obtain ⟨ha, hb, hl⟩ := hp
    obtain ⟨p, rfl⟩ := Int.eq_ofNat_of_zero_le ha
    obtain ⟨m, rfl⟩ := Int.eq_ofNat_of_zero_le hb
    exact walk8 A len cap f p m 0 m (fun j => f (p + j)) w h1 (by omega) (by omega) hR h3 (fun w' hr => c16n A len cap p m f w' h1 (by omega) hr h3 (by omega))
      (fun w' A' c' q1 q2 hr q3 => (c17w A' len c' p m f w' q1 q2 (by omega) hr q3 (by omega)).mono fun e w'' hp => part_out (fun _ _ => rfl) hp)
  · exact walk8 A len cap f at' k (cutE len at' k) 0 (fun _ => 0) w h1 (by omega) (by omega) hR h3
      (fun w' hr => (c16x A len cap at' k w' h1 h2 hp).mono fun e w'' ⟨q1, q2⟩ => ⟨_, q1, q2 ▸ New.none_ w'⟩)
      (fun w' A' c' q1 q2 hr q3 => (c17x A' len c' at' k w' q1 q2 hp).mono fun e w'' hp => part_err hp)
end Go.Proofs.Ytjcoidpajcichaa
