import Derived.Test.YtoiiiobamanclaaA
namespace Go.Proofs.Ytoiiiobamanclaa
open Go.ChangeShapes Go.WideShapes Go.ChangeAt Go.RowKit
set_option linter.unusedVariables false
theorem info32 : (Try.prog.info? 32).map (·.size) = some 3 := by kernel_rfl
/-- nobody's -/
theorem none22 (w : World) : Calls Try.prog 22 #[] w fun e w' => e = .returned (.agg #[.int .i64 (-1), .int .i64 0, .int .i64 (-1)]) ∧ Below w.heap.size w w' := by
  go_enter Try.func22, Try.ntmps22
  go_wp2_with fail
  exact bodyPost_ret (results_cell_row rfl _ _ w.heap.size 32 #[.int .i64 (-1), .int .i64 0, .int .i64 (-1)] (0, 0) _ rfl (Blk.new w 32 _) Try.underlying32 rfl info32) rfl ⟨rfl, (Below.refl _ _).alloc (Nat.le_refl _) _⟩
theorem At.three {C : Array Value} {o : Nat} {x y z : Value} (h : At C o [x, y, z]) : C[o]? = some x ∧ C[o + 1]? = some y ∧ C[o + 2]? = some z := ⟨h.2 0 x rfl, h.2 1 y rfl, h.2 2 z rfl⟩
/-- three cells of a block, written -/
theorem put3 {w : World} {g o T : Nat} {C : Array Value} {L : List Value} {x y z : Value} (hL : L.length = 3) (hC : Blk w g T C) (hA : At C o L) :
    Blk (((w.setCell ⟨g, o, none⟩ x).setCell ⟨g, o + 1, none⟩ y).setCell ⟨g, o + 2, none⟩ z) g T (putA C o [x, y, z]) ∧ Only g w (((w.setCell ⟨g, o, none⟩ x).setCell ⟨g, o + 1, none⟩ y).setCell ⟨g, o + 2, none⟩ z) := by
  refine ⟨?_, (((Only.refl g w).set_ _ _).set_ _ _).set_ _ _⟩
  have h1 := ((hC.set_ o x).set_ (o + 1) y).set_ (o + 2) z
  have e : ((C.setIfInBounds o x).setIfInBounds (o + 1) y).setIfInBounds (o + 2) z = putA C o [x, y, z] := by
    match L, hL with
    | [a, b, c], _ =>
      have hb : o + 3 ≤ C.size := hA.1
      have s0 := putA_set (C := C) (o := o) (j := 0) (L := [a, b, c]) x hb (by simp)
      rw [putA_self hA, Nat.add_zero] at s0
      have s1 := putA_set (C := C) (o := o) (j := 1) (L := [x, b, c]) y hb (by simp)
      have s2 := putA_set (C := C) (o := o) (j := 2) (L := [x, y, c]) z hb (by simp)
      rw [s0]
      exact (congrArg (fun A => Array.setIfInBounds A (o + 2) z) s1).trans s2
  rw [e] at h1
  exact h1
/-- the first of two -/
theorem first35 (g o tb : Nat) (T : Nat) (C : Array Value) (a t : Tg) (w : World) (hC : Blk w g T C) (hA : At C o a.c) (ht : Blk w tb 32 t.c.toArray) (hne : tb ≠ g) :
    Calls Try.prog 35 #[.pointer (some ⟨g, o, none⟩), .pointer (some ⟨tb, 0, none⟩)] w fun e w' => e = .returned (.tuple #[]) ∧ Blk w' g T (putA C o (first a t).c) ∧ Only g w w' := by
  have KN := Lib.hid none22
  have HEQ := Lib.hid (eqTg a tn)
  have hfirst : (first a t) = if a = tn then t else a := rfl
  obtain ⟨a0, a1, a2⟩ := a
  obtain ⟨t0, t1, t2⟩ := t
  have HF := Lib.hid hfirst
  obtain ⟨q, hq⟩ : ∃ q, decide ((⟨a0, a1, a2⟩ : Tg) = tn) = q := ⟨_, rfl⟩
  rw [hq] at HEQ
  have HQ := Lib.hid hq
  have HC := Lib.hid hC; have HA := Lib.hid hA
  have hc3 : ∀ W, Blk W g T C → W.cell? ⟨g, o, none⟩ = some (.int .i64 a0) ∧ W.cell? ⟨g, o + 1, none⟩ = some (.int .i64 a1) ∧ W.cell? ⟨g, o + 2, none⟩ = some (.int .i64 a2) := fun W h => by
    obtain ⟨x, y, z⟩ := HA.out.three
    exact ⟨by rw [h.cell]; exact x, by rw [h.cell]; exact y, by rw [h.cell]; exact z⟩
  have HC3 := Lib.hid hc3
  have HT := Lib.hid ht
  clear hfirst hq hC hA hc3 ht
  generalize first ⟨a0, a1, a2⟩ ⟨t0, t1, t2⟩ = F at *
  go_enter Try.func35, Try.ntmps35
  go_wp2_with fail
  have HI : Hid (w.drew.cell? ⟨g, o, none⟩ = some (.int .i64 a0) ∧ w.drew.cell? ⟨g, o + 1, none⟩ = some (.int .i64 a1) ∧ w.drew.cell? ⟨g, o + 2, none⟩ = some (.int .i64 a2)) := Lib.hid (HC3.out _ HC.out.drew)
  have heq := HEQ.out
  go_region_held3 (fun W => W.cell? ⟨g, o, none⟩ = some (.int .i64 a0) ∧ W.cell? ⟨g, o + 1, none⟩ = some (.int .i64 a1) ∧ W.cell? ⟨g, o + 2, none⟩ = some (.int .i64 a2))
    (first | assumption | exact HI.out)
    (first | (go_at_call 22; (with_reducible refine (KN.out _).mono ?_); rintro _ w6 ⟨rfl, hb6⟩; have HB6 : Below w.heap.size w w6 := ((Below.refl _ w).drew).trans hb6; have HS6 : w6.cell? ⟨g, o, none⟩ = some (.int .i64 a0) ∧ w6.cell? ⟨g, o + 1, none⟩ = some (.int .i64 a1) ∧ w6.cell? ⟨g, o + 2, none⟩ = some (.int .i64 a2) := HC3.out _ (HC.out.below HB6 HC.out.lt)))
  rename_i hHeld
  have HX6 := Lib.hid (HC.out.below HB6 HC.out.lt)
  have HT6 := Lib.hid (HT.out.below HB6 HT.out.lt)
  have HO6 : Hid (Only g w w6) := Lib.hid ((Only.refl g w).below HB6)
  clear hHeld HS6 HI hb6 HB6 heq HC3 KN HEQ
  cases q with
  | false =>
    go_wp2_with fail
    have hF : F = ⟨a0, a1, a2⟩ := by rw [HF.out, if_neg (of_decide_eq_false HQ.out)]
    subst hF
    go_end0
    exact ⟨rfl, by rw [putA_self HA.out]; exact HX6.out, HO6.out⟩
  | true =>
    have u0 : w6.cell? ⟨tb, 0, none⟩ = some (.int .i64 t0) := by rw [HT6.out.cell]; rfl
    have u1 : w6.cell? ⟨tb, 1, none⟩ = some (.int .i64 t1) := by rw [HT6.out.cell]; rfl
    have u2 : w6.cell? ⟨tb, 2, none⟩ = some (.int .i64 t2) := by rw [HT6.out.cell]; rfl
    have z0 := HX6.out.frozen o
    have z1 := HX6.out.frozen (o + 1)
    have z2 := HX6.out.frozen (o + 2)
    obtain ⟨d0, d1, d2⟩ := HA.out.three
    have y0 : w6.cell? ⟨g, o, none⟩ = some (.int .i64 a0) := by rw [HX6.out.cell]; exact d0
    have y1 : w6.cell? ⟨g, o + 1, none⟩ = some (.int .i64 a1) := by rw [HX6.out.cell]; exact d1
    have y2 : w6.cell? ⟨g, o + 2, none⟩ = some (.int .i64 a2) := by rw [HX6.out.cell]; exact d2
    clear d0 d1 d2
    go_wp2_with fail
    have hF : F = ⟨t0, t1, t2⟩ := by rw [HF.out, if_pos (of_decide_eq_true HQ.out)]
    subst hF
    obtain ⟨p1, p2⟩ := put3 (x := .int .i64 t0) (y := .int .i64 t1) (z := .int .i64 t2) rfl HX6.out HA.out
    go_end0
    exact ⟨rfl, p1, HO6.out.trans p2⟩
end Go.Proofs.Ytoiiiobamanclaa
