import Derived.Test.YtgmifaadlaigdaaGreatDoorO
import Derived.Test.YtgmifaadlaigdaaGreatDoorH
import Derived.Laws.AppendOwnNone
import Derived.Deep.RegionLaw
namespace Go.Proofs.YtgmifaadlaigdaaGreatDoor
open Go.ChangeShapes Go.WideShapes Go.ChangeAt Go.RowKit
set_option linter.unusedVariables false
theorem strN_cells (f : Nat → Nat) (m : Nat) (hf : ∀ k, k < m → f k < 256) : Lib.strCells (strN f m) = (List.range m).map fun k => Value.int .u8 (f k : Int) := by
  unfold Lib.strCells strN
  simp only [List.map_map]
  refine List.map_congr_left fun k hk => ?_
  have := hf k (List.mem_range.mp hk)
  have e : (UInt8.ofNat (f k)).toNat = f k := by rw [UInt8.toNat_ofNat']; omega
  simp [Function.comp_apply, e]
theorem strCells_one (s : ByteArray) : ∀ u ∈ Lib.strCells s, u.oneCell' = true := by
  intro u hu
  obtain ⟨x, _, rfl⟩ := List.mem_map.mp hu
  rfl
set_option maxRecDepth 100000 in
/-- append of bytes to bytes of the call's own, whatever the source -/
theorem app_any {w : World} {ops : Array Oper} {rest : List Oper} {o : Oper} {a : Act} {Q : Exit → Act → World → Prop} (hgd : o.guard = none) (s x : Operand)
    (ho : o.op = .call { callee := .builtin .append, args := #[s, x], argTypes := #[24, 24] })
    (B : Nat) (v : Value) (n : Nat) (xs : List Value) (hs : a.eval s = v) (hown : w.ownsRow B 5 1 v n xs)
    (A : Option Addr) (m c : Nat) (g : Nat → Nat) (hx : a.eval x = .slice A m c) (hA0 : A = none → c = 0) (hR : Bz w A m g) (hm0 : A = none → m = 0) (hb : n + m ≤ 140737488355328) (hB : B ≤ w.heap.size)
    (h : ∀ v' w', w'.ownsRow B 5 1 v' (n + m) (xs ++ Lib.strCells (strN g m)) → w.grownBy w' v.ownBlock → wpList Tryz.prog ops Q rest (a.put o.dst v') w') : wpList Tryz.prog ops Q (o :: rest) a w := by
  obtain ⟨i0, hi, hz0, hz1, hz2⟩ := info5
  rcases A with _ | ad
  · obtain rfl : c = 0 := hA0 rfl
    obtain rfl : m = 0 := hm0 rfl
    refine wpList_append_own_none hgd s x 24 ho B 5 i0 1 Tryz.underlying24 hi v n xs hs hown hx ?_
    exact h v w (by simpa [Lib.strCells, strN] using hown) (World.grownBy.refl w _)
  · refine wpList_append_own w hgd s x 24 ho B 5 i0 (.int .u8 0) 1 1 Tryz.underlying24 hi hz0 hz1 hz2 rfl (by decide) v n xs hs hown ad m c (Lib.strCells (strN g m)) hx (by rw [Lib.strCells_length, strN_size]; omega) ?_ (strCells_one _) (by unfold maxLen; omega) (by omega) hB fun v' w' h1 h2 _ => h v' w' h1 h2
    intro j u hj
    by_cases h0 : 0 < m
    · obtain ⟨b, off, e, hbs⟩ := hR h0
      injection e with e
      subst e
      rw [strN_cells g m (fun k hk => (hbs.2 k hk).1)] at hj
      obtain ⟨hj1, hj2⟩ := List.getElem?_eq_some_iff.mp hj
      have hjm : j < m := by simpa using hj1
      have := (hbs.2 j hjm).2
      rw [← hj2]
      simp only [List.getElem_map, List.getElem_range]
      rw [← this]
      congr 1
      unfold Addr.add
      split <;> simp_all
    · obtain rfl : m = 0 := by omega
      simp [Lib.strCells, strN] at hj
set_option maxHeartbeats 2000000 in
set_option maxRecDepth 100000 in
/-- (*strings.Builder).Write -/
theorem bw25 {N : Nat} {w0 w : World} {s : ByteArray} (h : Bu N w0 w s) (A : Option Addr) (m c : Nat) (g : Nat → Nat) (hA0 : A = none → c = 0) (hR : Bz w0 A m g) (hNw : N = w0.heap.size) (hmc : m ≤ c) (hs : s.size ≤ 16777216) (hm : m ≤ 16777216) :
    Calls Tryz.prog 25 #[.pointer (some ⟨N, 0, none⟩), .slice A m c] w fun e w' => e = .returned (.tuple #[.int .i64 m, .nilIface]) ∧ Bu N w0 w' (s ++ strN g m) := by
  obtain ⟨i0, hi, hz0, hz1, hz2⟩ := info5
  have HS : Hid ((Lib.strCells s).length = s.size) := Lib.hid (Lib.strCells_length s)
  obtain ⟨hI, hB0⟩ := h
  have hN := is_lt hI
  have HR := Lib.hid hR
  have hm0 : A = none → m = 0 := fun e => by have := hA0 e; omega
  have HA0 := Lib.hid hA0
  have HM0 := Lib.hid hm0
  have HNW := Lib.hid hNw
  clear hR hA0 hm0 hNw
  go_enter Tryz.func25, Tryz.ntmps25
  go_wp2_with (go_at_call 42; refine (c42 N (Lib.strCells s) _ hI).mono ?_)
  rintro e w1 ⟨rfl, h1, hb1⟩
  have HR1 : Hid (Bz w1 A m g) := Lib.hid (HR.out.below (by rw [← HNW.out]; exact hB0.trans hb1))
  obtain ⟨hB, v, hbk, hown, hne⟩ := h1
  have c0 : w1.cell? ⟨N, 0, none⟩ = some (.pointer (some ⟨N, 0, none⟩)) := by rw [Lib.cell_of_heap hbk]; rfl
  have c1 : w1.cell? ⟨N, 1, none⟩ = some v := by rw [Lib.cell_of_heap hbk]; rfl
  go_wp2_with (at_builtin; refine app_any rfl _ _ rfl N v _ (Lib.strCells s) rfl hown A m c g rfl HA0.out HR1.out HM0.out ?c4 ?c5 ?_)
  case c4 => rw [HS.out]; omega
  case c5 => have := hb1.size; omega
  intro v' w2 hown' hgrow
  have hlt : N < w1.heap.size := by have := hb1.size; omega
  have hb2 : w2.heap[N]? = some (.cells #[.pointer (some ⟨N, 0, none⟩), v] 47 (0, 0)) := by
    rw [hgrow.block N hlt (fun e => hne e.symm)]
    exact hbk
  have d0 : w2.cell? ⟨N, 0, none⟩ = some (.pointer (some ⟨N, 0, none⟩)) := by rw [Lib.cell_of_heap hb2]; rfl
  have d1 : w2.cell? ⟨N, 1, none⟩ = some v := by rw [Lib.cell_of_heap hb2]; rfl
  have f1 : w2.frozen? ⟨N, 1, none⟩ = false := Lib.frozen_of_heap hb2 1
  obtain ⟨ao, n', cap, rfl⟩ : ∃ ao n' cap, v' = .slice ao n' cap := by
    rcases hown'.2 with ⟨hv, _⟩ | ⟨g, cap, cur, hv, _⟩
    · exact ⟨_, _, _, hv⟩
    · exact ⟨_, _, _, hv⟩
  go_wp2
  go_ret2
  refine ⟨rfl, Or.inr ?_, hB0.trans ?_⟩
  · rw [cells_add]
    exact Lib.BuilderAt.put (T := 47) (e := 5) hB hb2 (bs' := Lib.strCells s ++ Lib.strCells (strN g m)) (by simpa [Lib.strCells_length, strN_size] using hown') (by decide)
  · exact (hb1.grown hgrow (by have := hb1.size; omega) (fun k hk => (hown.lt k hk).1)).setCell (p := ⟨N, 1, none⟩) hB _
set_option maxHeartbeats 1000000 in
set_option maxRecDepth 100000 in
/-- (*strings.Builder).String, of bytes -/
theorem bw26 {N : Nat} {w0 w : World} {s : ByteArray} (h : Bu N w0 w s) (h0 : 0 < s.size) :
    Calls Tryz.prog 26 #[.pointer (some ⟨N, 0, none⟩)] w fun e w' => e = .returned (.string s) ∧ Below N w0 w' := by
  obtain ⟨p, hB, v, hbk, hown, hne⟩ : ∃ p, Lib.BuilderAt 47 5 N N p (Lib.strCells s) w := by
    rcases h.1 with h | h
    · exact ⟨_, h⟩
    · exact ⟨_, h⟩
  have hl0 : s.size ≠ 0 := by omega
  rw [Lib.strCells_length] at hown
  obtain ⟨g, cap, cur, rfl, hbg, hg, hnc, hcm, hcs, htake⟩ : ∃ g cap cur, v = .slice (some ⟨g, 0, none⟩) s.size cap ∧ N ≤ g ∧ w.heap[g]? = some (.cells cur 5 (0, 0)) ∧ s.size ≤ cap ∧ cap ≤ maxLen ∧ cur.size = cap * 1 ∧ cur.toList.take (s.size * 1) = Lib.strCells s := by
    rcases hown.2 with ⟨_, hz⟩ | ⟨g, cap, cur, hv, r⟩
    · exact absurd hz hl0
    · exact ⟨g, cap, cur, hv, r⟩
  have c1 : w.drew.cell? ⟨N, 1, none⟩ = some (.slice (some ⟨g, 0, none⟩) s.size cap) := by
    have : w.drew.heap[N]? = some (.cells #[p, .slice (some ⟨g, 0, none⟩) s.size cap] 47 (0, 0)) := hbk
    rw [Lib.cell_of_heap this]; rfl
  have hSD : (Builtin.unsafeSliceData_ #[24] 86 #[.slice (some ⟨g, 0, none⟩) s.size cap]).run Tryz.prog w.drew = .ok (.pointer (some ⟨g, 0, none⟩)) w.drew :=
    Lib.run_unsafeSliceData_row _ _ _ _ _ _ (by omega)
  have hUS : (Builtin.unsafeString_ #[86, 3] 9 #[.pointer (some ⟨g, 0, none⟩), .int .i64 s.size]).run Tryz.prog w.drew = .ok (.string s) (w.drew.freeze ⟨g, 0, none⟩ s.size) := by
    have key := Lib.run_unsafeString_row (P := Tryz.prog) w.drew 86 3 9 5 Tryz.underlying86 (by kernel_rfl) g cur.size (by have hg' : w.drew.heap[g]? = some (.cells cur 5 (0, 0)) := hg; simp [World.shape?, hg']) s.data.toList (by intro h; apply hl0; show s.data.size = 0; rw [← Array.length_toList, h]; rfl) (by show s.size ≤ _; omega) (by show s.size ≤ _; unfold maxLen at hcm; omega) (by
      intro j x hx
      have := hown.cells (g := g) rfl j (.int .u8 x.toNat) (by simp [Lib.strCells, hx])
      exact this)
    exact key
  clear hown htake hnc hcm hcs
  go_enter Tryz.func26, Tryz.ntmps26
  go_wp2
  go_region_law (first | (at_builtin; rw [hSD]; fail) | fail)
  all_goals (go_wp2; go_ret; exact ⟨rfl, h.2.trans (Lib.below_freeze (Below.drew (Below.refl N w)) (p := ⟨g, 0, none⟩) hbg _)⟩)
end Go.Proofs.YtgmifaadlaigdaaGreatDoor
