import Derived.Test.YtgmifaadlaigdaaGreatDoorOc
namespace Go.Proofs.YtgmifaadlaigdaaGreatDoor
open Go.ChangeShapes Go.WideShapes Go.ChangeAt Go.RowKit
set_option linter.unusedVariables false
/-- what is no row of bytes, and not the writer, stays -/
def Kx (N : Nat) (w w' : World) : Prop := ∀ b cs T fr, b ≠ N → T ≠ 5 → w.heap[b]? = some (.cells cs T fr) → w'.heap[b]? = some (.cells cs T fr)
theorem kx_refl (N : Nat) (w : World) : Kx N w w := fun _ _ _ _ _ _ h => h
theorem kx_trans {N : Nat} {a b c : World} (h : Kx N a b) (k : Kx N b c) : Kx N a c := fun x cs T fr h1 h2 h3 => k x cs T fr h1 h2 (h x cs T fr h1 h2 h3)
theorem kx_set (N o : Nat) (w : World) (v : Value) : Kx N w (w.setCell ⟨N, o, none⟩ v) := fun b cs T fr h1 h2 h3 => by
  rw [Below.heap_setCell _ _ _ _ (fun e => h1 (by simp [e]))]; exact h3
theorem kx_below (N : Nat) {w w' : World} (h : Below w.heap.size w w') : Kx N w w' := fun b cs T fr h1 h2 h3 => by
  have hb : b < w.heap.size := by
    rcases Nat.lt_or_ge b w.heap.size with h' | h'
    · exact h'
    · simp [Array.getElem?_eq_none h'] at h3
  rw [h.block b hb]; exact h3
theorem kx_grown {N : Nat} {w w' : World} {B n : Nat} {v : Value} {xs : List Value} (ho : w.ownsRow B 5 1 v n xs) (hg : w.grownBy w' v.ownBlock) : Kx N w w' := fun b cs T fr h1 h2 h3 => by
  have hb : b < w.heap.size := by
    rcases Nat.lt_or_ge b w.heap.size with h' | h'
    · exact h'
    · simp [Array.getElem?_eq_none h'] at h3
  rw [hg.block b hb (fun e => Lib.ownBlock_ne ho h3 h2 e.symm)]; exact h3
theorem c42k (N : Nat) (bs : List Value) (w : World) (h : Lib.IsBuilder 47 5 N N bs w) :
    Calls Tryz.prog 42 #[.pointer (some ⟨N, 0, none⟩)] w fun e w' => e = .returned (.tuple #[]) ∧ (Lib.BuilderAt 47 5 N N (.pointer (some ⟨N, 0, none⟩)) bs w' ∧ Below N w w' ∧ Kx N w w') := by
  rcases h with h | h
  · refine (copy_fresh N w h.cell0 h.shape h.frozen0).mono ?_
    rintro e w' ⟨rfl, rfl⟩
    exact ⟨rfl, h.used _, (Below.refl N w).setCell (p := ⟨N, 0, none⟩) h.1 _, kx_set _ _ _ _⟩
  · refine (copy_used N w h.cell0).mono ?_
    rintro e w' ⟨rfl, rfl⟩
    exact ⟨rfl, h, Below.refl N _, kx_refl _ _⟩
set_option maxHeartbeats 2000000 in
set_option maxRecDepth 100000 in
/-- (*strings.Builder).WriteString -/
theorem bw22k {N : Nat} {w0 w : World} {s : ByteArray} (h : Bu N w0 w s) (t : ByteArray) (hs : s.size ≤ 16777216) (ht : t.size ≤ 16777216) :
    Calls Tryz.prog 22 #[.pointer (some ⟨N, 0, none⟩), .string t] w fun e w' => e = .returned (.tuple #[.int .i64 t.size, .nilIface]) ∧ Bu N w0 w' (s ++ t) ∧ Kx N w w' := by
  obtain ⟨i0, hi, hz0, hz1, hz2⟩ := info5
  have HS : Hid ((Lib.strCells s).length = s.size) := Lib.hid (Lib.strCells_length s)
  obtain ⟨hI, hB0⟩ := h
  have hN := is_lt hI
  go_enter Tryz.func22, Tryz.ntmps22
  go_wp2_with (go_at_call 42; refine (c42k N (Lib.strCells s) _ hI).mono ?_)
  rintro e w1 ⟨rfl, h1, hb1, hk1⟩
  obtain ⟨hB, v, hbk, hown, hne⟩ := h1
  have c0 : w1.cell? ⟨N, 0, none⟩ = some (.pointer (some ⟨N, 0, none⟩)) := by rw [Lib.cell_of_heap hbk]; rfl
  have c1 : w1.cell? ⟨N, 1, none⟩ = some v := by rw [Lib.cell_of_heap hbk]; rfl
  go_wp2_with (at_builtin; refine Lib.wpList_append_own_string _ rfl _ _ 24 9 rfl N 5 i0 Tryz.underlying24 Tryz.underlying9 hi hz0 hz1 hz2 _ _ _ rfl hown t rfl ?c3 ?c4 ?c5 ?_)
  case c3 => rw [HS.out]; unfold maxLen; omega
  case c4 => rw [HS.out]; omega
  case c5 => have := hb1.size; omega
  intro v' w2 hown' hgrow _
  have hlt : N < w1.heap.size := by have := hb1.size; omega
  have hb2 : w2.heap[N]? = some (.cells #[.pointer (some ⟨N, 0, none⟩), v] 47 (0, 0)) := by
    rw [hgrow.block N hlt (fun e => hne e.symm)]
    exact hbk
  have d0 : w2.cell? ⟨N, 0, none⟩ = some (.pointer (some ⟨N, 0, none⟩)) := by rw [Lib.cell_of_heap hb2]; rfl
  have d1 : w2.cell? ⟨N, 1, none⟩ = some v := by rw [Lib.cell_of_heap hb2]; rfl
  have f1 : w2.frozen? ⟨N, 1, none⟩ = false := Lib.frozen_of_heap hb2 1
  obtain ⟨ao, n', cap, rfl⟩ : ∃ ao n' cap, v' = .slice ao n' cap := by
    rcases hown'.2 with ⟨hv, _⟩ | ⟨g, cap, cur, hv, _⟩
    · exact ⟨_, _, _, hv⟩
    · exact ⟨_, _, _, hv⟩
  go_wp2
  go_ret2
  refine ⟨rfl, ⟨Or.inr ?_, hB0.trans ?_⟩, kx_trans hk1 (kx_trans (kx_grown hown hgrow) (kx_set _ _ _ _))⟩
  · rw [cells_add]
    exact Lib.BuilderAt.put (T := 47) (e := 5) hB hb2 (bs' := Lib.strCells s ++ Lib.strCells t) (by simpa [Lib.strCells_length] using hown') (by decide)
  · exact (hb1.grown hgrow (by have := hb1.size; omega) (fun k hk => (hown.lt k hk).1)).setCell (p := ⟨N, 1, none⟩) hB _
set_option maxHeartbeats 2000000 in
set_option maxRecDepth 100000 in
/-- (*strings.Builder).WriteByte -/
theorem bw44k {N : Nat} {w0 w : World} {s : ByteArray} (h : Bu N w0 w s) (c : Nat) (hs : s.size ≤ 33554432) (hc : c < 256) :
    Calls Tryz.prog 44 #[.pointer (some ⟨N, 0, none⟩), .int .u8 (c : Int)] w fun e w' => e = .returned .nilIface ∧ Bu N w0 w' (s ++ ⟨#[UInt8.ofNat c]⟩) ∧ Kx N w w' := by
  obtain ⟨i0, hi, hz0, hz1, hz2⟩ := info5
  have HS : Hid ((Lib.strCells s).length = s.size) := Lib.hid (Lib.strCells_length s)
  have HC : Hid (Lib.strCells (s ++ ⟨#[UInt8.ofNat c]⟩) = Lib.strCells s ++ [.int .u8 (c : Int)]) := Lib.hid (by
    rw [cells_add]
    have e : (UInt8.ofNat c).toNat = c := by rw [UInt8.toNat_ofNat']; omega
    simp [Lib.strCells, e])
  obtain ⟨hI, hB0⟩ := h
  have hN := is_lt hI
  go_enter Tryz.func44, Tryz.ntmps44
  go_wp2_with (go_at_call 42; refine (c42k N (Lib.strCells s) _ hI).mono ?_)
  rintro e w1 ⟨rfl, h1, hb1, hk1⟩
  obtain ⟨hB, v, hbk, hown, hne⟩ := h1
  have c0 : w1.cell? ⟨N, 0, none⟩ = some (.pointer (some ⟨N, 0, none⟩)) := by rw [Lib.cell_of_heap hbk]; rfl
  have c1 : w1.cell? ⟨N, 1, none⟩ = some v := by rw [Lib.cell_of_heap hbk]; rfl
  go_wp2_with (at_builtin; refine wpList_append_own _ rfl _ _ 24 rfl N 5 i0 (.int .u8 0) 1 1 Tryz.underlying24 hi hz0 hz1 hz2 rfl (by decide) _ _ _ rfl (hown.alloc _) ⟨w1.heap.size, 0, none⟩ 1 1 [.int .u8 (c : Int)] rfl rfl ?c1 ?c2 ?c3 ?c4 ?c5 ?_)
  case c1 =>
    intro j u hj
    match j, hj with
    | 0, hj => simp at hj; subst hj; simp [Addr.add]
  case c2 => intro u hu; simp at hu; subst hu; rfl
  case c3 => rw [HS.out]; unfold maxLen; omega
  case c4 => rw [HS.out]; omega
  case c5 => have := hb1.size; simp; omega
  intro v' w2 hown' hgrow _
  have hlt : N < w1.heap.size := by have := hb1.size; omega
  have hb2 : w2.heap[N]? = some (.cells #[.pointer (some ⟨N, 0, none⟩), v] 47 (0, 0)) := by
    rw [hgrow.block N (by simp; omega) (fun e => hne e.symm), Lib.alloc_old w1 _ N hlt]
    exact hbk
  have d0 : w2.cell? ⟨N, 0, none⟩ = some (.pointer (some ⟨N, 0, none⟩)) := by rw [Lib.cell_of_heap hb2]; rfl
  have d1 : w2.cell? ⟨N, 1, none⟩ = some v := by rw [Lib.cell_of_heap hb2]; rfl
  have f1 : w2.frozen? ⟨N, 1, none⟩ = false := Lib.frozen_of_heap hb2 1
  obtain ⟨g, cap, rfl⟩ : ∃ g cap, v' = .slice (some ⟨g, 0, none⟩) ((Lib.strCells s).length + 1) cap := by
    rcases hown'.2 with ⟨_, h0⟩ | ⟨g, cap, cur, hv, _⟩
    · omega
    · exact ⟨g, cap, hv⟩
  go_wp2
  go_ret
  refine ⟨rfl, ⟨Or.inr ?_, hB0.trans ?_⟩, kx_trans hk1 (kx_trans (kx_below N ((Below.refl _ w1).alloc (Nat.le_refl _) _)) (kx_trans (kx_grown (hown.alloc _) hgrow) (kx_set _ _ _ _)))⟩
  · rw [HC.out]
    exact Lib.BuilderAt.put (T := 47) (e := 5) hB hb2 (bs' := Lib.strCells s ++ [.int .u8 (c : Int)]) (by simpa using hown') (by decide)
  · exact ((hb1.alloc (by have := hb1.size; omega) _).grown hgrow (by have := hb1.size; simp; omega) (fun k hk => (hown.lt k hk).1)).setCell (p := ⟨N, 1, none⟩) hB _
set_option maxRecDepth 100000 in
set_option maxHeartbeats 4000000 in
/-- field -/
theorem c46k {N : Nat} {w0 w : World} {t : ByteArray} (h : Bu N w0 w t) (s : ByteArray) (n : Nat) (ht : t.size ≤ 8388608) (hs : s.size ≤ n) (hn : n ≤ 16) :
    Calls Tryz.prog 46 #[.pointer (some ⟨N, 0, none⟩), .string s, .int .i64 (n : Int)] w fun e w' => e = .returned (.tuple #[]) ∧ Bu N w0 w' (t ++ wideB s n) ∧ Kx N w w' := by
  have HW : Hid (t ++ wideB s n = t ++ s ++ ⟨(Lib.repeatL [32] (n - s.size)).toArray⟩) := Lib.hid (by unfold wideB; rw [blk_rep, ba_assoc])
  have K22 := Lib.hid (bw22k h s (by omega) (by omega))
  have K62 := Lib.hid (c62 (n - s.size) (by omega))
  have e1 : ((n - s.size : Nat) : Int) = IntKind.i64.wrap ((n : Int) - (s.size : Int)) := by rw [show IntKind.i64.wrap ((n : Int) - (s.size : Int)) = (n : Int) - (s.size : Int) by unfold IntKind.wrap; simp [IntKind.bits, IntKind.signed]; omega]; omega
  rw [e1] at K62
  have HR := Lib.hid (rep_size (n - s.size))
  have HR2 : Hid (n - s.size ≤ 16) := Lib.hid (by omega)
  have HS : Hid ((t ++ s).size ≤ 16777216) := Lib.hid (by rw [ByteArray.size_append]; omega)
  clear h e1
  generalize (⟨(Lib.repeatL [32] (n - s.size)).toArray⟩ : ByteArray) = r at *
  go_enter Tryz.func46, Tryz.ntmps46
  go_wp2_with fail
  refine K22.out.mono ?_
  rintro _ w1 ⟨rfl, hu1, hk1⟩
  have HK1 := Lib.hid hk1
  clear hk1
  have HU1 := Lib.hid hu1
  clear hu1 K22
  have HR1 : Hid (r.size ≤ 16777216) := Lib.hid (by rw [HR.out]; have := HR2.out; omega)
  go_wp2_with fail
  go_region_law (first | (go_simp; go_at_call 62; (with_reducible refine (K62.out _).mono ?_); rintro _ w2 ⟨rfl, hb2⟩; have HK2 := Lib.hid (kx_below N hb2); have HU2 := Lib.hid (bu_below (by first | exact HU1.out | exact bu_drew HU1.out) hb2)) | (go_simp; go_at_call 22; refine (bw22k (by first | exact HU2.out | exact bu_drew HU2.out) r HS.out HR1.out).mono ?_; rintro _ w3 ⟨rfl, hu3, hk3⟩))
  all_goals
    have HU3 := Lib.hid hu3
    have HK3 : Hid (Kx N w w3) := Lib.hid (kx_trans HK1.out (kx_trans HK2.out hk3))
    clear hu3 hk3
    go_wp2_with fail
    go_end0
    exact ⟨rfl, by rw [HW.out]; first | exact HU3.out | exact bu_drew HU3.out, HK3.out⟩
end Go.Proofs.YtgmifaadlaigdaaGreatDoor
