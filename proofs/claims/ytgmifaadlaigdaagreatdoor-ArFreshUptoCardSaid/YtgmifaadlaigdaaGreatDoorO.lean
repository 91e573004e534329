import Derived.Test.YtgmifaadlaigdaaGreatDoorE
import Derived.Lib.Builder
import Derived.Lib.AppendStr
import Derived.Lib.UnsafeStr
import Derived.Lib.Strings
import Derived.Lib.Walk
import Derived.Laws.AppendOwn
import Derived.Laws.Externs
import Derived.OwnWalk
import Derived.Deep.Draws
namespace Go.Proofs.YtgmifaadlaigdaaGreatDoor
open Go.ChangeShapes Go.WideShapes Go.ChangeAt Go.RowKit
set_option linter.unusedVariables false
/-- the writer in block N holds these bytes, and below N all is as it was -/
def Bu (N : Nat) (w wr : World) (s : ByteArray) : Prop := Lib.IsBuilder 47 5 N N (Lib.strCells s) wr ∧ Below N w wr
theorem bu_fresh (w : World) : Bu w.heap.size w (w.alloc (.cells #[.pointer none, .slice none 0 0] 47)) ⟨#[]⟩ := ⟨Lib.fresh_isBuilder 47 5 w, (Below.refl _ w).alloc (Nat.le_refl _) _⟩
theorem at_below {p : Value} {bs : List Value} {B b : Nat} {w w' : World} (h : Lib.BuilderAt 47 5 B b p bs w) (hb : Below w.heap.size w w') : Lib.BuilderAt 47 5 B b p bs w' := by
  have hlt := h.lt
  obtain ⟨h1, v, h2, h3, h4⟩ := h
  exact ⟨h1, v, (hb.block b hlt).trans h2, h3.kept (row := none) ⟨hb.os, hb.tape, hb.output, hb.size, fun j hj _ => hb.block j hj⟩ (by cases v.ownBlock <;> simp), h4⟩
theorem is_lt {bs : List Value} {B b : Nat} {w : World} (h : Lib.IsBuilder 47 5 B b bs w) : b < w.heap.size := by
  rcases h with h | h <;> exact h.lt
theorem bu_below {N : Nat} {w wr w' : World} {s : ByteArray} (h : Bu N w wr s) (hb : Below wr.heap.size wr w') : Bu N w w' s :=
  ⟨h.1.imp (fun k => at_below k hb) (fun k => at_below k hb), h.2.trans (hb.mono (Nat.le_of_lt (is_lt h.1)))⟩
theorem bu_le {N : Nat} {w wr : World} {s : ByteArray} (h : Bu N w wr s) : N ≤ wr.heap.size := Nat.le_of_lt (is_lt h.1)
theorem bu_alloc {N : Nat} {w wr : World} {s : ByteArray} (h : Bu N w wr s) (o : Obj) : Bu N w (wr.alloc o) s := bu_below h ((Below.refl _ wr).alloc (Nat.le_refl _) o)
theorem bu_drew {N : Nat} {w wr : World} {s : ByteArray} (h : Bu N w wr s) : Bu N w wr.drew s := bu_below h (Below.refl _ wr).drew
theorem cells_add (s t : ByteArray) : Lib.strCells (s ++ t) = Lib.strCells s ++ Lib.strCells t := by simp [Lib.strCells, ByteArray.data_append]
theorem info47 : (Tryz.prog.info? 45).map (·.size) = some 2 := by kernel_rfl
theorem lies47 : liesAt Tryz.prog Tryz.prog.depth 47 (2 / Tryz.prog.cellsOf 47) 0 45 1 = true := by kernel_rfl
set_option maxHeartbeats 1000000 in
set_option maxRecDepth 100000 in
theorem copy_used (b : Nat) (w : World) (h0 : w.cell? ⟨b, 0, none⟩ = some (.pointer (some ⟨b, 0, none⟩))) :
    Calls Tryz.prog 42 #[.pointer (some ⟨b, 0, none⟩)] w fun e w' => e = .returned (.tuple #[]) ∧ w' = w := by
  obtain ⟨j, hj, hjs⟩ := Option.map_eq_some_iff.1 info47
  go_enter Tryz.func42, Tryz.ntmps42
  go_wp2
  rw [Lib.run_neq_ptr_same w _ Tryz.underlying43 hj]
  go_wp2
  go_end0
  exact ⟨rfl, rfl⟩
set_option maxHeartbeats 1000000 in
set_option maxRecDepth 100000 in
theorem copy_fresh (b : Nat) (w : World) (h0 : w.cell? ⟨b, 0, none⟩ = some (.pointer none)) (hsh : w.shape? b = some (47, 2)) (hfz : w.frozen? ⟨b, 0, none⟩ = false) :
    Calls Tryz.prog 42 #[.pointer (some ⟨b, 0, none⟩)] w fun e w' => e = .returned (.tuple #[]) ∧ w' = w.setCell ⟨b, 0, none⟩ (.pointer (some ⟨b, 0, none⟩)) := by
  obtain ⟨j, hj, hjs⟩ := Option.map_eq_some_iff.1 info47
  go_enter Tryz.func42, Tryz.ntmps42
  go_wp2
  rw [Lib.run_to_unsafe w ⟨b, 0, none⟩ Tryz.underlying43 Tryz.underlying101 hj (by rw [hjs]; decide) hsh (Nat.zero_lt_succ 1)]
  simp only [Result.andThen]
  rw [Oper.upon_value]
  go_wp2
  rw [run_callFunc_extern Tryz.func61 (by kernel_rfl) (by kernel_rfl) (by kernel_rfl) (e := Extern.AbiNoEscape.same) (by kernel_rfl)]
  rw [Lib.run_noEscape]
  simp only [Result.andThen]
  rw [Oper.upon_value]
  go_wp2
  rw [Lib.run_from_unsafe w ⟨b, 0, none⟩ Tryz.underlying101 Tryz.underlying43 hj hsh lies47]
  simp only [Result.andThen]
  rw [Oper.upon_value]
  go_wp2
  go_end0
  exact ⟨rfl, rfl⟩
theorem c42 (N : Nat) (bs : List Value) (w : World) (h : Lib.IsBuilder 47 5 N N bs w) :
    Calls Tryz.prog 42 #[.pointer (some ⟨N, 0, none⟩)] w fun e w' => e = .returned (.tuple #[]) ∧ (Lib.BuilderAt 47 5 N N (.pointer (some ⟨N, 0, none⟩)) bs w' ∧ Below N w w') := by
  rcases h with h | h
  · refine (copy_fresh N w h.cell0 h.shape h.frozen0).mono ?_
    rintro e w' ⟨rfl, rfl⟩
    exact ⟨rfl, h.used _, (Below.refl N w).setCell (p := ⟨N, 0, none⟩) h.1 _⟩
  · refine (copy_used N w h.cell0).mono ?_
    rintro e w' ⟨rfl, rfl⟩
    exact ⟨rfl, h, Below.refl N _⟩
theorem info5 : ∃ i, Tryz.prog.info? 5 = some i ∧ i.zero = some (.int .u8 0) ∧ i.size = 1 ∧ i.bytes = 1 := by
  have h : (Tryz.prog.info? 5).map (fun i => (i.zero, i.size, i.bytes)) = some (some (.int .u8 0), 1, 1) := by kernel_rfl
  cases hq : Tryz.prog.info? 5 with
  | none => rw [hq] at h; cases h
  | some i => rw [hq] at h; exact ⟨i, rfl, by simpa using h⟩
set_option maxHeartbeats 2000000 in
set_option maxRecDepth 100000 in
/-- (*strings.Builder).WriteString -/
theorem bw22 {N : Nat} {w0 w : World} {s : ByteArray} (h : Bu N w0 w s) (t : ByteArray) (hs : s.size ≤ 16777216) (ht : t.size ≤ 16777216) :
    Calls Tryz.prog 22 #[.pointer (some ⟨N, 0, none⟩), .string t] w fun e w' => e = .returned (.tuple #[.int .i64 t.size, .nilIface]) ∧ Bu N w0 w' (s ++ t) := by
  obtain ⟨i0, hi, hz0, hz1, hz2⟩ := info5
  have HS : Hid ((Lib.strCells s).length = s.size) := Lib.hid (Lib.strCells_length s)
  obtain ⟨hI, hB0⟩ := h
  have hN := is_lt hI
  go_enter Tryz.func22, Tryz.ntmps22
  go_wp2_with (go_at_call 42; refine (c42 N (Lib.strCells s) _ hI).mono ?_)
  rintro e w1 ⟨rfl, h1, hb1⟩
  obtain ⟨hB, v, hbk, hown, hne⟩ := h1
  have c0 : w1.cell? ⟨N, 0, none⟩ = some (.pointer (some ⟨N, 0, none⟩)) := by rw [Lib.cell_of_heap hbk]; rfl
  have c1 : w1.cell? ⟨N, 1, none⟩ = some v := by rw [Lib.cell_of_heap hbk]; rfl
  go_wp2_with (at_builtin; refine Lib.wpList_append_own_string _ rfl _ _ 24 9 rfl N 5 i0 Tryz.underlying24 Tryz.underlying9 hi hz0 hz1 hz2 _ _ _ rfl hown t rfl ?c3 ?c4 ?c5 ?_)
  case c3 => rw [HS.out]; unfold maxLen; omega
  case c4 => rw [HS.out]; omega
  case c5 => have := hb1.size; omega
  intro v' w2 hown' hgrow _
  have hlt : N < w1.heap.size := by have := hb1.size; omega
  have hb2 : w2.heap[N]? = some (.cells #[.pointer (some ⟨N, 0, none⟩), v] 47 (0, 0)) := by
    rw [hgrow.block N hlt (fun e => hne e.symm)]
    exact hbk
  have d0 : w2.cell? ⟨N, 0, none⟩ = some (.pointer (some ⟨N, 0, none⟩)) := by rw [Lib.cell_of_heap hb2]; rfl
  have d1 : w2.cell? ⟨N, 1, none⟩ = some v := by rw [Lib.cell_of_heap hb2]; rfl
  have f1 : w2.frozen? ⟨N, 1, none⟩ = false := Lib.frozen_of_heap hb2 1
  obtain ⟨ao, n', cap, rfl⟩ : ∃ ao n' cap, v' = .slice ao n' cap := by
    rcases hown'.2 with ⟨hv, _⟩ | ⟨g, cap, cur, hv, _⟩
    · exact ⟨_, _, _, hv⟩
    · exact ⟨_, _, _, hv⟩
  go_wp2
  go_ret2
  refine ⟨rfl, Or.inr ?_, hB0.trans ?_⟩
  · rw [cells_add]
    exact Lib.BuilderAt.put (T := 47) (e := 5) hB hb2 (bs' := Lib.strCells s ++ Lib.strCells t) (by simpa [Lib.strCells_length] using hown') (by decide)
  · exact (hb1.grown hgrow (by have := hb1.size; omega) (fun k hk => (hown.lt k hk).1)).setCell (p := ⟨N, 1, none⟩) hB _
set_option maxHeartbeats 2000000 in
set_option maxRecDepth 100000 in
/-- (*strings.Builder).WriteByte -/
theorem bw44 {N : Nat} {w0 w : World} {s : ByteArray} (h : Bu N w0 w s) (c : Nat) (hs : s.size ≤ 33554432) (hc : c < 256) :
    Calls Tryz.prog 44 #[.pointer (some ⟨N, 0, none⟩), .int .u8 (c : Int)] w fun e w' => e = .returned .nilIface ∧ Bu N w0 w' (s ++ ⟨#[UInt8.ofNat c]⟩) := by
  obtain ⟨i0, hi, hz0, hz1, hz2⟩ := info5
  have HS : Hid ((Lib.strCells s).length = s.size) := Lib.hid (Lib.strCells_length s)
  have HC : Hid (Lib.strCells (s ++ ⟨#[UInt8.ofNat c]⟩) = Lib.strCells s ++ [.int .u8 (c : Int)]) := Lib.hid (by
    rw [cells_add]
    have e : (UInt8.ofNat c).toNat = c := by rw [UInt8.toNat_ofNat']; omega
    simp [Lib.strCells, e])
  obtain ⟨hI, hB0⟩ := h
  have hN := is_lt hI
  go_enter Tryz.func44, Tryz.ntmps44
  go_wp2_with (go_at_call 42; refine (c42 N (Lib.strCells s) _ hI).mono ?_)
  rintro e w1 ⟨rfl, h1, hb1⟩
  obtain ⟨hB, v, hbk, hown, hne⟩ := h1
  have c0 : w1.cell? ⟨N, 0, none⟩ = some (.pointer (some ⟨N, 0, none⟩)) := by rw [Lib.cell_of_heap hbk]; rfl
  have c1 : w1.cell? ⟨N, 1, none⟩ = some v := by rw [Lib.cell_of_heap hbk]; rfl
  go_wp2_with (at_builtin; refine wpList_append_own _ rfl _ _ 24 rfl N 5 i0 (.int .u8 0) 1 1 Tryz.underlying24 hi hz0 hz1 hz2 rfl (by decide) _ _ _ rfl (hown.alloc _) ⟨w1.heap.size, 0, none⟩ 1 1 [.int .u8 (c : Int)] rfl rfl ?c1 ?c2 ?c3 ?c4 ?c5 ?_)
  case c1 =>
    intro j u hj
    match j, hj with
    | 0, hj => simp at hj; subst hj; simp [Addr.add]
  case c2 => intro u hu; simp at hu; subst hu; rfl
  case c3 => rw [HS.out]; unfold maxLen; omega
  case c4 => rw [HS.out]; omega
  case c5 => have := hb1.size; simp; omega
  intro v' w2 hown' hgrow _
  have hlt : N < w1.heap.size := by have := hb1.size; omega
  have hb2 : w2.heap[N]? = some (.cells #[.pointer (some ⟨N, 0, none⟩), v] 47 (0, 0)) := by
    rw [hgrow.block N (by simp; omega) (fun e => hne e.symm), Lib.alloc_old w1 _ N hlt]
    exact hbk
  have d0 : w2.cell? ⟨N, 0, none⟩ = some (.pointer (some ⟨N, 0, none⟩)) := by rw [Lib.cell_of_heap hb2]; rfl
  have d1 : w2.cell? ⟨N, 1, none⟩ = some v := by rw [Lib.cell_of_heap hb2]; rfl
  have f1 : w2.frozen? ⟨N, 1, none⟩ = false := Lib.frozen_of_heap hb2 1
  obtain ⟨g, cap, rfl⟩ : ∃ g cap, v' = .slice (some ⟨g, 0, none⟩) ((Lib.strCells s).length + 1) cap := by
    rcases hown'.2 with ⟨_, h0⟩ | ⟨g, cap, cur, hv, _⟩
    · omega
    · exact ⟨g, cap, hv⟩
  go_wp2
  go_ret
  refine ⟨rfl, Or.inr ?_, hB0.trans ?_⟩
  · rw [HC.out]
    exact Lib.BuilderAt.put (T := 47) (e := 5) hB hb2 (bs' := Lib.strCells s ++ [.int .u8 (c : Int)]) (by simpa using hown') (by decide)
  · exact ((hb1.alloc (by have := hb1.size; omega) _).grown hgrow (by have := hb1.size; simp; omega) (fun k hk => (hown.lt k hk).1)).setCell (p := ⟨N, 1, none⟩) hB _
set_option maxHeartbeats 1000000 in
/-- (*strings.Builder).Len -/
theorem bw45 {N : Nat} {w0 w : World} {s : ByteArray} (h : Bu N w0 w s) :
    Calls Tryz.prog 45 #[.pointer (some ⟨N, 0, none⟩)] w fun e w' => e = .returned (.int .i64 (s.size : Int)) ∧ w' = w := by
  have HS : Hid ((Lib.strCells s).length = s.size) := Lib.hid (Lib.strCells_length s)
  obtain ⟨p, hB, v, hbk, hown, hne⟩ : ∃ p, Lib.BuilderAt 47 5 N N p (Lib.strCells s) w := by
    rcases h.1 with h | h
    · exact ⟨_, h⟩
    · exact ⟨_, h⟩
  obtain ⟨ao, cap, rfl⟩ : ∃ ao cap, v = .slice ao (Lib.strCells s).length cap := by
    rcases hown.2 with ⟨hv, h0⟩ | ⟨g, cap, cur, hv, _⟩
    · exact ⟨none, 0, by rw [hv, h0]⟩
    · exact ⟨_, _, hv⟩
  rw [HS.out] at hbk
  have c1 : w.cell? ⟨N, 1, none⟩ = some (.slice ao s.size cap) := by rw [Lib.cell_of_heap hbk]; rfl
  clear hown hne hbk
  go_enter Tryz.func45, Tryz.ntmps45
  go_wp2
  go_ret
  exact ⟨rfl, rfl⟩
end Go.Proofs.YtgmifaadlaigdaaGreatDoor
