import Derived.Test.YtgmifaadlaigdaaGreatDoorOa
import Derived.Test.YtgmifaadlaigdaaGreatDoorSh
namespace Go.Proofs.YtgmifaadlaigdaaGreatDoor
open Go.ChangeShapes Go.WideShapes Go.ChangeAt Go.RowKit
set_option linter.unusedVariables false
/-- what the package variables that the walk reads hold -/
def Gl (w : World) : Prop := (∃ ev, w.cell? ⟨2, 0, none⟩ = some ev ∧ (ev = .nilIface ∨ ∃ te pe, ev = .iface te pe)) ∧ (∃ ev, w.cell? ⟨3, 0, none⟩ = some ev ∧ (ev = .nilIface ∨ ∃ te pe, ev = .iface te pe)) ∧
  Lib.TabIs Tryz.prog w "internal/strconv.uint64pow10" .u64 Lib.pow10Tab ∧ 8 ≤ w.heap.size
theorem g10 : ∃ g, Tryz.prog.globalNamed "internal/strconv.uint64pow10" = some g ∧ g < 8 := ⟨1, by kernel_rfl, by decide⟩
theorem Gl.below {w w' : World} (h : Gl w) (hb : Below w.heap.size w w') : Gl w' := by
  obtain ⟨⟨e2, h2, k2⟩, ⟨e3, h3, k3⟩, ht, h8⟩ := h
  obtain ⟨g, hg, hg8⟩ := g10
  have hz := hb.size
  exact ⟨⟨e2, by rw [hb.cell (p := ⟨2, 0, none⟩) (by show 2 < _; omega)]; exact h2, k2⟩, ⟨e3, by rw [hb.cell (p := ⟨3, 0, none⟩) (by show 3 < _; omega)]; exact h3, k3⟩, var?_below hb hg (by omega) ht, by omega⟩
/-- the digits of a number -/
theorem dec_tens (n : Nat) : (⟨(Lib.decDigits n).toArray⟩ : ByteArray) = tens n := by
  induction n using Nat.strongRecOn with
  | _ n ih =>
    by_cases h : n < 10
    · rw [tens_lt h, Lib.decDigits, dif_pos h]
      have : n % 10 = n := by omega
      rw [this]
    · rw [tens_ge h, Lib.decDigits, dif_neg h, ← ih (n / 10) (by omega)]
      apply ByteArray.ext
      simp [ByteArray.data_append]
theorem itoa_tens (n : Nat) : (⟨(Lib.itoa (n : Int)).toArray⟩ : ByteArray) = tens n := by
  unfold Lib.itoa
  rw [if_neg (by omega)]
  exact dec_tens n
theorem below_grow {w : World} (n : Nat) (os : Array Obj) : Below w.heap.size w (Go.Sort.grow (w.drewN n) os) := by
  refine ⟨rfl, rfl, rfl, ?_, fun k hk => ?_⟩
  · show w.heap.size ≤ (w.heap ++ os).size
    simp
  · show (w.heap ++ os)[k]? = w.heap[k]?
    rw [Array.getElem?_append_left hk]
/-- strconv.Itoa -/
theorem c47 (n : Nat) (hn : n ≤ 16777216) (w : World) (hg : Gl w) : Calls Tryz.prog 47 #[.int .i64 (n : Int)] w fun e w' => e = .returned (.string (tens n)) ∧ Below w.heap.size w w' := by
  refine (Tryz.strconv_Itoa (n : Int) (by omega) (by omega) w hg.2.2.1).mono ?_
  rintro _ w' ⟨rfl, k, os, rfl⟩
  exact ⟨by rw [itoa_tens], below_grow k os⟩
theorem rep_snoc (l : List UInt8) : ∀ k, Lib.repeatL l (k + 1) = Lib.repeatL l k ++ l
  | 0 => by simp [Lib.repeatL]
  | k + 1 => by
    show l ++ Lib.repeatL l (k + 1) = (l ++ Lib.repeatL l k) ++ l
    rw [rep_snoc l k, List.append_assoc]
theorem blk_rep (s : ByteArray) : ∀ k, blk s k = s ++ ⟨(Lib.repeatL [32] k).toArray⟩
  | 0 => by
    apply ByteArray.ext
    simp [blk, Lib.repeatL, ByteArray.data_append]
  | k + 1 => by
    rw [blk, blk_rep s k, rep_snoc]
    apply ByteArray.ext
    simp [ByteArray.data_append]
theorem ba_assoc (a b c : ByteArray) : a ++ b ++ c = a ++ (b ++ c) := by
  apply ByteArray.ext
  simp [ByteArray.data_append]
/-- strings.Repeat of a blank -/
theorem c62 (k : Nat) (hk : k ≤ 16777216) (w : World) : Calls Tryz.prog 62 #[.string ⟨#[32]⟩, .int .i64 (k : Int)] w fun e w' => e = .returned (.string ⟨(Lib.repeatL [32] k).toArray⟩) ∧ Below w.heap.size w w' :=
  Tryz.strings_Repeat ⟨#[32]⟩ k w (by omega) (by show 1 * k ≤ _; omega)
theorem rep_size (k : Nat) : (⟨(Lib.repeatL [32] k).toArray⟩ : ByteArray).size = k := by
  show (Lib.repeatL [32] k).toArray.size = k
  rw [List.size_toArray, Lib.repeatL_length]
  simp
set_option maxRecDepth 100000 in
set_option maxHeartbeats 4000000 in
/-- field -/
theorem c46 {N : Nat} {w0 w : World} {t : ByteArray} (h : Bu N w0 w t) (s : ByteArray) (n : Nat) (ht : t.size ≤ 8388608) (hs : s.size ≤ n) (hn : n ≤ 16) :
    Calls Tryz.prog 46 #[.pointer (some ⟨N, 0, none⟩), .string s, .int .i64 (n : Int)] w fun e w' => e = .returned (.tuple #[]) ∧ Bu N w0 w' (t ++ wideB s n) := by
  have HW : Hid (t ++ wideB s n = t ++ s ++ ⟨(Lib.repeatL [32] (n - s.size)).toArray⟩) := Lib.hid (by unfold wideB; rw [blk_rep, ba_assoc])
  have K22 := Lib.hid (bw22 h s (by omega) (by omega))
  have K62 := Lib.hid (c62 (n - s.size) (by omega))
  have e1 : ((n - s.size : Nat) : Int) = IntKind.i64.wrap ((n : Int) - (s.size : Int)) := by rw [show IntKind.i64.wrap ((n : Int) - (s.size : Int)) = (n : Int) - (s.size : Int) by unfold IntKind.wrap; simp [IntKind.bits, IntKind.signed]; omega]; omega
  rw [e1] at K62
  have HR := Lib.hid (rep_size (n - s.size))
  have HR2 : Hid (n - s.size ≤ 16) := Lib.hid (by omega)
  have HS : Hid ((t ++ s).size ≤ 16777216) := Lib.hid (by rw [ByteArray.size_append]; omega)
  clear h e1
  generalize (⟨(Lib.repeatL [32] (n - s.size)).toArray⟩ : ByteArray) = r at *
  go_enter Tryz.func46, Tryz.ntmps46
  go_wp2_with fail
  refine K22.out.mono ?_
  rintro _ w1 ⟨rfl, hu1⟩
  have HU1 := Lib.hid hu1
  clear hu1 K22
  have HR1 : Hid (r.size ≤ 16777216) := Lib.hid (by rw [HR.out]; have := HR2.out; omega)
  go_wp2_with fail
  go_region_law (first | (go_simp; go_at_call 62; (with_reducible refine (K62.out _).mono ?_); rintro _ w2 ⟨rfl, hb2⟩; have HU2 := Lib.hid (bu_below (by first | exact HU1.out | exact bu_drew HU1.out) hb2)) | (go_simp; go_at_call 22; refine (bw22 (by first | exact HU2.out | exact bu_drew HU2.out) r HS.out HR1.out).mono ?_; rintro _ w3 ⟨rfl, hu3⟩))
  all_goals
    have HU3 := Lib.hid hu3
    clear hu3
    go_wp2_with fail
    go_end0
    exact ⟨rfl, by rw [HW.out]; first | exact HU3.out | exact bu_drew HU3.out⟩
end Go.Proofs.YtgmifaadlaigdaaGreatDoor
