import Derived.Test.YtblfnjdbihhglaaGreatDoorSk
import Derived.Test.YtblfnjdbihhglaaGreatDoorLA
import Derived.Lib.ItoaMem
namespace Go.Proofs.YtblfnjdbihhglaaGreatDoor
open Go.ChangeShapes Go.WideShapes Go.ChangeAt Go.RowKit Go.Shelf Go.Sort Go.Lib
set_option linter.unusedVariables false
set_option linter.unusedSimpArgs false
/-- a number in tens -/
def tn (n : Nat) : ByteArray := ⟨(Lib.decDigits n).toArray⟩
/-- the table of powers -/
def Gt (w : World) : Prop := Lib.TabIs Tryz.prog w "internal/strconv.uint64pow10" .u64 Lib.pow10Tab ∧ 7 < w.heap.size
theorem Gt.below {w w' : World} (h : Gt w) (hb : Below w.heap.size w w') : Gt w' :=
  ⟨var?_below hb (show Tryz.prog.globalNamed "internal/strconv.uint64pow10" = some 0 by kernel_rfl) (by have := h.2; omega) h.1, Nat.lt_of_lt_of_le h.2 hb.size⟩
theorem itoa_tn (n : Nat) : (⟨(Lib.itoa (n : Int)).toArray⟩ : ByteArray) = tn n := by
  unfold Lib.itoa
  rw [if_neg (by omega)]
  rfl
theorem below_grow {w : World} (n : Nat) (os : Array Obj) : Below w.heap.size w (Go.Sort.grow (w.drewN n) os) := by
  refine ⟨rfl, rfl, rfl, ?_, fun k hk => ?_⟩
  · show w.heap.size ≤ (w.heap ++ os).size
    simp
  · show (w.heap ++ os)[k]? = w.heap[k]?
    rw [Array.getElem?_append_left hk]
/-- strconv.Itoa -/
theorem c37 (n : Nat) (hn : n ≤ 4294967296) (w : World) (hg : Gt w) : Calls Tryz.prog 37 #[.int .i64 (n : Int)] w fun e w' => e = .returned (.string (tn n)) ∧ Below w.heap.size w w' := by
  refine (Tryz.strconv_Itoa (n : Int) (by omega) (by omega) w hg.1).mono ?_
  rintro _ w' ⟨rfl, k, os, rfl⟩
  exact ⟨by rw [itoa_tn], below_grow k os⟩
theorem holds_zero0 (w : World) (T : TypeId) (nd : Nat) (hs : nd ≤ 24) : Holds (fun (b : UInt8) => Value.int .u8 (b.toNat : Int)) (w.alloc (.cells zeros24 T)) w.heap.size 0 (Array.replicate nd (0 : UInt8)) := fun j hj => by
  have hj' : j < nd := by simpa using hj
  refine ⟨?_, World.frozen?_alloc_new _ _ _ _⟩
  rw [World.cell?_alloc_new, zeros24_at _ (by omega), getElem!_pos _ j hj]
  simp
set_option maxHeartbeats 6400000 in
set_option maxRecDepth 100000 in
theorem c77 (u : Nat) (hu : u ≤ 4294967296) (w : World) (hg : Gt w) : Calls Tryz.prog 77 #[.int .u64 (u : Int), .int .i64 10] w fun e w' => e = .returned (.string (tn u)) ∧ Below w.heap.size w w' := by
  have L := Tryz.laysM171
  by_cases hs : u < 100
  · have K := Lib.hid (Any.internal_strconv_small (P := Tryz.prog) (ρ := Tryz.laysM171_ren) { L with } u hs)
    have t1 : decide ((u : Int) < 100) = true := by simp; omega
    go_enter Tryz.func77, Tryz.ntmps77
    go_wp2_with (go_at_call 86; refine (K.out _).mono ?_; rintro e w' ⟨rfl, rfl⟩)
    go_ret
    exact ⟨rfl, Below.refl _ _⟩
  · have t1 : decide ((u : Int) < 100) = false := by simp; omega
    have hu1 : 1 ≤ u := by omega
    have hu64 : u < 18446744073709551616 := by omega
    have hnd20 : Lib.nDigits u ≤ 20 := by have := Lib.numDigits_eq u hu1 hu64; split at this <;> omega
    have hb3 : Lib.nDigits u ≤ 24 := by omega
    have hal : Tryz.prog.arrayLen 113 = 24 := by kernel_rfl
    have hsl1 : ∀ W, (Instr.sliceAt 113 (.pointer (some ⟨w.heap.size, 0, none⟩)) none (some (.int .i64 (Lib.nDigits u : Int))) none).run Tryz.prog W = .ok (.slice (some ⟨w.heap.size, 0, none⟩) (Lib.nDigits u) 24) W := fun W => by
      rw [run_sliceAt_array_h W 113 ⟨w.heap.size, 0, none⟩ (by kernel_rfl) .i64 (Lib.nDigits u : Int) (by omega) (by rw [hal]; omega)]
      go_simp
    have hH0 := holds_zero0 w 113 (Lib.nDigits u) (by omega)
    have hfmt := Any.internal_strconv_formatBase10 (P := Tryz.prog) (ρ := Tryz.laysM171_ren) { L with } w.heap.size 0 24 u (Array.replicate (Lib.nDigits u) 0) (w.alloc (.cells Lib.zeros24 113)) hH0 (by rw [Array.size_replicate]; exact Lib.lt_pow_nDigits u) hu64 (by rw [Array.size_replicate]; omega)
    rw [Array.size_replicate] at hfmt
    have KN := Lib.hid (Any.internal_strconv_numDigits (P := Tryz.prog) (ρ := Tryz.laysM171_ren) { L with } u hu1 hu64)
    have KF := Lib.hid hfmt
    have HH0 := Lib.hid hH0
    have HG := Lib.hid hg
    clear hH0 hal hfmt hg
    go_enter Tryz.func77, Tryz.ntmps77
    go_wp2_with (first | (go_at_call 87; refine (KN.out _ (Lib.tabIs_alloc HG.out.1 _)).mono ?_; rintro e w' ⟨rfl, rfl⟩))
    go_at_call 88
    refine KF.out.mono ?_
    rintro e w' ⟨rfl, k, v', dk, rfl, hF⟩
    have hcv : (convert 69 9 (.slice (some ⟨w.heap.size, 0, none⟩) (Lib.nDigits u) 24)).run Tryz.prog ((putRow (fun (b : UInt8) => Value.int .u8 (b.toNat : Int)) (w.alloc (.cells Lib.zeros24 113)) w.heap.size 0 dk).drewN k) = .ok (.string ⟨(Lib.decDigits u).toArray⟩) ((putRow (fun (b : UInt8) => Value.int .u8 (b.toNat : Int)) (w.alloc (.cells Lib.zeros24 113)) w.heap.size 0 dk).drewN k) := by
      have h := run_convert_bytes_back (P := Tryz.prog) ((putRow (fun (b : UInt8) => Value.int .u8 (b.toNat : Int)) (w.alloc (.cells Lib.zeros24 113)) w.heap.size 0 dk).drewN k) 69 9 5 ⟨w.heap.size, 0, none⟩ 24 (Lib.decDigits u) Tryz.underlying69 Tryz.underlying5 Tryz.underlying9 (fun j hj => by
        rw [Lib.row_is_numeral hF j hj, Lib.add_plain, World.cell?_drewN]
        exact cell?_putRow (fun (b : UInt8) => Value.int .u8 (b.toNat : Int)) _ w.heap.size 0 _ dk HH0.out (by rw [hF.size, Array.size_replicate]) j (by rw [hF.size]; rw [Lib.decDigits_length] at hj; exact hj))
      rw [Lib.decDigits_length] at h
      exact h
    go_wp2
    go_ret
    refine ⟨rfl, ?_⟩
    rw [alloc_eq_grow]
    obtain ⟨os, _, eo⟩ := putRow_grow_new (fun (b : UInt8) => Value.int .u8 (b.toNat : Int)) w #[.cells Lib.zeros24 113] w.heap.size 0 dk (Nat.le_refl _)
    rw [eo]
    exact below_grow k os
/-- strconv.FormatUint -/
theorem c59 (u : Nat) (hu : u ≤ 4294967296) (w : World) (hg : Gt w) : Calls Tryz.prog 59 #[.int .u64 (u : Int), .int .i64 10] w fun e w' => e = .returned (.string (tn u)) ∧ Below w.heap.size w w' := by
  have K := Lib.hid (c77 u hu w hg)
  go_enter Tryz.func59, Tryz.ntmps59
  go_wp2_with fail
  refine K.out.mono ?_
  rintro _ w' ⟨rfl, hb⟩
  go_wp2_with fail
  go_ret
  exact ⟨rfl, hb⟩
theorem c31 (u : Nat) (hu : u < 4294967296) (w : World) (hg : Gt w) : Calls Tryz.prog 31 #[.int .u32 (u : Int)] w fun e w' => e = .returned (.string (tn u)) ∧ Below w.heap.size w w' := by
  have K := Lib.hid (c59 u (by omega) w hg)
  have hwr : IntKind.u64.wrap (u : Int) = (u : Int) := by rw [IntKind.wrap_u64]; omega
  go_enter Tryz.func31, Tryz.ntmps31
  go_wp2_with fail
  refine K.out.mono ?_
  rintro _ w' ⟨rfl, hb⟩
  go_wp2_with fail
  go_ret
  exact ⟨rfl, hb⟩
end Go.Proofs.YtblfnjdbihhglaaGreatDoor
