import Derived.Test.YtliimbidkkpegaaDoorS
import Derived.Test.YtliimbidkkpegaaDoorSh
import Derived.LaidMore
namespace Go.Proofs.YtliimbidkkpegaaDoor
open Go.ChangeShapes Go.WideShapes Go.ChangeAt Go.RowKit
set_option linter.unusedVariables false
/-- the constant of all names -/
def NM : ByteArray := ⟨#[108, 117, 105, 32, 97, 117, 105, 112, 99, 99, 32, 99, 106, 97, 108, 32, 99, 106, 97, 108, 114, 32, 98, 101, 113, 32, 98, 110, 101, 32, 98, 108, 116, 32, 98, 103, 101, 32, 98, 108, 116, 117, 32, 98, 103, 101, 117, 32, 108, 98, 32, 108, 104, 32, 108, 119, 32, 99, 108, 99, 32, 108, 98, 117, 32, 108, 104, 117, 32, 115, 98, 32, 115, 104, 32, 115, 119, 32, 99, 115, 99, 32, 97, 100, 100, 105, 32, 115, 108, 116, 105, 32, 115, 108, 116, 105, 117, 32, 120, 111, 114, 105, 32, 111, 114, 105, 32, 97, 110, 100, 105, 32, 115, 108, 108, 105, 32, 115, 114, 108, 105, 32, 115, 114, 97, 105, 32, 97, 100, 100, 32, 115, 117, 98, 32, 115, 108, 108, 32, 115, 108, 116, 32, 115, 108, 116, 117, 32, 120, 111, 114, 32, 115, 114, 108, 32, 115, 114, 97, 32, 111, 114, 32, 97, 110, 100, 32, 109, 117, 108, 32, 109, 117, 108, 104, 32, 109, 117, 108, 104, 115, 117, 32, 109, 117, 108, 104, 117, 32, 100, 105, 118, 32, 100, 105, 118, 117, 32, 114, 101, 109, 32, 114, 101, 109, 117, 32, 99, 46, 105, 110, 99, 97, 100, 100, 114, 105, 109, 109, 32, 99, 46, 115, 101, 116, 98, 111, 117, 110, 100, 115, 105, 109, 109, 32, 99, 46, 115, 101, 116, 98, 111, 117, 110, 100, 115, 32, 99, 46, 115, 101, 97, 108, 32, 99, 46, 117, 110, 115, 101, 97, 108, 32, 99, 46, 97, 110, 100, 112, 101, 114, 109, 32, 99, 46, 115, 101, 116, 97, 100, 100, 114, 32, 99, 46, 105, 110, 99, 97, 100, 100, 114, 32, 99, 46, 116, 101, 115, 116, 115, 117, 98, 115, 101, 116, 32, 99, 46, 103, 101, 116, 112, 101, 114, 109, 32, 99, 46, 103, 101, 116, 116, 121, 112, 101, 32, 99, 46, 103, 101, 116, 98, 97, 115, 101, 32, 99, 46, 103, 101, 116, 108, 101, 110, 32, 99, 46, 103, 101, 116, 116, 97, 103, 32, 99, 46, 109, 111, 118, 101, 32, 99, 46, 99, 108, 101, 97, 114, 116, 97, 103, 32, 99, 46, 103, 101, 116, 97, 100, 100, 114, 32, 99, 46, 115, 101, 110, 116, 114, 121, 32, 99, 46, 115, 112, 101, 99, 105, 97, 108, 114, 119, 32, 101, 99, 97, 108, 108, 32, 109, 114, 101, 116]⟩
/-- an instruction's name, from 0 on -/
def nm (q : Nat) : List UInt8 := (RQ q).1
def NL : List (List UInt8) := RT.map (·.1)
def NA : Array Value := (NL.map fun l => Value.string ⟨l.toArray⟩).toArray
set_option maxRecDepth 100000 in
theorem fields_NM : Lib.fields NM.data.toList = NL := by kernel_rfl
theorem NL_len : NL.length = 68 := by kernel_rfl
theorem NA_at (q : Nat) (hq : q < 68) : NA[q]? = some (.string ⟨(nm q).toArray⟩) := by
  unfold NA NL nm RQ
  rw [List.map_map, List.getElem?_toArray, List.getElem?_map]
  have h : q < RT.length := by have : RT.length = 68 := by kernel_rfl
                               omega
  rw [List.getD_eq_getElem?_getD, List.getElem?_eq_getElem h]
  rfl
/-- the table of the library's, in its place -/
def Sp (w : World) : Prop := ∃ t f, w.heap[3]? = some (.cells (Lib.asciiSpaceTab.map fun z => Value.int .u8 z).toArray t f)
theorem Sp.size {w : World} (h : Sp w) : 3 < w.heap.size := by
  obtain ⟨t, f, h2⟩ := h
  exact (Array.getElem?_eq_some_iff.1 h2).1
theorem Sp.below {w w' : World} {B : Nat} (h : Sp w) (hb : Below B w w') (hB : 4 ≤ B) : Sp w' := by
  obtain ⟨a, b, c⟩ := h
  exact ⟨a, b, by rw [hb.block 3 (by omega)]; exact c⟩
theorem gS : Tryd.prog.globalNamed "strings.asciiSpace" = some 3 := by kernel_rfl
theorem Sp.tab {w : World} (h : Sp w) : Lib.TabIs Tryd.prog w "strings.asciiSpace" .u8 Lib.asciiSpaceTab := by
  obtain ⟨t, f, e⟩ := h
  unfold Lib.TabIs
  simp only [World.var?, gS, Option.bind_some, e]
set_option maxRecDepth 100000 in
theorem NM_ascii : ∀ (j : Nat) b, NM.data.toList[j]? = some b → b.toNat < 128 := by
  intro j b h
  have h2 : b ∈ NM.data.toList := List.mem_of_getElem? h
  have h3 : NM.data.toList.all (fun b => decide (b.toNat < 128)) = true := by kernel_rfl
  exact of_decide_eq_true (List.all_eq_true.1 h3 b h2)
set_option maxRecDepth 100000 in
theorem NM_size : NM.size < 4294967281 := of_decide_eq_true (by kernel_rfl)
theorem fieldsN (w : World) (h : Sp w) : Calls Tryd.prog 26 #[.string NM] w fun e w' => e = .returned (.slice (some ⟨w.heap.size, 0, none⟩) 68 68) ∧ w' = w.alloc (.cells NA 9) := by
  have k := Tryd.strings_Fields NM w NM_size NM_ascii h.tab
  rw [fields_NM, NL_len] at k
  exact k
theorem nameLe (q : Nat) (hq : q < 68) : (nm q).length ≤ 281474976710656 := by
  have h : ∀ q : Fin 68, (nm q.val).length ≤ 281474976710656 := by decide +kernel
  exact h ⟨q, hq⟩
theorem clone (q : Nat) (hq : q < 68) (w : World) : Calls Tryd.prog 25 #[.string ⟨(nm q).toArray⟩] w fun e w' => e = .returned (.string ⟨(nm q).toArray⟩) ∧ Below w.heap.size w w' := by
  have k := fun w => Tryd.stringslite_Clone ⟨(nm q).toArray⟩ w (by show (nm q).toArray.size ≤ _; simpa using nameLe q hq)
  generalize nm q = l at *
  have K := Lib.hid k
  clear k
  go_enter Tryd.func25, Tryd.ntmps25
  go_wp2_with fail
  refine (K.out _).mono ?_
  rintro _ w1 ⟨rfl, q1⟩
  go_wp2_with fail
  go_ret
  exact ⟨rfl, q1⟩
def nameV (o : Nat) : Value := if o = 0 ∨ 68 < o then .tuple #[.string ⟨#[]⟩, .bool false] else .tuple #[.string ⟨(nm (o - 1)).toArray⟩, .bool true]
theorem nameNo (o : Nat) (h : o = 0 ∨ 68 < o) (ho : o < 256) (w : World) : Calls Tryd.prog 12 #[.int .u8 (o : Int)] w fun e w' => e = .returned (.tuple #[.string ⟨#[]⟩, .bool false]) ∧ Below w.heap.size w w' := by
  rcases h with rfl | h
  · go_enter Tryd.func12, Tryd.ntmps12
    go_wp2_with fail
    go_ret2
    exact ⟨rfl, Below.refl _ _⟩
  · have e : ((o : Int) == 0) = false := by simp; omega
    have d : decide ((68 : Int) < (o : Int)) = true := by simp; omega
    go_enter Tryd.func12, Tryd.ntmps12
    go_wp2_with fail
    go_ret2
    exact ⟨rfl, Below.refl _ _⟩
set_option maxRecDepth 100000 in
theorem nameIs (q : Nat) (hq : q < 68) (w : World) (hs : Sp w) : Calls Tryd.prog 12 #[.int .u8 ((q : Int) + 1)] w fun e w' => e = .returned (.tuple #[.string ⟨(nm q).toArray⟩, .bool true]) ∧ Below w.heap.size w w' := by
  have hz := hs.size
  have H := Lib.hid hs
  clear hs
  have KC := Lib.hid (clone q hq)
  have KN := Lib.hid (NA_at q hq)
  have e : (((q : Int) + 1) == 0) = false := by simp; omega
  have d : decide ((68 : Int) < (q : Int) + 1) = false := by simp; omega
  have e1 : ((q : Int) + 1) % 256 = (q : Int) + 1 := by omega
  have hc : (w.alloc (.cells NA 9)).cell? ⟨w.heap.size, q, none⟩ = some (.string ⟨(nm q).toArray⟩) := by
    simp only [World.cell?, World.alloc]
    simpa using NA_at q hq
  go_enter Tryd.func12, Tryd.ntmps12
  go_wp2_with fail
  refine (fieldsN _ H.out).mono ?_
  rintro _ _ ⟨rfl, rfl⟩
  go_wp2_with fail
  refine (KC.out _).mono ?_
  rintro _ w1 ⟨rfl, q1⟩
  go_wp2_with fail
  go_ret2
  exact ⟨rfl, ((Below.refl _ _).alloc (Nat.le_refl _) _).trans (q1.mono (by simp))⟩
theorem c12 (o : Nat) (ho : o < 256) (w : World) (hs : Sp w) : Calls Tryd.prog 12 #[.int .u8 (o : Int)] w fun e w' => e = .returned (nameV o) ∧ Below w.heap.size w w' := by
  unfold nameV
  by_cases h : o = 0 ∨ 68 < o
  · rw [if_pos h]; exact nameNo o h ho w
  · rw [if_neg h]
    obtain ⟨q, rfl⟩ : ∃ q, o = q + 1 := ⟨o - 1, by omega⟩
    rw [Nat.add_sub_cancel, Int.natCast_add]
    exact nameIs q (by omega) w hs
theorem ref13 (o : Nat) (a0 a1 a2 a3 a4 : Int) (l : List UInt8) (b : Bool) (w : World)
    (K : Hid (∀ w : World, Calls Tryd.prog 18 #[.int .u8 (o : Int)] w fun e w' => e = .returned (.tuple #[.agg #[.int .u8 a0, .string ⟨l.toArray⟩, .int .i64 a1, .int .u32 a2, .int .u32 a3, .int .u32 a4], .bool b]) ∧ Below w.heap.size w w')) :
    Calls Tryd.prog 13 #[.int .u8 (o : Int)] w fun e w' => e = .returned (.tuple #[.string ⟨l.toArray⟩, .bool b]) ∧ Below w.heap.size w w' := by
  go_enter Tryd.func13, Tryd.ntmps13
  go_wp2_with fail
  refine (K.out _).mono ?_
  rintro _ w1 ⟨rfl, q1⟩
  have z1 := q1.size
  have l1 : w.heap.size < w1.heap.size + 1 := by omega
  have g1 : Below w.heap.size w (w1.alloc (.cells #[.int .u8 a0, .string ⟨l.toArray⟩, .int .i64 a1, .int .u32 a2, .int .u32 a3, .int .u32 a4] 50)) := q1.alloc z1 _
  clear q1
  go_wp2_with fail
  go_ret2
  exact ⟨rfl, g1⟩
theorem c13 (o : Nat) (ho : o < 256) (w : World) : Calls Tryd.prog 13 #[.int .u8 (o : Int)] w fun e w' => e = .returned (nameV o) ∧ Below w.heap.size w w' := by
  have k := fun w => c18 o ho w
  unfold nameV
  unfold row18 rowV at k
  by_cases h : o = 0 ∨ 68 < o
  · simp only [if_pos h] at k
    rw [if_pos h]
    exact ref13 o 0 0 0 0 0 [] false w (Lib.hid k)
  · simp only [if_neg h] at k
    rw [if_neg h]
    exact ref13 o _ _ _ _ _ (nm (o - 1)) true w (Lib.hid k)
/-- the number of a name among the first so many; 0, if there is none -/
def nfL (s : List UInt8) : Nat → Nat
  | 0 => 0
  | k + 1 => match nfL s k with
    | 0 => if nm k = s then k + 1 else 0
    | r + 1 => r + 1
theorem nfL_no {s : List UInt8} {k : Nat} (h : nfL s k = 0) : nfL s (k + 1) = if nm k = s then k + 1 else 0 := by
  show (match nfL s k with | 0 => if nm k = s then k + 1 else 0 | r + 1 => r + 1) = _
  rw [h]
theorem nfL_yes {s : List UInt8} {k r : Nat} (h : nfL s k = r + 1) : nfL s (k + 1) = r + 1 := by
  show (match nfL s k with | 0 => if nm k = s then k + 1 else 0 | r + 1 => r + 1) = _
  rw [h]
theorem nfL_up (s : List UInt8) (k r : Nat) (h : nfL s k = r + 1) : ∀ d, nfL s (k + d) = r + 1
  | 0 => h
  | d + 1 => nfL_yes (nfL_up s k r h d)
def nf (s : List UInt8) : Nat := nfL s 68
def namedV (s : List UInt8) : Value := if nf s = 0 then .tuple #[.int .u8 0, .bool false] else .tuple #[.int .u8 (nf s : Int), .bool true]
theorem named_at {s : List UInt8} {k : Nat} (hk : k < 68) (h : nfL s k = 0) (e : nm k = s) : namedV s = .tuple #[.int .u8 ((k : Int) + 1), .bool true] := by
  have h1 : nfL s (k + 1) = k + 1 := by rw [nfL_no h, if_pos e]
  have h2 : nf s = k + 1 := by
    have := nfL_up s (k + 1) k h1 (67 - k)
    rw [show k + 1 + (67 - k) = 68 by omega] at this
    exact this
  unfold namedV
  rw [h2, if_neg (by omega), Int.natCast_add]
  rfl
theorem named_no {s : List UInt8} (h : nfL s 68 = 0) : namedV s = .tuple #[.int .u8 0, .bool false] := by
  unfold namedV nf
  rw [if_pos h]
set_option maxRecDepth 100000 in
set_option maxHeartbeats 1000000 in
theorem c14 (s : ByteArray) (w : World) (hs : Sp w) : Calls Tryd.prog 14 #[.string s] w fun e w' => e = .returned (namedV s.toList) ∧ Below w.heap.size w w' := by
  have hz := hs.size
  have H := Lib.hid hs
  clear hs
  have hc : ∀ k, k < 68 → (w.alloc (.cells NA 9)).cell? ⟨w.heap.size, k, none⟩ = some (.string ⟨(nm k).toArray⟩) := by
    intro k hk
    simp only [World.cell?, World.alloc]
    simpa using NA_at k hk
  have HC := Lib.hid hc
  clear hc
  go_enter Tryd.func14, Tryd.ntmps14
  go_wp2_with fail
  refine (fieldsN _ H.out).mono ?_
  rintro _ _ ⟨rfl, rfl⟩
  go_wp2_with fail
  go_loop [8] (fun i => ∃ k : Nat, k ≤ 68 ∧ i = .int .i64 (k : Int) ∧ Hid (nfL s.toList k = 0)) (fun i => 68 - (intOf i).toNat)
  case atStart => exact ⟨0, by omega, rfl, Lib.hid rfl⟩
  case round =>
    obtain ⟨k, hk, rfl, hko⟩ := hrel
    by_cases hlt : k < 68
    · have d0 := HC.out k hlt
      by_cases hq : nm k = s.toList
      · have e1 : (nm k == s.toList) = true := by simpa using hq
        have e2 := named_at hlt hko.out hq
        have E2 := Lib.hid e2
        clear hq e2
        go_wp2_with fail
        go_ret2
        refine ⟨?_, (Below.refl _ _).alloc (Nat.le_refl _) _⟩
        rw [E2.out]
        rfl
      · have e1 : (nm k == s.toList) = false := by simpa using hq
        have hn : Hid (nfL s.toList (k + 1) = 0) := Lib.hid (by rw [nfL_no hko.out, if_neg hq])
        clear hq
        go_wp2_with fail
        go_round
        case rel => exact ⟨k + 1, by omega, by go_num, hn⟩
        case measure => simp [intOf]; omega
    · obtain rfl : k = 68 := by omega
      go_wp2_with fail
      go_ret2
      refine ⟨?_, (Below.refl _ _).alloc (Nat.le_refl _) _⟩
      rw [named_no hko.out]
      rfl
set_option maxHeartbeats 1000000 in
theorem c15 (s : ByteArray) (w : World) : Calls Tryd.prog 15 #[.string s] w fun e w' => e = .returned (namedV s.toList) ∧ Below w.heap.size w w' := by
  go_enter Tryd.func15, Tryd.ntmps15
  go_wp2_with fail
  refine (c23 _).mono ?_
  rintro _ w1 ⟨rfl, hw1⟩
  have hcell : ∀ k j v, k < 68 → j < 6 → (rowL (k + 1) (RQ k))[j]? = some v → w1.cell? ⟨w.heap.size, k * 6 + j, none⟩ = some v := by
    intro k j v hk hj hv
    rw [hw1, ← hv, ← TA_at k j hk hj]
    simp
  have hB : Below w.heap.size w w1 := by
    rw [hw1]
    exact (Below.refl _ _).alloc (Nat.le_refl _) _
  have hz : w.heap.size < w1.heap.size := by rw [hw1]; simp
  clear hw1
  have HC := Lib.hid hcell
  clear hcell
  go_wp2_with fail
  go_loop [5] (fun i => ∃ k : Nat, k ≤ 68 ∧ i = .int .i64 (k : Int) ∧ Hid (nfL s.toList k = 0)) (fun i => 68 - (intOf i).toNat)
  case atStart => exact ⟨0, by omega, rfl, Lib.hid rfl⟩
  case round =>
    obtain ⟨k, hk, rfl, hko⟩ := hrel
    by_cases hlt : k < 68
    · have d0 : w1.cell? ⟨w.heap.size, k * 6, none⟩ = some (.int .u8 ((k : Int) + 1)) := HC.out k 0 _ hlt (by omega) rfl
      have d1 : w1.cell? ⟨w.heap.size, k * 6 + 1, none⟩ = some (.string ⟨(nm k).toArray⟩) := HC.out k 1 _ hlt (by omega) rfl
      by_cases hq : nm k = s.toList
      · have e1 : (nm k == s.toList) = true := by simpa using hq
        have e2 := named_at hlt hko.out hq
        have E2 := Lib.hid e2
        clear hq e2
        go_wp2_with fail
        go_ret2
        refine ⟨?_, hB⟩
        rw [E2.out]
        rfl
      · have e1 : (nm k == s.toList) = false := by simpa using hq
        have hn : Hid (nfL s.toList (k + 1) = 0) := Lib.hid (by rw [nfL_no hko.out, if_neg hq])
        clear hq
        go_wp2_with fail
        go_round
        case rel => exact ⟨k + 1, by omega, by go_num, hn⟩
        case measure => simp [intOf]; omega
    · obtain rfl : k = 68 := by omega
      go_wp2_with fail
      go_ret2
      refine ⟨?_, hB⟩
      rw [named_no hko.out]
      rfl
set_option maxRecDepth 100000 in
theorem nf_all : (List.range 68).all (fun q => nf (nm q) == q + 1) = true := by kernel_rfl
theorem nf_nm (q : Nat) (hq : q < 68) : nf (nm q) = q + 1 := by
  have h := List.all_eq_true.1 nf_all q (by simpa using hq)
  simpa using h
end Go.Proofs.YtliimbidkkpegaaDoor
