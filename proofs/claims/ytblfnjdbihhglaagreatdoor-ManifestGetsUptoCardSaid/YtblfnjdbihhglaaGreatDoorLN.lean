import Derived.Test.YtblfnjdbihhglaaGreatDoorLJ
import Derived.Lib.ConvBytes
import Derived.Lib.ParseIntBMem
import Derived.Laws.Closers25
import Derived.Laws.Closers25b
import Derived.BigCall
import Derived.BigGuard
namespace Go.Proofs.YtblfnjdbihhglaaGreatDoor.Li
open Go.ChangeShapes Go.WideShapes Go.ChangeAt Go.RowKit
set_option linter.unusedVariables false
theorem c53 (b : Nat) (h1 : 97 ≤ b) (h2 : b ≤ 102) (w : World) : Calls Tryz.prog 127 #[.int .u8 (b : Int)] w fun e w' => e = .returned (.int .u8 (b : Int)) ∧ w = w' := by
  have hc : b = 97 ∨ b = 98 ∨ b = 99 ∨ b = 100 ∨ b = 101 ∨ b = 102 := by omega
  rcases hc with rfl | rfl | rfl | rfl | rfl | rfl
  all_goals
    go_enter Tryz.func127, Tryz.ntmps127
    go_wp2
    go_ret
    exact ⟨rfl, rfl⟩
theorem bb_getD (s : ByteArray) (i : Nat) (h : i < s.size) : (s.data.toList.getD i 0).toNat = bb s i := by
  unfold bb
  rw [dif_pos h]
  have : i < s.data.toList.length := h
  simp [List.getD, List.getElem?_eq_getElem this]
  rfl
/-- a digit of sixteens -/
theorem dg16 (b : Nat) (h : dg b < 16) : (48 ≤ b ∧ b ≤ 57 ∧ dg b = b - 48) ∨ (97 ≤ b ∧ b ≤ 102 ∧ dg b = b - 97 + 10) := by
  unfold dg at h ⊢
  split
  · rename_i hh; left; exact ⟨hh.1, hh.2, rfl⟩
  · rename_i hh
    rw [if_neg hh] at h
    split
    · rename_i h3; right; exact ⟨h3.1, h3.2, rfl⟩
    · rename_i h3; rw [if_neg h3] at h; omega
set_option maxHeartbeats 32000000 in
set_option maxRecDepth 100000 in
theorem c38_16 (t : ByteArray) (hne : t.size ≠ 0) (hmax : t.size ≤ 8) (hd : ∀ i, i < t.size → dg (bb t i) < 16) (w : World) :
    Calls Tryz.prog 116 #[.string t, .int .i64 16, .int .i64 32] w fun e w' => e = .returned (.tuple #[.int .u64 (numN 16 t t.size : Int), .nilIface]) ∧ w' = Lib.bytesWorld w 5 t := by
  have hemp : t.toList.isEmpty = false := by
    rw [← decide_eq_emptyBytes]
    exact decide_eq_false (fun h => hne (by rw [h]; rfl))
  have hcv := Lib.run_convert_string_bytes (P := Tryz.prog) w 9 69 5 t (u := .string) Tryz.underlying9 Tryz.underlying69 Tryz.underlying5
  have hB : ∀ j, j < t.size → (Lib.bytesWorld w 5 t).cell? ⟨w.heap.size, j, none⟩ = some (.int .u8 (bb t j : Int)) := fun j hj => by
    rw [Lib.bytesWorld_cell w 5 t j hj, bb_getD t j hj]
  obtain ⟨W1, hW1⟩ : ∃ W1, W1 = Lib.bytesWorld w 5 t := ⟨_, rfl⟩
  rw [← hW1] at hcv hB ⊢
  clear hW1
  have hmv : IntKind.u64.wrap (IntKind.u64.wrap 4294967296 - 1) = 4294967295 := by
    rw [IntKind.wrap_u64, IntKind.wrap_u64]
    decide
  have HD := Lib.hid hd
  have HB := Lib.hid hB
  have HM := Lib.hid hmax
  clear hd hB
  go_enter Tryz.func116, Tryz.ntmps116
  go_wp2
  go_loop [12, 13, 101] (fun vu vn vi => ∃ (k : Nat) (a : Int), vu = .bool false ∧ vn = .int .u64 a ∧ vi = .int .i64 k ∧ k ≤ t.size ∧ Hid (a = (numN 16 t k : Int)))
    (fun _ _ vi => t.size - (intOf vi).toNat)
  case atStart => exact ⟨0, 0, rfl, rfl, rfl, by omega, rfl⟩
  case round =>
    obtain ⟨k, a, rfl, rfl, rfl, hk, hh⟩ := hrel
    by_cases hkn : k < t.size
    · have hc := HB.out k hkn
      have hdk := HD.out k hkn
      have HN : Hid ((numN 16 t (k + 1) : Int) = 16 * a + (dg (bb t k) : Int)) := Lib.hid (by rw [hh.out]; simp [numN])
      have ha0 : 0 ≤ a := by rw [hh.out]; omega
      have ha : a ≤ 268435455 := by
        have h1 := numN_lt 16 t k (fun j hj => HD.out j (by omega))
        have h2 : 16 ^ k ≤ 16 ^ 7 := Nat.pow_le_pow_right (by decide) (by have := HM.out; omega)
        rw [hh.out]
        omega
      generalize bb t k = b at *
      rcases dg16 b hdk with ⟨h1, h2, h3⟩ | ⟨h1, h2, h3⟩
      · have HN2 : Hid (((numN 16 t (k + 1) : Nat) : Int) = a * 16 + ((b : Int) - 48)) := Lib.hid (by rw [HN.out, h3]; omega)
        have HG := Lib.hid hdk
        have H3 := Lib.hid h3
        clear h3 hdk
        have iov : a * 16 + ((b : Int) - 48) ≤ 4294967295 := by omega
        go_wp2
        refine ⟨⟨k + 1, numN 16 t (k + 1), rfl, ?_, (by first | rfl | (congr 1; omega)), by omega, Lib.hid rfl⟩, by simp [intOf]; omega⟩
        rw [HN2.out]
      · have HN2 : Hid (((numN 16 t (k + 1) : Nat) : Int) = a * 16 + ((b : Int) - 97 + 10)) := Lib.hid (by rw [HN.out, h3]; omega)
        have HG := Lib.hid hdk
        have H3 := Lib.hid h3
        clear h3 hdk
        have iov : a * 16 + ((b : Int) - 97 + 10) ≤ 4294967295 := by omega
        have K := Lib.hid (c53 b h1 h2)
        go_wp2_with fail
        refine (K.out _).mono ?_
        rintro _ _ ⟨rfl, rfl⟩
        go_wp2_with fail
        refine (K.out _).mono ?_
        rintro _ _ ⟨rfl, rfl⟩
        go_wp2_with fail
        refine (K.out _).mono ?_
        rintro _ _ ⟨rfl, rfl⟩
        clear K
        go_wp2_with fail
        refine ⟨⟨k + 1, a * 16 + ((b : Int) - 97 + 10), rfl, (by first | rfl | (congr 1; omega)), (by first | rfl | (congr 1; omega)), by omega, Lib.hid HN2.out.symm⟩, by simp [intOf]; omega⟩
    · have hkk : k = t.size := by omega
      subst hkk
      go_wp2
      go_ret2
      exact ⟨by rw [hh.out]; rfl, rfl⟩
theorem c23_16 (t : ByteArray) (hne : t.size ≠ 0) (hmax : t.size ≤ 8) (hd : ∀ i, i < t.size → dg (bb t i) < 16) (w : World) :
    Calls Tryz.prog 106 #[.string t, .int .i64 16, .int .i64 32] w fun e w' => e = .returned (.tuple #[.int .u64 (numN 16 t t.size : Int), .nilIface]) ∧ w' = Lib.bytesWorld w 5 t := by
  have K := Lib.hid (c38_16 t hne hmax hd w)
  generalize numN 16 t t.size = a at *
  generalize Lib.bytesWorld w 5 t = W1 at *
  clear hd hne hmax
  go_enter Tryz.func106, Tryz.ntmps106
  go_wp2_with fail
  refine (K.out).mono ?_
  rintro e w' ⟨rfl, rfl⟩
  go_wp2_with fail
  go_ret2
  exact ⟨rfl, rfl⟩
end Go.Proofs.YtblfnjdbihhglaaGreatDoor.Li
