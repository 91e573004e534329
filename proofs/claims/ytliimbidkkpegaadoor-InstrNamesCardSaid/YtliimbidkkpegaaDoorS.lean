import Derived.Test.YtliimbidkkpegaaDoorR
import Derived.Laws.EntriesVeiled
namespace Go.Proofs.YtliimbidkkpegaaDoor
open Go.ChangeShapes Go.WideShapes Go.ChangeAt Go.RowKit
set_option linter.unusedVariables false
def RTd : List UInt8 × Nat × Nat × Nat × Nat := ([], 0, 0, 0, 0)
def RQ (q : Nat) : List UInt8 × Nat × Nat × Nat × Nat := RT.getD q RTd
theorem tableL_at : ∀ (l : List (List UInt8 × Nat × Nat × Nat × Nat)) (o k j : Nat), k < l.length → j < 6 → (tableL o l)[k * 6 + j]? = (rowL (o + k) (l.getD k RTd))[j]?
  | r :: l, o, 0, j, _, hj => by
    unfold tableL
    rw [List.getElem?_append_left (by simp [rowL]; omega)]
    simp
  | r :: l, o, k + 1, j, hk, hj => by
    unfold tableL
    rw [List.getElem?_append_right (by simp [rowL]; omega)]
    have := tableL_at l (o + 1) k j (by simpa using hk) hj
    rw [show (k + 1) * 6 + j - (rowL o r).length = k * 6 + j by simp [rowL]; omega, this]
    rw [show o + 1 + k = o + (k + 1) by omega]
    simp
theorem TA_at (k j : Nat) (hk : k < 68) (hj : j < 6) : TA[k * 6 + j]? = (rowL (k + 1) (RQ k))[j]? := by
  have h := tableL_at RT 1 k j hk hj
  rw [show 1 + k = k + 1 by omega] at h
  unfold TA RQ
  simpa using h
def rowV (q : Nat) : Value := .agg (rowL (q + 1) (RQ q)).toArray
theorem TA_size : TA.size = 408 := by decide +kernel
def row18 (o : Nat) : Value := if o = 0 ∨ 68 < o then .tuple #[.agg #[.int .u8 0, .string ⟨#[]⟩, .int .i64 0, .int .u32 0, .int .u32 0, .int .u32 0], .bool false] else .tuple #[rowV (o - 1), .bool true]
set_option maxHeartbeats 1000000 in
theorem c18 (o : Nat) (ho : o < 256) (w : World) : Calls Tryd.prog 18 #[.int .u8 (o : Int)] w fun en w' => en = .returned (row18 o) ∧ Below w.heap.size w w' := by
  go_enter Tryd.func18, Tryd.ntmps18
  go_wp2_with fail
  refine (c23 _).mono ?_
  rintro _ w1 ⟨rfl, hw1⟩
  have hcell : ∀ k j v, k < 68 → j < 6 → (rowL (k + 1) (RQ k))[j]? = some v → w1.cell? ⟨w.heap.size + 1, k * 6 + j, none⟩ = some v := by
    intro k j v hk hj hv
    rw [hw1, ← hv, ← TA_at k j hk hj]
    simp
  have hB : Below w.heap.size w w1 := by
    rw [hw1]
    exact ((Below.refl _ _).alloc (Nat.le_refl _) _).alloc (by simp) _
  have hR : Below (w.heap.size + 1) (w.alloc (.cells #[.int .u8 0, .string ⟨#[]⟩, .int .i64 0, .int .u32 0, .int .u32 0, .int .u32 0] 50)) w1 := by
    rw [hw1]
    exact (Below.refl _ _).alloc (by simp) _
  have hz : w.heap.size + 1 < w1.heap.size := by rw [hw1]; simp
  obtain ⟨hc1, hf1⟩ := bcell hR
  have hz0 : w.heap.size < w.heap.size + 1 := by omega
  have hz1 : w.heap.size < w1.heap.size := by omega
  clear hw1 hR
  have HC := Lib.hid hcell
  clear hcell
  go_wp2_with fail
  go_loop [5] (fun i => ∃ k : Nat, k ≤ 68 ∧ i = .int .i64 (k : Int) ∧ (o = 0 ∨ k < o)) (fun i => 68 - (intOf i).toNat)
  case atStart => exact ⟨0, by omega, rfl, by omega⟩
  case round =>
    obtain ⟨k, hk, rfl, hko⟩ := hrel
    by_cases hlt : k < 68
    · obtain ⟨rn, rf, rc, r3, rx, hRQ⟩ : ∃ (rn : List UInt8) (rf rc r3 rx : Nat), RQ k = (rn, rf, rc, r3, rx) := ⟨_, _, _, _, _, rfl⟩
      have d0 : w1.cell? ⟨w.heap.size + 1, k * 6, none⟩ = some (.int .u8 ((k : Int) + 1)) := HC.out k 0 _ hlt (by omega) (by rw [hRQ]; rfl)
      have d1 : w1.cell? ⟨w.heap.size + 1, k * 6 + 1, none⟩ = some (.string ⟨rn.toArray⟩) := HC.out k 1 _ hlt (by omega) (by rw [hRQ]; rfl)
      have d2 : w1.cell? ⟨w.heap.size + 1, k * 6 + 2, none⟩ = some (.int .i64 (rf : Int)) := HC.out k 2 _ hlt (by omega) (by rw [hRQ]; rfl)
      have d3 : w1.cell? ⟨w.heap.size + 1, k * 6 + 3, none⟩ = some (.int .u32 (rc : Int)) := HC.out k 3 _ hlt (by omega) (by rw [hRQ]; rfl)
      have d4 : w1.cell? ⟨w.heap.size + 1, k * 6 + 4, none⟩ = some (.int .u32 (r3 : Int)) := HC.out k 4 _ hlt (by omega) (by rw [hRQ]; rfl)
      have d5 : w1.cell? ⟨w.heap.size + 1, k * 6 + 5, none⟩ = some (.int .u32 (rx : Int)) := HC.out k 5 _ hlt (by omega) (by rw [hRQ]; rfl)
      have HRQ := Lib.hid hRQ
      clear hRQ
      by_cases he : o = k + 1
      · subst he
        have heq : (((k : Int) + 1) == ((k + 1 : Nat) : Int)) = true := by simp
        go_wp2_with fail
        refine bodyPost_ret (v := .tuple #[.agg #[.int .u8 ((k : Int) + 1), .string ⟨rn.toArray⟩, .int .i64 (rf : Int), .int .u32 (rc : Int), .int .u32 (r3 : Int), .int .u32 (rx : Int)], .bool true]) (by simp [results, Tryd.results18, go_sem, hc1, hz0]) rfl ⟨?_, (((((hB.setCell (Nat.le_refl _) _).setCell (Nat.le_refl _) _).setCell (Nat.le_refl _) _).setCell (Nat.le_refl _) _).setCell (Nat.le_refl _) _).setCell (Nat.le_refl _) _⟩
        unfold row18 rowV
        rw [if_neg (by omega), Nat.add_sub_cancel, HRQ.out]
        rfl
      · have hne : (((k : Int) + 1) == (o : Int)) = false := by simp; omega
        go_wp2_with fail
        go_round
        case rel => exact ⟨k + 1, by omega, by go_num, by omega⟩
        case measure => simp [intOf]; omega
    · obtain rfl : k = 68 := by omega
      go_wp2_with fail
      refine bodyPost_ret (v := .tuple #[.agg #[.int .u8 0, .string ⟨#[]⟩, .int .i64 0, .int .u32 0, .int .u32 0, .int .u32 0], .bool false]) (by simp [results, Tryd.results18, go_sem, hc1, hz0]) rfl ⟨?_, (((((hB.setCell (Nat.le_refl _) _).setCell (Nat.le_refl _) _).setCell (Nat.le_refl _) _).setCell (Nat.le_refl _) _).setCell (Nat.le_refl _) _).setCell (Nat.le_refl _) _⟩
      unfold row18
      rw [if_pos (by omega)]
end Go.Proofs.YtliimbidkkpegaaDoor
