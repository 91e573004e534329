import Derived.Test.YtakkkblopjbegaaGreatDoorE
namespace Go.Proofs.YtakkkblopjbegaaGreatDoor
open Go.ChangeShapes Go.WideShapes Go.ChangeAt Go.RowKit Go.Sort Go.Lib
set_option linter.unusedVariables false
set_option linter.unusedSimpArgs false
theorem bx_putRow {W : World} {g t : Nat} {cs : Array Value} (h : Bx W g cs t) (off : Nat) (d : Array UInt8) : Bx (putRow (fun (b : UInt8) => Value.int .u8 (b.toNat : Int)) W g off d) g (putCells (fun (b : UInt8) => Value.int .u8 (b.toNat : Int)) off d cs) t := by
  unfold Bx at h ⊢
  simp [putRow, mapBlock, Array.getElem?_modify, h, onCells]
theorem bel_putRow (W : World) (g off : Nat) (d : Array UInt8) : Below g W (putRow (fun (b : UInt8) => Value.int .u8 (b.toNat : Int)) W g off d) := by
  refine ⟨rfl, rfl, rfl, ?_, fun k hk => ?_⟩
  · simp [putRow, mapBlock]
  · simp only [putRow, mapBlock, Array.getElem?_modify]
    rw [if_neg (by omega)]
/-- the buffer, empty and with its digits -/
def Z32 : Array Value := #[.int .u8 0, .int .u8 0, .int .u8 0, .int .u8 0, .int .u8 0, .int .u8 0, .int .u8 0, .int .u8 0, .int .u8 0, .int .u8 0, .int .u8 0, .int .u8 0, .int .u8 0, .int .u8 0, .int .u8 0, .int .u8 0, .int .u8 0, .int .u8 0, .int .u8 0, .int .u8 0, .int .u8 0, .int .u8 0, .int .u8 0, .int .u8 0, .int .u8 0, .int .u8 0, .int .u8 0, .int .u8 0, .int .u8 0, .int .u8 0, .int .u8 0, .int .u8 0]
def C32 : Array Value := #[.int .u8 49, .int .u8 48, .int .u8 48, .int .u8 48, .int .u8 48, .int .u8 48, .int .u8 48, .int .u8 48, .int .u8 48, .int .u8 48, .int .u8 48, .int .u8 48, .int .u8 48, .int .u8 48, .int .u8 48, .int .u8 48, .int .u8 0, .int .u8 0, .int .u8 0, .int .u8 0, .int .u8 0, .int .u8 0, .int .u8 0, .int .u8 0, .int .u8 0, .int .u8 0, .int .u8 0, .int .u8 0, .int .u8 0, .int .u8 0, .int .u8 0, .int .u8 0]
theorem fmt16 {dk : Array UInt8} {v' : Nat} (h : FmtInv 16 1000000000000000 0 v' dk) : dk = #[49, 48, 48, 48, 48, 48, 48, 48, 48, 48, 48, 48, 48, 48, 48, 48] := by
  apply Array.ext
  · rw [h.size]; rfl
  · intro i h1 h2
    have h3 : i < 16 := by rw [h.size] at h1; exact h1
    have h4 := h.done i (Nat.zero_le _) h3
    rw [getElem!_pos dk i h1] at h4
    rw [h4]
    have h5 : ∀ i, (hi : i < 16) → dg 1000000000000000 (16 - 1 - i) = (#[49, 48, 48, 48, 48, 48, 48, 48, 48, 48, 48, 48, 48, 48, 48, 48] : Array UInt8)[i]'hi := by decide +kernel
    exact h5 i h3
theorem put16 : putCells (fun (b : UInt8) => Value.int .u8 (b.toNat : Int)) 0 (#[49, 48, 48, 48, 48, 48, 48, 48, 48, 48, 48, 48, 48, 48, 48, 48] : Array UInt8) Z32 = C32 := by kernel_rfl
theorem holds16 (w : World) (g : Nat) (h : Bx w g Z32 156) : Holds (fun (b : UInt8) => Value.int .u8 (b.toNat : Int)) w g 0 (Array.replicate 16 (0 : UInt8)) := by
  intro j hj
  have hj' : j < 16 := by simpa using hj
  refine ⟨?_, by rw [Nat.zero_add]; exact h.frz j⟩
  rw [Nat.zero_add, h.cell j, getElem!_pos _ j hj]
  have h5 : ∀ i, i < 16 → Z32[i]? = some (Value.int .u8 0) := by
    intro i hi
    unfold Z32
    match i, hi with
    | n + 16, h => exact absurd h (by omega)
    | 0, _ | 1, _ | 2, _ | 3, _ | 4, _ | 5, _ | 6, _ | 7, _ | 8, _ | 9, _ | 10, _ | 11, _ | 12, _ | 13, _ | 14, _ | 15, _ => rfl
  rw [h5 j hj']
  simp
theorem k86 (w : World) (g : Nat) (h : Bx w g Z32 156) : Calls Tryz.prog 86 #[.slice (some ⟨g, 0, none⟩) 16 32, .int .u64 1000000000000000] w fun e w' => e = .returned (.tuple #[]) ∧ Bx w' g C32 156 ∧ Below g w w' := by
  have hc := Tryz.internal_strconv_formatBase10 g 0 32 1000000000000000 (Array.replicate 16 (0 : UInt8)) w (holds16 w g h) (by decide) (by decide) (by decide)
  refine hc.mono ?_
  rintro e w' ⟨rfl, n, v', dk, rfl, hf⟩
  have hd := fmt16 hf
  subst hd
  have h1 := bx_putRow h 0 (#[49, 48, 48, 48, 48, 48, 48, 48, 48, 48, 48, 48, 48, 48, 48, 48] : Array UInt8)
  rw [put16] at h1
  exact ⟨rfl, h1, below_drewN (bel_putRow _ _ _ _) n⟩
set_option maxRecDepth 100000 in
set_option maxHeartbeats 4000000 in
theorem k116_0 (w : World) (g : Nat) (h : Bx w g Z32 156) : Calls Tryz.prog 116 #[.slice (some ⟨g, 0, none⟩) 32 32, .int .u64 1000000000000000, .int .i64 (-16), .int .i64 16] w fun e w' => e = .returned (.tuple #[.int .i64 0, .int .i64 1]) ∧ Bx w' g C32 156 ∧ Below g w w' := by
  have HC := Lib.hid (k86 w g h)
  clear h
  go_enter Tryz.func116, Tryz.ntmps116
  go_wp2_with fail
  refine HC.out.mono ?_
  rintro _ w1 ⟨rfl, hx, hb⟩
  have HB := Lib.hid hb
  have HX := Lib.hid hx
  have c0 : w1.cell? ⟨g, 0, none⟩ = some (.int .u8 49) := by simpa [C32] using hx.cell 0
  have c1 : w1.cell? ⟨g, 1, none⟩ = some (.int .u8 48) := by simpa [C32] using hx.cell 1
  have c2 : w1.cell? ⟨g, 2, none⟩ = some (.int .u8 48) := by simpa [C32] using hx.cell 2
  have c3 : w1.cell? ⟨g, 3, none⟩ = some (.int .u8 48) := by simpa [C32] using hx.cell 3
  have c4 : w1.cell? ⟨g, 4, none⟩ = some (.int .u8 48) := by simpa [C32] using hx.cell 4
  have c5 : w1.cell? ⟨g, 5, none⟩ = some (.int .u8 48) := by simpa [C32] using hx.cell 5
  have c6 : w1.cell? ⟨g, 6, none⟩ = some (.int .u8 48) := by simpa [C32] using hx.cell 6
  have c7 : w1.cell? ⟨g, 7, none⟩ = some (.int .u8 48) := by simpa [C32] using hx.cell 7
  have c8 : w1.cell? ⟨g, 8, none⟩ = some (.int .u8 48) := by simpa [C32] using hx.cell 8
  have c9 : w1.cell? ⟨g, 9, none⟩ = some (.int .u8 48) := by simpa [C32] using hx.cell 9
  have c10 : w1.cell? ⟨g, 10, none⟩ = some (.int .u8 48) := by simpa [C32] using hx.cell 10
  have c11 : w1.cell? ⟨g, 11, none⟩ = some (.int .u8 48) := by simpa [C32] using hx.cell 11
  have c12 : w1.cell? ⟨g, 12, none⟩ = some (.int .u8 48) := by simpa [C32] using hx.cell 12
  have c13 : w1.cell? ⟨g, 13, none⟩ = some (.int .u8 48) := by simpa [C32] using hx.cell 13
  have c14 : w1.cell? ⟨g, 14, none⟩ = some (.int .u8 48) := by simpa [C32] using hx.cell 14
  have c15 : w1.cell? ⟨g, 15, none⟩ = some (.int .u8 48) := by simpa [C32] using hx.cell 15
  clear hx hb HC
  go_wp2_with fail
  refine wp_loop_rounds 16 ?_
  rw [rounds_succ]
  go_wp2_with fail
  rw [rounds_succ]
  go_wp2_with fail
  rw [rounds_succ]
  go_wp2_with fail
  rw [rounds_succ]
  go_wp2_with fail
  rw [rounds_succ]
  go_wp2_with fail
  rw [rounds_succ]
  go_wp2_with fail
  rw [rounds_succ]
  go_wp2_with fail
  rw [rounds_succ]
  go_wp2_with fail
  rw [rounds_succ]
  go_wp2_with fail
  rw [rounds_succ]
  go_wp2_with fail
  rw [rounds_succ]
  go_wp2_with fail
  rw [rounds_succ]
  go_wp2_with fail
  rw [rounds_succ]
  go_wp2_with fail
  rw [rounds_succ]
  go_wp2_with fail
  rw [rounds_succ]
  go_wp2_with fail
  rw [rounds_succ]
  go_wp2_with fail
  go_ret2
  exact ⟨rfl, HX.out, HB.out⟩
set_option maxRecDepth 100000 in
set_option maxHeartbeats 4000000 in
theorem k116_1 (w : World) (g : Nat) (h : Bx w g Z32 156) : Calls Tryz.prog 116 #[.slice (some ⟨g, 0, none⟩) 32 32, .int .u64 1000000000000000, .int .i64 6, .int .i64 16] w fun e w' => e = .returned (.tuple #[.int .i64 22, .int .i64 1]) ∧ Bx w' g C32 156 ∧ Below g w w' := by
  have HC := Lib.hid (k86 w g h)
  clear h
  go_enter Tryz.func116, Tryz.ntmps116
  go_wp2_with fail
  refine HC.out.mono ?_
  rintro _ w1 ⟨rfl, hx, hb⟩
  have HB := Lib.hid hb
  have HX := Lib.hid hx
  have c0 : w1.cell? ⟨g, 0, none⟩ = some (.int .u8 49) := by simpa [C32] using hx.cell 0
  have c1 : w1.cell? ⟨g, 1, none⟩ = some (.int .u8 48) := by simpa [C32] using hx.cell 1
  have c2 : w1.cell? ⟨g, 2, none⟩ = some (.int .u8 48) := by simpa [C32] using hx.cell 2
  have c3 : w1.cell? ⟨g, 3, none⟩ = some (.int .u8 48) := by simpa [C32] using hx.cell 3
  have c4 : w1.cell? ⟨g, 4, none⟩ = some (.int .u8 48) := by simpa [C32] using hx.cell 4
  have c5 : w1.cell? ⟨g, 5, none⟩ = some (.int .u8 48) := by simpa [C32] using hx.cell 5
  have c6 : w1.cell? ⟨g, 6, none⟩ = some (.int .u8 48) := by simpa [C32] using hx.cell 6
  have c7 : w1.cell? ⟨g, 7, none⟩ = some (.int .u8 48) := by simpa [C32] using hx.cell 7
  have c8 : w1.cell? ⟨g, 8, none⟩ = some (.int .u8 48) := by simpa [C32] using hx.cell 8
  have c9 : w1.cell? ⟨g, 9, none⟩ = some (.int .u8 48) := by simpa [C32] using hx.cell 9
  have c10 : w1.cell? ⟨g, 10, none⟩ = some (.int .u8 48) := by simpa [C32] using hx.cell 10
  have c11 : w1.cell? ⟨g, 11, none⟩ = some (.int .u8 48) := by simpa [C32] using hx.cell 11
  have c12 : w1.cell? ⟨g, 12, none⟩ = some (.int .u8 48) := by simpa [C32] using hx.cell 12
  have c13 : w1.cell? ⟨g, 13, none⟩ = some (.int .u8 48) := by simpa [C32] using hx.cell 13
  have c14 : w1.cell? ⟨g, 14, none⟩ = some (.int .u8 48) := by simpa [C32] using hx.cell 14
  have c15 : w1.cell? ⟨g, 15, none⟩ = some (.int .u8 48) := by simpa [C32] using hx.cell 15
  clear hx hb HC
  go_wp2_with fail
  refine wp_loop_rounds 16 ?_
  rw [rounds_succ]
  go_wp2_with fail
  rw [rounds_succ]
  go_wp2_with fail
  rw [rounds_succ]
  go_wp2_with fail
  rw [rounds_succ]
  go_wp2_with fail
  rw [rounds_succ]
  go_wp2_with fail
  rw [rounds_succ]
  go_wp2_with fail
  rw [rounds_succ]
  go_wp2_with fail
  rw [rounds_succ]
  go_wp2_with fail
  rw [rounds_succ]
  go_wp2_with fail
  rw [rounds_succ]
  go_wp2_with fail
  rw [rounds_succ]
  go_wp2_with fail
  rw [rounds_succ]
  go_wp2_with fail
  rw [rounds_succ]
  go_wp2_with fail
  rw [rounds_succ]
  go_wp2_with fail
  rw [rounds_succ]
  go_wp2_with fail
  rw [rounds_succ]
  go_wp2_with fail
  go_ret2
  exact ⟨rfl, HX.out, HB.out⟩
end Go.Proofs.YtakkkblopjbegaaGreatDoor
