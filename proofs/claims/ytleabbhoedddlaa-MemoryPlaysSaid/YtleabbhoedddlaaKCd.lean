import Derived.Test.YtleabbhoedddlaaKCc
import Derived.ChangeKeysEq
namespace Go.Proofs.Ytleabbhoedddlaa.Cp
open Go.ChangeShapes Go.WideShapes Go.ChangeAt Go.RowKit
set_option linter.unusedVariables false
theorem info5a : ∃ i, Try.prog.info? 5 = some i := by
  obtain ⟨i0, hi, _⟩ := info_parts En.info5
  exact ⟨i0, hi⟩
theorem cells5a : Try.prog.cellsOf 5 = 1 := by kernel_rfl
theorem eqArr (x0 x1 x2 x3 x4 x5 x6 x7 y0 y1 y2 y3 y4 y5 y6 y7 : Nat) (w : World) :
    (Op.equalIn 10000 58 (arr x0 x1 x2 x3 x4 x5 x6 x7) (arr y0 y1 y2 y3 y4 y5 y6 y7)).run Try.prog w = .ok (decide (x0 = y0 ∧ x1 = y1 ∧ x2 = y2 ∧ x3 = y3 ∧ x4 = y4 ∧ x5 = y5 ∧ x6 = y6 ∧ x7 = y7)) w := by
  obtain ⟨i, hi⟩ := info5a
  rw [run_equalIn_array w 9999 _ _ Try.underlying58 hi, cells5a]
  have hr : List.range 8 = [0, 1, 2, 3, 4, 5, 6, 7] := rfl
  rw [hr]
  simp only [Op.eqItems, Nat.mul_one]
  go_simp
  simp only [Int.natCast_inj]
  by_cases c0 : x0 = y0 <;> by_cases c1 : x1 = y1 <;> by_cases c2 : x2 = y2 <;> by_cases c3 : x3 = y3 <;> by_cases c4 : x4 = y4 <;> by_cases c5 : x5 = y5 <;> by_cases c6 : x6 = y6 <;> by_cases c7 : x7 = y7 <;> simp [c0, c1, c2, c3, c4, c5, c6, c7]
def num4 (a b c d : Nat) : Nat := a + 256 * (b + 256 * (c + 256 * d))
def up (a b c d : Nat) : Nat → Nat
  | 0 => 0
  | 1 => d
  | 2 => c + 256 * d
  | 3 => b + 256 * (c + 256 * d)
  | _ => num4 a b c d
def RO (x0 x1 x2 x3 x4 x5 x6 x7 : Nat) (w : World) (i v u : Value) (wr : World) : Prop := ∃ (m q r : Nat) (z : Int), m ≤ 4 ∧ z = 3 - (m : Int) ∧ i = .int .i64 z ∧ v = .int .u64 (q : Int) ∧ u = .int .u64 (r : Int) ∧ q = up x0 x1 x2 x3 m ∧ r = up x4 x5 x6 x7 m ∧ wr = w
theorem num4_lt {a b c d : Nat} (h0 : a < 256) (h1 : b < 256) (h2 : c < 256) (h3 : d < 256) : num4 a b c d < 4294967296 := by unfold num4; omega
def B2 (w w' : World) (X : Array Value) : Prop := Below w.heap.size w w' ∧ Blk w' w.heap.size 58 X ∧ Blk w' (w.heap.size + 1) 35 #[.bool false, .int .u32 0, .int .u8 0, .int .u8 0, .int .u8 0, .int .u16 0, .int .u16 0]
theorem B2.start (w : World) (X : Array Value) : B2 w ((w.alloc (.cells X 58)).alloc (.cells #[.bool false, .int .u32 0, .int .u8 0, .int .u8 0, .int .u8 0, .int .u16 0, .int .u16 0] 35)) X := by
  refine ⟨((Below.refl _ _).alloc (Nat.le_refl _) _).alloc (by simp) _, (Blk.new _ _ _).alloc _, ?_⟩
  have := Blk.new (w.alloc (.cells X 58)) 35 #[.bool false, .int .u32 0, .int .u8 0, .int .u8 0, .int .u8 0, .int .u16 0, .int .u16 0]
  simpa using this
set_option maxHeartbeats 8000000 in
theorem cb14w (x0 x1 x2 x3 x4 x5 x6 x7 NA NM P D1 Y D2 E D3 B D4 T : Nat) (hNA : NA = num4 x0 x1 x2 x3) (hNM : NM = num4 x4 x5 x6 x7) (tag : Bool) (h0 : x0 < 256) (h1 : x1 < 256) (h2 : x2 < 256) (h3 : x3 < 256) (h4 : x4 < 256) (h5 : x5 < 256) (h6 : x6 < 256) (h7 : x7 < 256) (w : World)
    (f1 : (NM : Int) % 128 = (P : Int)) (f2 : (NM : Int) / 128 = (D1 : Int)) (f3 : (D1 : Int) % 8 = (Y : Int)) (f4 : (NM : Int) / 1024 = (D2 : Int)) (f5 : (D2 : Int) % 16 = (E : Int)) (f6 : (NM : Int) / 16384 = (D3 : Int)) (f7 : (D3 : Int) % 512 = (B : Int)) (f8 : (NM : Int) / 8388608 = (D4 : Int)) (f9 : (D4 : Int) % 512 = (T : Int)) :
    Calls Try.prog 20 #[arr x0 x1 x2 x3 x4 x5 x6 x7, .bool tag] w fun en w' => en = .returned (cp tag NA P Y E B T) ∧ Below w.heap.size w w' := by
  have hst := B2.start w #[.int .u8 (x0 : Int), .int .u8 (x1 : Int), .int .u8 (x2 : Int), .int .u8 (x3 : Int), .int .u8 (x4 : Int), .int .u8 (x5 : Int), .int .u8 (x6 : Int), .int .u8 (x7 : Int)]
  have HS := Lib.hid hst
  clear hst
  have HNA := Lib.hid hNA
  have HNM := Lib.hid hNM
  clear hNA hNM
  go_enter Try.func20, Try.ntmps20
  go_wp2_with fail
  generalize ((w.alloc (.cells #[.int .u8 (x0 : Int), .int .u8 (x1 : Int), .int .u8 (x2 : Int), .int .u8 (x3 : Int), .int .u8 (x4 : Int), .int .u8 (x5 : Int), .int .u8 (x6 : Int), .int .u8 (x7 : Int)] 58)).alloc (.cells #[.bool false, .int .u32 0, .int .u8 0, .int .u8 0, .int .u8 0, .int .u16 0, .int .u16 0] 35)) = w1 at *
  go_loopw [7, 6, 5] (RO x0 x1 x2 x3 x4 x5 x6 x7 w1) (fun i _ _ _ => (intOf i + 1).toNat)
  case atStart => exact ⟨0, 0, 0, _, by omega, rfl, by go_num, rfl, rfl, rfl, rfl, rfl⟩
  case round =>
    obtain ⟨m, q, r, z, hm, hz, rfl, rfl, rfl, hq, hr, rfl⟩ := hrel
    by_cases hlt : m < 4
    · obtain ⟨_, hX, _⟩ := HS.out
      obtain ⟨z0, z1, z2, z3, z4, z5, z6, z7⟩ := hX.cells8
      clear hX HS
      have h4 : m = 0 ∨ m = 1 ∨ m = 2 ∨ m = 3 := by omega
      have hql : q < 16777216 ∧ r < 16777216 := by
        rw [hq, hr]
        rcases h4 with rfl | rfl | rfl | rfl <;> simp only [up] <;> omega
      obtain ⟨hql, hrl⟩ := hql
      have HQ := Lib.hid hq
      have HR := Lib.hid hr
      clear hq hr
      rcases h4 with rfl | rfl | rfl | rfl
      · obtain rfl : z = 3 := by omega
        clear hz
        go_wp2
        go_roundw
        case rel => exact ⟨1, x3 + 256 * q, x7 + 256 * r, 2, by omega, rfl, rfl, congrArg (Value.int .u64) (by omega), congrArg (Value.int .u64) (by omega), by rw [HQ.out]; rfl, by rw [HR.out]; rfl, rfl⟩
        case measure => simp [intOf]
      · obtain rfl : z = 2 := by omega
        clear hz
        go_wp2
        go_roundw
        case rel => exact ⟨2, x2 + 256 * q, x6 + 256 * r, 1, by omega, rfl, rfl, congrArg (Value.int .u64) (by omega), congrArg (Value.int .u64) (by omega), by rw [HQ.out]; rfl, by rw [HR.out]; rfl, rfl⟩
        case measure => simp [intOf]
      · obtain rfl : z = 1 := by omega
        clear hz
        go_wp2
        go_roundw
        case rel => exact ⟨3, x1 + 256 * q, x5 + 256 * r, 0, by omega, rfl, rfl, congrArg (Value.int .u64) (by omega), congrArg (Value.int .u64) (by omega), by rw [HQ.out]; rfl, by rw [HR.out]; rfl, rfl⟩
        case measure => simp [intOf]
      · obtain rfl : z = 0 := by omega
        clear hz
        go_wp2
        go_roundw
        case rel => exact ⟨4, x0 + 256 * q, x4 + 256 * r, -1, by omega, rfl, rfl, congrArg (Value.int .u64) (by omega), congrArg (Value.int .u64) (by omega), by rw [HQ.out]; rfl, by rw [HR.out]; rfl, rfl⟩
        case measure => simp [intOf]
    · obtain rfl : m = 4 := by omega
      obtain rfl : z = -1 := by omega
      obtain rfl : q = NA := by rw [HNA.out]; exact hq
      obtain rfl : r = NM := by rw [HNM.out]; exact hr
      have hql : q < 4294967296 := by rw [HNA.out]; exact num4_lt h0 h1 h2 h3
      have hrl : r < 4294967296 := by rw [HNM.out]; exact num4_lt h4 h5 h6 h7
      clear hq hr hz
      obtain ⟨hb, hX, hC⟩ := HS.out
      obtain ⟨cc0, cc1, cc2, cc3, cc4, cc5, cc6⟩ := hC.cells7
      obtain ⟨ff0, ff1, ff2, ff3, ff4, ff5, ff6⟩ := hC.frozen7
      clear hX hC hb
      have b1 : P < 128 ∧ Y < 8 ∧ E < 16 ∧ B < 512 ∧ T < 512 := by omega
      obtain ⟨b1, b2, b3, b4, b5⟩ := b1
      have t1 : (r : Int).tmod 128 = (P : Int) := by rw [Int.tmod_eq_emod_of_nonneg (by omega)]; exact f1
      have t2 : (r : Int).tdiv 128 = (D1 : Int) := by rw [Int.tdiv_eq_ediv_of_nonneg (by omega)]; exact f2
      have t3 : (D1 : Int).tmod 8 = (Y : Int) := by rw [Int.tmod_eq_emod_of_nonneg (by omega)]; exact f3
      have t4 : (r : Int).tdiv 1024 = (D2 : Int) := by rw [Int.tdiv_eq_ediv_of_nonneg (by omega)]; exact f4
      have t5 : (D2 : Int).tmod 16 = (E : Int) := by rw [Int.tmod_eq_emod_of_nonneg (by omega)]; exact f5
      have t6 : (r : Int).tdiv 16384 = (D3 : Int) := by rw [Int.tdiv_eq_ediv_of_nonneg (by omega)]; exact f6
      have t7 : (D3 : Int).tmod 512 = (B : Int) := by rw [Int.tmod_eq_emod_of_nonneg (by omega)]; exact f7
      have t8 : (r : Int).tdiv 8388608 = (D4 : Int) := by rw [Int.tdiv_eq_ediv_of_nonneg (by omega)]; exact f8
      have t9 : (D4 : Int).tmod 512 = (T : Int) := by rw [Int.tmod_eq_emod_of_nonneg (by omega)]; exact f9
      go_wp2
      exact bodyPost_ret (v := cp tag q P Y E B T) (by simp [results, Try.results20, go_sem, cc0, cc1, cc2, cc3, cc4, cc5, cc6]) rfl ⟨rfl, below7 HS.out.1 (by omega) _ _ _ _ _ _ _⟩
theorem cb14 (x0 x1 x2 x3 x4 x5 x6 x7 : Nat) (tag : Bool) (h0 : x0 < 256) (h1 : x1 < 256) (h2 : x2 < 256) (h3 : x3 < 256) (h4 : x4 < 256) (h5 : x5 < 256) (h6 : x6 < 256) (h7 : x7 < 256) (w : World) :
    Calls Try.prog 20 #[arr x0 x1 x2 x3 x4 x5 x6 x7, .bool tag] w fun en w' => en = .returned (cp tag (num4 x0 x1 x2 x3) (num4 x4 x5 x6 x7 % 128) (num4 x4 x5 x6 x7 / 128 % 8) (num4 x4 x5 x6 x7 / 1024 % 16) (num4 x4 x5 x6 x7 / 16384 % 512) (num4 x4 x5 x6 x7 / 8388608 % 512)) ∧ Below w.heap.size w w' :=
  cb14w x0 x1 x2 x3 x4 x5 x6 x7 _ _ _ (num4 x4 x5 x6 x7 / 128) _ (num4 x4 x5 x6 x7 / 1024) _ (num4 x4 x5 x6 x7 / 16384) _ (num4 x4 x5 x6 x7 / 8388608) _ rfl rfl tag h0 h1 h2 h3 h4 h5 h6 h7 w rfl rfl rfl rfl rfl rfl rfl rfl rfl
def f8 (x0 x1 x2 x3 x4 x5 x6 x7 j : Nat) : Nat := if j = 0 then x0 else if j = 1 then x1 else if j = 2 then x2 else if j = 3 then x3 else if j = 4 then x4 else if j = 5 then x5 else if j = 6 then x6 else x7
theorem f8_rd {w : World} {g x0 x1 x2 x3 x4 x5 x6 x7 : Nat} (h : Blk w g 58 #[.int .u8 (x0 : Int), .int .u8 (x1 : Int), .int .u8 (x2 : Int), .int .u8 (x3 : Int), .int .u8 (x4 : Int), .int .u8 (x5 : Int), .int .u8 (x6 : Int), .int .u8 (x7 : Int)]) :
    En.Rd w (some ⟨g, 0, none⟩) 8 (f8 x0 x1 x2 x3 x4 x5 x6 x7) := fun _ => by
  refine ⟨g, 0, rfl, h.lt, fun j hj => ?_⟩
  have : j = 0 ∨ j = 1 ∨ j = 2 ∨ j = 3 ∨ j = 4 ∨ j = 5 ∨ j = 6 ∨ j = 7 := by omega
  rw [Nat.zero_add]
  rcases this with rfl | rfl | rfl | rfl | rfl | rfl | rfl | rfl
  · exact h.cell 0
  · exact h.cell 1
  · exact h.cell 2
  · exact h.cell 3
  · exact h.cell 4
  · exact h.cell 5
  · exact h.cell 6
  · exact h.cell 7
theorem f8_lt {x0 x1 x2 x3 x4 x5 x6 x7 : Nat} (h0 : x0 < 256) (h1 : x1 < 256) (h2 : x2 < 256) (h3 : x3 < 256) (h4 : x4 < 256) (h5 : x5 < 256) (h6 : x6 < 256) (h7 : x7 < 256) (j : Nat) : f8 x0 x1 x2 x3 x4 x5 x6 x7 j < 256 := by
  unfold f8
  repeat' split
  all_goals omega
theorem nm_lo (x0 x1 x2 x3 x4 x5 x6 x7 : Nat) : En.nm (fun j => f8 x0 x1 x2 x3 x4 x5 x6 x7 (0 + j)) 4 = num4 x0 x1 x2 x3 := by
  simp only [En.nm, f8, num4]
  simp
  omega
theorem nm_hi (x0 x1 x2 x3 x4 x5 x6 x7 : Nat) : En.nm (fun j => f8 x0 x1 x2 x3 x4 x5 x6 x7 (4 + j)) 4 = num4 x4 x5 x6 x7 := by
  simp only [En.nm, f8, num4]
  simp
  omega
theorem k45 (x0 x1 x2 x3 x4 x5 x6 x7 g : Nat) (h0 : x0 < 256) (h1 : x1 < 256) (h2 : x2 < 256) (h3 : x3 < 256) (h4 : x4 < 256) (h5 : x5 < 256) (h6 : x6 < 256) (h7 : x7 < 256) (w : World)
    (h : Blk w g 58 #[.int .u8 (x0 : Int), .int .u8 (x1 : Int), .int .u8 (x2 : Int), .int .u8 (x3 : Int), .int .u8 (x4 : Int), .int .u8 (x5 : Int), .int .u8 (x6 : Int), .int .u8 (x7 : Int)]) :
    Calls Try.prog 39 #[.slice (some ⟨g, 0, none⟩) 8 8, .int .i64 0, .int .i64 4] w (fun e w' => e = .returned (.tuple #[.int .u64 (num4 x0 x1 x2 x3 : Int), .int .i64 0]) ∧ w = w') ∧
    Calls Try.prog 39 #[.slice (some ⟨g, 0, none⟩) 8 8, .int .i64 4, .int .i64 4] w (fun e w' => e = .returned (.tuple #[.int .u64 (num4 x4 x5 x6 x7 : Int), .int .i64 0]) ∧ w = w') := by
  have a := En.c14 (some ⟨g, 0, none⟩) 8 8 0 4 _ w (f8_lt h0 h1 h2 h3 h4 h5 h6 h7) (by omega) (by omega) (f8_rd h) (fun h => by cases h) (by omega) (by omega)
  have b := En.c14 (some ⟨g, 0, none⟩) 8 8 4 4 _ w (f8_lt h0 h1 h2 h3 h4 h5 h6 h7) (by omega) (by omega) (f8_rd h) (fun h => by cases h) (by omega) (by omega)
  rw [nm_lo] at a
  rw [nm_hi] at b
  exact ⟨a, b⟩
end Go.Proofs.Ytleabbhoedddlaa.Cp
