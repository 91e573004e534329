import Derived.Test.YtblfnjdbihhglaaGreatDoorGz
import Derived.Test.YtblfnjdbihhglaaGreatDoorIz
import Derived.Deep.RegionHeld3
import Derived.Laws.StructEq
namespace Go.Proofs.YtblfnjdbihhglaaGreatDoor
open Go.ChangeShapes Go.WideShapes Go.ChangeAt Go.RowKit
open Li (Ss)
set_option linter.unusedVariables false
set_option linter.unusedSimpArgs false
def two25 (w : World) (a b c d : Value) : World := (w.alloc (.cells #[a, b] 25)).alloc (.cells #[c, d] 25)
theorem two25_at {w W : World} {a b c d : Value} (hW : Below (w.heap.size + 2) (two25 w a b c d) W) : (W.cell? ⟨w.heap.size, 0, none⟩ = some a ∧ W.cell? ⟨w.heap.size, 1, none⟩ = some b ∧ W.cell? ⟨w.heap.size + 1, 0, none⟩ = some c ∧ W.cell? ⟨w.heap.size + 1, 1, none⟩ = some d) ∧ Below w.heap.size w W := by
  have hz : (w.alloc (.cells #[a, b] 25)).heap.size = w.heap.size + 1 := by simp
  have h1 : W.heap[w.heap.size]? = some (.cells #[a, b] 25 (0, 0)) := (hW.block _ (by omega)).trans ((Below.heap_alloc _ _ _ (by omega)).trans (heap_alloc_new w _))
  have h2 : W.heap[w.heap.size + 1]? = some (.cells #[c, d] 25 (0, 0)) := (hW.block _ (by omega)).trans (by
    have := heap_alloc_new (w.alloc (.cells #[a, b] 25)) (.cells #[c, d] 25)
    rw [hz] at this
    exact this)
  refine ⟨⟨?_, ?_, ?_, ?_⟩, (((Below.refl _ w).alloc (Nat.le_refl _) _).alloc (by omega) _).trans (hW.mono (by omega))⟩
  · rw [cell_of_row _ _ _ _ _ _ h1]; rfl
  · rw [cell_of_row _ _ _ _ _ _ h1]; rfl
  · rw [cell_of_row _ _ _ _ _ _ h2]; rfl
  · rw [cell_of_row _ _ _ _ _ _ h2]; rfl
set_option maxRecDepth 100000 in
set_option maxHeartbeats 8000000 in
theorem c11 (A A' : Option Addr) (nc cc cc' : Nat) (B B' : Option Addr) (n c c' : Nat) (g : Nat → ByteArray) (f : Nat → Ed) (w : World) (hA : Ss w A nc g) (hA' : Ss w A' nc g) (hB : Es w B n f) (hB' : Es w B' n f) (hnc : nc ≤ 9223372036854775807) (hn : n ≤ 9223372036854775807) :
    Calls Tryz.prog 11 #[.agg #[.slice A nc cc, .slice B n c], .agg #[.slice A' nc cc', .slice B' n c']] w fun e w' => e = .returned (.bool true) ∧ Below w.heap.size w w' := by
  have HBX : Hid (∀ W, Below (w.heap.size + 2) (two25 w (.slice A nc cc) (.slice B n c) (.slice A' nc cc') (.slice B' n c')) W → _ ∧ _) := Lib.hid (fun W hW => two25_at hW)
  have HA := Lib.hid hA
  have HA' := Lib.hid hA'
  have HB := Lib.hid hB
  have HB' := Lib.hid hB'
  clear hA hA' hB hB'
  go_enter Tryz.func11, Tryz.ntmps11
  go_wp2_with fail
  go_loopw [5] (fun i wr => ∃ k : Nat, k ≤ nc ∧ i = .int .i64 (k : Int) ∧ Below (w.heap.size + 2) (two25 w (.slice A nc cc) (.slice B n c) (.slice A' nc cc') (.slice B' n c')) wr) (fun i _ => nc - (intOf i).toNat)
  case atStart => exact ⟨0, by omega, rfl, Below.refl _ _⟩
  case round =>
    obtain ⟨k, hk, rfl, hb⟩ := hrel
    obtain ⟨⟨x0, x1, y0, y1⟩, hbw⟩ := HBX.out _ hb
    have HBB := Lib.hid hb
    by_cases hlt : k < nc
    · obtain ⟨b, o, rfl, hbl, hc⟩ := HA.out (by omega)
      obtain ⟨b', o', rfl, hbl', hc'⟩ := HA'.out (by omega)
      have q0 := (hc k hlt).1
      have r0 := (hc' k hlt).1
      rw [← hbw.cell (p := ⟨b, o + k, none⟩) hbl] at q0
      rw [← hbw.cell (p := ⟨b', o' + k, none⟩) hbl'] at r0
      generalize g k = s at *
      have hkn : (k : Int) < (nc : Int) := by omega
      have hkw := wrapN k nc hlt hnc
      have HLT := Lib.hid hlt
      clear hc hc' hb hbw
      go_upto_region 6 with fail
      have HI : Hid (wr.drew.cell? ⟨w.heap.size, 0, none⟩ = some (.slice (some ⟨b, o, none⟩) nc cc) ∧ wr.drew.cell? ⟨w.heap.size + 1, 0, none⟩ = some (.slice (some ⟨b', o', none⟩) nc cc') ∧ wr.drew.cell? ⟨b, o + k, none⟩ = some (.string s) ∧ wr.drew.cell? ⟨b', o' + k, none⟩ = some (.string s)) := Lib.hid ⟨x0, y0, q0, r0⟩
      go_region_held3 (fun W => W.cell? ⟨w.heap.size, 0, none⟩ = some (.slice (some ⟨b, o, none⟩) nc cc) ∧ W.cell? ⟨w.heap.size + 1, 0, none⟩ = some (.slice (some ⟨b', o', none⟩) nc cc') ∧ W.cell? ⟨b, o + k, none⟩ = some (.string s) ∧ W.cell? ⟨b', o' + k, none⟩ = some (.string s))
        (first | assumption | exact HI.out)
        (fail)
      go_wp2_with fail
      go_roundw
      case rel => exact ⟨k + 1, HLT.out, by go_num, HBB.out.drew⟩
      case measure => simp [intOf]; have := HLT.out; omega
    · obtain rfl : k = nc := by omega
      clear hb hbw
      go_wp2_with fail
      clear x0 x1 y0 y1 hlt
      go_loopw [6] (fun i wz => ∃ m : Nat, m ≤ n ∧ i = .int .i64 (m : Int) ∧ Below (w.heap.size + 2) (two25 w (.slice A k cc) (.slice B n c) (.slice A' k cc') (.slice B' n c')) wz) (fun i _ => n - (intOf i).toNat)
      case atStart => exact ⟨0, by omega, rfl, HBB.out⟩
      case round =>
        obtain ⟨m, hm, rfl, hb⟩ := hrel
        obtain ⟨⟨x0, x1, y0, y1⟩, hbw⟩ := HBX.out _ hb
        have HBB2 := Lib.hid hb
        have HBW := Lib.hid hbw
        by_cases hlt : m < n
        · obtain ⟨b, o, rfl, hbl, hc⟩ := HB.out (by omega)
          obtain ⟨b', o', rfl, hbl', hc'⟩ := HB'.out (by omega)
          obtain ⟨_, q0, q1, q2, q3, q4⟩ := hc m hlt
          obtain ⟨_, r0, r1, r2, r3, r4⟩ := hc' m hlt
          have z : ∀ j, wr.cell? ⟨b, j, none⟩ = w.cell? ⟨b, j, none⟩ := fun j => hbw.cell (p := ⟨b, j, none⟩) hbl
          have z' : ∀ j, wr.cell? ⟨b', j, none⟩ = w.cell? ⟨b', j, none⟩ := fun j => hbw.cell (p := ⟨b', j, none⟩) hbl'
          rw [← z] at q0 q1 q2 q3 q4
          rw [← z'] at r0 r1 r2 r3 r4
          generalize f m = x at *
          have hkn : (m : Int) < (n : Int) := by omega
          have hkw := wrapN m n hlt hn
          have HLT := Lib.hid hlt
          clear hc hc' hb hbw z z'
          go_upto_region 11 with fail
          have HI : Hid (wr.drew.cell? ⟨w.heap.size, 1, none⟩ = some (.slice (some ⟨b, o, none⟩) n c) ∧ wr.drew.cell? ⟨w.heap.size + 1, 1, none⟩ = some (.slice (some ⟨b', o', none⟩) n c') ∧ wr.drew.cell? ⟨b, o + m * 5, none⟩ = some (.int .u8 (x.k : Int)) ∧ wr.drew.cell? ⟨b, o + m * 5 + 1, none⟩ = some (.int .i64 x.fr) ∧ wr.drew.cell? ⟨b, o + m * 5 + 2, none⟩ = some (.int .i64 x.dt) ∧ wr.drew.cell? ⟨b, o + m * 5 + 3, none⟩ = some (.string x.nm) ∧ wr.drew.cell? ⟨b, o + m * 5 + 4, none⟩ = some (.int .u32 (x.wh : Int)) ∧ wr.drew.cell? ⟨b', o' + m * 5, none⟩ = some (.int .u8 (x.k : Int)) ∧ wr.drew.cell? ⟨b', o' + m * 5 + 1, none⟩ = some (.int .i64 x.fr) ∧ wr.drew.cell? ⟨b', o' + m * 5 + 2, none⟩ = some (.int .i64 x.dt) ∧ wr.drew.cell? ⟨b', o' + m * 5 + 3, none⟩ = some (.string x.nm) ∧ wr.drew.cell? ⟨b', o' + m * 5 + 4, none⟩ = some (.int .u32 (x.wh : Int))) := Lib.hid ⟨x1, y1, q0, q1, q2, q3, q4, r0, r1, r2, r3, r4⟩
          go_region_held3 (fun W => W.cell? ⟨w.heap.size, 1, none⟩ = some (.slice (some ⟨b, o, none⟩) n c) ∧ W.cell? ⟨w.heap.size + 1, 1, none⟩ = some (.slice (some ⟨b', o', none⟩) n c') ∧ W.cell? ⟨b, o + m * 5, none⟩ = some (.int .u8 (x.k : Int)) ∧ W.cell? ⟨b, o + m * 5 + 1, none⟩ = some (.int .i64 x.fr) ∧ W.cell? ⟨b, o + m * 5 + 2, none⟩ = some (.int .i64 x.dt) ∧ W.cell? ⟨b, o + m * 5 + 3, none⟩ = some (.string x.nm) ∧ W.cell? ⟨b, o + m * 5 + 4, none⟩ = some (.int .u32 (x.wh : Int)) ∧ W.cell? ⟨b', o' + m * 5, none⟩ = some (.int .u8 (x.k : Int)) ∧ W.cell? ⟨b', o' + m * 5 + 1, none⟩ = some (.int .i64 x.fr) ∧ W.cell? ⟨b', o' + m * 5 + 2, none⟩ = some (.int .i64 x.dt) ∧ W.cell? ⟨b', o' + m * 5 + 3, none⟩ = some (.string x.nm) ∧ W.cell? ⟨b', o' + m * 5 + 4, none⟩ = some (.int .u32 (x.wh : Int)))
            (first | assumption | exact HI.out)
            (fail)
          go_wp2_with fail
          go_roundw
          case rel => exact ⟨m + 1, HLT.out, by go_num, HBB2.out.drew⟩
          case measure => simp [intOf]; have := HLT.out; omega
        · obtain rfl : m = n := by omega
          go_wp2_with fail
          go_ret
          exact ⟨rfl, HBW.out⟩
end Go.Proofs.YtblfnjdbihhglaaGreatDoor
