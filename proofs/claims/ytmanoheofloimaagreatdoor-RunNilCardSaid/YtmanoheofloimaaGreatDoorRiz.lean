import Derived.Test.YtmanoheofloimaaGreatDoorGj
namespace Go.Proofs.YtmanoheofloimaaGreatDoor
open Go.ChangeShapes Go.WideShapes Go.ChangeAt Go.RowKit
set_option linter.unusedVariables false
set_option maxRecDepth 20000
/-- the state of a machine that is -/
theorem sState (x : Nat) (b : Addr) (s : St) (n : Nat) (w : World) (hb : Blk w x 36 (mc (some b) s n).toArray) : Calls Tryz.prog 6 #[.pointer (some ⟨x, 0, none⟩)] w fun e w' => e = .returned (.agg s.L.toArray) ∧ Below w.heap.size w w' := by
  have hsL : s.L.length = 151 := s.len
  have hsZ : st0.L.toArray.size = 151 := by rw [List.size_toArray]; exact st0.len
  have h1 : s.L.toArray.all (·.oneCell') = true := St.one _
  have hz : ∀ W, (zeroValue 34).run Tryz.prog W = .ok (.agg st0.L.toArray) W := zSt
  have hm1 := mc_1 (some b) s n
  have hm0 := mc_0 (some b) s n
  obtain ⟨ZA, hZA⟩ : ∃ ZA, st0.L.toArray = ZA := ⟨_, rfl⟩
  obtain ⟨SL, hSL⟩ : ∃ SL, s.L = SL := ⟨_, rfl⟩
  obtain ⟨MA, hMA⟩ : ∃ MA, (mc (some b) s n).toArray = MA := ⟨_, rfl⟩
  rw [hMA] at hb hm1 hm0
  rw [hSL] at hsL h1 hm1 ⊢
  rw [hZA] at hsZ hz
  have HIL : Hid ((Tryz.prog.info? 34).map (·.size) = some SL.length) := Lib.hid (by rw [hsL]; exact info32s)
  have HIA : Hid ((Tryz.prog.info? 34).map (·.size) = some SL.toArray.size) := Lib.hid (by rw [List.size_toArray, hsL]; exact info32s)
  have HZS : Hid (ZA.size = SL.toArray.size) := Lib.hid (by rw [hsZ, List.size_toArray, hsL])
  have H1 := Lib.hid h1
  have HB := Lib.hid (hb.alloc (.cells ZA 34))
  have HM1 := Lib.hid hm1
  have HZ := Lib.hid (Blk.new w 34 ZA)
  have HBB := Lib.hid (blk_row (Blk.new w 34 ZA) SL.toArray)
  have HO : Hid (Below w.heap.size w ((w.alloc (.cells ZA 34)).setRow w.heap.size SL.toArray)) := Lib.hid (below_setRow ((Below.refl _ _).alloc (Nat.le_refl _) _) (Nat.le_refl _) _)
  have K := Lib.hid (isM x b (w.alloc (.cells ZA 34)) (by rw [(hb.alloc _).cell, hm0]))
  clear hsL hsZ h1 hm1 hm0 hMA hSL hZA hb
  go_enter Tryz.func6, Tryz.ntmps6
  go_wp2_with fail
  refine K.out.mono ?_
  rintro _ _ ⟨rfl, rfl⟩
  go_wp2_with first
    | (refine wpList_load_sub rfl 34 (.tmp 9) rfl x 1 rfl 36 MA SL (0, 0) _ HB.out HM1.out Tryz.underlying34 rfl HIL.out ?_)
    | (refine wpList_store_row rfl 34 (.tmp 2) (.tmp 10) rfl w.heap.size SL.toArray rfl rfl 34 ZA HZ.out HIA.out HZS.out H1.out ?_)
  exact bodyPost_ret (results_cell_row rfl _ _ w.heap.size 34 SL.toArray (0, 0) _ rfl HBB.out Tryz.underlying34 rfl HIA.out) rfl ⟨rfl, HO.out⟩
end Go.Proofs.YtmanoheofloimaaGreatDoor
