import Derived.Test.YtmanoheofloimaaGreatDoorRjz
namespace Go.Proofs.YtmanoheofloimaaGreatDoor
open Go.ChangeShapes Go.WideShapes Go.ChangeAt Go.RowKit
set_option linter.unusedVariables false
set_option maxRecDepth 20000
theorem field9 (s : St) (W : World) : (Instr.field 34 (.agg s.L.toArray) 9).run Tryz.prog W = .ok (.bool s.halted) W := by kernel_rfl
theorem infoB : (Tryz.prog.info? 5).map (fun i => (i.zero, i.size, i.bytes)) = some (some (.int .u8 0), 1, 1) := by kernel_rfl
set_option maxHeartbeats 2000000 in
theorem works_of (KR : ∀ W x b, Mem W b (fun _ => 0) (fun _ => false) → Blk W x 36 (mc (some ⟨b, 0, none⟩) st0 0).toArray → b ≠ x → Calls Tryz.prog 5 #[.pointer (some ⟨x, 0, none⟩), .slice none 0 0, .int .i64 5] W fun e W' => ∃ q c s n, e = .returned (.tuple #[.slice (some ⟨q, 0, none⟩) 1 c, .int .i64 0]) ∧ W'.cell? ⟨q, 0, none⟩ = some (.int .u32 1) ∧ s.halted = true ∧ Blk W' x 36 (mc (some ⟨b, 0, none⟩) s n).toArray ∧ ∀ B, B ≤ x → B ≤ b → B ≤ W.heap.size → Below B W W')
    (w : World) : Calls Tryz.prog 9 #[] w fun e w' => e = .returned (.bool true) ∧ Below w.heap.size w w' := by
  have HKR := Lib.hid KR
  have KN0 := Lib.hid new0
  have KNI := Lib.hid newI
  have KP := Lib.hid nStep
  have hB0 := bIm0
  have hBI := bIm
  have hzI := zIm
  have hI1 := im_one
  have hIn := im_len
  have hD1 : dn0.L.toArray.all (·.oneCell') = true := by kernel_rfl
  have hDn : (Tryz.prog.info? 39).map (·.size) = some dn0.L.toArray.size := info41s
  have hzD : ∀ W, (zeroValue 39).run Tryz.prog W = .ok (.agg dn0.L.toArray) W := zDn
  obtain ⟨DA, hDA⟩ : ∃ DA, dn0.L.toArray = DA := ⟨_, rfl⟩
  rw [hDA] at hD1 hDn hzD KP
  obtain ⟨I0, hI0⟩ : ∃ I0, (im (.slice none 0 0)).toArray = I0 := ⟨_, rfl⟩
  have hn0 := hIn (.slice none 0 0)
  rw [hI0] at hB0 hzI KN0 hn0
  obtain ⟨IB, hIB⟩ : ∃ IB : Nat → Array Value, IB = fun g => (im (.slice (some ⟨g, 0, none⟩) 65280 65280)).toArray := ⟨_, rfl⟩
  have HBI : Hid (∀ g : Nat, Tryz.prog.built 69 [(1, .slice (some ⟨g, 0, none⟩) 65280 65280)] = some (IB g)) := Lib.hid (fun g => by rw [hIB]; exact hBI _ _ _)
  have HI1 : Hid (∀ g, (IB g).all (·.oneCell') = true) := Lib.hid (fun g => by rw [hIB]; exact hI1 _ _ _)
  have HIn : Hid (∀ g, (IB g).size = 160) := Lib.hid (fun g => by rw [hIB]; exact hIn _)
  have HIi : Hid (∀ g, (Tryz.prog.info? 69).map (·.size) = some (IB g).size) := Lib.hid (fun g => by rw [HIn.out]; exact infoIm)
  have HI0n : Hid (∀ g, I0.size = (IB g).size) := Lib.hid (fun g => by rw [HIn.out]; exact hn0)
  have KNB : Hid (∀ W Bs, Bs < W.heap.size → (∀ k, k < 65280 → W.cell? ⟨Bs, k, none⟩ = some (.int .u8 0)) → Calls Tryz.prog 14 #[.agg (IB Bs)] W fun e w' => ∃ b x, e = .returned (.tuple #[.pointer (some ⟨x, 0, none⟩), .int .i64 0]) ∧ Mem w' b (fun _ => 0) (fun _ => false) ∧ Below W.heap.size W w' ∧ W.heap.size ≤ b ∧ W.heap.size ≤ x ∧ b ≠ x ∧ Blk w' x 36 (mc (some ⟨b, 0, none⟩) st0 0).toArray) := Lib.hid (by rw [hIB]; exact KNI.out)
  have HB0 := Lib.hid hB0; have HDI := Lib.hid hDn; have HD1 := Lib.hid hD1
  clear KR KNI hBI hI1 hIn hn0 hI0 hDA hD1 hDn hIB hB0
  obtain ⟨i0, hi, hz0, hz1, hz2⟩ := info_parts infoB
  go_enter Tryz.func9, Tryz.ntmps9
  go_wp2_with (refine wpList_buildE rfl 69 [] rfl I0 HB0.out ?_)
  refine (KN0.out _).mono ?_
  rintro _ w2 ⟨rfl, hb2⟩
  have HB2 := Lib.hid hb2
  clear hb2
  go_wp2_with fail
  refine (KP.out _ none false 0 (fun W _ => noM0 W)).mono ?_
  rintro _ w3 ⟨rfl, hb3⟩
  have HB3 : Hid (Below w.heap.size w w3) := Lib.hid (HB2.out.trans (hb3.mono HB2.out.size))
  have hz3 := HB3.out.size
  have HDB := Lib.hid (Blk.new w3 39 DA)
  have HB4 : Hid (Below w.heap.size w ((w3.alloc (.cells DA 39)).setRow w3.heap.size DA)) := Lib.hid (below_setRow (HB3.out.alloc hz3 _) hz3 _)
  clear hb3 HB2
  go_wp2_with first
    | (refine wpList_store_row rfl 39 (.tmp 4) (.tmp 20) rfl w3.heap.size DA rfl rfl 39 DA HDB.out HDI.out rfl HD1.out ?_
       generalize ((w3.alloc (.cells DA 39)).setRow w3.heap.size DA) = W4 at HB4 ⊢
       clear HDB HB3)
    | (refine wpList_make_full W4 rfl _ _ 62 rfl W4.heap.size 5 i0 (.int .u8 0) 1 Tryz.underlying62 hi hz0 hz1 .i64 .i64 65280 65280 65280 rfl rfl rfl rfl (by rw [hz2]; decide) (by decide) (Nat.le_refl _) ?_
       intro w5 hown hgr
       have HBY := Lib.hid (bytes_made hown)
       have HLT := Lib.hid (bytes_lt hown)
       have HB5 : Hid (Below w.heap.size w w5) := Lib.hid (HB4.out.grown hgr HB4.out.size (fun k e => by cases e))
       have h6 : Blk (w5.alloc (.cells I0 69)) w5.heap.size 69 I0 := Blk.new w5 69 I0
       have H6 := Lib.hid h6
       have H6B := Lib.hid (blk_row h6 (IB W4.heap.size))
       have HB6 : Hid (Below w.heap.size w ((w5.alloc (.cells I0 69)).setRow w5.heap.size (IB W4.heap.size))) := Lib.hid (below_setRow (HB5.out.alloc HB5.out.size _) HB5.out.size _)
       have HY6 : Hid (∀ k, k < 65280 → ((w5.alloc (.cells I0 69)).setRow w5.heap.size (IB W4.heap.size)).cell? ⟨W4.heap.size, k, none⟩ = some (.int .u8 0)) := Lib.hid (fun k hk => by
         have e1 : ((w5.alloc (.cells I0 69)).setRow w5.heap.size (IB W4.heap.size)).heap[W4.heap.size]? = w5.heap[W4.heap.size]? := ((only_row _ _ _).2 _ (Nat.ne_of_lt HLT.out) (by rw [World.size_alloc]; have := HLT.out; omega)).trans (Below.heap_alloc w5 _ _ HLT.out)
         rw [cell_same e1]; exact HBY.out k hk)
       have HS6 : Hid (w5.heap.size < ((w5.alloc (.cells I0 69)).setRow w5.heap.size (IB W4.heap.size)).heap.size) := Lib.hid H6B.out.lt
       clear hown hgr h6)
    | (refine wpList_buildE rfl 69 [(1, .tmp 22)] rfl (IB W4.heap.size) (HBI.out _) ?_)
    | (refine wpList_store_row rfl 69 (.tmp 6) (.tmp 23) rfl w5.heap.size (IB W4.heap.size) rfl rfl 69 I0 H6.out (HIi.out _) (HI0n.out _) (HI1.out _) ?_
       generalize ((w5.alloc (.cells I0 69)).setRow w5.heap.size (IB W4.heap.size)) = W6 at H6B HB6 HY6 HS6 ⊢
       clear H6 HB5 HBY)
    | (refine wpList_load_row rfl 69 (.tmp 6) rfl w5.heap.size rfl 69 (IB W4.heap.size) (0, 0) _ H6B.out Tryz.underlying69 rfl (HIi.out _) ?_)
  refine (KNB.out _ _ (by have := HLT.out; have := HS6.out; omega) HY6.out).mono ?_
  rintro _ w7 ⟨b, x, rfl, hM, hb7, hbb, hxx, hne, hmx⟩
  have HB7 : Hid (Below w.heap.size w w7) := Lib.hid (HB6.out.trans (hb7.mono HB6.out.size))
  have hz7 := HB6.out.size
  have HM := Lib.hid hM; have HX := Lib.hid hmx
  clear hM hmx hb7
  go_wp2_with fail
  refine (HKR.out _ x b HM.out HX.out hne).mono ?_
  rintro _ w8 ⟨q, c, s, n, rfl, hq, hh, hm8, ho8⟩
  have HB8 : Hid (Below w.heap.size w w8) := Lib.hid (HB7.out.trans (ho8 _ (by omega) (by omega) HB7.out.size))
  have KS := Lib.hid (sState x ⟨b, 0, none⟩ s n w8 hm8)
  have hF := field9 s
  rw [hh] at hF
  generalize s.L.toArray = SA at KS hF
  clear ho8 hm8 hh HKR HB7
  go_wp2_with fail
  refine KS.out.mono ?_
  rintro _ w9 ⟨rfl, hb9⟩
  have HB9 : Hid (Below w.heap.size w w9) := Lib.hid (HB8.out.trans (hb9.mono HB8.out.size))
  clear hb9 KS
  go_wp2_with fail
  go_ret
  exact ⟨rfl, HB9.out⟩
end Go.Proofs.YtmanoheofloimaaGreatDoor
