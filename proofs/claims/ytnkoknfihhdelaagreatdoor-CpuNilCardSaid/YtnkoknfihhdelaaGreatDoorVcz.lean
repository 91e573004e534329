import Derived.Test.YtnkoknfihhdelaaGreatDoorVbz
namespace Go.Proofs.YtnkoknfihhdelaaGreatDoor
open Go.ChangeShapes Go.WideShapes Go.ChangeAt Go.RowKit
set_option linter.unusedVariables false
set_option maxRecDepth 100000
set_option maxHeartbeats 2000000
theorem eq32z (W : World) : (Op.equalIn 10000 32 (.agg st0.L.toArray) (.agg st0.L.toArray)).run Tryz.prog W = .ok true W := by kernel_rfl
/-- same, of nothing told -/
theorem c12_0 (w : World) : Calls Tryz.prog 12 #[.agg #[.int .u32 0, .slice none 0 0, .bool false, .int .u32 0, .int .u32 0], .agg #[.int .u32 0, .slice none 0 0, .bool false, .int .u32 0, .int .u32 0]] w fun en w' => en = .returned (.bool true) ∧ Below w.heap.size w w' := by
  go_enter Tryz.func12, Tryz.ntmps12
  go_wp2_with fail
  go_loopw [5] (fun (i : Value) (wr : World) => i = .int .i64 0 ∧ wr = (w.alloc (.cells #[.int .u32 0, .slice none 0 0, .bool false, .int .u32 0, .int .u32 0] 41)).alloc (.cells #[.int .u32 0, .slice none 0 0, .bool false, .int .u32 0, .int .u32 0] 41)) (fun (_ : Value) (_ : World) => 0)
  case atStart => exact ⟨rfl, rfl⟩
  case round =>
    obtain ⟨rfl, rfl⟩ := hrel
    go_wp2_with fail
    go_ret
    exact ⟨rfl, ((Below.refl _ _).alloc (Nat.le_refl _) _).alloc (by simp) _⟩
theorem law7n (s : St) (tm : Bool) (w : World) (hg : In.Glob w) :
    Calls Tryz.prog 7 #[.agg s.L.toArray, .bool tm, .bool false] w fun en w' => en = .returned (.bool true) ∧ Below w.heap.size w w' := by
  have hsz := hg.size
  have HG := Lib.hid hg
  have hsS : s.L.toArray.size = 151 := by rw [List.size_toArray]; exact s.len
  have hsZ : st0.L.toArray.size = 151 := by rw [List.size_toArray]; exact st0.len
  have h1Z : st0.L.toArray.all (·.oneCell') = true := St.one _
  have hb : Tryz.prog.built 32 [] = some st0.L.toArray := b32
  have hz : ∀ W, (zeroValue 32).run Tryz.prog W = .ok (.agg st0.L.toArray) W := z32
  have hz2 : ∀ W, (zeroValue 41).run Tryz.prog W = .ok (.agg #[.int .u32 0, .slice none 0 0, .bool false, .int .u32 0, .int .u32 0]) W := z41
  have hb2 : Tryz.prog.built 41 [] = some #[.int .u32 0, .slice none 0 0, .bool false, .int .u32 0, .int .u32 0] := b41
  have he : ∀ W, (Op.equalIn 10000 32 (.agg st0.L.toArray) (.agg st0.L.toArray)).run Tryz.prog W = .ok true W := eq32z
  have K : Hid (∀ W, (∀ o1 o2 o3, Nope (((W.alloc o1).alloc o2).alloc o3) none) → Calls Tryz.prog 10 #[.pointer none, .agg s.L.toArray, .bool tm, .int .u32 1] W fun e w' => e = .returned (.tuple #[.agg st0.L.toArray, .agg #[.int .u32 0, .slice none 0 0, .bool false, .int .u32 0, .int .u32 0], .int .i64 1]) ∧ Below W.heap.size W w') := Lib.hid (fun W hn => c10_no _ s tm 1 W hn)
  obtain ⟨SA, hSA⟩ : ∃ SA, s.L.toArray = SA := ⟨_, rfl⟩
  obtain ⟨ZA, hZA⟩ : ∃ ZA, st0.L.toArray = ZA := ⟨_, rfl⟩
  rw [hSA] at hsS
  rw [hZA] at hsZ h1Z hb hz he
  rw [hSA, hZA] at K
  rw [hSA]
  have NS := Lib.hid hsS
  have NZ := Lib.hid hsZ
  have O1 := Lib.hid h1Z
  have HB32 := Lib.hid hb
  have HB41 := Lib.hid hb2
  have KS := Lib.hid c12_0
  clear hsS hsZ h1Z hb hb2 hg hSA hZA
  have HS : Hid (Blk (w.alloc (.cells SA 32)) w.heap.size 32 SA) := Lib.hid (Blk.new w 32 SA)
  have HO : Hid (Below w.heap.size w (w.alloc (.cells SA 32))) := Lib.hid ((Below.refl _ _).alloc (Nat.le_refl _) _)
  go_enter Tryz.func7, Tryz.ntmps7
  go_upto_region 4 with fail
  generalize (w.alloc (.cells SA 32)) = W at *
  go_wp2_with (refine wpList_load_row rfl 32 (.tmp 3) rfl w.heap.size rfl 32 SA (0, 0) _ HS.out Tryz.underlying32 rfl (by rw [info32s, NS.out]) ?_)
  refine (K.out W (fun o1 o2 o3 => Nope.nil _)).mono ?_
  rintro _ U ⟨rfl, hb⟩
  have HBb : Hid (Below w.heap.size w U) := Lib.hid (HO.out.trans (hb.mono HO.out.size))
  clear hb HO HS
  obtain ⟨q, hq⟩ : ∃ q, U.heap.size = q := ⟨_, rfl⟩
  have hS0 : Blk ((U.alloc (.cells ZA 32)).alloc (.cells #[.int .u32 0, .slice none 0 0, .bool false, .int .u32 0, .int .u32 0] 41)) q 32 ZA := by rw [← hq]; exact (Blk.new U 32 ZA).alloc _
  have hD0 : Blk ((U.alloc (.cells ZA 32)).alloc (.cells #[.int .u32 0, .slice none 0 0, .bool false, .int .u32 0, .int .u32 0] 41)) (q + 1) 41 #[.int .u32 0, .slice none 0 0, .bool false, .int .u32 0, .int .u32 0] := by
    have := Blk.new (U.alloc (.cells ZA 32)) 41 #[.int .u32 0, .slice none 0 0, .bool false, .int .u32 0, .int .u32 0]
    rw [← hq]
    simpa using this
  have HS0 := Lib.hid hS0
  have HS1 : Hid (Blk (((U.alloc (.cells ZA 32)).alloc (.cells #[.int .u32 0, .slice none 0 0, .bool false, .int .u32 0, .int .u32 0] 41)).setRow q ZA) q 32 ZA) := Lib.hid (blk_row hS0 _)
  have HD1 : Hid (Blk (((U.alloc (.cells ZA 32)).alloc (.cells #[.int .u32 0, .slice none 0 0, .bool false, .int .u32 0, .int .u32 0] 41)).setRow q ZA) (q + 1) 41 #[.int .u32 0, .slice none 0 0, .bool false, .int .u32 0, .int .u32 0]) := Lib.hid ((only_row _ q ZA).blk (by omega) hD0)
  have HD2 : Hid (Blk ((((U.alloc (.cells ZA 32)).alloc (.cells #[.int .u32 0, .slice none 0 0, .bool false, .int .u32 0, .int .u32 0] 41)).setRow q ZA).setRow (q + 1) #[.int .u32 0, .slice none 0 0, .bool false, .int .u32 0, .int .u32 0]) (q + 1) 41 #[.int .u32 0, .slice none 0 0, .bool false, .int .u32 0, .int .u32 0]) := Lib.hid (blk_row HD1.out _)
  have HS2 : Hid (Blk ((((U.alloc (.cells ZA 32)).alloc (.cells #[.int .u32 0, .slice none 0 0, .bool false, .int .u32 0, .int .u32 0] 41)).setRow q ZA).setRow (q + 1) #[.int .u32 0, .slice none 0 0, .bool false, .int .u32 0, .int .u32 0]) q 32 ZA) := Lib.hid ((only_row _ (q + 1) #[.int .u32 0, .slice none 0 0, .bool false, .int .u32 0, .int .u32 0]).blk (by omega) HS1.out)
  have hX : Below U.heap.size U ((((U.alloc (.cells ZA 32)).alloc (.cells #[.int .u32 0, .slice none 0 0, .bool false, .int .u32 0, .int .u32 0] 41)).setRow q ZA).setRow (q + 1) #[.int .u32 0, .slice none 0 0, .bool false, .int .u32 0, .int .u32 0]) := below_setRow (below_setRow (((Below.refl _ _).alloc (Nat.le_refl _) _).alloc (by simp) _) (by omega) _) (by omega) _
  have HB6 : Hid (Below w.heap.size w ((((U.alloc (.cells ZA 32)).alloc (.cells #[.int .u32 0, .slice none 0 0, .bool false, .int .u32 0, .int .u32 0] 41)).setRow q ZA).setRow (q + 1) #[.int .u32 0, .slice none 0 0, .bool false, .int .u32 0, .int .u32 0])) := Lib.hid (HBb.out.trans (hX.mono HBb.out.size))
  clear hS0 hD0 hX HBb
  go_upto_region 5 with (first | (rw [hq]) | (refine wpList_store_row rfl 32 (.tmp 8) (.tmp 19) rfl q ZA rfl rfl 32 ZA HS0.out (by rw [info32s, NZ.out]) rfl O1.out ?_) | (refine wpList_store_row rfl 41 (.tmp 9) (.tmp 20) rfl (q + 1) #[.int .u32 0, .slice none 0 0, .bool false, .int .u32 0, .int .u32 0] rfl rfl 41 #[.int .u32 0, .slice none 0 0, .bool false, .int .u32 0, .int .u32 0] HD1.out info41s rfl (by simp [Value.oneCell']) ?_))
  generalize ((((U.alloc (.cells ZA 32)).alloc (.cells #[.int .u32 0, .slice none 0 0, .bool false, .int .u32 0, .int .u32 0] 41)).setRow q ZA).setRow (q + 1) #[.int .u32 0, .slice none 0 0, .bool false, .int .u32 0, .int .u32 0]) = W6 at *
  clear HS0 HS1 HD1 hq
  have y0 := HD2.out.cell 0
  have y1 := HD2.out.cell 1
  have y2 := HD2.out.cell 2
  have y3 := HD2.out.cell 3
  have y4 := HD2.out.cell 4
  simp only [List.getElem?_toArray, List.getElem?_cons_zero, List.getElem?_cons_succ] at y0 y1 y2 y3 y4
  go_wp2_with fail
  refine wp_load_row 32 (.tmp 8) rfl q rfl 32 ZA (0, 0) _ HS2.out Tryz.underlying32 rfl (by rw [info32s, NZ.out]) ?_
  rename_i hK
  refine hK _ _ ?_
  go_wp2_with (first | (refine wp_buildE 32 [] rfl ZA ?_ ?_; exact HB32.out))
  refine (KS.out _).mono ?_
  rintro _ w7 ⟨rfl, hb7⟩
  have HB7 : Hid (Below w.heap.size w w7) := Lib.hid (HB6.out.trans (hb7.mono HB6.out.size))
  clear hb7 y0 y1 y2 y3 y4 hK HS2 HD2 hz hz2 he
  go_wp2_with fail
  refine (lives w7 (HG.out.below HB7.out hsz)).mono ?_
  rintro _ w8 ⟨rfl, hb8⟩
  have HB8 : Hid (Below w.heap.size w w8) := Lib.hid (HB7.out.trans (hb8.mono HB7.out.size))
  clear hb8
  go_wp2_with fail
  go_ret
  exact ⟨rfl, HB8.out⟩
theorem law7z (s : St) (tm : Bool) (w : World) (hg : In.Glob w) :
    Calls Tryz.prog 7 #[.agg s.L.toArray, .bool tm, .bool true] w fun en w' => en = .returned (.bool true) ∧ Below w.heap.size w w' := by
  have hsz := hg.size
  have HG := Lib.hid hg
  have hsS : s.L.toArray.size = 151 := by rw [List.size_toArray]; exact s.len
  have hsZ : st0.L.toArray.size = 151 := by rw [List.size_toArray]; exact st0.len
  have h1Z : st0.L.toArray.all (·.oneCell') = true := St.one _
  have hb : Tryz.prog.built 32 [] = some st0.L.toArray := b32
  have hz : ∀ W, (zeroValue 32).run Tryz.prog W = .ok (.agg st0.L.toArray) W := z32
  have hz2 : ∀ W, (zeroValue 41).run Tryz.prog W = .ok (.agg #[.int .u32 0, .slice none 0 0, .bool false, .int .u32 0, .int .u32 0]) W := z41
  have hb2 : Tryz.prog.built 41 [] = some #[.int .u32 0, .slice none 0 0, .bool false, .int .u32 0, .int .u32 0] := b41
  have he : ∀ W, (Op.equalIn 10000 32 (.agg st0.L.toArray) (.agg st0.L.toArray)).run Tryz.prog W = .ok true W := eq32z
  have K : Hid (∀ W, (∀ o1 o2 o3, Nope (((W.alloc o1).alloc o2).alloc o3) (some ⟨w.heap.size + 1, 0, none⟩)) → Calls Tryz.prog 10 #[.pointer (some ⟨w.heap.size + 1, 0, none⟩), .agg s.L.toArray, .bool tm, .int .u32 1] W fun e w' => e = .returned (.tuple #[.agg st0.L.toArray, .agg #[.int .u32 0, .slice none 0 0, .bool false, .int .u32 0, .int .u32 0], .int .i64 1]) ∧ Below W.heap.size W w') := Lib.hid (fun W hn => c10_no _ s tm 1 W hn)
  obtain ⟨SA, hSA⟩ : ∃ SA, s.L.toArray = SA := ⟨_, rfl⟩
  obtain ⟨ZA, hZA⟩ : ∃ ZA, st0.L.toArray = ZA := ⟨_, rfl⟩
  rw [hSA] at hsS
  rw [hZA] at hsZ h1Z hb hz he
  rw [hSA, hZA] at K
  rw [hSA]
  have NS := Lib.hid hsS
  have NZ := Lib.hid hsZ
  have O1 := Lib.hid h1Z
  have HB32 := Lib.hid hb
  have HB41 := Lib.hid hb2
  have KS := Lib.hid c12_0
  clear hsS hsZ h1Z hb hb2 hg hSA hZA
  have hz64 := zeroValue64
  have hzne := Zne
  have HN : Hid (Blk ((w.alloc (.cells SA 32)).alloc (.cells Z 69)) (w.heap.size + 1) 69 Z) := Lib.hid (by
    have := Blk.new (w.alloc (.cells SA 32)) 69 Z
    simpa using this)
  have HS : Hid (Blk ((w.alloc (.cells SA 32)).alloc (.cells Z 69)) w.heap.size 32 SA) := Lib.hid ((Blk.new w 32 SA).alloc _)
  have HO : Hid (Below w.heap.size w ((w.alloc (.cells SA 32)).alloc (.cells Z 69))) := Lib.hid (((Below.refl _ _).alloc (Nat.le_refl _) _).alloc (by simp) _)
  go_enter Tryz.func7, Tryz.ntmps7
  go_upto_region 4 with fail
  generalize ((w.alloc (.cells SA 32)).alloc (.cells Z 69)) = W at *
  go_wp2_with (refine wpList_load_row rfl 32 (.tmp 3) rfl w.heap.size rfl 32 SA (0, 0) _ HS.out Tryz.underlying32 rfl (by rw [info32s, NS.out]) ?_)
  refine (K.out W (fun o1 o2 o3 => Nope.zero (((HN.out.alloc _).alloc _).alloc _) Z0)).mono ?_
  rintro _ U ⟨rfl, hb⟩
  have HBb : Hid (Below w.heap.size w U) := Lib.hid (HO.out.trans (hb.mono HO.out.size))
  clear hb HO HS
  obtain ⟨q, hq⟩ : ∃ q, U.heap.size = q := ⟨_, rfl⟩
  have hS0 : Blk ((U.alloc (.cells ZA 32)).alloc (.cells #[.int .u32 0, .slice none 0 0, .bool false, .int .u32 0, .int .u32 0] 41)) q 32 ZA := by rw [← hq]; exact (Blk.new U 32 ZA).alloc _
  have hD0 : Blk ((U.alloc (.cells ZA 32)).alloc (.cells #[.int .u32 0, .slice none 0 0, .bool false, .int .u32 0, .int .u32 0] 41)) (q + 1) 41 #[.int .u32 0, .slice none 0 0, .bool false, .int .u32 0, .int .u32 0] := by
    have := Blk.new (U.alloc (.cells ZA 32)) 41 #[.int .u32 0, .slice none 0 0, .bool false, .int .u32 0, .int .u32 0]
    rw [← hq]
    simpa using this
  have HS0 := Lib.hid hS0
  have HS1 : Hid (Blk (((U.alloc (.cells ZA 32)).alloc (.cells #[.int .u32 0, .slice none 0 0, .bool false, .int .u32 0, .int .u32 0] 41)).setRow q ZA) q 32 ZA) := Lib.hid (blk_row hS0 _)
  have HD1 : Hid (Blk (((U.alloc (.cells ZA 32)).alloc (.cells #[.int .u32 0, .slice none 0 0, .bool false, .int .u32 0, .int .u32 0] 41)).setRow q ZA) (q + 1) 41 #[.int .u32 0, .slice none 0 0, .bool false, .int .u32 0, .int .u32 0]) := Lib.hid ((only_row _ q ZA).blk (by omega) hD0)
  have HD2 : Hid (Blk ((((U.alloc (.cells ZA 32)).alloc (.cells #[.int .u32 0, .slice none 0 0, .bool false, .int .u32 0, .int .u32 0] 41)).setRow q ZA).setRow (q + 1) #[.int .u32 0, .slice none 0 0, .bool false, .int .u32 0, .int .u32 0]) (q + 1) 41 #[.int .u32 0, .slice none 0 0, .bool false, .int .u32 0, .int .u32 0]) := Lib.hid (blk_row HD1.out _)
  have HS2 : Hid (Blk ((((U.alloc (.cells ZA 32)).alloc (.cells #[.int .u32 0, .slice none 0 0, .bool false, .int .u32 0, .int .u32 0] 41)).setRow q ZA).setRow (q + 1) #[.int .u32 0, .slice none 0 0, .bool false, .int .u32 0, .int .u32 0]) q 32 ZA) := Lib.hid ((only_row _ (q + 1) #[.int .u32 0, .slice none 0 0, .bool false, .int .u32 0, .int .u32 0]).blk (by omega) HS1.out)
  have hX : Below U.heap.size U ((((U.alloc (.cells ZA 32)).alloc (.cells #[.int .u32 0, .slice none 0 0, .bool false, .int .u32 0, .int .u32 0] 41)).setRow q ZA).setRow (q + 1) #[.int .u32 0, .slice none 0 0, .bool false, .int .u32 0, .int .u32 0]) := below_setRow (below_setRow (((Below.refl _ _).alloc (Nat.le_refl _) _).alloc (by simp) _) (by omega) _) (by omega) _
  have HB6 : Hid (Below w.heap.size w ((((U.alloc (.cells ZA 32)).alloc (.cells #[.int .u32 0, .slice none 0 0, .bool false, .int .u32 0, .int .u32 0] 41)).setRow q ZA).setRow (q + 1) #[.int .u32 0, .slice none 0 0, .bool false, .int .u32 0, .int .u32 0])) := Lib.hid (HBb.out.trans (hX.mono HBb.out.size))
  clear hS0 hD0 hX HBb
  go_upto_region 5 with (first | (rw [hq]) | (refine wpList_store_row rfl 32 (.tmp 8) (.tmp 19) rfl q ZA rfl rfl 32 ZA HS0.out (by rw [info32s, NZ.out]) rfl O1.out ?_) | (refine wpList_store_row rfl 41 (.tmp 9) (.tmp 20) rfl (q + 1) #[.int .u32 0, .slice none 0 0, .bool false, .int .u32 0, .int .u32 0] rfl rfl 41 #[.int .u32 0, .slice none 0 0, .bool false, .int .u32 0, .int .u32 0] HD1.out info41s rfl (by simp [Value.oneCell']) ?_))
  generalize ((((U.alloc (.cells ZA 32)).alloc (.cells #[.int .u32 0, .slice none 0 0, .bool false, .int .u32 0, .int .u32 0] 41)).setRow q ZA).setRow (q + 1) #[.int .u32 0, .slice none 0 0, .bool false, .int .u32 0, .int .u32 0]) = W6 at *
  clear HS0 HS1 HD1 hq
  have y0 := HD2.out.cell 0
  have y1 := HD2.out.cell 1
  have y2 := HD2.out.cell 2
  have y3 := HD2.out.cell 3
  have y4 := HD2.out.cell 4
  simp only [List.getElem?_toArray, List.getElem?_cons_zero, List.getElem?_cons_succ] at y0 y1 y2 y3 y4
  go_wp2_with fail
  refine wp_load_row 32 (.tmp 8) rfl q rfl 32 ZA (0, 0) _ HS2.out Tryz.underlying32 rfl (by rw [info32s, NZ.out]) ?_
  rename_i hK
  refine hK _ _ ?_
  go_wp2_with (first | (refine wp_buildE 32 [] rfl ZA ?_ ?_; exact HB32.out))
  refine (KS.out _).mono ?_
  rintro _ w7 ⟨rfl, hb7⟩
  have HB7 : Hid (Below w.heap.size w w7) := Lib.hid (HB6.out.trans (hb7.mono HB6.out.size))
  clear hb7 y0 y1 y2 y3 y4 hK HS2 HD2 hz hz2 he
  go_wp2_with fail
  refine (lives w7 (HG.out.below HB7.out hsz)).mono ?_
  rintro _ w8 ⟨rfl, hb8⟩
  have HB8 : Hid (Below w.heap.size w w8) := Lib.hid (HB7.out.trans (hb8.mono HB7.out.size))
  clear hb8
  go_wp2_with fail
  go_ret
  exact ⟨rfl, HB8.out⟩
theorem law7 (s : St) (tm z : Bool) (w : World) (hg : In.Glob w) :
    Calls Tryz.prog 7 #[.agg s.L.toArray, .bool tm, .bool z] w fun en w' => en = .returned (.bool true) ∧ Below w.heap.size w w' := by
  cases z
  · exact law7n s tm w hg
  · exact law7z s tm w hg
end Go.Proofs.YtnkoknfihhdelaaGreatDoor
