import Derived.Test.YtapdiionikfgpaaGreatDoorRhz
import Derived.Test.YtapdiionikfgpaaGreatDoorGi
namespace Go.Proofs.YtapdiionikfgpaaGreatDoor
open Go.ChangeShapes Go.WideShapes Go.ChangeAt Go.RowKit
set_option linter.unusedVariables false
set_option linter.unusedSimpArgs false
def shaL (x : ByteArray × Int) : List ByteArray := [kShare, x.1, tnI x.2]
def impL (cs : List CoI) (nm : ByteArray) (x : Int × ByteArray) : List ByteArray := [kImport, nm, (nmC cs x.1).getD ⟨#[]⟩, x.2]
def impOk (cs : List CoI) (c : CoI) : Bool := c.is.all (fun x => (nmC cs x.1).isSome)
/-- a plan's lines -/
def txt (P : PlI) : List (List ByteArray) := [kStack, tnI P.st] :: [kTrusted, tnI P.tr] :: (P.ss.map shaL ++ P.cs.flatMap (coLs P.ss) ++ P.cs.flatMap (fun c => c.is.map (impL P.cs c.nm)) ++ [[kStart, (nmC P.cs P.s0).getD ⟨#[]⟩, P.mn]])
def okT (P : PlI) : Bool := P.cs.all (givOk P.ss) && P.cs.all (impOk P.cs) && (nmC P.cs P.s0).isSome
def RgP (P : PlI) : Prop := InI P.st ∧ InI P.tr ∧ (∀ x ∈ P.ss, InI x.2) ∧ ∀ c ∈ P.cs, (∀ y ∈ c.es, InI y.2.1 ∧ InI y.2.2) ∧ (∀ y ∈ c.ds, (0 ≤ y.2.1 ∧ y.2.1 ≤ 4294967295) ∧ 0 ≤ y.2.2 ∧ y.2.2 ≤ 4294967295)
theorem fm_step {α : Type} {L : List α} {k : Nat} {x : α} (f : α → List (List ByteArray)) (LS : List (List ByteArray)) (hx : L[k]? = some x) : LS ++ (L.take (k + 1)).flatMap f = (LS ++ (L.take k).flatMap f) ++ f x := by
  rw [List.take_add_one, hx]
  simp
theorem fm_len {α : Type} {L : List α} {k : Nat} {x : α} (f : α → List (List ByteArray)) (hx : L[k]? = some x) : ((L.take k).flatMap f).length + (f x).length ≤ (L.flatMap f).length := by
  have h := List.take_append_drop (k + 1) L
  have h2 : (L.flatMap f).length = ((L.take (k + 1)).flatMap f).length + ((L.drop (k + 1)).flatMap f).length := by
    conv => lhs; rw [← h]
    rw [List.flatMap_append, List.length_append]
  rw [h2, List.take_add_one, hx, List.flatMap_append, List.length_append]
  simp only [Option.toList_some, List.flatMap_cons, List.flatMap_nil, List.append_nil]
  omega
theorem fm_map {α β γ : Type} (D : List α) (g : α → β) (f : β → List γ) : (D.map g).flatMap f = D.flatMap (fun x => f (g x)) := by
  induction D with
  | nil => rfl
  | cons a t ih => simp [List.flatMap_cons, ih]
/-- the text of lines, or what is wrong -/
noncomputable def gL (LS : List (List ByteArray)) (k : Nat) : Li.Wl := ⟨0, none, ((LS[k]?).getD []).length, 0, fun j => (((LS[k]?).getD [])[j]?).getD ⟨#[]⟩⟩
open Classical in
noncomputable def pt (LS : List (List ByteArray)) : ByteArray × Nat := if Li.mayB (gL LS) LS.length = false then (⟨#[]⟩, 5) else if (∃ k, k < LS.length ∧ Li.longP (gL LS k)) ∨ 400 < LS.length then (⟨#[]⟩, 3) else (Li.outN (gL LS) LS.length, 0)
noncomputable def outT (P : PlI) : ByteArray × Nat := if okT P = true then pt (txt P) else (⟨#[]⟩, 5)
theorem outT_no {P : PlI} (h : okT P = false) : outT P = (⟨#[]⟩, 5) := by unfold outT; rw [if_neg (by rw [h]; simp)]
theorem outT_yes {P : PlI} (h : okT P = true) : outT P = pt (txt P) := by unfold outT; rw [if_pos h]
set_option maxRecDepth 100000 in
set_option maxHeartbeats 16000000 in
/-- text, up to lines.Put -/
theorem n29 (SV CV : Value) (P : PlI) (D : List (Sv × CoI)) (w : World) (h : PlL w SV CV P D) (hb : BdP P) (hr : RgP P) (hG : Gt w) (hN : (txt P).length ≤ 1073741824)
    (hput : ∀ W V B, Below w.heap.size w W → Li.RdOut B V ((txt P).map (fun l => (0, l))) W → Calls Tryz.prog 60 #[V] W fun e w' => e = .returned (.tuple #[.string (pt (txt P)).1, .int .i64 ((pt (txt P)).2 : Int)]) ∧ Below W.heap.size W w') :
    Calls Tryz.prog 29 #[plV SV CV P] w fun e w' => e = .returned (.tuple #[.string (outT P).1, .int .i64 ((outT P).2 : Int)]) ∧ Below w.heap.size w w' := by
  have hdl : D.length = P.cs.length := by rw [← h.2.2.1]; simp
  have HDL := Lib.hid hdl
  have HD := Lib.hid h.2.2.1
  have HPUT := Lib.hid hput
  have HPL0 := Lib.hid h
  have HRG := Lib.hid hr
  have HBP := Lib.hid hb
  have HG0 := Lib.hid hG
  have HIS : Hid (∀ x ∈ D, IsS x.1.f ∧ IsS x.1.e ∧ IsS x.1.i ∧ IsS x.1.d ∧ IsS x.1.g) := Lib.hid (fun x hx => by have c1 := h.2.2.2 x hx; exact ⟨isS_ly c1.1, isS_ly c1.2.1, isS_ly c1.2.2.1, isS_ly c1.2.2.2.1, isS_ly c1.2.2.2.2⟩)
  have HMEM : Hid (∀ x ∈ D, x.2 ∈ P.cs) := Lib.hid (fun x hx => by rw [← h.2.2.1]; exact List.mem_map.2 ⟨x, hx, rfl⟩)
  have HTX : Hid (txt P = ([[kStack, tnI P.st], [kTrusted, tnI P.tr]] ++ P.ss.map shaL ++ D.flatMap (fun x => coLs P.ss x.2) ++ D.flatMap (fun x => x.2.is.map (impL P.cs x.2.nm))) ++ [[kStart, (nmC P.cs P.s0).getD ⟨#[]⟩, P.mn]]) := Lib.hid (by
    unfold txt
    rw [← h.2.2.1, fm_map, fm_map]
    simp)
  have HOT : Hid (okT P = ((true && D.all (fun x => givOk P.ss x.2)) && D.all (fun x => impOk P.cs x.2) && (nmC P.cs P.s0).isSome)) := Lib.hid (by
    unfold okT
    rw [← h.2.2.1, List.all_map, List.all_map]
    simp [Function.comp_def])
  have HN0 : Hid (2 + P.ss.length + (D.flatMap (fun x => coLs P.ss x.2)).length + (D.flatMap (fun x => x.2.is.map (impL P.cs x.2.nm))).length + 1 ≤ 1073741824) := Lib.hid (by have := congrArg List.length HTX.out; simp at this; simp; omega)
  obtain ⟨AS, sc, hsv, -⟩ := h.1
  obtain ⟨AC, cc, hcv, -⟩ := h.2.1
  subst hsv hcv
  unfold plV
  obtain ⟨wb, hwb⟩ : ∃ wb, w.heap.size + 1 = wb := ⟨_, rfl⟩
  obtain ⟨B, hBB⟩ : ∃ B, wb + 1 = B := ⟨_, rfl⟩
  have HWB := Lib.hid hwb
  have HBB := Lib.hid hBB
  obtain ⟨W0, hW0⟩ : ∃ W0, (w.alloc (.cells #[.int .i64 P.st, .int .i64 P.tr, .slice AS P.ss.length sc, .slice AC D.length cc, .int .i64 P.s0, .string P.mn] 25)).alloc (.cells #[.slice none 0 0, .bool true] 94) = W0 := ⟨_, rfl⟩
  have HBA : Hid (Below w.heap.size w W0) := Lib.hid (by rw [← hW0]; exact ((Below.refl _ _).alloc (Nat.le_refl _) _).alloc (by simp) _)
  have HPB : Hid (Bx W0 w.heap.size #[.int .i64 P.st, .int .i64 P.tr, .slice AS P.ss.length sc, .slice AC D.length cc, .int .i64 P.s0, .string P.mn] 25) := Lib.hid (by rw [← hW0]; exact (bx_alloc' w _ _).below ((Below.refl _ _).alloc (Nat.le_refl _) _))
  have HW0R : Hid (WR W0 wb B (.slice none 0 0) true []) := Lib.hid (by
    refine ⟨?_, ?_, by omega⟩
    · rw [← hW0, ← hwb]
      have := bx_alloc' (w.alloc (.cells #[.int .i64 P.st, .int .i64 P.tr, .slice AS P.ss.length sc, .slice AC D.length cc, .int .i64 P.s0, .string P.mn] 25)) #[.slice none 0 0, .bool true] 94
      rw [show (w.alloc (.cells #[.int .i64 P.st, .int .i64 P.tr, .slice AS P.ss.length sc, .slice AC D.length cc, .int .i64 P.s0, .string P.mn] 25)).heap.size = w.heap.size + 1 from by simp] at this
      exact this
    · exact Li.rd_nil _ _)
  have HU : Hid (∀ W, Fk wb W0 W → Bx W w.heap.size #[.int .i64 P.st, .int .i64 P.tr, .slice AS P.ss.length sc, .slice AC D.length cc, .int .i64 P.s0, .string P.mn] 25 ∧ Below w.heap.size w W ∧ wb < W.heap.size ∧ B ≤ W.heap.size) := Lib.hid (fun W hW => by
    have h1 := HW0R.out.1.lt
    refine ⟨(hW.1.block w.heap.size (by omega)).trans HPB.out, HBA.out.trans (hW.1.mono (by omega)), Nat.lt_of_lt_of_le h1 hW.1.size, ?_⟩
    have := hW.1.size
    omega)
  have HPL : Hid (∀ W, Fk wb W0 W → PlL W (.slice AS P.ss.length sc) (.slice AC D.length cc) P D) := Lib.hid (fun W hW => h.below (HU.out W hW).2.1)
  have HGT : Hid (∀ W, Fk wb W0 W → Gt W) := Lib.hid (fun W hW => hG.below (HU.out W hW).2.1)
  have HF0 : Hid (Fk wb W0 W0) := Lib.hid (Fk.refl _ _)
  have y0 := HPB.out.cell 0
  simp at y0
  have HIT1 := Lib.hid (n56 P.st hr.1 W0 (hG.below HBA.out))
  have hs01 : (w.alloc (.cells #[.int .i64 P.st, .int .i64 P.tr, .slice AS P.ss.length sc, .slice AC D.length cc, .int .i64 P.s0, .string P.mn] 25)).heap.size = wb := by rw [← hwb]; simp
  clear h hb hr hG hN hdl hput
  go_enter Tryz.func29, Tryz.ntmps29
  go_wp2_with fail
  with_reducible refine HIT1.out.mono ?_
  rintro _ w1 ⟨rfl, hb1⟩
  have HF1 : Hid (Fk wb W0 w1) := Lib.hid (Fk.of hb1 (Nat.le_of_lt (HU.out _ HF0.out).2.2.1))
  have HR1 : Hid (WR w1 wb B (.slice none 0 0) true []) := Lib.hid (HW0R.out.below hb1)
  have HSY1 := Lib.hid (say_at [kStack, tnI P.st] w1 wb B _ true [] HR1.out (HU.out _ HF1.out).2.2.2 (by simp) (by simp))
  clear hb1 HIT1 y0
  go_wp2_with fail
  refine HSY1.out.mono ?_
  rintro _ w2 ⟨rfl, ⟨V2, hv2⟩, hf2⟩
  have HF2 : Hid (Fk wb W0 w2) := Lib.hid (HF1.out.trans hf2)
  have HR2 : Hid (WR w2 wb B V2 true [[kStack, tnI P.st]]) := Lib.hid hv2
  have y1 := (HU.out _ HF2.out).1.cell 1
  simp at y1
  have HIT2 := Lib.hid (n56 P.tr HRG.out.2.1 w2 (HGT.out _ HF2.out))
  clear hv2 hf2 HSY1
  go_wp2_with fail
  with_reducible refine HIT2.out.mono ?_
  rintro _ w3 ⟨rfl, hb3⟩
  have HF3 : Hid (Fk wb W0 w3) := Lib.hid (HF2.out.trans (Fk.of hb3 (Nat.le_of_lt (HU.out _ HF2.out).2.2.1)))
  have HR3 : Hid (WR w3 wb B V2 true [[kStack, tnI P.st]]) := Lib.hid (HR2.out.below hb3)
  have HSY2 := Lib.hid (say_at [kTrusted, tnI P.tr] w3 wb B _ true _ HR3.out (HU.out _ HF3.out).2.2.2 (by simp) (by simp))
  clear hb3 HIT2 y1
  go_wp2_with fail
  refine HSY2.out.mono ?_
  rintro _ w4 ⟨rfl, ⟨V4, hv4⟩, hf4⟩
  have HF4 : Hid (Fk wb W0 w4) := Lib.hid (HF3.out.trans hf4)
  have HR4 : Hid (WR w4 wb B V4 true [[kStack, tnI P.st], [kTrusted, tnI P.tr]]) := Lib.hid hv4
  have y2 := (HU.out _ HF4.out).1.cell 2
  simp at y2
  clear hv4 hf4 HSY2
  go_wp2_with fail
  clear y2
  go_loopw [6, 27] (fun _ i wr => RG wb B W0 P.ss.length (fun _ => true) (fun k => [[kStack, tnI P.st], [kTrusted, tnI P.tr]] ++ (P.ss.take k).map shaL) i wr) (fun _ i _ => P.ss.length - (intOf i).toNat)
  case atStart => exact ⟨0, Nat.zero_le _, rfl, HF4.out, V4, by simpa using HR4.out⟩
  case round =>
    obtain ⟨k, hk, rfl, hfk, V5, hwr⟩ := hrel
    have HFK := Lib.hid hfk
    have HWR : Hid (WR wr wb B V5 true ([[kStack, tnI P.st], [kTrusted, tnI P.tr]] ++ (P.ss.take k).map shaL)) := Lib.hid hwr
    obtain ⟨hp, hbw, hwbr, hbr⟩ := HU.out wr hfk
    have HWBR := Lib.hid hwbr
    clear hfk hwr hp hbw hwbr hbr
    by_cases hlt : k < P.ss.length
    · obtain ⟨x, hx⟩ : ∃ x, P.ss[k]? = some x := ⟨_, List.getElem?_eq_getElem hlt⟩
      obtain ⟨b, o, he, hb, hcc⟩ := ((HPL.out wr HFK.out).1.at').2 (by omega)
      subst he
      have q0 : wr.cell? ⟨b, o + k * 2, none⟩ = some (.string x.1) := hcc k x hx 0 _ rfl
      have q1 : wr.cell? ⟨b, o + k * 2 + 1, none⟩ = some (.int .i64 x.2) := hcc k x hx 1 _ rfl
      have hkn : (k : Int) < (P.ss.length : Int) := by omega
      have hkb : k ≤ 1048576 := by have := HBP.out.1; omega
      have hkw : IntKind.i64.wrap (k : Int) = (k : Int) := by rw [IntKind.wrap_i64]; omega
      have HLL : Hid (([[kStack, tnI P.st], [kTrusted, tnI P.tr]] ++ (P.ss.take k).map shaL).length ≤ 1073741824) := Lib.hid (by simp; have := HN0.out; omega)
      have HLS : Hid ([[kStack, tnI P.st], [kTrusted, tnI P.tr]] ++ (P.ss.take (k + 1)).map shaL = ([[kStack, tnI P.st], [kTrusted, tnI P.tr]] ++ (P.ss.take k).map shaL) ++ [shaL x]) := Lib.hid (ls_step shaL _ hx)
      have HXR := Lib.hid (HRG.out.2.2.1 x (List.mem_of_getElem? hx))
      have HLT := Lib.hid hlt
      clear hx hcc hb hlt
      go_upto_region 7 with fail
      obtain ⟨wA, hwA⟩ : ∃ wA, wr.alloc (.cells #[.string x.1, .int .i64 x.2] 68) = wA := ⟨_, rfl⟩
      have HAB : Hid (Below wr.heap.size wr wA) := Lib.hid (by rw [← hwA]; exact (Below.refl _ _).alloc (Nat.le_refl _) _)
      have HXB : Hid (Bx wA wr.heap.size #[.string x.1, .int .i64 x.2] 68) := Lib.hid (by rw [← hwA]; exact bx_alloc' _ _ _)
      have HFA : Hid (Fk wb W0 wA) := Lib.hid (HFK.out.trans (Fk.of HAB.out (Nat.le_of_lt HWBR.out)))
      have HWA : Hid (WR wA wb B V5 true ([[kStack, tnI P.st], [kTrusted, tnI P.tr]] ++ (P.ss.take k).map shaL)) := Lib.hid (HWR.out.below HAB.out)
      rw [hwA]
      clear hwA
      have HS : Hid (∀ W, Fk wb wA W → W.cell? ⟨wr.heap.size, 0, none⟩ = some (.string x.1) ∧ W.cell? ⟨wr.heap.size, 1, none⟩ = some (.int .i64 x.2)) := Lib.hid (fun W hW => ⟨(hW.bx HXB.out HWBR.out (by decide)).cell 0, (hW.bx HXB.out HWBR.out (by decide)).cell 1⟩)
      have HWL : Hid (wb < wA.heap.size) := Lib.hid HWA.out.1.lt
      have HBA2 : Hid (B ≤ wA.heap.size) := Lib.hid (HU.out _ HFA.out).2.2.2
      have HFd : Hid (Fk wb wA wA.drew) := Lib.hid (Fk.of (Below.refl _ _).drew (Nat.le_of_lt HWL.out))
      have HWd : Hid (WR wA.drew wb B V5 true ([[kStack, tnI P.st], [kTrusted, tnI P.tr]] ++ (P.ss.take k).map shaL)) := Lib.hid (HWA.out.below (Below.refl _ _).drew)
      have HI := Lib.hid (HS.out _ HFd.out)
      have HCL : Hid (∀ W, Fk wb wA W → WR W wb B V5 true ([[kStack, tnI P.st], [kTrusted, tnI P.tr]] ++ (P.ss.take k).map shaL) → Calls Tryz.prog 56 #[.int .i64 x.2] W fun e w' => e = .returned (.string (tnI x.2)) ∧ Fk wb wA w' ∧ WR w' wb B V5 true ([[kStack, tnI P.st], [kTrusted, tnI P.tr]] ++ (P.ss.take k).map shaL)) := Lib.hid (fun W hW hR => by
        refine (n56 x.2 HXR.out W (HGT.out W (HFA.out.trans hW))).mono ?_
        rintro e w' ⟨h1, h2⟩
        exact ⟨h1, hW.trans (Fk.of h2 (Nat.le_of_lt hR.1.lt)), hR.below h2⟩)
      have HSAY : Hid (∀ W, Fk wb wA W → WR W wb B V5 true ([[kStack, tnI P.st], [kTrusted, tnI P.tr]] ++ (P.ss.take k).map shaL) → Calls Tryz.prog 55 #[.pointer (some ⟨wb, 0, none⟩), .slice (some ⟨W.heap.size, 0, none⟩) 3 3] (W.alloc (.cells #[.string ⟨#[115, 104, 97, 114, 101]⟩, .string x.1, .string (tnI x.2)] 9)) fun e w' => e = .returned (.tuple #[]) ∧ (∃ V', WR w' wb B V' true (([[kStack, tnI P.st], [kTrusted, tnI P.tr]] ++ (P.ss.take k).map shaL) ++ [shaL x])) ∧ Fk wb wA w') := Lib.hid (fun W hW hR => by
        refine (say_at (shaL x) W wb B V5 true ([[kStack, tnI P.st], [kTrusted, tnI P.tr]] ++ (P.ss.take k).map shaL) hR (Nat.le_trans HBA2.out hW.1.size) HLL.out (show (3 : Nat) ≤ 1000 from by decide)).mono ?_
        rintro e w' ⟨h1, h2, h3⟩
        exact ⟨h1, h2, hW.trans h3⟩)
      go_region_held3 (fun W => W.cell? ⟨wr.heap.size, 0, none⟩ = some (.string x.1) ∧ W.cell? ⟨wr.heap.size, 1, none⟩ = some (.int .i64 x.2))
        (first | assumption | exact HI.out | (with_reducible exact HS.out _ (by assumption)) | (exact HS.out _ (Fk.alloc hq6 ⟨_, _, _, _, hr6⟩ _)))
        (first
          | (go_at_call 56; (with_reducible refine (HCL.out _ HFd.out HWd.out).mono ?_); rintro _ w6 ⟨rfl, hq6, hr6⟩)
          | (go_at_call 55; (with_reducible refine (HSAY.out _ hq6 hr6).mono ?_); rintro _ wz ⟨rfl, hwz, hfz⟩))
      all_goals
        have HFZ : Hid (Fk wb W0 wz) := Lib.hid (HFA.out.trans hfz)
        have HWZ := Lib.hid hwz
        clear hwz hfz HSAY HCL q0 q1
        go_wp2_with fail
        go_roundw
        case rel => exact ⟨k + 1, HLT.out, by go_num, HFZ.out, by
          obtain ⟨V', hv⟩ := HWZ.out
          refine ⟨V', ?_⟩
          show WR _ wb B V' true ([[kStack, tnI P.st], [kTrusted, tnI P.tr]] ++ (P.ss.take (k + 1)).map shaL)
          rw [HLS.out]
          exact hv⟩
        case measure => simp [intOf]; have := HLT.out; omega
    · obtain rfl : k = P.ss.length := by omega
      have HRA : Hid (WR wr wb B V5 true ([[kStack, tnI P.st], [kTrusted, tnI P.tr]] ++ P.ss.map shaL)) := Lib.hid (by have := HWR.out; rw [List.take_length] at this; exact this)
      have HFA0 := Lib.hid HFK.out
      have y3 := (HU.out _ HFK.out).1.cell 3
      simp at y3
      clear hk hlt HFK HWR
      go_wp2_with fail
      clear y3
      generalize wr = wa at *
      go_loopw [8, 42] (fun _ i wr => RG wb B W0 D.length (fun k => true && (D.take k).all (fun x => givOk P.ss x.2)) (fun k => ([[kStack, tnI P.st], [kTrusted, tnI P.tr]] ++ P.ss.map shaL) ++ (D.take k).flatMap (fun x => coLs P.ss x.2)) i wr) (fun _ i _ => D.length - (intOf i).toNat)
      case atStart => exact ⟨0, Nat.zero_le _, rfl, HFA0.out, V5, by simpa using HRA.out⟩
      case round =>
        obtain ⟨k, hk, rfl, hfk, V6, hwr⟩ := hrel
        have HFK := Lib.hid hfk
        have HWR : Hid (WR wr wb B V6 (true && (D.take k).all (fun x => givOk P.ss x.2)) (([[kStack, tnI P.st], [kTrusted, tnI P.tr]] ++ P.ss.map shaL) ++ (D.take k).flatMap (fun x => coLs P.ss x.2))) := Lib.hid hwr
        obtain ⟨hp, hbw, hwbr, hbr⟩ := HU.out wr hfk
        have HWBR := Lib.hid hwbr
        have HBW := Lib.hid hbw
        have HBR := Lib.hid hbr
        have HPB2 := Lib.hid hp
        clear hfk hwr hp hbw hwbr hbr
        by_cases hlt : k < D.length
        · skip
          obtain ⟨x, hx⟩ : ∃ x, D[k]? = some x := ⟨_, List.getElem?_eq_getElem hlt⟩
          obtain ⟨b, o, he, hb, hcc⟩ := ((HPL.out wr HFK.out).2.1.at').2 (by omega)
          have HCX : Hid (∀ W, Below w.heap.size w W → CoL W x) := Lib.hid (fun W hW => (HPL0.out.2.2.2 x (List.mem_of_getElem? hx)).below hW)
          have HBX := Lib.hid (HBP.out.2.2 _ (HMEM.out x (List.mem_of_getElem? hx)))
          have HXR := Lib.hid (HRG.out.2.2.2 _ (HMEM.out x (List.mem_of_getElem? hx)))
          obtain ⟨⟨F1, n1, c1, g1⟩, ⟨F2, n2, c2, g2⟩, ⟨F3, n3, c3, g3⟩, ⟨F4, n4, c4, g4⟩, ⟨F5, n5, c5, g5⟩⟩ := HIS.out x (List.mem_of_getElem? hx)
          obtain ⟨⟨xf, xe, xi, xd, xg⟩, xc⟩ := x
          simp only at g1 g2 g3 g4 g5 HBX HXR
          subst g1 g2 g3 g4 g5
          have q0 : wr.cell? ⟨b, o + k * 6, none⟩ = some (.string xc.nm) := hcc k _ hx 0 _ rfl
          have q1 : wr.cell? ⟨b, o + k * 6 + 1, none⟩ = some (.slice F1 n1 c1) := hcc k _ hx 1 _ rfl
          have q2 : wr.cell? ⟨b, o + k * 6 + 2, none⟩ = some (.slice F2 n2 c2) := hcc k _ hx 2 _ rfl
          have q3 : wr.cell? ⟨b, o + k * 6 + 3, none⟩ = some (.slice F3 n3 c3) := hcc k _ hx 3 _ rfl
          have q4 : wr.cell? ⟨b, o + k * 6 + 4, none⟩ = some (.slice F4 n4 c4) := hcc k _ hx 4 _ rfl
          have q5 : wr.cell? ⟨b, o + k * 6 + 5, none⟩ = some (.slice F5 n5 c5) := hcc k _ hx 5 _ rfl
          have hkn : (k : Int) < (D.length : Int) := by omega
          have hkb : k ≤ 1048576 := by have := HBP.out.2.1; have := HDL.out; omega
          have hkw : IntKind.i64.wrap (k : Int) = (k : Int) := by rw [IntKind.wrap_i64]; omega
          have HX := Lib.hid hx
          have HLT := Lib.hid hlt
          subst he
          have HLS : Hid (([[kStack, tnI P.st], [kTrusted, tnI P.tr]] ++ P.ss.map shaL) ++ (D.take (k + 1)).flatMap (fun x => coLs P.ss x.2) = (([[kStack, tnI P.st], [kTrusted, tnI P.tr]] ++ P.ss.map shaL) ++ (D.take k).flatMap (fun x => coLs P.ss x.2)) ++ coLs P.ss xc) := Lib.hid (fm_step (fun x => coLs P.ss x.2) _ hx)
          have HOS : Hid ((true && (D.take (k + 1)).all (fun x => givOk P.ss x.2)) = ((true && (D.take k).all (fun x => givOk P.ss x.2)) && givOk P.ss xc)) := Lib.hid (ok_step (fun x => givOk P.ss x.2) true hx)
          have HLL : Hid ((([[kStack, tnI P.st], [kTrusted, tnI P.tr]] ++ P.ss.map shaL) ++ (D.take k).flatMap (fun x => coLs P.ss x.2)).length + (coLs P.ss xc).length ≤ 1073741824) := Lib.hid (by
            have h1 := fm_len (fun x : Sv × CoI => coLs P.ss x.2) hx
            simp only [List.length_append, List.length_map, List.length_cons, List.length_nil] at h1 ⊢
            have := HN0.out
            omega)
          clear hx hcc hb hlt
          have HAB : Hid (Below wr.heap.size wr (wr.alloc (.cells #[.string xc.nm, .slice F1 n1 c1, .slice F2 n2 c2, .slice F3 n3 c3, .slice F4 n4 c4, .slice F5 n5 c5] 48))) := Lib.hid ((Below.refl _ _).alloc (Nat.le_refl _) _)
          have HFA : Hid (Fk wb W0 (wr.alloc (.cells #[.string xc.nm, .slice F1 n1 c1, .slice F2 n2 c2, .slice F3 n3 c3, .slice F4 n4 c4, .slice F5 n5 c5] 48))) := Lib.hid (HFK.out.trans (Fk.of HAB.out (Nat.le_of_lt HWBR.out)))
          have HPA := Lib.hid (HPB2.out.below HAB.out)
          have HXB := Lib.hid (bx_alloc' wr #[.string xc.nm, .slice F1 n1 c1, .slice F2 n2 c2, .slice F3 n3 c3, .slice F4 n4 c4, .slice F5 n5 c5] 48)
          have s0 := HPA.out.cell 0
          have t0 := HXB.out.cell 0
          have s1 := HPA.out.cell 1
          have t1 := HXB.out.cell 1
          have s2 := HPA.out.cell 2
          have t2 := HXB.out.cell 2
          have s3 := HPA.out.cell 3
          have t3 := HXB.out.cell 3
          have s4 := HPA.out.cell 4
          have t4 := HXB.out.cell 4
          have s5 := HPA.out.cell 5
          have t5 := HXB.out.cell 5
          simp at s0 s1 s2 s3 s4 s5 t0 t1 t2 t3 t4 t5
          have HCALL := Lib.hid (n57 P.st P.tr P.s0 P.mn _ (.slice (some ⟨b, o, none⟩) D.length cc) P.ss _ (wr.alloc (.cells #[.string xc.nm, .slice F1 n1 c1, .slice F2 n2 c2, .slice F3 n3 c3, .slice F4 n4 c4, .slice F5 n5 c5] 48)) wb B V6 (true && (D.take k).all (fun x => givOk P.ss x.2)) (([[kStack, tnI P.st], [kTrusted, tnI P.tr]] ++ P.ss.map shaL) ++ (D.take k).flatMap (fun x => coLs P.ss x.2)) (HWR.out.below HAB.out) (Nat.le_trans HBR.out HAB.out.size)
            (fun W hW => HG0.out.below ((HU.out _ HFA.out).2.1.trans (hW.mono (by have := HWB.out; omega))))
            (fun W hW => HPL0.out.1.below ((HU.out _ HFA.out).2.1.trans (hW.mono (by have := HWB.out; omega)))) ⟨_, _, _, rfl⟩
            (fun W hW => HCX.out W ((HU.out _ HFA.out).2.1.trans (hW.mono (by have := HWB.out; omega)))) HBP.out.1 HBX.out HLL.out HXR.out.1 HXR.out.2)
          simp only at HCALL
          go_wp2_with fail
          refine HCALL.out.mono ?_
          rintro _ wz ⟨rfl, hwz, hfz⟩
          have HFZ : Hid (Fk wb W0 wz) := Lib.hid (HFA.out.trans hfz)
          have HWZ := Lib.hid hwz
          clear hwz hfz HCALL q0 q1 q2 q3 q4 q5 s0 s1 s2 s3 s4 s5 t0 t1 t2 t3 t4 t5
          go_wp2_with fail
          go_roundw
          case rel => exact ⟨k + 1, HLT.out, by go_num, HFZ.out, by
            obtain ⟨V', hv⟩ := HWZ.out
            refine ⟨V', ?_⟩
            show WR _ wb B V' (true && (D.take (k + 1)).all (fun x => givOk P.ss x.2)) (([[kStack, tnI P.st], [kTrusted, tnI P.tr]] ++ P.ss.map shaL) ++ (D.take (k + 1)).flatMap (fun x => coLs P.ss x.2))
            rw [HLS.out, HOS.out]
            exact hv⟩
          case measure => simp [intOf]; have := HLT.out; omega
        · obtain rfl : k = D.length := by omega
          have HRB : Hid (WR wr wb B V6 (true && D.all (fun x => givOk P.ss x.2)) (([[kStack, tnI P.st], [kTrusted, tnI P.tr]] ++ P.ss.map shaL) ++ D.flatMap (fun x => coLs P.ss x.2))) := Lib.hid (by have := HWR.out; rw [List.take_length] at this; exact this)
          have HFB0 := Lib.hid HFK.out
          have y3 := HPB2.out.cell 3
          simp at y3
          clear hk hlt HFK HWR
          go_wp2_with fail
          clear y3
          generalize wr = wc at *
          go_loopw [10, 12, 53] (fun _ _ i wr => RG wb B W0 D.length (fun k => (true && D.all (fun x => givOk P.ss x.2)) && (D.take k).all (fun x => impOk P.cs x.2)) (fun k => (([[kStack, tnI P.st], [kTrusted, tnI P.tr]] ++ P.ss.map shaL) ++ D.flatMap (fun x => coLs P.ss x.2)) ++ (D.take k).flatMap (fun x => x.2.is.map (impL P.cs x.2.nm))) i wr) (fun _ _ i _ => D.length - (intOf i).toNat)
          case atStart => exact ⟨0, Nat.zero_le _, rfl, HFB0.out, V6, by simpa using HRB.out⟩
          case round =>
            obtain ⟨k, hk, rfl, hfk, V7, hwr⟩ := hrel
            have HFK := Lib.hid hfk
            have HWR : Hid (WR wr wb B V7 ((true && D.all (fun x => givOk P.ss x.2)) && (D.take k).all (fun x => impOk P.cs x.2)) ((([[kStack, tnI P.st], [kTrusted, tnI P.tr]] ++ P.ss.map shaL) ++ D.flatMap (fun x => coLs P.ss x.2)) ++ (D.take k).flatMap (fun x => x.2.is.map (impL P.cs x.2.nm)))) := Lib.hid hwr
            obtain ⟨hp, hbw, hwbr, hbr⟩ := HU.out wr hfk
            have HWBR := Lib.hid hwbr
            have HBW := Lib.hid hbw
            have HBR := Lib.hid hbr
            have HPB2 := Lib.hid hp
            clear hfk hwr hp hbw hwbr hbr
            by_cases hlt : k < D.length
            · skip
              obtain ⟨x, hx⟩ : ∃ x, D[k]? = some x := ⟨_, List.getElem?_eq_getElem hlt⟩
              obtain ⟨b, o, he, hb, hcc⟩ := ((HPL.out wr HFK.out).2.1.at').2 (by omega)
              have HCX : Hid (∀ W, Below w.heap.size w W → CoL W x) := Lib.hid (fun W hW => (HPL0.out.2.2.2 x (List.mem_of_getElem? hx)).below hW)
              have HBX := Lib.hid (HBP.out.2.2 _ (HMEM.out x (List.mem_of_getElem? hx)))
              have HXR := Lib.hid (HRG.out.2.2.2 _ (HMEM.out x (List.mem_of_getElem? hx)))
              obtain ⟨⟨F1, n1, c1, g1⟩, ⟨F2, n2, c2, g2⟩, ⟨F3, n3, c3, g3⟩, ⟨F4, n4, c4, g4⟩, ⟨F5, n5, c5, g5⟩⟩ := HIS.out x (List.mem_of_getElem? hx)
              obtain ⟨⟨xf, xe, xi, xd, xg⟩, xc⟩ := x
              simp only at g1 g2 g3 g4 g5 HBX HXR
              subst g1 g2 g3 g4 g5
              have q0 : wr.cell? ⟨b, o + k * 6, none⟩ = some (.string xc.nm) := hcc k _ hx 0 _ rfl
              have q1 : wr.cell? ⟨b, o + k * 6 + 1, none⟩ = some (.slice F1 n1 c1) := hcc k _ hx 1 _ rfl
              have q2 : wr.cell? ⟨b, o + k * 6 + 2, none⟩ = some (.slice F2 n2 c2) := hcc k _ hx 2 _ rfl
              have q3 : wr.cell? ⟨b, o + k * 6 + 3, none⟩ = some (.slice F3 n3 c3) := hcc k _ hx 3 _ rfl
              have q4 : wr.cell? ⟨b, o + k * 6 + 4, none⟩ = some (.slice F4 n4 c4) := hcc k _ hx 4 _ rfl
              have q5 : wr.cell? ⟨b, o + k * 6 + 5, none⟩ = some (.slice F5 n5 c5) := hcc k _ hx 5 _ rfl
              have hkn : (k : Int) < (D.length : Int) := by omega
              have hkb : k ≤ 1048576 := by have := HBP.out.2.1; have := HDL.out; omega
              have hkw : IntKind.i64.wrap (k : Int) = (k : Int) := by rw [IntKind.wrap_i64]; omega
              have HX := Lib.hid hx
              have HLT := Lib.hid hlt
              have hly := (HCX.out w (Below.refl _ _)).2.2.1
              obtain rfl : n3 = xc.is.length := hly.at'.1
              have HLY : Hid (∀ W, Below w.heap.size w W → Ly W (.slice F3 xc.is.length c3) 2 iIs xc.is) := Lib.hid (fun W hW => (HCX.out W hW).2.2.1)
              have HLS : Hid ((([[kStack, tnI P.st], [kTrusted, tnI P.tr]] ++ P.ss.map shaL) ++ D.flatMap (fun x => coLs P.ss x.2)) ++ (D.take (k + 1)).flatMap (fun x => x.2.is.map (impL P.cs x.2.nm)) = ((([[kStack, tnI P.st], [kTrusted, tnI P.tr]] ++ P.ss.map shaL) ++ D.flatMap (fun x => coLs P.ss x.2)) ++ (D.take k).flatMap (fun x => x.2.is.map (impL P.cs x.2.nm))) ++ xc.is.map (impL P.cs xc.nm)) := Lib.hid (fm_step (fun x : Sv × CoI => x.2.is.map (impL P.cs x.2.nm)) _ hx)
              have HOS : Hid (((true && D.all (fun x => givOk P.ss x.2)) && (D.take (k + 1)).all (fun x => impOk P.cs x.2)) = (((true && D.all (fun x => givOk P.ss x.2)) && (D.take k).all (fun x => impOk P.cs x.2)) && impOk P.cs xc)) := Lib.hid (ok_step (fun x => impOk P.cs x.2) _ hx)
              have HL3 : Hid (((([[kStack, tnI P.st], [kTrusted, tnI P.tr]] ++ P.ss.map shaL) ++ D.flatMap (fun x => coLs P.ss x.2)) ++ (D.take k).flatMap (fun x => x.2.is.map (impL P.cs x.2.nm))).length + xc.is.length ≤ 1073741824) := Lib.hid (by
                have h1 := fm_len (fun x : Sv × CoI => x.2.is.map (impL P.cs x.2.nm)) hx
                simp only [List.length_append, List.length_map, List.length_cons, List.length_nil] at h1 ⊢
                have := HN0.out
                omega)
              subst he
              clear hx hcc hb hlt hly
              go_wp2_with fail
              obtain ⟨wA, hwA⟩ : ∃ wA, wr.alloc (.cells #[.string xc.nm, .slice F1 n1 c1, .slice F2 n2 c2, .slice F3 xc.is.length c3, .slice F4 n4 c4, .slice F5 n5 c5] 48) = wA := ⟨_, rfl⟩
              have HAB : Hid (Below wr.heap.size wr wA) := Lib.hid (by rw [← hwA]; exact (Below.refl _ _).alloc (Nat.le_refl _) _)
              have HXB : Hid (Bx wA wr.heap.size #[.string xc.nm, .slice F1 n1 c1, .slice F2 n2 c2, .slice F3 xc.is.length c3, .slice F4 n4 c4, .slice F5 n5 c5] 48) := Lib.hid (by rw [← hwA]; exact bx_alloc' _ _ _)
              have HFA3 : Hid (Fk wb W0 wA) := Lib.hid (HFK.out.trans (Fk.of HAB.out (Nat.le_of_lt HWBR.out)))
              have HWA3 : Hid (WR wA wb B V7 ((true && D.all (fun x => givOk P.ss x.2)) && (D.take k).all (fun x => impOk P.cs x.2)) ((([[kStack, tnI P.st], [kTrusted, tnI P.tr]] ++ P.ss.map shaL) ++ D.flatMap (fun x => coLs P.ss x.2)) ++ (D.take k).flatMap (fun x => x.2.is.map (impL P.cs x.2.nm)))) := Lib.hid (HWR.out.below HAB.out)
              rw [hwA]
              clear hwA q0 q1 q2 q3 q4 q5
              obtain ⟨n10, hn10⟩ : ∃ n10, wr.heap.size = n10 := ⟨_, rfl⟩
              rw [hn10] at HXB HWBR ⊢
              have HB10 : Hid (∀ W, Fk wb wA W → Bx W n10 #[.string xc.nm, .slice F1 n1 c1, .slice F2 n2 c2, .slice F3 xc.is.length c3, .slice F4 n4 c4, .slice F5 n5 c5] 48) := Lib.hid (fun W hW => hW.bx HXB.out HWBR.out (by decide))
              have HN10 := Lib.hid hn10
              clear hn10
              go_loopw [12, 60] (fun _ i wq => RG wb B wA xc.is.length (fun m => ((true && D.all (fun x => givOk P.ss x.2)) && (D.take k).all (fun x => impOk P.cs x.2)) && (xc.is.take m).all (fun y => (nmC P.cs y.1).isSome)) (fun m => ((([[kStack, tnI P.st], [kTrusted, tnI P.tr]] ++ P.ss.map shaL) ++ D.flatMap (fun x => coLs P.ss x.2)) ++ (D.take k).flatMap (fun x => x.2.is.map (impL P.cs x.2.nm))) ++ (xc.is.take m).map (impL P.cs xc.nm)) i wq) (fun _ i _ => xc.is.length - (intOf i).toNat)
              case atStart => exact ⟨0, Nat.zero_le _, rfl, Fk.refl _ _, V7, by simpa using HWA3.out⟩
              case round =>
                obtain ⟨m, hm, rfl, hfk, V8, hwr⟩ := hrel
                have HFK2 := Lib.hid hfk
                have HFW2 : Hid (Fk wb W0 wr) := Lib.hid (HFA3.out.trans hfk)
                have HWR2 : Hid (WR wr wb B V8 (((true && D.all (fun x => givOk P.ss x.2)) && (D.take k).all (fun x => impOk P.cs x.2)) && (xc.is.take m).all (fun y => (nmC P.cs y.1).isSome)) (((([[kStack, tnI P.st], [kTrusted, tnI P.tr]] ++ P.ss.map shaL) ++ D.flatMap (fun x => coLs P.ss x.2)) ++ (D.take k).flatMap (fun x => x.2.is.map (impL P.cs x.2.nm))) ++ (xc.is.take m).map (impL P.cs xc.nm))) := Lib.hid hwr
                have HWBR2 := Lib.hid (HU.out _ HFW2.out).2.2.1
                clear hfk hwr
                by_cases hlt : m < xc.is.length
                · obtain ⟨y, hy⟩ : ∃ y, xc.is[m]? = some y := ⟨_, List.getElem?_eq_getElem hlt⟩
                  obtain ⟨b4, o4, he4, hb4, hc4⟩ := ((HLY.out wr (HU.out _ HFW2.out).2.1).at').2 (by omega)
                  subst he4
                  have q0 : wr.cell? ⟨b4, o4 + m * 2, none⟩ = some (.int .i64 y.1) := hc4 m y hy 0 _ rfl
                  have q1 : wr.cell? ⟨b4, o4 + m * 2 + 1, none⟩ = some (.string y.2) := hc4 m y hy 1 _ rfl
                  have hmn : (m : Int) < (xc.is.length : Int) := by omega
                  have hmb : m ≤ 1048576 := by have := HBX.out.2.2.1; omega
                  have hmw : IntKind.i64.wrap (m : Int) = (m : Int) := by rw [IntKind.wrap_i64]; omega
                  have HLL : Hid ((((([[kStack, tnI P.st], [kTrusted, tnI P.tr]] ++ P.ss.map shaL) ++ D.flatMap (fun x => coLs P.ss x.2)) ++ (D.take k).flatMap (fun x => x.2.is.map (impL P.cs x.2.nm))) ++ (xc.is.take m).map (impL P.cs xc.nm)).length ≤ 1073741824) := Lib.hid (by
                    have h1 := ls_len xc.is m (impL P.cs xc.nm) ((([[kStack, tnI P.st], [kTrusted, tnI P.tr]] ++ P.ss.map shaL) ++ D.flatMap (fun x => coLs P.ss x.2)) ++ (D.take k).flatMap (fun x => x.2.is.map (impL P.cs x.2.nm)))
                    have := HL3.out
                    omega)
                  have HLS4 : Hid (((([[kStack, tnI P.st], [kTrusted, tnI P.tr]] ++ P.ss.map shaL) ++ D.flatMap (fun x => coLs P.ss x.2)) ++ (D.take k).flatMap (fun x => x.2.is.map (impL P.cs x.2.nm))) ++ (xc.is.take (m + 1)).map (impL P.cs xc.nm) = (((([[kStack, tnI P.st], [kTrusted, tnI P.tr]] ++ P.ss.map shaL) ++ D.flatMap (fun x => coLs P.ss x.2)) ++ (D.take k).flatMap (fun x => x.2.is.map (impL P.cs x.2.nm))) ++ (xc.is.take m).map (impL P.cs xc.nm)) ++ [impL P.cs xc.nm y]) := Lib.hid (ls_step (impL P.cs xc.nm) _ hy)
                  have HOS4 : Hid ((((true && D.all (fun x => givOk P.ss x.2)) && (D.take k).all (fun x => impOk P.cs x.2)) && (xc.is.take (m + 1)).all (fun y => (nmC P.cs y.1).isSome)) = ((((true && D.all (fun x => givOk P.ss x.2)) && (D.take k).all (fun x => impOk P.cs x.2)) && (xc.is.take m).all (fun y => (nmC P.cs y.1).isSome)) && (nmC P.cs y.1).isSome)) := Lib.hid (ok_step (fun y => (nmC P.cs y.1).isSome) _ hy)
                  have HLT4 := Lib.hid hlt
                  clear hy hc4 hb4 hlt
                  go_upto_region 11 with fail
                  obtain ⟨wB, hwB⟩ : ∃ wB, wr.alloc (.cells #[.int .i64 y.1, .string y.2] 79) = wB := ⟨_, rfl⟩
                  have HAB4 : Hid (Below wr.heap.size wr wB) := Lib.hid (by rw [← hwB]; exact (Below.refl _ _).alloc (Nat.le_refl _) _)
                  have HXB4 : Hid (Bx wB wr.heap.size #[.int .i64 y.1, .string y.2] 79) := Lib.hid (by rw [← hwB]; exact bx_alloc' _ _ _)
                  have HFk4 : Hid (Fk wb wr wB) := Lib.hid (Fk.of HAB4.out (Nat.le_of_lt HWBR2.out))
                  have HFA : Hid (Fk wb W0 wB) := Lib.hid (HFW2.out.trans HFk4.out)
                  have HWA : Hid (WR wB wb B V8 (((true && D.all (fun x => givOk P.ss x.2)) && (D.take k).all (fun x => impOk P.cs x.2)) && (xc.is.take m).all (fun y => (nmC P.cs y.1).isSome)) (((([[kStack, tnI P.st], [kTrusted, tnI P.tr]] ++ P.ss.map shaL) ++ D.flatMap (fun x => coLs P.ss x.2)) ++ (D.take k).flatMap (fun x => x.2.is.map (impL P.cs x.2.nm))) ++ (xc.is.take m).map (impL P.cs xc.nm))) := Lib.hid (HWR2.out.below HAB4.out)
                  rw [hwB]
                  clear hwB
                  have HS : Hid (∀ W, Fk wb wB W → W.cell? ⟨n10, 0, none⟩ = some (.string xc.nm) ∧ W.cell? ⟨w.heap.size, 3, none⟩ = some (.slice (some ⟨b, o, none⟩) D.length cc) ∧ W.cell? ⟨wr.heap.size, 0, none⟩ = some (.int .i64 y.1) ∧ W.cell? ⟨wr.heap.size, 1, none⟩ = some (.string y.2)) := Lib.hid (fun W hW => ⟨(HB10.out W ((HFK2.out.trans HFk4.out).trans hW)).cell 0, (HU.out W (HFA.out.trans hW)).1.cell 3, (hW.bx HXB4.out HWBR2.out (by decide)).cell 0, (hW.bx HXB4.out HWBR2.out (by decide)).cell 1⟩)
                  have HWL : Hid (wb < wB.heap.size) := Lib.hid HWA.out.1.lt
                  have HBA2 : Hid (B ≤ wB.heap.size) := Lib.hid (HU.out _ HFA.out).2.2.2
                  have HFd : Hid (Fk wb wB wB.drew) := Lib.hid (Fk.of (Below.refl _ _).drew (Nat.le_of_lt HWL.out))
                  have HWd : Hid (WR wB.drew wb B V8 (((true && D.all (fun x => givOk P.ss x.2)) && (D.take k).all (fun x => impOk P.cs x.2)) && (xc.is.take m).all (fun y => (nmC P.cs y.1).isSome)) (((([[kStack, tnI P.st], [kTrusted, tnI P.tr]] ++ P.ss.map shaL) ++ D.flatMap (fun x => coLs P.ss x.2)) ++ (D.take k).flatMap (fun x => x.2.is.map (impL P.cs x.2.nm))) ++ (xc.is.take m).map (impL P.cs xc.nm))) := Lib.hid (HWA.out.below (Below.refl _ _).drew)
                  have HI := Lib.hid (HS.out _ HFd.out)
                  have HCL : Hid (∀ W, Fk wb wB W → WR W wb B V8 (((true && D.all (fun x => givOk P.ss x.2)) && (D.take k).all (fun x => impOk P.cs x.2)) && (xc.is.take m).all (fun y => (nmC P.cs y.1).isSome)) (((([[kStack, tnI P.st], [kTrusted, tnI P.tr]] ++ P.ss.map shaL) ++ D.flatMap (fun x => coLs P.ss x.2)) ++ (D.take k).flatMap (fun x => x.2.is.map (impL P.cs x.2.nm))) ++ (xc.is.take m).map (impL P.cs xc.nm)) → Calls Tryz.prog 58 #[.pointer (some ⟨wb, 0, none⟩), .slice (some ⟨b, o, none⟩) D.length cc, .int .i64 y.1, .func (.func 59) #[] #[]] W fun e w' => e = .returned (.string ((nmC P.cs y.1).getD ⟨#[]⟩)) ∧ Fk wb wB w' ∧ WR w' wb B V8 ((((true && D.all (fun x => givOk P.ss x.2)) && (D.take k).all (fun x => impOk P.cs x.2)) && (xc.is.take m).all (fun y => (nmC P.cs y.1).isSome)) && (nmC P.cs y.1).isSome) (((([[kStack, tnI P.st], [kTrusted, tnI P.tr]] ++ P.ss.map shaL) ++ D.flatMap (fun x => coLs P.ss x.2)) ++ (D.take k).flatMap (fun x => x.2.is.map (impL P.cs x.2.nm))) ++ (xc.is.take m).map (impL P.cs xc.nm))) := Lib.hid (fun W hW hR => by
                    have h0 := n58 _ D y.1 W wb B V8 (((true && D.all (fun x => givOk P.ss x.2)) && (D.take k).all (fun x => impOk P.cs x.2)) && (xc.is.take m).all (fun y => (nmC P.cs y.1).isSome)) (((([[kStack, tnI P.st], [kTrusted, tnI P.tr]] ++ P.ss.map shaL) ++ D.flatMap (fun x => coLs P.ss x.2)) ++ (D.take k).flatMap (fun x => x.2.is.map (impL P.cs x.2.nm))) ++ (xc.is.take m).map (impL P.cs xc.nm)) hR (HPL.out W (HFA.out.trans hW)).2.1 (by have := HBP.out.2.1; have := HDL.out; omega)
                    rw [HD.out] at h0
                    refine h0.mono ?_
                    rintro e w' ⟨h1, h2, h3⟩
                    exact ⟨h1, hW.trans h3, h2⟩)
                  have HSAY : Hid (∀ W, Fk wb wB W → WR W wb B V8 ((((true && D.all (fun x => givOk P.ss x.2)) && (D.take k).all (fun x => impOk P.cs x.2)) && (xc.is.take m).all (fun y => (nmC P.cs y.1).isSome)) && (nmC P.cs y.1).isSome) (((([[kStack, tnI P.st], [kTrusted, tnI P.tr]] ++ P.ss.map shaL) ++ D.flatMap (fun x => coLs P.ss x.2)) ++ (D.take k).flatMap (fun x => x.2.is.map (impL P.cs x.2.nm))) ++ (xc.is.take m).map (impL P.cs xc.nm)) → Calls Tryz.prog 55 #[.pointer (some ⟨wb, 0, none⟩), .slice (some ⟨W.heap.size, 0, none⟩) 4 4] (W.alloc (.cells #[.string ⟨#[105, 109, 112, 111, 114, 116]⟩, .string xc.nm, .string ((nmC P.cs y.1).getD ⟨#[]⟩), .string y.2] 9)) fun e w' => e = .returned (.tuple #[]) ∧ (∃ V', WR w' wb B V' ((((true && D.all (fun x => givOk P.ss x.2)) && (D.take k).all (fun x => impOk P.cs x.2)) && (xc.is.take m).all (fun y => (nmC P.cs y.1).isSome)) && (nmC P.cs y.1).isSome) ((((([[kStack, tnI P.st], [kTrusted, tnI P.tr]] ++ P.ss.map shaL) ++ D.flatMap (fun x => coLs P.ss x.2)) ++ (D.take k).flatMap (fun x => x.2.is.map (impL P.cs x.2.nm))) ++ (xc.is.take m).map (impL P.cs xc.nm)) ++ [impL P.cs xc.nm y])) ∧ Fk wb wB w') := Lib.hid (fun W hW hR => by
                    refine (say_at (impL P.cs xc.nm y) W wb B V8 ((((true && D.all (fun x => givOk P.ss x.2)) && (D.take k).all (fun x => impOk P.cs x.2)) && (xc.is.take m).all (fun y => (nmC P.cs y.1).isSome)) && (nmC P.cs y.1).isSome) (((([[kStack, tnI P.st], [kTrusted, tnI P.tr]] ++ P.ss.map shaL) ++ D.flatMap (fun x => coLs P.ss x.2)) ++ (D.take k).flatMap (fun x => x.2.is.map (impL P.cs x.2.nm))) ++ (xc.is.take m).map (impL P.cs xc.nm)) hR (Nat.le_trans HBA2.out hW.1.size) HLL.out (show (4 : Nat) ≤ 1000 from by decide)).mono ?_
                    rintro e w' ⟨h1, h2, h3⟩
                    exact ⟨h1, h2, hW.trans h3⟩)
                  go_region_held3 (fun W => W.cell? ⟨n10, 0, none⟩ = some (.string xc.nm) ∧ W.cell? ⟨w.heap.size, 3, none⟩ = some (.slice (some ⟨b, o, none⟩) D.length cc) ∧ W.cell? ⟨wr.heap.size, 0, none⟩ = some (.int .i64 y.1) ∧ W.cell? ⟨wr.heap.size, 1, none⟩ = some (.string y.2))
                    (first | assumption | exact HI.out | (with_reducible exact HS.out _ (by assumption)) | (exact HS.out _ (Fk.alloc hq6 ⟨_, _, _, _, hr6⟩ _)))
                    (first
                      | (go_at_call 58; (with_reducible refine (HCL.out _ HFd.out HWd.out).mono ?_); rintro _ w6 ⟨rfl, hq6, hr6⟩)
                      | (go_at_call 55; (with_reducible refine (HSAY.out _ hq6 hr6).mono ?_); rintro _ wz ⟨rfl, hwz, hfz⟩))
                  all_goals
                    have HFZ : Hid (Fk wb wA wz) := Lib.hid ((HFK2.out.trans HFk4.out).trans hfz)
                    have HWZ := Lib.hid hwz
                    clear hwz hfz HSAY HCL q0 q1
                    go_wp2_with fail
                    go_roundw
                    case rel => exact ⟨m + 1, HLT4.out, by go_num, HFZ.out, by
                      obtain ⟨V', hv⟩ := HWZ.out
                      refine ⟨V', ?_⟩
                      show WR _ wb B V' (((true && D.all (fun x => givOk P.ss x.2)) && (D.take k).all (fun x => impOk P.cs x.2)) && (xc.is.take (m + 1)).all (fun y => (nmC P.cs y.1).isSome)) (((([[kStack, tnI P.st], [kTrusted, tnI P.tr]] ++ P.ss.map shaL) ++ D.flatMap (fun x => coLs P.ss x.2)) ++ (D.take k).flatMap (fun x => x.2.is.map (impL P.cs x.2.nm))) ++ (xc.is.take (m + 1)).map (impL P.cs xc.nm))
                      rw [HLS4.out, HOS4.out]
                      exact hv⟩
                    case measure => simp [intOf]; have := HLT4.out; omega
                · obtain rfl : m = xc.is.length := by omega
                  have HRC : Hid (WR wr wb B V8 (((true && D.all (fun x => givOk P.ss x.2)) && (D.take k).all (fun x => impOk P.cs x.2)) && impOk P.cs xc) (((([[kStack, tnI P.st], [kTrusted, tnI P.tr]] ++ P.ss.map shaL) ++ D.flatMap (fun x => coLs P.ss x.2)) ++ (D.take k).flatMap (fun x => x.2.is.map (impL P.cs x.2.nm))) ++ xc.is.map (impL P.cs xc.nm))) := Lib.hid (by have := HWR2.out; rw [List.take_length] at this; exact this)
                  clear hm hlt HWR2
                  go_wp2_with fail
                  go_roundw
                  case rel => exact ⟨k + 1, HLT.out, by go_num, HFW2.out, V8, by
                    show WR _ wb B V8 ((true && D.all (fun x => givOk P.ss x.2)) && (D.take (k + 1)).all (fun x => impOk P.cs x.2)) ((([[kStack, tnI P.st], [kTrusted, tnI P.tr]] ++ P.ss.map shaL) ++ D.flatMap (fun x => coLs P.ss x.2)) ++ (D.take (k + 1)).flatMap (fun x => x.2.is.map (impL P.cs x.2.nm)))
                    rw [HLS.out, HOS.out]
                    exact HRC.out⟩
                  case measure => simp [intOf]; have := HLT.out; omega
            · obtain rfl : k = D.length := by omega
              have HRD : Hid (WR wr wb B V7 ((true && D.all (fun x => givOk P.ss x.2)) && D.all (fun x => impOk P.cs x.2)) ((([[kStack, tnI P.st], [kTrusted, tnI P.tr]] ++ P.ss.map shaL) ++ D.flatMap (fun x => coLs P.ss x.2)) ++ D.flatMap (fun x => x.2.is.map (impL P.cs x.2.nm)))) := Lib.hid (by have := HWR.out; rw [List.take_length] at this; exact this)
              have HFD := Lib.hid HFK.out
              have HWA : Hid (WR wr wb B V7 ((true && D.all (fun x => givOk P.ss x.2)) && D.all (fun x => impOk P.cs x.2)) ((([[kStack, tnI P.st], [kTrusted, tnI P.tr]] ++ P.ss.map shaL) ++ D.flatMap (fun x => coLs P.ss x.2)) ++ D.flatMap (fun x => x.2.is.map (impL P.cs x.2.nm)))) := HRD
              have HFA := HFD
              have HLL : Hid (((([[kStack, tnI P.st], [kTrusted, tnI P.tr]] ++ P.ss.map shaL) ++ D.flatMap (fun x => coLs P.ss x.2)) ++ D.flatMap (fun x => x.2.is.map (impL P.cs x.2.nm))).length ≤ 1073741824) := Lib.hid (by simp only [List.length_append, List.length_map, List.length_cons, List.length_nil]; have := HN0.out; omega)
              clear hk hlt HFK HWR
              go_upto_region 9 with fail
              have HS : Hid (∀ W, Fk wb wr W → W.cell? ⟨w.heap.size, 3, none⟩ = some (.slice AC D.length cc) ∧ W.cell? ⟨w.heap.size, 4, none⟩ = some (.int .i64 P.s0) ∧ W.cell? ⟨w.heap.size, 5, none⟩ = some (.string P.mn)) := Lib.hid (fun W hW => ⟨(HU.out W (HFA.out.trans hW)).1.cell 3, (HU.out W (HFA.out.trans hW)).1.cell 4, (HU.out W (HFA.out.trans hW)).1.cell 5⟩)
              have HWL : Hid (wb < wr.heap.size) := Lib.hid HWA.out.1.lt
              have HBA2 : Hid (B ≤ wr.heap.size) := Lib.hid (HU.out _ HFA.out).2.2.2
              have HFd : Hid (Fk wb wr wr.drew) := Lib.hid (Fk.of (Below.refl _ _).drew (Nat.le_of_lt HWL.out))
              have HWd : Hid (WR wr.drew wb B V7 ((true && D.all (fun x => givOk P.ss x.2)) && D.all (fun x => impOk P.cs x.2)) ((([[kStack, tnI P.st], [kTrusted, tnI P.tr]] ++ P.ss.map shaL) ++ D.flatMap (fun x => coLs P.ss x.2)) ++ D.flatMap (fun x => x.2.is.map (impL P.cs x.2.nm)))) := Lib.hid (HWA.out.below (Below.refl _ _).drew)
              have HI := Lib.hid (HS.out _ HFd.out)
              have HCL : Hid (∀ W, Fk wb wr W → WR W wb B V7 ((true && D.all (fun x => givOk P.ss x.2)) && D.all (fun x => impOk P.cs x.2)) ((([[kStack, tnI P.st], [kTrusted, tnI P.tr]] ++ P.ss.map shaL) ++ D.flatMap (fun x => coLs P.ss x.2)) ++ D.flatMap (fun x => x.2.is.map (impL P.cs x.2.nm))) → Calls Tryz.prog 58 #[.pointer (some ⟨wb, 0, none⟩), .slice AC D.length cc, .int .i64 P.s0, .func (.func 59) #[] #[]] W fun e w' => e = .returned (.string ((nmC P.cs P.s0).getD ⟨#[]⟩)) ∧ Fk wb wr w' ∧ WR w' wb B V7 (((true && D.all (fun x => givOk P.ss x.2)) && D.all (fun x => impOk P.cs x.2)) && (nmC P.cs P.s0).isSome) ((([[kStack, tnI P.st], [kTrusted, tnI P.tr]] ++ P.ss.map shaL) ++ D.flatMap (fun x => coLs P.ss x.2)) ++ D.flatMap (fun x => x.2.is.map (impL P.cs x.2.nm)))) := Lib.hid (fun W hW hR => by
                have h0 := n58 _ D P.s0 W wb B V7 ((true && D.all (fun x => givOk P.ss x.2)) && D.all (fun x => impOk P.cs x.2)) ((([[kStack, tnI P.st], [kTrusted, tnI P.tr]] ++ P.ss.map shaL) ++ D.flatMap (fun x => coLs P.ss x.2)) ++ D.flatMap (fun x => x.2.is.map (impL P.cs x.2.nm))) hR (HPL.out W (HFA.out.trans hW)).2.1 (by have := HBP.out.2.1; have := HDL.out; omega)
                rw [HD.out] at h0
                refine h0.mono ?_
                rintro e w' ⟨h1, h2, h3⟩
                exact ⟨h1, hW.trans h3, h2⟩)
              have HSAY : Hid (∀ W, Fk wb wr W → WR W wb B V7 (((true && D.all (fun x => givOk P.ss x.2)) && D.all (fun x => impOk P.cs x.2)) && (nmC P.cs P.s0).isSome) ((([[kStack, tnI P.st], [kTrusted, tnI P.tr]] ++ P.ss.map shaL) ++ D.flatMap (fun x => coLs P.ss x.2)) ++ D.flatMap (fun x => x.2.is.map (impL P.cs x.2.nm))) → Calls Tryz.prog 55 #[.pointer (some ⟨wb, 0, none⟩), .slice (some ⟨W.heap.size, 0, none⟩) 3 3] (W.alloc (.cells #[.string ⟨#[115, 116, 97, 114, 116]⟩, .string ((nmC P.cs P.s0).getD ⟨#[]⟩), .string P.mn] 9)) fun e w' => e = .returned (.tuple #[]) ∧ (∃ V', WR w' wb B V' (((true && D.all (fun x => givOk P.ss x.2)) && D.all (fun x => impOk P.cs x.2)) && (nmC P.cs P.s0).isSome) (((([[kStack, tnI P.st], [kTrusted, tnI P.tr]] ++ P.ss.map shaL) ++ D.flatMap (fun x => coLs P.ss x.2)) ++ D.flatMap (fun x => x.2.is.map (impL P.cs x.2.nm))) ++ [[kStart, (nmC P.cs P.s0).getD ⟨#[]⟩, P.mn]])) ∧ Fk wb wr w') := Lib.hid (fun W hW hR => by
                refine (say_at ([kStart, (nmC P.cs P.s0).getD ⟨#[]⟩, P.mn]) W wb B V7 (((true && D.all (fun x => givOk P.ss x.2)) && D.all (fun x => impOk P.cs x.2)) && (nmC P.cs P.s0).isSome) ((([[kStack, tnI P.st], [kTrusted, tnI P.tr]] ++ P.ss.map shaL) ++ D.flatMap (fun x => coLs P.ss x.2)) ++ D.flatMap (fun x => x.2.is.map (impL P.cs x.2.nm))) hR (Nat.le_trans HBA2.out hW.1.size) HLL.out (show (3 : Nat) ≤ 1000 from by decide)).mono ?_
                rintro e w' ⟨h1, h2, h3⟩
                exact ⟨h1, h2, hW.trans h3⟩)
              go_region_held3 (fun W => W.cell? ⟨w.heap.size, 3, none⟩ = some (.slice AC D.length cc) ∧ W.cell? ⟨w.heap.size, 4, none⟩ = some (.int .i64 P.s0) ∧ W.cell? ⟨w.heap.size, 5, none⟩ = some (.string P.mn))
                (first | assumption | exact HI.out | (with_reducible exact HS.out _ (by assumption)) | (exact HS.out _ (Fk.alloc hq6 ⟨_, _, _, _, hr6⟩ _)))
                (first
                  | (go_at_call 58; (with_reducible refine (HCL.out _ HFd.out HWd.out).mono ?_); rintro _ w6 ⟨rfl, hq6, hr6⟩)
                  | (go_at_call 55; (with_reducible refine (HSAY.out _ hq6 hr6).mono ?_); rintro _ wz ⟨rfl, hwz, hfz⟩))
              all_goals
                have HFZ : Hid (Fk wb W0 wz) := Lib.hid (HFA.out.trans hfz)
                have HWZ : Hid (∃ V', WR wz wb B V' (okT P) (txt P)) := Lib.hid (by rw [HOT.out, HTX.out]; exact hwz)
                clear hwz hfz HSAY HCL
                obtain ⟨V9, h9⟩ := HWZ.out
                have H9 := Lib.hid h9
                have v0 := h9.1.cell 0
                have v1 := h9.1.cell 1
                simp at v0 v1
                clear h9
                obtain ⟨z, hz⟩ : ∃ z, okT P = z := ⟨_, rfl⟩
                have HZ := Lib.hid hz
                rw [hz] at v1
                clear hz
                have HWZB := Lib.hid (HU.out _ HFZ.out).2.1
                cases z
                · go_wp2_with fail
                  go_ret2
                  exact ⟨by rw [outT_no HZ.out]; rfl, HWZB.out⟩
                · have HP := Lib.hid (HPUT.out wz V9 B HWZB.out H9.out.2.1)
                  obtain ⟨A9, c9, h9, -⟩ : ∃ A9 c9, V9 = .slice A9 (txt P).length c9 ∧ True := by
                    obtain ⟨D9, d1, d2, d3⟩ := H9.out.2.1
                    obtain ⟨A9, c9, e9, _⟩ := own_slice d2
                    refine ⟨A9, c9, ?_, trivial⟩
                    have := congrArg List.length d1
                    simp at this
                    rw [← this]; exact e9
                  subst h9
                  go_wp2_with fail
                  with_reducible refine HP.out.mono ?_
                  rintro _ wq ⟨rfl, hbq⟩
                  have HBQ := Lib.hid (HWZB.out.trans (hbq.mono HWZB.out.size))
                  clear hbq
                  go_wp2_with fail
                  go_ret2
                  exact ⟨by rw [outT_yes HZ.out]; rfl, HBQ.out⟩
end Go.Proofs.YtapdiionikfgpaaGreatDoor
