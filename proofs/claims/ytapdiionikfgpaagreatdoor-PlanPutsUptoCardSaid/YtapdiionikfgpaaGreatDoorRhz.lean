import Derived.Test.YtapdiionikfgpaaGreatDoorGh
import Derived.WalkSmall
import Derived.Deep.RegionHeld3
import Derived.Deep.Cut
import Derived.Deep.CutRange
namespace Go.Proofs.YtapdiionikfgpaaGreatDoor
open Go.ChangeShapes Go.WideShapes Go.ChangeAt Go.RowKit
set_option linter.unusedVariables false
set_option linter.unusedSimpArgs false
theorem Fk.alloc {wb : Nat} {a b : World} (h : Fk wb a b) (hr : ∃ B V ok LS, WR b wb B V ok LS) (o : Obj) : Fk wb a (b.alloc o) := h.trans (Fk.of ((Below.refl _ _).alloc (Nat.le_refl _) _) (by obtain ⟨B, V, ok, LS, hr⟩ := hr; exact Nat.le_of_lt hr.1.lt))
def fileL (nm : ByteArray) (x : ByteArray × Bool) : List ByteArray := [if x.2 = true then kArchive else kObject, nm, x.1]
def expL (nm : ByteArray) (x : ByteArray × Int × Int) : List ByteArray := [kExport, nm, x.1, tnI x.2.1, tnI x.2.2]
def devL (nm : ByteArray) (x : ByteArray × Int × Int) : List ByteArray := [kDevice, nm, x.1, tnI x.2.1, tnI x.2.2]
def givL (ss : List (ByteArray × Int)) (nm : ByteArray) (x : Int × Bool) : List ByteArray := [kGive, nm, (nmS ss x.1).getD ⟨#[]⟩, if x.2 = true then kRw else kR]
/-- a compartment's lines -/
def coLs (ss : List (ByteArray × Int)) (c : CoI) : List (List ByteArray) := [kComp, c.nm] :: (c.fs.map (fileL c.nm) ++ c.es.map (expL c.nm) ++ c.ds.map (devL c.nm) ++ c.gs.map (givL ss c.nm))
def givOk (ss : List (ByteArray × Int)) (c : CoI) : Bool := c.gs.all (fun x => (nmS ss x.1).isSome)
theorem own_words (w : World) (B : Nat) (ws : List ByteArray) (hB : B ≤ w.heap.size) (hl : ws.length ≤ 1000) : (w.alloc (.cells (ws.map Value.string).toArray 9)).ownsRow B 9 1 (.slice (some ⟨w.heap.size, 0, none⟩) ws.length ws.length) ws.length (ws.map .string) :=
  ⟨by simp, Or.inr ⟨w.heap.size, ws.length, _, rfl, hB, heap_alloc_new w _, Nat.le_refl _, by unfold maxLen; omega, by simp, by rw [List.take_of_length_le (by simp)]⟩⟩
/-- say, of words that were just laid -/
theorem say_at (ws : List ByteArray) (w : World) (wb B : Nat) (V : Value) (ok : Bool) (LS : List (List ByteArray)) (h : WR w wb B V ok LS) (hB : B ≤ w.heap.size) (hl : LS.length ≤ 1073741824) (h5 : ws.length ≤ 1000) :
    Calls Tryz.prog 55 #[.pointer (some ⟨wb, 0, none⟩), .slice (some ⟨w.heap.size, 0, none⟩) ws.length ws.length] (w.alloc (.cells (ws.map Value.string).toArray 9)) fun e w' => e = .returned (.tuple #[]) ∧ (∃ V', WR w' wb B V' ok (LS ++ [ws])) ∧ Fk wb w w' := by
  have hb : Below w.heap.size w (w.alloc (.cells (ws.map Value.string).toArray 9)) := (Below.refl _ _).alloc (Nat.le_refl _) _
  refine (n55 ws _ _ _ wb B V ok LS (h.below hb) (Nat.le_trans hB hb.size) (own_words w B ws hB h5) hl).mono ?_
  rintro e w' ⟨h1, h2, h3⟩
  exact ⟨h1, h2, (Fk.of hb (Nat.le_of_lt h.1.lt)).trans h3⟩
/-- how far a list's lines are said -/
def RG (wb B : Nat) (W0 : World) (n : Nat) (okf : Nat → Bool) (lsf : Nat → List (List ByteArray)) (i : Value) (wr : World) : Prop := ∃ k : Nat, k ≤ n ∧ i = .int .i64 (k : Int) ∧ Fk wb W0 wr ∧ ∃ V, WR wr wb B V (okf k) (lsf k)
theorem ls_step {α : Type} {L : List α} {k : Nat} {x : α} (f : α → List ByteArray) (LS : List (List ByteArray)) (hx : L[k]? = some x) : LS ++ (L.take (k + 1)).map f = (LS ++ (L.take k).map f) ++ [f x] := by
  rw [List.take_add_one, hx]
  simp
theorem ok_step {α : Type} {L : List α} {k : Nat} {x : α} (f : α → Bool) (ok : Bool) (hx : L[k]? = some x) : (ok && (L.take (k + 1)).all f) = ((ok && (L.take k).all f) && f x) := by
  rw [List.take_add_one, hx]
  simp [Bool.and_assoc]
theorem ls_len {α : Type} (L : List α) (k : Nat) (f : α → List ByteArray) (LS : List (List ByteArray)) : (LS ++ (L.take k).map f).length ≤ LS.length + L.length := by
  simp; omega
set_option maxRecDepth 100000 in
set_option maxHeartbeats 16000000 in
/-- compartment -/
theorem n57 (st tr s0 : Int) (mn : ByteArray) (SV CV : Value) (ss : List (ByteArray × Int)) (x0 : Sv × CoI) (w : World) (wb B : Nat) (V : Value) (ok : Bool) (LS : List (List ByteArray)) (h : WR w wb B V ok LS) (hB : B ≤ w.heap.size) (hG : ∀ W, Below wb w W → Gt W)
    (hSV : ∀ W, Below wb w W → Ly W SV 2 iSs ss) (hCV : IsS CV) (hC : ∀ W, Below wb w W → CoL W x0) (hss : ss.length ≤ 1048576) (hbd : BdC x0.2) (hN : LS.length + (coLs ss x0.2).length ≤ 1073741824)
    (hre : ∀ y ∈ x0.2.es, InI y.2.1 ∧ InI y.2.2) (hrd : ∀ y ∈ x0.2.ds, (0 ≤ y.2.1 ∧ y.2.1 ≤ 4294967295) ∧ 0 ≤ y.2.2 ∧ y.2.2 ≤ 4294967295) :
    Calls Tryz.prog 57 #[.pointer (some ⟨wb, 0, none⟩), .agg #[.int .i64 st, .int .i64 tr, SV, CV, .int .i64 s0, .string mn], .agg #[.string x0.2.nm, x0.1.f, x0.1.e, x0.1.i, x0.1.d, x0.1.g]] w fun e w' => e = .returned (.tuple #[]) ∧ (∃ V', WR w' wb B V' (ok && givOk ss x0.2) (LS ++ coLs ss x0.2)) ∧ Fk wb w w' := by
  have HN : Hid (LS.length + (1 + x0.2.fs.length + x0.2.es.length + x0.2.ds.length + x0.2.gs.length) ≤ 1073741824) := Lib.hid (by unfold coLs at hN; simp at hN; omega)
  have HBD := Lib.hid hbd
  have HRE := Lib.hid hre
  have HRD := Lib.hid hrd
  have HSS := Lib.hid hss
  have HBB := Lib.hid hB
  have HWB : Hid (wb < w.heap.size) := Lib.hid h.1.lt
  have HGT := Lib.hid hG
  obtain ⟨AS, cs, hsv, -⟩ := hSV w (Below.refl _ _)
  subst hsv
  obtain ⟨AC, nc, cc, rfl⟩ := hCV
  have HSV := Lib.hid hSV
  have c0 := hC w (Below.refl _ _)
  obtain ⟨⟨xf, xe, xi, xd, xg⟩, c⟩ := x0
  obtain ⟨A1, c1, g1, -⟩ := c0.1
  obtain ⟨A2, c2, g2, -⟩ := c0.2.1
  obtain ⟨A3, c3, g3, -⟩ := c0.2.2.1
  obtain ⟨A4, c4, g4, -⟩ := c0.2.2.2.1
  obtain ⟨A5, c5, g5, -⟩ := c0.2.2.2.2
  clear c0
  simp only at g1 g2 g3 g4 g5 hC HN HBD HRE HRD
  subst g1 g2 g3 g4 g5
  have HC := Lib.hid hC
  obtain ⟨W0, hW0⟩ : ∃ W0, (w.alloc (.cells #[.int .i64 st, .int .i64 tr, .slice AS ss.length cs, .slice AC nc cc, .int .i64 s0, .string mn] 25)).alloc (.cells #[.string c.nm, .slice A1 c.fs.length c1, .slice A2 c.es.length c2, .slice A3 c.is.length c3, .slice A4 c.ds.length c4, .slice A5 c.gs.length c5] 48) = W0 := ⟨_, rfl⟩
  have HBA : Hid (Below w.heap.size w W0) := Lib.hid (by rw [← hW0]; exact ((Below.refl _ _).alloc (Nat.le_refl _) _).alloc (by simp) _)
  have HPB : Hid (Bx W0 w.heap.size #[.int .i64 st, .int .i64 tr, .slice AS ss.length cs, .slice AC nc cc, .int .i64 s0, .string mn] 25) := Lib.hid (by rw [← hW0]; exact (bx_alloc' w _ _).below ((Below.refl _ _).alloc (Nat.le_refl _) _))
  have HCB : Hid (Bx W0 (w.heap.size + 1) #[.string c.nm, .slice A1 c.fs.length c1, .slice A2 c.es.length c2, .slice A3 c.is.length c3, .slice A4 c.ds.length c4, .slice A5 c.gs.length c5] 48) := Lib.hid (by
    rw [← hW0]
    have := bx_alloc' (w.alloc (.cells #[.int .i64 st, .int .i64 tr, .slice AS ss.length cs, .slice AC nc cc, .int .i64 s0, .string mn] 25)) #[.string c.nm, .slice A1 c.fs.length c1, .slice A2 c.es.length c2, .slice A3 c.is.length c3, .slice A4 c.ds.length c4, .slice A5 c.gs.length c5] 48
    rw [show (w.alloc (.cells #[.int .i64 st, .int .i64 tr, .slice AS ss.length cs, .slice AC nc cc, .int .i64 s0, .string mn] 25)).heap.size = w.heap.size + 1 from by simp] at this
    exact this)
  have HFW : Hid (Fk wb w W0) := Lib.hid (Fk.of HBA.out (Nat.le_of_lt HWB.out))
  have HW00 : Hid (WR W0 wb B V ok LS) := Lib.hid (h.below HBA.out)
  have HB0 : Hid (B ≤ W0.heap.size) := Lib.hid (Nat.le_trans hB HBA.out.size)
  have HSZ : Hid (w.heap.size + 1 < W0.heap.size) := Lib.hid HCB.out.lt
  have HU : Hid (∀ W, Fk wb W0 W → Bx W w.heap.size #[.int .i64 st, .int .i64 tr, .slice AS ss.length cs, .slice AC nc cc, .int .i64 s0, .string mn] 25 ∧ Bx W (w.heap.size + 1) #[.string c.nm, .slice A1 c.fs.length c1, .slice A2 c.es.length c2, .slice A3 c.is.length c3, .slice A4 c.ds.length c4, .slice A5 c.gs.length c5] 48 ∧ Below wb w W ∧ B ≤ W.heap.size ∧ wb < W.heap.size ∧ w.heap.size + 1 < W.heap.size) := Lib.hid (fun W hW => ⟨hW.bx HPB.out HWB.out (by decide), hW.bx HCB.out (by have := HWB.out; omega) (by decide), HFW.out.1.trans hW.1, Nat.le_trans HB0.out hW.1.size, by have := HWB.out; have := hW.1.size; have := HSZ.out; omega, Nat.lt_of_lt_of_le HSZ.out hW.1.size⟩)
  have HF0 : Hid (Fk wb W0 W0) := Lib.hid (Fk.refl _ _)
  have y0 := HPB.out.cell 2
  have x0 := HCB.out.cell 0
  simp at y0 x0
  have HSAY := Lib.hid (say_at [kComp, c.nm] W0 wb B V ok LS HW00.out HB0.out (by have := HN.out; omega) (by simp))
  clear h hB hG hSV hC hss hbd hN hre hrd
  go_enter Tryz.func57, Tryz.ntmps57
  go_wp2_with fail
  refine HSAY.out.mono ?_
  rintro _ w1 ⟨rfl, ⟨V1, hwr1⟩, hfk1⟩
  have HWR1 : Hid (WR w1 wb B V1 (ok && ([] : List (Int × Bool)).all (fun x => (nmS ss x.1).isSome)) (LS ++ [[kComp, c.nm]])) := Lib.hid (by simpa using hwr1)
  have HFK1 := Lib.hid hfk1
  obtain ⟨hp, hc, -⟩ := HU.out w1 hfk1
  have x1 := hc.cell 1
  simp at x1
  clear hwr1 hfk1 hp hc HSAY y0 x0
  go_wp2_with fail
  go_loopw [7, 8, 24] (fun _ _ i wr => RG wb B W0 c.fs.length (fun _ => ok && ([] : List (Int × Bool)).all (fun x => (nmS ss x.1).isSome)) (fun k => (LS ++ [[kComp, c.nm]]) ++ (c.fs.take k).map (fileL c.nm)) i wr) (fun _ _ i _ => c.fs.length - (intOf i).toNat)
  case atStart => exact ⟨0, Nat.zero_le _, rfl, HFK1.out, V1, by simpa using HWR1.out⟩
  case round =>
    obtain ⟨k, hk, rfl, hfk, V2, hwr⟩ := hrel
    have HFK := Lib.hid hfk
    have HWR := Lib.hid hwr
    obtain ⟨hp, hc, hbw, hbr, hwbr, hszr⟩ := HU.out wr hfk
    have HBW := Lib.hid hbw
    have HBR := Lib.hid hbr
    have HWBR := Lib.hid hwbr
    have HSZR := Lib.hid hszr
    have HCB2 := Lib.hid hc
    have HPB2 := Lib.hid hp
    clear hfk hwr hp hc hbw hbr hwbr hszr
    by_cases hlt : k < c.fs.length
    · obtain ⟨x, hx⟩ : ∃ x, c.fs[k]? = some x := ⟨_, List.getElem?_eq_getElem hlt⟩
      obtain ⟨b, o, he, hb, hcc⟩ := ((HC.out wr HBW.out).1.at').2 (show 0 < c.fs.length by omega)
      subst he
      have q0 : wr.cell? ⟨b, o + k * 2, none⟩ = some (.string x.1) := hcc k x hx 0 _ rfl
      have q1 : wr.cell? ⟨b, o + k * 2 + 1, none⟩ = some (.bool x.2) := hcc k x hx 1 _ rfl
      have hkn : (k : Int) < (c.fs.length : Int) := by omega
      have hk20 : c.fs.length ≤ 1048576 := HBD.out.1
      have hkb : k ≤ 1048576 := by omega
      have hkw : IntKind.i64.wrap (k : Int) = (k : Int) := by rw [IntKind.wrap_i64]; omega
      have HLL : Hid (((LS ++ [[kComp, c.nm]]) ++ (c.fs.take k).map (fileL c.nm)).length ≤ 1073741824) := Lib.hid (by simp; have := HN.out; omega)
      have HLS : Hid ((LS ++ [[kComp, c.nm]]) ++ (c.fs.take (k + 1)).map (fileL c.nm) = ((LS ++ [[kComp, c.nm]]) ++ (c.fs.take k).map (fileL c.nm)) ++ [fileL c.nm x]) := Lib.hid (ls_step (fileL c.nm) (LS ++ [[kComp, c.nm]]) hx)
      have HLT := Lib.hid hlt
      have HAB : Hid (Below wr.heap.size wr (wr.alloc (.cells #[.string x.1, .bool x.2] 88))) := Lib.hid ((Below.refl _ _).alloc (Nat.le_refl _) _)
      have HFA : Hid (Fk wb W0 (wr.alloc (.cells #[.string x.1, .bool x.2] 88))) := Lib.hid (HFK.out.trans (Fk.of HAB.out (Nat.le_of_lt HWBR.out)))
      have HWA : Hid (WR (wr.alloc (.cells #[.string x.1, .bool x.2] 88)) wb B V2 (ok && ([] : List (Int × Bool)).all (fun x => (nmS ss x.1).isSome)) ((LS ++ [[kComp, c.nm]]) ++ (c.fs.take k).map (fileL c.nm))) := Lib.hid (HWR.out.below HAB.out)
      have HXB := Lib.hid (bx_alloc' wr #[.string x.1, .bool x.2] 88)
      have HBA2 : Hid (B ≤ (wr.alloc (.cells #[.string x.1, .bool x.2] 88)).heap.size) := Lib.hid (Nat.le_trans HBR.out HAB.out.size)
      have HCA := Lib.hid (HCB2.out.below HAB.out)
      have HPA := Lib.hid (HPB2.out.below HAB.out)
      have s0 := HCA.out.cell 0
      simp at s0
      have t0 := HXB.out.cell 0
      have t1 := HXB.out.cell 1
      simp at t0 t1
      clear hx hcc hb hlt
      obtain ⟨x1, xb⟩ := x
      cases xb
      · have HSAY : Hid (Calls Tryz.prog 55 #[.pointer (some ⟨wb, 0, none⟩), .slice (some ⟨wr.heap.size + 1, 0, none⟩) 3 3] ((wr.alloc (.cells #[.string x1, .bool false] 88)).alloc (.cells #[.string ⟨#[111, 98, 106, 101, 99, 116]⟩, .string c.nm, .string x1] 9)) fun e w' => e = .returned (.tuple #[]) ∧ (∃ V', WR w' wb B V' (ok && ([] : List (Int × Bool)).all (fun x => (nmS ss x.1).isSome)) (((LS ++ [[kComp, c.nm]]) ++ (c.fs.take k).map (fileL c.nm)) ++ [[kObject, c.nm, x1]])) ∧ Fk wb (wr.alloc (.cells #[.string x1, .bool false] 88)) w') := Lib.hid (by
          have := say_at [kObject, c.nm, x1] (wr.alloc (.cells #[.string x1, .bool false] 88)) wb B V2 (ok && ([] : List (Int × Bool)).all (fun x => (nmS ss x.1).isSome)) ((LS ++ [[kComp, c.nm]]) ++ (c.fs.take k).map (fileL c.nm)) HWA.out HBA2.out HLL.out (by simp)
          rw [show (wr.alloc (.cells #[.string x1, .bool false] 88)).heap.size = wr.heap.size + 1 from by simp] at this
          exact this)
        have HLX : Hid (fileL c.nm (x1, false) = [kObject, c.nm, x1]) := Lib.hid (by unfold fileL; simp)
        simp only at q0 q1 t0 t1
        go_wp2_with fail
        refine HSAY.out.mono ?_
        rintro _ wz ⟨rfl, hwz, hfz⟩
        have HFZ : Hid (Fk wb W0 wz) := Lib.hid (HFA.out.trans hfz)
        have HWZ : Hid (∃ V', WR wz wb B V' (ok && ([] : List (Int × Bool)).all (fun x => (nmS ss x.1).isSome)) (((LS ++ [[kComp, c.nm]]) ++ (c.fs.take k).map (fileL c.nm)) ++ [fileL c.nm (x1, false)])) := Lib.hid (by rw [HLX.out]; exact hwz)
        clear hwz hfz HSAY q0 q1 t0 t1 s0
        go_wp2_with fail
        go_roundw
        case rel => exact ⟨k + 1, HLT.out, by go_num, HFZ.out, by
          obtain ⟨V', hv⟩ := HWZ.out
          refine ⟨V', ?_⟩
          show WR _ wb B V' (ok && ([] : List (Int × Bool)).all (fun x => (nmS ss x.1).isSome)) ((LS ++ [[kComp, c.nm]]) ++ (c.fs.take (k + 1)).map (fileL c.nm))
          rw [HLS.out]
          exact hv⟩
        case measure => simp [intOf]; have := HLT.out; omega
      · have HSAY : Hid (Calls Tryz.prog 55 #[.pointer (some ⟨wb, 0, none⟩), .slice (some ⟨wr.heap.size + 1, 0, none⟩) 3 3] ((wr.alloc (.cells #[.string x1, .bool true] 88)).alloc (.cells #[.string ⟨#[97, 114, 99, 104, 105, 118, 101]⟩, .string c.nm, .string x1] 9)) fun e w' => e = .returned (.tuple #[]) ∧ (∃ V', WR w' wb B V' (ok && ([] : List (Int × Bool)).all (fun x => (nmS ss x.1).isSome)) (((LS ++ [[kComp, c.nm]]) ++ (c.fs.take k).map (fileL c.nm)) ++ [[kArchive, c.nm, x1]])) ∧ Fk wb (wr.alloc (.cells #[.string x1, .bool true] 88)) w') := Lib.hid (by
          have := say_at [kArchive, c.nm, x1] (wr.alloc (.cells #[.string x1, .bool true] 88)) wb B V2 (ok && ([] : List (Int × Bool)).all (fun x => (nmS ss x.1).isSome)) ((LS ++ [[kComp, c.nm]]) ++ (c.fs.take k).map (fileL c.nm)) HWA.out HBA2.out HLL.out (by simp)
          rw [show (wr.alloc (.cells #[.string x1, .bool true] 88)).heap.size = wr.heap.size + 1 from by simp] at this
          exact this)
        have HLX : Hid (fileL c.nm (x1, true) = [kArchive, c.nm, x1]) := Lib.hid (by unfold fileL; simp)
        simp only at q0 q1 t0 t1
        go_wp2_with fail
        refine HSAY.out.mono ?_
        rintro _ wz ⟨rfl, hwz, hfz⟩
        have HFZ : Hid (Fk wb W0 wz) := Lib.hid (HFA.out.trans hfz)
        have HWZ : Hid (∃ V', WR wz wb B V' (ok && ([] : List (Int × Bool)).all (fun x => (nmS ss x.1).isSome)) (((LS ++ [[kComp, c.nm]]) ++ (c.fs.take k).map (fileL c.nm)) ++ [fileL c.nm (x1, true)])) := Lib.hid (by rw [HLX.out]; exact hwz)
        clear hwz hfz HSAY q0 q1 t0 t1 s0
        go_wp2_with fail
        go_roundw
        case rel => exact ⟨k + 1, HLT.out, by go_num, HFZ.out, by
          obtain ⟨V', hv⟩ := HWZ.out
          refine ⟨V', ?_⟩
          show WR _ wb B V' (ok && ([] : List (Int × Bool)).all (fun x => (nmS ss x.1).isSome)) ((LS ++ [[kComp, c.nm]]) ++ (c.fs.take (k + 1)).map (fileL c.nm))
          rw [HLS.out]
          exact hv⟩
        case measure => simp [intOf]; have := HLT.out; omega
    · obtain rfl : k = c.fs.length := by omega
      have HWR2 : Hid (WR wr wb B V2 (ok && ([] : List (Int × Bool)).all (fun x => (nmS ss x.1).isSome)) ((LS ++ [[kComp, c.nm]]) ++ c.fs.map (fileL c.nm))) := Lib.hid (by have := HWR.out; simpa using this)
      have HFK2 := Lib.hid HFK.out
      have x1 := HCB2.out.cell 2
      simp at x1
      clear hk hlt HFK HWR
      go_wp2_with fail
      clear x1
      generalize wr = w2 at *
      go_loopw [10, 42] (fun _ i wr => RG wb B W0 c.es.length (fun _ => ok && ([] : List (Int × Bool)).all (fun x => (nmS ss x.1).isSome)) (fun k => ((LS ++ [[kComp, c.nm]]) ++ c.fs.map (fileL c.nm)) ++ (c.es.take k).map (expL c.nm)) i wr) (fun _ i _ => c.es.length - (intOf i).toNat)
      case atStart => exact ⟨0, Nat.zero_le _, rfl, HFK2.out, V2, by simpa using HWR2.out⟩
      case round =>
        obtain ⟨k, hk, rfl, hfk, V3, hwr⟩ := hrel
        have HFK := Lib.hid hfk
        have HWR := Lib.hid hwr
        obtain ⟨hp, hc, hbw, hbr, hwbr, hszr⟩ := HU.out wr hfk
        have HBW := Lib.hid hbw
        have HBR := Lib.hid hbr
        have HWBR := Lib.hid hwbr
        have HSZR := Lib.hid hszr
        have HCB2 := Lib.hid hc
        have HPB2 := Lib.hid hp
        clear hfk hwr hp hc hbw hbr hwbr hszr
        by_cases hlt : k < c.es.length
        · obtain ⟨x, hx⟩ : ∃ x, c.es[k]? = some x := ⟨_, List.getElem?_eq_getElem hlt⟩
          obtain ⟨b, o, he, hb, hcc⟩ := ((HC.out wr HBW.out).2.1.at').2 (show 0 < c.es.length by omega)
          subst he
          have q0 : wr.cell? ⟨b, o + k * 3, none⟩ = some (.string x.1) := hcc k x hx 0 _ rfl
          have q1 : wr.cell? ⟨b, o + k * 3 + 1, none⟩ = some (.int .i64 x.2.1) := hcc k x hx 1 _ rfl
          have q2 : wr.cell? ⟨b, o + k * 3 + 2, none⟩ = some (.int .i64 x.2.2) := hcc k x hx 2 _ rfl
          have hkn : (k : Int) < (c.es.length : Int) := by omega
          have hk20 : c.es.length ≤ 1048576 := HBD.out.2.1
          have hkb : k ≤ 1048576 := by omega
          have hkw : IntKind.i64.wrap (k : Int) = (k : Int) := by rw [IntKind.wrap_i64]; omega
          have HLL : Hid ((((LS ++ [[kComp, c.nm]]) ++ c.fs.map (fileL c.nm)) ++ (c.es.take k).map (expL c.nm)).length ≤ 1073741824) := Lib.hid (by simp; have := HN.out; omega)
          have HLS : Hid (((LS ++ [[kComp, c.nm]]) ++ c.fs.map (fileL c.nm)) ++ (c.es.take (k + 1)).map (expL c.nm) = (((LS ++ [[kComp, c.nm]]) ++ c.fs.map (fileL c.nm)) ++ (c.es.take k).map (expL c.nm)) ++ [expL c.nm x]) := Lib.hid (ls_step (expL c.nm) ((LS ++ [[kComp, c.nm]]) ++ c.fs.map (fileL c.nm)) hx)
          have HXR := Lib.hid (HRE.out x (List.mem_of_getElem? hx))
          have HLT := Lib.hid hlt
          have HAB : Hid (Below wr.heap.size wr (wr.alloc (.cells #[.string x.1, .int .i64 x.2.1, .int .i64 x.2.2] 50))) := Lib.hid ((Below.refl _ _).alloc (Nat.le_refl _) _)
          have HFA : Hid (Fk wb W0 (wr.alloc (.cells #[.string x.1, .int .i64 x.2.1, .int .i64 x.2.2] 50))) := Lib.hid (HFK.out.trans (Fk.of HAB.out (Nat.le_of_lt HWBR.out)))
          have HWA : Hid (WR (wr.alloc (.cells #[.string x.1, .int .i64 x.2.1, .int .i64 x.2.2] 50)) wb B V3 (ok && ([] : List (Int × Bool)).all (fun x => (nmS ss x.1).isSome)) (((LS ++ [[kComp, c.nm]]) ++ c.fs.map (fileL c.nm)) ++ (c.es.take k).map (expL c.nm))) := Lib.hid (HWR.out.below HAB.out)
          have HXB := Lib.hid (bx_alloc' wr #[.string x.1, .int .i64 x.2.1, .int .i64 x.2.2] 50)
          have HBA2 : Hid (B ≤ (wr.alloc (.cells #[.string x.1, .int .i64 x.2.1, .int .i64 x.2.2] 50)).heap.size) := Lib.hid (Nat.le_trans HBR.out HAB.out.size)
          have HCA := Lib.hid (HCB2.out.below HAB.out)
          have HPA := Lib.hid (HPB2.out.below HAB.out)
          clear hx hcc hb hlt
          obtain ⟨wA, hwA⟩ : ∃ wA, (wr.alloc (.cells #[.string x.1, .int .i64 x.2.1, .int .i64 x.2.2] 50)) = wA := ⟨_, rfl⟩
          rw [hwA] at HAB HFA HWA HXB HBA2 HCA HPA
          have HWL : Hid (wb < wA.heap.size) := Lib.hid HWA.out.1.lt
          have HS : Hid (∀ W, Fk wb wA W → W.cell? ⟨w.heap.size + 1, 0, none⟩ = some (.string c.nm) ∧ W.cell? ⟨wr.heap.size, 0, none⟩ = some (.string x.1) ∧ W.cell? ⟨wr.heap.size, 1, none⟩ = some (.int .i64 x.2.1) ∧ W.cell? ⟨wr.heap.size, 2, none⟩ = some (.int .i64 x.2.2)) := Lib.hid (fun W hW => ⟨(hW.bx HCA.out (by have := HWB.out; omega) (by decide)).cell 0, (hW.bx HXB.out HWBR.out (by decide)).cell 0, (hW.bx HXB.out HWBR.out (by decide)).cell 1, (hW.bx HXB.out HWBR.out (by decide)).cell 2⟩)
          have HFd : Hid (Fk wb wA wA.drew) := Lib.hid (Fk.of (Below.refl _ _).drew (Nat.le_of_lt HWL.out))
          have HWd : Hid (WR wA.drew wb B V3 (ok && ([] : List (Int × Bool)).all (fun x => (nmS ss x.1).isSome)) (((LS ++ [[kComp, c.nm]]) ++ c.fs.map (fileL c.nm)) ++ (c.es.take k).map (expL c.nm))) := Lib.hid (HWA.out.below (Below.refl _ _).drew)
          have HI := Lib.hid (HS.out _ HFd.out)
          have HIT1 : Hid (∀ W, Fk wb wA W → WR W wb B V3 (ok && ([] : List (Int × Bool)).all (fun x => (nmS ss x.1).isSome)) (((LS ++ [[kComp, c.nm]]) ++ c.fs.map (fileL c.nm)) ++ (c.es.take k).map (expL c.nm)) → Calls Tryz.prog 56 #[.int .i64 x.2.1] W fun e w' => e = .returned (.string (tnI x.2.1)) ∧ Fk wb wA w' ∧ WR w' wb B V3 (ok && ([] : List (Int × Bool)).all (fun x => (nmS ss x.1).isSome)) (((LS ++ [[kComp, c.nm]]) ++ c.fs.map (fileL c.nm)) ++ (c.es.take k).map (expL c.nm))) := Lib.hid (fun W hW hR => by
            refine (n56 x.2.1 HXR.out.1 W (HGT.out W (((HFW.out.trans HFA.out).trans hW).1))).mono ?_
            rintro e w' ⟨h1, h2⟩
            exact ⟨h1, hW.trans (Fk.of h2 (Nat.le_of_lt hR.1.lt)), hR.below h2⟩)
          have HIT2 : Hid (∀ W, Fk wb wA W → WR W wb B V3 (ok && ([] : List (Int × Bool)).all (fun x => (nmS ss x.1).isSome)) (((LS ++ [[kComp, c.nm]]) ++ c.fs.map (fileL c.nm)) ++ (c.es.take k).map (expL c.nm)) → Calls Tryz.prog 56 #[.int .i64 x.2.2] W fun e w' => e = .returned (.string (tnI x.2.2)) ∧ Fk wb wA w' ∧ WR w' wb B V3 (ok && ([] : List (Int × Bool)).all (fun x => (nmS ss x.1).isSome)) (((LS ++ [[kComp, c.nm]]) ++ c.fs.map (fileL c.nm)) ++ (c.es.take k).map (expL c.nm))) := Lib.hid (fun W hW hR => by
            refine (n56 x.2.2 HXR.out.2 W (HGT.out W (((HFW.out.trans HFA.out).trans hW).1))).mono ?_
            rintro e w' ⟨h1, h2⟩
            exact ⟨h1, hW.trans (Fk.of h2 (Nat.le_of_lt hR.1.lt)), hR.below h2⟩)
          have HSAY : Hid (∀ W, Fk wb wA W → WR W wb B V3 (ok && ([] : List (Int × Bool)).all (fun x => (nmS ss x.1).isSome)) (((LS ++ [[kComp, c.nm]]) ++ c.fs.map (fileL c.nm)) ++ (c.es.take k).map (expL c.nm)) → Calls Tryz.prog 55 #[.pointer (some ⟨wb, 0, none⟩), .slice (some ⟨W.heap.size, 0, none⟩) 5 5] (W.alloc (.cells #[.string ⟨#[101, 120, 112, 111, 114, 116]⟩, .string c.nm, .string x.1, .string (tnI x.2.1), .string (tnI x.2.2)] 9)) fun e w' => e = .returned (.tuple #[]) ∧ (∃ V', WR w' wb B V' (ok && ([] : List (Int × Bool)).all (fun x => (nmS ss x.1).isSome)) ((((LS ++ [[kComp, c.nm]]) ++ c.fs.map (fileL c.nm)) ++ (c.es.take k).map (expL c.nm)) ++ [expL c.nm x])) ∧ Fk wb wA w') := Lib.hid (fun W hW hR => by
            refine (say_at [kExport, c.nm, x.1, tnI x.2.1, tnI x.2.2] W wb B V3 (ok && ([] : List (Int × Bool)).all (fun x => (nmS ss x.1).isSome)) (((LS ++ [[kComp, c.nm]]) ++ c.fs.map (fileL c.nm)) ++ (c.es.take k).map (expL c.nm)) hR (Nat.le_trans HBA2.out hW.1.size) HLL.out (by simp)).mono ?_
            rintro e w' ⟨h1, h2, h3⟩
            exact ⟨h1, h2, hW.trans h3⟩)
          go_upto_region 13 with fail
          clear hwA
          go_region_held3 (fun W => W.cell? ⟨w.heap.size + 1, 0, none⟩ = some (.string c.nm) ∧ W.cell? ⟨wr.heap.size, 0, none⟩ = some (.string x.1) ∧ W.cell? ⟨wr.heap.size, 1, none⟩ = some (.int .i64 x.2.1) ∧ W.cell? ⟨wr.heap.size, 2, none⟩ = some (.int .i64 x.2.2))
            (first | assumption | exact HI.out | (with_reducible exact HS.out _ (by assumption)) | (exact HS.out _ (Fk.alloc hq6 ⟨_, _, _, _, hr6⟩ _)))
            (first
              | (go_at_call 56; (first | (with_reducible refine (HIT1.out _ hq6 hr6).mono ?_) | (with_reducible refine (HIT2.out _ hq6 hr6).mono ?_) | (with_reducible refine (HIT1.out _ HFd.out HWd.out).mono ?_) | (with_reducible refine (HIT2.out _ HFd.out HWd.out).mono ?_)); rintro _ w6 ⟨rfl, hq6, hr6⟩)
              | (go_at_call 55; (with_reducible refine (HSAY.out _ hq6 hr6).mono ?_); rintro _ wz ⟨rfl, hwz, hfz⟩))
          all_goals
            have HFZ : Hid (Fk wb W0 wz) := Lib.hid (HFA.out.trans hfz)
            have HWZ := Lib.hid hwz
            clear hwz hfz HSAY HIT1 HIT2 q0 q1 q2
            go_wp2_with fail
            go_roundw
            case rel => exact ⟨k + 1, HLT.out, by go_num, HFZ.out, by
              obtain ⟨V', hv⟩ := HWZ.out
              refine ⟨V', ?_⟩
              show WR _ wb B V' (ok && ([] : List (Int × Bool)).all (fun x => (nmS ss x.1).isSome)) (((LS ++ [[kComp, c.nm]]) ++ c.fs.map (fileL c.nm)) ++ (c.es.take (k + 1)).map (expL c.nm))
              rw [HLS.out]
              exact hv⟩
            case measure => simp [intOf]; have := HLT.out; omega
        · obtain rfl : k = c.es.length := by omega
          have HWR3 : Hid (WR wr wb B V3 (ok && ([] : List (Int × Bool)).all (fun x => (nmS ss x.1).isSome)) (((LS ++ [[kComp, c.nm]]) ++ c.fs.map (fileL c.nm)) ++ c.es.map (expL c.nm))) := Lib.hid (by have := HWR.out; simpa using this)
          have HFK3 := Lib.hid HFK.out
          have x1 := HCB2.out.cell 4
          simp at x1
          clear hk hlt HFK HWR
          go_wp2_with fail
          clear x1
          generalize wr = w3 at *
          go_loopw [12, 63] (fun _ i wr => RG wb B W0 c.ds.length (fun _ => ok && ([] : List (Int × Bool)).all (fun x => (nmS ss x.1).isSome)) (fun k => (((LS ++ [[kComp, c.nm]]) ++ c.fs.map (fileL c.nm)) ++ c.es.map (expL c.nm)) ++ (c.ds.take k).map (devL c.nm)) i wr) (fun _ i _ => c.ds.length - (intOf i).toNat)
          case atStart => exact ⟨0, Nat.zero_le _, rfl, HFK3.out, V3, by simpa using HWR3.out⟩
          case round =>
            obtain ⟨k, hk, rfl, hfk, V4, hwr⟩ := hrel
            have HFK := Lib.hid hfk
            have HWR := Lib.hid hwr
            obtain ⟨hp, hc, hbw, hbr, hwbr, hszr⟩ := HU.out wr hfk
            have HBW := Lib.hid hbw
            have HBR := Lib.hid hbr
            have HWBR := Lib.hid hwbr
            have HSZR := Lib.hid hszr
            have HCB2 := Lib.hid hc
            have HPB2 := Lib.hid hp
            clear hfk hwr hp hc hbw hbr hwbr hszr
            by_cases hlt : k < c.ds.length
            · obtain ⟨x, hx⟩ : ∃ x, c.ds[k]? = some x := ⟨_, List.getElem?_eq_getElem hlt⟩
              obtain ⟨b, o, he, hb, hcc⟩ := ((HC.out wr HBW.out).2.2.2.1.at').2 (show 0 < c.ds.length by omega)
              subst he
              have q0 : wr.cell? ⟨b, o + k * 3, none⟩ = some (.string x.1) := hcc k x hx 0 _ rfl
              have q1 : wr.cell? ⟨b, o + k * 3 + 1, none⟩ = some (.int .u32 x.2.1) := hcc k x hx 1 _ rfl
              have q2 : wr.cell? ⟨b, o + k * 3 + 2, none⟩ = some (.int .u32 x.2.2) := hcc k x hx 2 _ rfl
              have hkn : (k : Int) < (c.ds.length : Int) := by omega
              have hk20 : c.ds.length ≤ 1048576 := HBD.out.2.2.2.1
              have hkb : k ≤ 1048576 := by omega
              have hkw : IntKind.i64.wrap (k : Int) = (k : Int) := by rw [IntKind.wrap_i64]; omega
              have HLL : Hid (((((LS ++ [[kComp, c.nm]]) ++ c.fs.map (fileL c.nm)) ++ c.es.map (expL c.nm)) ++ (c.ds.take k).map (devL c.nm)).length ≤ 1073741824) := Lib.hid (by simp; have := HN.out; omega)
              have HLS : Hid ((((LS ++ [[kComp, c.nm]]) ++ c.fs.map (fileL c.nm)) ++ c.es.map (expL c.nm)) ++ (c.ds.take (k + 1)).map (devL c.nm) = ((((LS ++ [[kComp, c.nm]]) ++ c.fs.map (fileL c.nm)) ++ c.es.map (expL c.nm)) ++ (c.ds.take k).map (devL c.nm)) ++ [devL c.nm x]) := Lib.hid (ls_step (devL c.nm) (((LS ++ [[kComp, c.nm]]) ++ c.fs.map (fileL c.nm)) ++ c.es.map (expL c.nm)) hx)
              have HXR := Lib.hid (HRD.out x (List.mem_of_getElem? hx))
              have HLT := Lib.hid hlt
              have HAB : Hid (Below wr.heap.size wr (wr.alloc (.cells #[.string x.1, .int .u32 x.2.1, .int .u32 x.2.2] 90))) := Lib.hid ((Below.refl _ _).alloc (Nat.le_refl _) _)
              have HFA : Hid (Fk wb W0 (wr.alloc (.cells #[.string x.1, .int .u32 x.2.1, .int .u32 x.2.2] 90))) := Lib.hid (HFK.out.trans (Fk.of HAB.out (Nat.le_of_lt HWBR.out)))
              have HWA : Hid (WR (wr.alloc (.cells #[.string x.1, .int .u32 x.2.1, .int .u32 x.2.2] 90)) wb B V4 (ok && ([] : List (Int × Bool)).all (fun x => (nmS ss x.1).isSome)) ((((LS ++ [[kComp, c.nm]]) ++ c.fs.map (fileL c.nm)) ++ c.es.map (expL c.nm)) ++ (c.ds.take k).map (devL c.nm))) := Lib.hid (HWR.out.below HAB.out)
              have HXB := Lib.hid (bx_alloc' wr #[.string x.1, .int .u32 x.2.1, .int .u32 x.2.2] 90)
              have HBA2 : Hid (B ≤ (wr.alloc (.cells #[.string x.1, .int .u32 x.2.1, .int .u32 x.2.2] 90)).heap.size) := Lib.hid (Nat.le_trans HBR.out HAB.out.size)
              have HCA := Lib.hid (HCB2.out.below HAB.out)
              have HPA := Lib.hid (HPB2.out.below HAB.out)
              clear hx hcc hb hlt
              obtain ⟨wA, hwA⟩ : ∃ wA, (wr.alloc (.cells #[.string x.1, .int .u32 x.2.1, .int .u32 x.2.2] 90)) = wA := ⟨_, rfl⟩
              rw [hwA] at HAB HFA HWA HXB HBA2 HCA HPA
              have HWL : Hid (wb < wA.heap.size) := Lib.hid HWA.out.1.lt
              have HS : Hid (∀ W, Fk wb wA W → W.cell? ⟨w.heap.size + 1, 0, none⟩ = some (.string c.nm) ∧ W.cell? ⟨wr.heap.size, 0, none⟩ = some (.string x.1) ∧ W.cell? ⟨wr.heap.size, 1, none⟩ = some (.int .u32 x.2.1) ∧ W.cell? ⟨wr.heap.size, 2, none⟩ = some (.int .u32 x.2.2)) := Lib.hid (fun W hW => ⟨(hW.bx HCA.out (by have := HWB.out; omega) (by decide)).cell 0, (hW.bx HXB.out HWBR.out (by decide)).cell 0, (hW.bx HXB.out HWBR.out (by decide)).cell 1, (hW.bx HXB.out HWBR.out (by decide)).cell 2⟩)
              have HFd : Hid (Fk wb wA wA.drew) := Lib.hid (Fk.of (Below.refl _ _).drew (Nat.le_of_lt HWL.out))
              have HWd : Hid (WR wA.drew wb B V4 (ok && ([] : List (Int × Bool)).all (fun x => (nmS ss x.1).isSome)) ((((LS ++ [[kComp, c.nm]]) ++ c.fs.map (fileL c.nm)) ++ c.es.map (expL c.nm)) ++ (c.ds.take k).map (devL c.nm))) := Lib.hid (HWA.out.below (Below.refl _ _).drew)
              have HI := Lib.hid (HS.out _ HFd.out)
              have HIT1 : Hid (∀ W, Fk wb wA W → WR W wb B V4 (ok && ([] : List (Int × Bool)).all (fun x => (nmS ss x.1).isSome)) ((((LS ++ [[kComp, c.nm]]) ++ c.fs.map (fileL c.nm)) ++ c.es.map (expL c.nm)) ++ (c.ds.take k).map (devL c.nm)) → Calls Tryz.prog 56 #[.int .i64 x.2.1] W fun e w' => e = .returned (.string (tnI x.2.1)) ∧ Fk wb wA w' ∧ WR w' wb B V4 (ok && ([] : List (Int × Bool)).all (fun x => (nmS ss x.1).isSome)) ((((LS ++ [[kComp, c.nm]]) ++ c.fs.map (fileL c.nm)) ++ c.es.map (expL c.nm)) ++ (c.ds.take k).map (devL c.nm))) := Lib.hid (fun W hW hR => by
                refine (n56 x.2.1 (by have := HXR.out.1; exact ⟨by omega, by omega⟩) W (HGT.out W (((HFW.out.trans HFA.out).trans hW).1))).mono ?_
                rintro e w' ⟨h1, h2⟩
                exact ⟨h1, hW.trans (Fk.of h2 (Nat.le_of_lt hR.1.lt)), hR.below h2⟩)
              have HIT2 : Hid (∀ W, Fk wb wA W → WR W wb B V4 (ok && ([] : List (Int × Bool)).all (fun x => (nmS ss x.1).isSome)) ((((LS ++ [[kComp, c.nm]]) ++ c.fs.map (fileL c.nm)) ++ c.es.map (expL c.nm)) ++ (c.ds.take k).map (devL c.nm)) → Calls Tryz.prog 56 #[.int .i64 x.2.2] W fun e w' => e = .returned (.string (tnI x.2.2)) ∧ Fk wb wA w' ∧ WR w' wb B V4 (ok && ([] : List (Int × Bool)).all (fun x => (nmS ss x.1).isSome)) ((((LS ++ [[kComp, c.nm]]) ++ c.fs.map (fileL c.nm)) ++ c.es.map (expL c.nm)) ++ (c.ds.take k).map (devL c.nm))) := Lib.hid (fun W hW hR => by
                refine (n56 x.2.2 (by have := HXR.out.2; exact ⟨by omega, by omega⟩) W (HGT.out W (((HFW.out.trans HFA.out).trans hW).1))).mono ?_
                rintro e w' ⟨h1, h2⟩
                exact ⟨h1, hW.trans (Fk.of h2 (Nat.le_of_lt hR.1.lt)), hR.below h2⟩)
              have HSAY : Hid (∀ W, Fk wb wA W → WR W wb B V4 (ok && ([] : List (Int × Bool)).all (fun x => (nmS ss x.1).isSome)) ((((LS ++ [[kComp, c.nm]]) ++ c.fs.map (fileL c.nm)) ++ c.es.map (expL c.nm)) ++ (c.ds.take k).map (devL c.nm)) → Calls Tryz.prog 55 #[.pointer (some ⟨wb, 0, none⟩), .slice (some ⟨W.heap.size, 0, none⟩) 5 5] (W.alloc (.cells #[.string ⟨#[100, 101, 118, 105, 99, 101]⟩, .string c.nm, .string x.1, .string (tnI x.2.1), .string (tnI x.2.2)] 9)) fun e w' => e = .returned (.tuple #[]) ∧ (∃ V', WR w' wb B V' (ok && ([] : List (Int × Bool)).all (fun x => (nmS ss x.1).isSome)) (((((LS ++ [[kComp, c.nm]]) ++ c.fs.map (fileL c.nm)) ++ c.es.map (expL c.nm)) ++ (c.ds.take k).map (devL c.nm)) ++ [devL c.nm x])) ∧ Fk wb wA w') := Lib.hid (fun W hW hR => by
                refine (say_at [kDevice, c.nm, x.1, tnI x.2.1, tnI x.2.2] W wb B V4 (ok && ([] : List (Int × Bool)).all (fun x => (nmS ss x.1).isSome)) ((((LS ++ [[kComp, c.nm]]) ++ c.fs.map (fileL c.nm)) ++ c.es.map (expL c.nm)) ++ (c.ds.take k).map (devL c.nm)) hR (Nat.le_trans HBA2.out hW.1.size) HLL.out (by simp)).mono ?_
                rintro e w' ⟨h1, h2, h3⟩
                exact ⟨h1, h2, hW.trans h3⟩)
              have hcv1 : IntKind.i64.wrap x.2.1 = x.2.1 := by rw [IntKind.wrap_i64]; have := HXR.out.1; omega
              have hcv2 : IntKind.i64.wrap x.2.2 = x.2.2 := by rw [IntKind.wrap_i64]; have := HXR.out.2; omega
              go_upto_region 15 with fail
              clear hwA
              go_region_held3 (fun W => W.cell? ⟨w.heap.size + 1, 0, none⟩ = some (.string c.nm) ∧ W.cell? ⟨wr.heap.size, 0, none⟩ = some (.string x.1) ∧ W.cell? ⟨wr.heap.size, 1, none⟩ = some (.int .u32 x.2.1) ∧ W.cell? ⟨wr.heap.size, 2, none⟩ = some (.int .u32 x.2.2))
                (first | assumption | exact HI.out | (with_reducible exact HS.out _ (by assumption)) | (exact HS.out _ (Fk.alloc hq6 ⟨_, _, _, _, hr6⟩ _)))
                (first
                  | (go_at_call 56; (first | (with_reducible refine (HIT1.out _ hq6 hr6).mono ?_) | (with_reducible refine (HIT2.out _ hq6 hr6).mono ?_) | (with_reducible refine (HIT1.out _ HFd.out HWd.out).mono ?_) | (with_reducible refine (HIT2.out _ HFd.out HWd.out).mono ?_)); rintro _ w6 ⟨rfl, hq6, hr6⟩)
                  | (go_at_call 55; (with_reducible refine (HSAY.out _ hq6 hr6).mono ?_); rintro _ wz ⟨rfl, hwz, hfz⟩))
              all_goals
                have HFZ : Hid (Fk wb W0 wz) := Lib.hid (HFA.out.trans hfz)
                have HWZ := Lib.hid hwz
                clear hwz hfz HSAY HIT1 HIT2 q0 q1 q2
                go_wp2_with fail
                go_roundw
                case rel => exact ⟨k + 1, HLT.out, by go_num, HFZ.out, by
                  obtain ⟨V', hv⟩ := HWZ.out
                  refine ⟨V', ?_⟩
                  show WR _ wb B V' (ok && ([] : List (Int × Bool)).all (fun x => (nmS ss x.1).isSome)) ((((LS ++ [[kComp, c.nm]]) ++ c.fs.map (fileL c.nm)) ++ c.es.map (expL c.nm)) ++ (c.ds.take (k + 1)).map (devL c.nm))
                  rw [HLS.out]
                  exact hv⟩
                case measure => simp [intOf]; have := HLT.out; omega
            · obtain rfl : k = c.ds.length := by omega
              have HWR4 : Hid (WR wr wb B V4 (ok && ([] : List (Int × Bool)).all (fun x => (nmS ss x.1).isSome)) ((((LS ++ [[kComp, c.nm]]) ++ c.fs.map (fileL c.nm)) ++ c.es.map (expL c.nm)) ++ c.ds.map (devL c.nm))) := Lib.hid (by have := HWR.out; simpa using this)
              have HFK4 := Lib.hid HFK.out
              have x1 := HCB2.out.cell 5
              simp at x1
              clear hk hlt HFK HWR
              go_wp2_with fail
              clear x1
              generalize wr = w4 at *
              go_loopw [14, 15, 86] (fun _ _ i wr => RG wb B W0 c.gs.length (fun k => ok && (c.gs.take k).all (fun x => (nmS ss x.1).isSome)) (fun k => ((((LS ++ [[kComp, c.nm]]) ++ c.fs.map (fileL c.nm)) ++ c.es.map (expL c.nm)) ++ c.ds.map (devL c.nm)) ++ (c.gs.take k).map (givL ss c.nm)) i wr) (fun _ _ i _ => c.gs.length - (intOf i).toNat)
              case atStart => exact ⟨0, Nat.zero_le _, rfl, HFK4.out, V4, by simpa using HWR4.out⟩
              case round =>
                obtain ⟨k, hk, rfl, hfk, V5, hwr⟩ := hrel
                have HFK := Lib.hid hfk
                have HWR := Lib.hid hwr
                obtain ⟨hp, hc, hbw, hbr, hwbr, hszr⟩ := HU.out wr hfk
                have HBW := Lib.hid hbw
                have HBR := Lib.hid hbr
                have HWBR := Lib.hid hwbr
                have HSZR := Lib.hid hszr
                have HCB2 := Lib.hid hc
                have HPB2 := Lib.hid hp
                clear hfk hwr hp hc hbw hbr hwbr hszr
                by_cases hlt : k < c.gs.length
                · obtain ⟨x, hx⟩ : ∃ x, c.gs[k]? = some x := ⟨_, List.getElem?_eq_getElem hlt⟩
                  obtain ⟨b, o, he, hb, hcc⟩ := ((HC.out wr HBW.out).2.2.2.2.at').2 (show 0 < c.gs.length by omega)
                  subst he
                  have q0 : wr.cell? ⟨b, o + k * 2, none⟩ = some (.int .i64 x.1) := hcc k x hx 0 _ rfl
                  have q1 : wr.cell? ⟨b, o + k * 2 + 1, none⟩ = some (.bool x.2) := hcc k x hx 1 _ rfl
                  have hkn : (k : Int) < (c.gs.length : Int) := by omega
                  have hk20 : c.gs.length ≤ 1048576 := HBD.out.2.2.2.2
                  have hkb : k ≤ 1048576 := by omega
                  have hkw : IntKind.i64.wrap (k : Int) = (k : Int) := by rw [IntKind.wrap_i64]; omega
                  have HLL : Hid ((((((LS ++ [[kComp, c.nm]]) ++ c.fs.map (fileL c.nm)) ++ c.es.map (expL c.nm)) ++ c.ds.map (devL c.nm)) ++ (c.gs.take k).map (givL ss c.nm)).length ≤ 1073741824) := Lib.hid (by simp; have := HN.out; omega)
                  have HLS : Hid (((((LS ++ [[kComp, c.nm]]) ++ c.fs.map (fileL c.nm)) ++ c.es.map (expL c.nm)) ++ c.ds.map (devL c.nm)) ++ (c.gs.take (k + 1)).map (givL ss c.nm) = (((((LS ++ [[kComp, c.nm]]) ++ c.fs.map (fileL c.nm)) ++ c.es.map (expL c.nm)) ++ c.ds.map (devL c.nm)) ++ (c.gs.take k).map (givL ss c.nm)) ++ [givL ss c.nm x]) := Lib.hid (ls_step (givL ss c.nm) ((((LS ++ [[kComp, c.nm]]) ++ c.fs.map (fileL c.nm)) ++ c.es.map (expL c.nm)) ++ c.ds.map (devL c.nm)) hx)
                  have HOS : Hid ((ok && (c.gs.take (k + 1)).all (fun x => (nmS ss x.1).isSome)) = ((ok && (c.gs.take k).all (fun x => (nmS ss x.1).isSome)) && (nmS ss x.1).isSome)) := Lib.hid (ok_step (fun x => (nmS ss x.1).isSome) ok hx)
                  have HLT := Lib.hid hlt
                  have HAB : Hid (Below wr.heap.size wr (wr.alloc (.cells #[.int .i64 x.1, .bool x.2] 92))) := Lib.hid ((Below.refl _ _).alloc (Nat.le_refl _) _)
                  have HFA : Hid (Fk wb W0 (wr.alloc (.cells #[.int .i64 x.1, .bool x.2] 92))) := Lib.hid (HFK.out.trans (Fk.of HAB.out (Nat.le_of_lt HWBR.out)))
                  have HWA : Hid (WR (wr.alloc (.cells #[.int .i64 x.1, .bool x.2] 92)) wb B V5 (ok && (c.gs.take k).all (fun x => (nmS ss x.1).isSome)) (((((LS ++ [[kComp, c.nm]]) ++ c.fs.map (fileL c.nm)) ++ c.es.map (expL c.nm)) ++ c.ds.map (devL c.nm)) ++ (c.gs.take k).map (givL ss c.nm))) := Lib.hid (HWR.out.below HAB.out)
                  have HXB := Lib.hid (bx_alloc' wr #[.int .i64 x.1, .bool x.2] 92)
                  have HBA2 : Hid (B ≤ (wr.alloc (.cells #[.int .i64 x.1, .bool x.2] 92)).heap.size) := Lib.hid (Nat.le_trans HBR.out HAB.out.size)
                  have HCA := Lib.hid (HCB2.out.below HAB.out)
                  have HPA := Lib.hid (HPB2.out.below HAB.out)
                  clear hx hcc hb hlt
                  obtain ⟨xi, xb⟩ := x
                  cases xb
                  · simp only at q0 q1 HLS HOS HAB HFA HWA HXB HBA2 HCA HPA
                    go_upto_region 12 with fail
                    obtain ⟨wA, hwA⟩ : ∃ wA, (wr.alloc (.cells #[.int .i64 xi, .bool false] 92)) = wA := ⟨_, rfl⟩
                    rw [hwA] at HAB HFA HWA HXB HBA2 HCA HPA ⊢
                    clear hwA
                    have HWL : Hid (wb < wA.heap.size) := Lib.hid HWA.out.1.lt
                    have HLX : Hid (givL ss c.nm (xi, false) = [kGive, c.nm, (nmS ss xi).getD ⟨#[]⟩, kR]) := Lib.hid (by unfold givL; simp)
                    have HS : Hid (∀ W, Fk wb wA W → W.cell? ⟨w.heap.size + 1, 0, none⟩ = some (.string c.nm) ∧ W.cell? ⟨w.heap.size, 2, none⟩ = some (.slice AS ss.length cs) ∧ W.cell? ⟨wr.heap.size, 0, none⟩ = some (.int .i64 xi)) := Lib.hid (fun W hW => ⟨(hW.bx HCA.out (by have := HWB.out; omega) (by decide)).cell 0, (hW.bx HPA.out HWB.out (by decide)).cell 2, (hW.bx HXB.out HWBR.out (by decide)).cell 0⟩)
                    have HFd : Hid (Fk wb wA wA.drew) := Lib.hid (Fk.of (Below.refl _ _).drew (Nat.le_of_lt HWL.out))
                    have HWd : Hid (WR wA.drew wb B V5 (ok && (c.gs.take k).all (fun x => (nmS ss x.1).isSome)) (((((LS ++ [[kComp, c.nm]]) ++ c.fs.map (fileL c.nm)) ++ c.es.map (expL c.nm)) ++ c.ds.map (devL c.nm)) ++ (c.gs.take k).map (givL ss c.nm))) := Lib.hid (HWA.out.below (Below.refl _ _).drew)
                    have HI := Lib.hid (HS.out _ HFd.out)
                    have HNM : Hid (∀ W, Fk wb wA W → WR W wb B V5 (ok && (c.gs.take k).all (fun x => (nmS ss x.1).isSome)) (((((LS ++ [[kComp, c.nm]]) ++ c.fs.map (fileL c.nm)) ++ c.es.map (expL c.nm)) ++ c.ds.map (devL c.nm)) ++ (c.gs.take k).map (givL ss c.nm)) → Calls Tryz.prog 100 #[.pointer (some ⟨wb, 0, none⟩), .slice AS ss.length cs, .int .i64 xi, .func (.func 101) #[] #[]] W fun e w' => e = .returned (.string ((nmS ss xi).getD ⟨#[]⟩)) ∧ Fk wb wA w' ∧ WR w' wb B V5 ((ok && (c.gs.take k).all (fun x => (nmS ss x.1).isSome)) && (nmS ss xi).isSome) (((((LS ++ [[kComp, c.nm]]) ++ c.fs.map (fileL c.nm)) ++ c.es.map (expL c.nm)) ++ c.ds.map (devL c.nm)) ++ (c.gs.take k).map (givL ss c.nm))) := Lib.hid (fun W hW hR => by
                      refine (n100 _ ss xi W wb B V5 (ok && (c.gs.take k).all (fun x => (nmS ss x.1).isSome)) (((((LS ++ [[kComp, c.nm]]) ++ c.fs.map (fileL c.nm)) ++ c.es.map (expL c.nm)) ++ c.ds.map (devL c.nm)) ++ (c.gs.take k).map (givL ss c.nm)) hR (HSV.out W (((HFW.out.trans HFA.out).trans hW).1)) HSS.out).mono ?_
                      rintro e w' ⟨h1, h2, h3⟩
                      exact ⟨h1, hW.trans h3, h2⟩)
                    have HSAY : Hid (∀ W, Fk wb wA W → WR W wb B V5 ((ok && (c.gs.take k).all (fun x => (nmS ss x.1).isSome)) && (nmS ss xi).isSome) (((((LS ++ [[kComp, c.nm]]) ++ c.fs.map (fileL c.nm)) ++ c.es.map (expL c.nm)) ++ c.ds.map (devL c.nm)) ++ (c.gs.take k).map (givL ss c.nm)) → Calls Tryz.prog 55 #[.pointer (some ⟨wb, 0, none⟩), .slice (some ⟨W.heap.size, 0, none⟩) 4 4] (W.alloc (.cells #[.string ⟨#[103, 105, 118, 101]⟩, .string c.nm, .string ((nmS ss xi).getD ⟨#[]⟩), .string ⟨#[114]⟩] 9)) fun e w' => e = .returned (.tuple #[]) ∧ (∃ V', WR w' wb B V' ((ok && (c.gs.take k).all (fun x => (nmS ss x.1).isSome)) && (nmS ss xi).isSome) ((((((LS ++ [[kComp, c.nm]]) ++ c.fs.map (fileL c.nm)) ++ c.es.map (expL c.nm)) ++ c.ds.map (devL c.nm)) ++ (c.gs.take k).map (givL ss c.nm)) ++ [givL ss c.nm (xi, false)])) ∧ Fk wb wA w') := Lib.hid (fun W hW hR => by
                      rw [HLX.out]
                      refine (say_at [kGive, c.nm, (nmS ss xi).getD ⟨#[]⟩, kR] W wb B V5 ((ok && (c.gs.take k).all (fun x => (nmS ss x.1).isSome)) && (nmS ss xi).isSome) (((((LS ++ [[kComp, c.nm]]) ++ c.fs.map (fileL c.nm)) ++ c.es.map (expL c.nm)) ++ c.ds.map (devL c.nm)) ++ (c.gs.take k).map (givL ss c.nm)) hR (Nat.le_trans HBA2.out hW.1.size) HLL.out (by simp)).mono ?_
                      rintro e w' ⟨h1, h2, h3⟩
                      exact ⟨h1, h2, hW.trans h3⟩)
                    go_region_held3 (fun W => W.cell? ⟨w.heap.size + 1, 0, none⟩ = some (.string c.nm) ∧ W.cell? ⟨w.heap.size, 2, none⟩ = some (.slice AS ss.length cs) ∧ W.cell? ⟨wr.heap.size, 0, none⟩ = some (.int .i64 xi))
                      (first | assumption | exact HI.out | (with_reducible exact HS.out _ (by assumption)) | (exact HS.out _ (Fk.alloc hq6 ⟨_, _, _, _, hr6⟩ _)))
                      (first
                        | (go_at_call 100; (with_reducible refine (HNM.out _ HFd.out HWd.out).mono ?_); rintro _ w6 ⟨rfl, hq6, hr6⟩)
                        | (go_at_call 55; (with_reducible refine (HSAY.out _ hq6 hr6).mono ?_); rintro _ wz ⟨rfl, hwz, hfz⟩))
                    all_goals
                      have HFZ : Hid (Fk wb W0 wz) := Lib.hid (HFA.out.trans hfz)
                      have HWZ := Lib.hid hwz
                      clear hwz hfz HSAY HNM q0 q1
                      go_wp2_with fail
                      go_roundw
                      case rel => exact ⟨k + 1, HLT.out, by go_num, HFZ.out, by
                        obtain ⟨V', hv⟩ := HWZ.out
                        refine ⟨V', ?_⟩
                        show WR _ wb B V' (ok && (c.gs.take (k + 1)).all (fun x => (nmS ss x.1).isSome)) (((((LS ++ [[kComp, c.nm]]) ++ c.fs.map (fileL c.nm)) ++ c.es.map (expL c.nm)) ++ c.ds.map (devL c.nm)) ++ (c.gs.take (k + 1)).map (givL ss c.nm))
                        rw [HLS.out]; rw [HOS.out]
                        exact hv⟩
                      case measure => simp [intOf]; have := HLT.out; omega
                  · simp only at q0 q1 HLS HOS HAB HFA HWA HXB HBA2 HCA HPA
                    go_upto_region 12 with fail
                    obtain ⟨wA, hwA⟩ : ∃ wA, (wr.alloc (.cells #[.int .i64 xi, .bool true] 92)) = wA := ⟨_, rfl⟩
                    rw [hwA] at HAB HFA HWA HXB HBA2 HCA HPA ⊢
                    clear hwA
                    have HWL : Hid (wb < wA.heap.size) := Lib.hid HWA.out.1.lt
                    have HLX : Hid (givL ss c.nm (xi, true) = [kGive, c.nm, (nmS ss xi).getD ⟨#[]⟩, kRw]) := Lib.hid (by unfold givL; simp)
                    have HS : Hid (∀ W, Fk wb wA W → W.cell? ⟨w.heap.size + 1, 0, none⟩ = some (.string c.nm) ∧ W.cell? ⟨w.heap.size, 2, none⟩ = some (.slice AS ss.length cs) ∧ W.cell? ⟨wr.heap.size, 0, none⟩ = some (.int .i64 xi)) := Lib.hid (fun W hW => ⟨(hW.bx HCA.out (by have := HWB.out; omega) (by decide)).cell 0, (hW.bx HPA.out HWB.out (by decide)).cell 2, (hW.bx HXB.out HWBR.out (by decide)).cell 0⟩)
                    have HFd : Hid (Fk wb wA wA.drew) := Lib.hid (Fk.of (Below.refl _ _).drew (Nat.le_of_lt HWL.out))
                    have HWd : Hid (WR wA.drew wb B V5 (ok && (c.gs.take k).all (fun x => (nmS ss x.1).isSome)) (((((LS ++ [[kComp, c.nm]]) ++ c.fs.map (fileL c.nm)) ++ c.es.map (expL c.nm)) ++ c.ds.map (devL c.nm)) ++ (c.gs.take k).map (givL ss c.nm))) := Lib.hid (HWA.out.below (Below.refl _ _).drew)
                    have HI := Lib.hid (HS.out _ HFd.out)
                    have HNM : Hid (∀ W, Fk wb wA W → WR W wb B V5 (ok && (c.gs.take k).all (fun x => (nmS ss x.1).isSome)) (((((LS ++ [[kComp, c.nm]]) ++ c.fs.map (fileL c.nm)) ++ c.es.map (expL c.nm)) ++ c.ds.map (devL c.nm)) ++ (c.gs.take k).map (givL ss c.nm)) → Calls Tryz.prog 100 #[.pointer (some ⟨wb, 0, none⟩), .slice AS ss.length cs, .int .i64 xi, .func (.func 101) #[] #[]] W fun e w' => e = .returned (.string ((nmS ss xi).getD ⟨#[]⟩)) ∧ Fk wb wA w' ∧ WR w' wb B V5 ((ok && (c.gs.take k).all (fun x => (nmS ss x.1).isSome)) && (nmS ss xi).isSome) (((((LS ++ [[kComp, c.nm]]) ++ c.fs.map (fileL c.nm)) ++ c.es.map (expL c.nm)) ++ c.ds.map (devL c.nm)) ++ (c.gs.take k).map (givL ss c.nm))) := Lib.hid (fun W hW hR => by
                      refine (n100 _ ss xi W wb B V5 (ok && (c.gs.take k).all (fun x => (nmS ss x.1).isSome)) (((((LS ++ [[kComp, c.nm]]) ++ c.fs.map (fileL c.nm)) ++ c.es.map (expL c.nm)) ++ c.ds.map (devL c.nm)) ++ (c.gs.take k).map (givL ss c.nm)) hR (HSV.out W (((HFW.out.trans HFA.out).trans hW).1)) HSS.out).mono ?_
                      rintro e w' ⟨h1, h2, h3⟩
                      exact ⟨h1, hW.trans h3, h2⟩)
                    have HSAY : Hid (∀ W, Fk wb wA W → WR W wb B V5 ((ok && (c.gs.take k).all (fun x => (nmS ss x.1).isSome)) && (nmS ss xi).isSome) (((((LS ++ [[kComp, c.nm]]) ++ c.fs.map (fileL c.nm)) ++ c.es.map (expL c.nm)) ++ c.ds.map (devL c.nm)) ++ (c.gs.take k).map (givL ss c.nm)) → Calls Tryz.prog 55 #[.pointer (some ⟨wb, 0, none⟩), .slice (some ⟨W.heap.size, 0, none⟩) 4 4] (W.alloc (.cells #[.string ⟨#[103, 105, 118, 101]⟩, .string c.nm, .string ((nmS ss xi).getD ⟨#[]⟩), .string ⟨#[114, 119]⟩] 9)) fun e w' => e = .returned (.tuple #[]) ∧ (∃ V', WR w' wb B V' ((ok && (c.gs.take k).all (fun x => (nmS ss x.1).isSome)) && (nmS ss xi).isSome) ((((((LS ++ [[kComp, c.nm]]) ++ c.fs.map (fileL c.nm)) ++ c.es.map (expL c.nm)) ++ c.ds.map (devL c.nm)) ++ (c.gs.take k).map (givL ss c.nm)) ++ [givL ss c.nm (xi, true)])) ∧ Fk wb wA w') := Lib.hid (fun W hW hR => by
                      rw [HLX.out]
                      refine (say_at [kGive, c.nm, (nmS ss xi).getD ⟨#[]⟩, kRw] W wb B V5 ((ok && (c.gs.take k).all (fun x => (nmS ss x.1).isSome)) && (nmS ss xi).isSome) (((((LS ++ [[kComp, c.nm]]) ++ c.fs.map (fileL c.nm)) ++ c.es.map (expL c.nm)) ++ c.ds.map (devL c.nm)) ++ (c.gs.take k).map (givL ss c.nm)) hR (Nat.le_trans HBA2.out hW.1.size) HLL.out (by simp)).mono ?_
                      rintro e w' ⟨h1, h2, h3⟩
                      exact ⟨h1, h2, hW.trans h3⟩)
                    go_region_held3 (fun W => W.cell? ⟨w.heap.size + 1, 0, none⟩ = some (.string c.nm) ∧ W.cell? ⟨w.heap.size, 2, none⟩ = some (.slice AS ss.length cs) ∧ W.cell? ⟨wr.heap.size, 0, none⟩ = some (.int .i64 xi))
                      (first | assumption | exact HI.out | (with_reducible exact HS.out _ (by assumption)) | (exact HS.out _ (Fk.alloc hq6 ⟨_, _, _, _, hr6⟩ _)))
                      (first
                        | (go_at_call 100; (with_reducible refine (HNM.out _ HFd.out HWd.out).mono ?_); rintro _ w6 ⟨rfl, hq6, hr6⟩)
                        | (go_at_call 55; (with_reducible refine (HSAY.out _ hq6 hr6).mono ?_); rintro _ wz ⟨rfl, hwz, hfz⟩))
                    all_goals
                      have HFZ : Hid (Fk wb W0 wz) := Lib.hid (HFA.out.trans hfz)
                      have HWZ := Lib.hid hwz
                      clear hwz hfz HSAY HNM q0 q1
                      go_wp2_with fail
                      go_roundw
                      case rel => exact ⟨k + 1, HLT.out, by go_num, HFZ.out, by
                        obtain ⟨V', hv⟩ := HWZ.out
                        refine ⟨V', ?_⟩
                        show WR _ wb B V' (ok && (c.gs.take (k + 1)).all (fun x => (nmS ss x.1).isSome)) (((((LS ++ [[kComp, c.nm]]) ++ c.fs.map (fileL c.nm)) ++ c.es.map (expL c.nm)) ++ c.ds.map (devL c.nm)) ++ (c.gs.take (k + 1)).map (givL ss c.nm))
                        rw [HLS.out]; rw [HOS.out]
                        exact hv⟩
                      case measure => simp [intOf]; have := HLT.out; omega
                · obtain rfl : k = c.gs.length := by omega
                  have HWR5 : Hid (WR wr wb B V5 (ok && (c.gs.take c.gs.length).all (fun x => (nmS ss x.1).isSome)) (((((LS ++ [[kComp, c.nm]]) ++ c.fs.map (fileL c.nm)) ++ c.es.map (expL c.nm)) ++ c.ds.map (devL c.nm)) ++ c.gs.map (givL ss c.nm))) := Lib.hid (by have := HWR.out; simpa using this)
                  have HFK5 := Lib.hid HFK.out
                  clear hk hlt HFK HWR
                  go_wp2_with fail
                  go_end0
                  exact ⟨rfl, ⟨V5, by have := HWR5.out; unfold coLs givOk; simpa using this⟩, HFW.out.trans HFK5.out⟩
end Go.Proofs.YtapdiionikfgpaaGreatDoor
