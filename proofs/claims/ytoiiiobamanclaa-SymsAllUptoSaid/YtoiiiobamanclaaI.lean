import Derived.Test.YtoiiiobamanclaaH
namespace Go.Proofs.Ytoiiiobamanclaa
open Go.ChangeShapes Go.WideShapes Go.ChangeAt Go.RowKit Go.Shelf
set_option linter.unusedVariables false
theorem blk_row {w : World} {g : Nat} {t : TypeId} {C : Array Value} (h : Blk w g t C) (D : Array Value) : Blk (w.setRow g D) g t D := setRow_heap w g C D t (0, 0) h
theorem only_row (w : World) (g : Nat) (D : Array Value) : Only g w (w.setRow g D) := by
  have hb : ∀ k, k ≠ g → (w.setRow g D).heap[k]? = w.heap[k]? := fun k hk => by
    have hk2 : ¬ g = k := fun e => hk e.symm
    unfold World.setRow
    simp [Array.getElem?_modify, hk2]
  exact ⟨fun B hB hs => ⟨rfl, rfl, rfl, by unfold World.setRow; simp, fun k hk => hb k (by omega)⟩, fun k hk _ => hb k hk⟩
/-- whose a name is -/
def tgt (O : List ByteArray) (n : Nm) : Tg :=
  if n.st ≠ tn then n.st else if n.co ≠ tn then n.co else if n.we ≠ tn then n.we else
  match oidx O n.tx with
  | some k => ⟨-1, 0, (k : Int)⟩
  | none => tn
def nth (n : Nm) (k : Nat) : Tg := match k with | 0 => n.st | 1 => n.co | _ => n.we
def RT (n : Nm) (W : World) (i : Value) (wr : World) : Prop := ∃ k : Nat, k ≤ 3 ∧ i = .int .i64 (k : Int) ∧ Below W.heap.size W wr ∧ ∀ j, j < k → nth n j = tn
theorem tgt_at {O : List ByteArray} {n : Nm} {k : Nat} (hk : k < 3) (h : ∀ j, j < k → nth n j = tn) (hn : nth n k ≠ tn) : tgt O n = nth n k := by
  unfold tgt
  match k, hk with
  | 0, _ => exact if_pos hn
  | 1, _ =>
    rw [if_neg (fun c => c (h 0 (by omega)))]
    exact if_pos hn
  | 2, _ =>
    rw [if_neg (fun c => c (h 0 (by omega))), if_neg (fun c => c (h 1 (by omega)))]
    exact if_pos hn
theorem tgt_own {O : List ByteArray} {n : Nm} (h : ∀ j, j < 3 → nth n j = tn) : tgt O n = match oidx O n.tx with | some k => ⟨-1, 0, (k : Int)⟩ | none => tn := by
  unfold tgt
  rw [if_neg (fun c => c (h 0 (by omega))), if_neg (fun c => c (h 1 (by omega))), if_neg (fun c => c (h 2 (by omega)))]
theorem three_at (n : Nm) (k : Nat) (hk : k < 3) : At #[.int .i64 n.st.o, .int .i64 n.st.s, .int .i64 n.st.w, .int .i64 n.co.o, .int .i64 n.co.s, .int .i64 n.co.w, .int .i64 n.we.o, .int .i64 n.we.s, .int .i64 n.we.w] (k * 3) (nth n k).c := by
  match k, hk with
  | 0, _ => exact ⟨by simp, fun j u hu => by match j, hu with | 0, h => exact h | 1, h => exact h | 2, h => exact h⟩
  | 1, _ => exact ⟨by simp, fun j u hu => by match j, hu with | 0, h => exact h | 1, h => exact h | 2, h => exact h⟩
  | 2, _ => exact ⟨by simp, fun j u hu => by match j, hu with | 0, h => exact h | 1, h => exact h | 2, h => exact h⟩
set_option maxRecDepth 100000 in
set_option maxHeartbeats 4000000 in
theorem target21 (O : List ByteArray) (n : Nm) (mb N : Nat) (w : World) (hm : Mf w mb N (oidx O)) (hs : n.tx.size ≤ 1048576) :
    Calls Try.prog 21 #[.agg n.c.toArray, .map (some mb)] w fun e w' => e = .returned (.agg (tgt O n).c.toArray) ∧ Below w.heap.size w w' := by
  have KN := Lib.hid none22
  have HTA := Lib.hid (fun (k : Nat) (hk : k < 3) => three_at n k hk)
  have hb0 : Below w.heap.size w (((w.alloc (.cells n.c.toArray 57)).alloc (.cells #[.int .i64 0, .int .i64 0, .int .i64 0] 32)).alloc (.cells #[.int .i64 n.st.o, .int .i64 n.st.s, .int .i64 n.st.w, .int .i64 n.co.o, .int .i64 n.co.s, .int .i64 n.co.w, .int .i64 n.we.o, .int .i64 n.we.s, .int .i64 n.we.w] 32)) := (((Below.refl _ w).alloc (Nat.le_refl _) _).alloc (by simp) _).alloc (by simp; omega) _
  have hm0 := hm.below hb0
  have q1 : Blk (((w.alloc (.cells n.c.toArray 57)).alloc (.cells #[.int .i64 0, .int .i64 0, .int .i64 0] 32)).alloc (.cells #[.int .i64 n.st.o, .int .i64 n.st.s, .int .i64 n.st.w, .int .i64 n.co.o, .int .i64 n.co.s, .int .i64 n.co.w, .int .i64 n.we.o, .int .i64 n.we.s, .int .i64 n.we.w] 32)) w.heap.size 57 n.c.toArray := ((Blk.new w 57 _).alloc _).alloc _
  have q2 : Blk (((w.alloc (.cells n.c.toArray 57)).alloc (.cells #[.int .i64 0, .int .i64 0, .int .i64 0] 32)).alloc (.cells #[.int .i64 n.st.o, .int .i64 n.st.s, .int .i64 n.st.w, .int .i64 n.co.o, .int .i64 n.co.s, .int .i64 n.co.w, .int .i64 n.we.o, .int .i64 n.we.s, .int .i64 n.we.w] 32)) (w.heap.size + 1) 32 #[.int .i64 0, .int .i64 0, .int .i64 0] := by
    have := Blk.new (w.alloc (.cells n.c.toArray 57)) 32 #[.int .i64 0, .int .i64 0, .int .i64 0]
    rw [World.size_alloc] at this
    exact this.alloc _
  have q3 : Blk (((w.alloc (.cells n.c.toArray 57)).alloc (.cells #[.int .i64 0, .int .i64 0, .int .i64 0] 32)).alloc (.cells #[.int .i64 n.st.o, .int .i64 n.st.s, .int .i64 n.st.w, .int .i64 n.co.o, .int .i64 n.co.s, .int .i64 n.co.w, .int .i64 n.we.o, .int .i64 n.we.s, .int .i64 n.we.w] 32)) (w.heap.size + 1 + 1) 32 #[.int .i64 n.st.o, .int .i64 n.st.s, .int .i64 n.st.w, .int .i64 n.co.o, .int .i64 n.co.s, .int .i64 n.co.w, .int .i64 n.we.o, .int .i64 n.we.s, .int .i64 n.we.w] := by
    have := Blk.new ((w.alloc (.cells n.c.toArray 57)).alloc (.cells #[.int .i64 0, .int .i64 0, .int .i64 0] 32)) 32 #[.int .i64 n.st.o, .int .i64 n.st.s, .int .i64 n.st.w, .int .i64 n.co.o, .int .i64 n.co.s, .int .i64 n.co.w, .int .i64 n.we.o, .int .i64 n.we.s, .int .i64 n.we.w]
    rw [World.size_alloc, World.size_alloc] at this
    exact this
  have HM := Lib.hid hm0; have Q1 := Lib.hid q1; have Q2 := Lib.hid q2; have Q3 := Lib.hid q3; have HB0 := Lib.hid hb0
  have HTT := Lib.hid (fun (k : Nat) (hk : k < 3) (h : ∀ j, j < k → nth n j = tn) (hn : nth n k ≠ tn) => tgt_at (O := O) hk h hn)
  have HTO := Lib.hid (fun (h : ∀ j, j < 3 → nth n j = tn) => tgt_own (O := O) h)
  have HSZ := Lib.hid hs
  obtain ⟨ND, hND⟩ : ∃ ND, nth n = ND := ⟨_, rfl⟩
  have HND := Lib.hid hND
  clear hm hm0 q1 q2 q3 hb0 hs hND
  obtain ⟨tx, ⟨s0, s1, s2⟩, ⟨c0, c1, c2⟩, ⟨e0, e1, e2⟩, tw, ak⟩ := n
  go_enter Try.func21, Try.ntmps21
  go_wp2_with fail
  generalize (((w.alloc (.cells (Nm.c ⟨tx, ⟨s0, s1, s2⟩, ⟨c0, c1, c2⟩, ⟨e0, e1, e2⟩, tw, ak⟩).toArray 57)).alloc (.cells #[.int .i64 0, .int .i64 0, .int .i64 0] 32)).alloc (.cells #[.int .i64 s0, .int .i64 s1, .int .i64 s2, .int .i64 c0, .int .i64 c1, .int .i64 c2, .int .i64 e0, .int .i64 e1, .int .i64 e2] 32)) = W0 at *
  go_loopw [6, 17] (fun _ i wr => RT ⟨tx, ⟨s0, s1, s2⟩, ⟨c0, c1, c2⟩, ⟨e0, e1, e2⟩, tw, ak⟩ W0 i wr) (fun _ i _ => 3 - (intOf i).toNat)
  case atStart => exact ⟨0, by omega, rfl, Below.refl _ _, fun j hj => by omega⟩
  case round =>
    obtain ⟨k, hk, rfl, hb, hno⟩ := hrel
    have HB := Lib.hid hb; have HNO := Lib.hid hno
    clear hb hno
    by_cases hlt : k < 3
    · obtain ⟨⟨a0, a1, a2⟩, ha⟩ : ∃ t, nth ⟨tx, ⟨s0, s1, s2⟩, ⟨c0, c1, c2⟩, ⟨e0, e1, e2⟩, tw, ak⟩ k = t := ⟨_, rfl⟩
      have hat := HTA.out k hlt
      rw [ha] at hat
      have b3 := Q3.out.below HB.out Q3.out.lt
      have x0 : wr.cell? ⟨w.heap.size + 1 + 1, k * 3, none⟩ = some (.int .i64 a0) := by rw [b3.cell]; exact hat.2 0 _ rfl
      have x1 : wr.cell? ⟨w.heap.size + 1 + 1, k * 3 + 1, none⟩ = some (.int .i64 a1) := by rw [b3.cell]; exact hat.2 1 _ rfl
      have x2 : wr.cell? ⟨w.heap.size + 1 + 1, k * 3 + 2, none⟩ = some (.int .i64 a2) := by rw [b3.cell]; exact hat.2 2 _ rfl
      have HA := Lib.hid ha
      have HEQ := Lib.hid (eqTg ⟨a0, a1, a2⟩ tn)
      obtain ⟨q, hq⟩ : ∃ q, decide ((⟨a0, a1, a2⟩ : Tg) = tn) = q := ⟨_, rfl⟩
      have HQ := Lib.hid hq
      rw [hq] at HEQ
      have HLT := Lib.hid hlt
      clear hat b3 ha hq
      go_wp2_with fail
      generalize hX : (wr.alloc (Obj.cells #[Value.int IntKind.i64 a0, Value.int IntKind.i64 a1, Value.int IntKind.i64 a2] 32)) = X at *
      have hbx : Below W0.heap.size W0 X := by rw [← hX]; exact HB.out.alloc HB.out.size _
      have hx6 : Blk X wr.heap.size 32 (Tg.mk a0 a1 a2).c.toArray := by rw [← hX]; exact Blk.new wr 32 _
      have HBX := Lib.hid hbx; have HX6 := Lib.hid hx6
      have hc3 : ∀ W, Blk W wr.heap.size 32 (Tg.mk a0 a1 a2).c.toArray → W.cell? ⟨wr.heap.size, 0, none⟩ = some (.int .i64 a0) ∧ W.cell? ⟨wr.heap.size, 1, none⟩ = some (.int .i64 a1) ∧ W.cell? ⟨wr.heap.size, 2, none⟩ = some (.int .i64 a2) := fun W h => ⟨by rw [h.cell]; rfl, by rw [h.cell]; rfl, by rw [h.cell]; rfl⟩
      have HC3 := Lib.hid hc3
      clear hX hbx hx6 hc3
      have HI : Hid (X.drew.cell? ⟨wr.heap.size, 0, none⟩ = some (.int .i64 a0) ∧ X.drew.cell? ⟨wr.heap.size, 1, none⟩ = some (.int .i64 a1) ∧ X.drew.cell? ⟨wr.heap.size, 2, none⟩ = some (.int .i64 a2)) := Lib.hid (HC3.out _ HX6.out.drew)
      have heq := HEQ.out
      go_region_held3 (fun W => W.cell? ⟨wr.heap.size, 0, none⟩ = some (.int .i64 a0) ∧ W.cell? ⟨wr.heap.size, 1, none⟩ = some (.int .i64 a1) ∧ W.cell? ⟨wr.heap.size, 2, none⟩ = some (.int .i64 a2))
        (first | assumption | exact HI.out)
        (first | (go_at_call 22; (with_reducible refine (KN.out _).mono ?_); rintro _ w6 ⟨rfl, hb6⟩; have HB6 : Below X.heap.size X w6 := ((Below.refl _ X).drew).trans hb6; have HS6 : w6.cell? ⟨wr.heap.size, 0, none⟩ = some (.int .i64 a0) ∧ w6.cell? ⟨wr.heap.size, 1, none⟩ = some (.int .i64 a1) ∧ w6.cell? ⟨wr.heap.size, 2, none⟩ = some (.int .i64 a2) := HC3.out _ (HX6.out.below HB6 HX6.out.lt)))
      rename_i hHeld
      have HX7 := Lib.hid (HX6.out.below HB6 HX6.out.lt)
      have HB7 : Hid (Below W0.heap.size W0 w6) := Lib.hid (HBX.out.trans (HB6.mono HBX.out.size))
      clear hHeld HS6 HI hb6 HB6 heq HC3 HEQ x0 x1 x2
      cases q with
      | true =>
        go_wp2_with fail
        go_roundw
        case rel =>
          refine ⟨k + 1, by have := HLT.out; omega, by go_num, HB7.out, fun j hj => ?_⟩
          rcases Nat.lt_or_ge j k with h | h
          · exact HNO.out j h
          · obtain rfl : j = k := by omega
            rw [HA.out]
            exact of_decide_eq_true HQ.out
        case measure => simp [intOf]; have := HLT.out; omega
      | false =>
        have hF := HTT.out k HLT.out HNO.out (by rw [HA.out]; exact of_decide_eq_false HQ.out)
        rw [HA.out] at hF
        have HF := Lib.hid hF
        have b2 := Q2.out.below HB7.out Q2.out.lt
        have y0 : w6.cell? ⟨w.heap.size + 1, 0, none⟩ = some (.int .i64 0) := by rw [b2.cell]; rfl
        have y1 : w6.cell? ⟨w.heap.size + 1, 1, none⟩ = some (.int .i64 0) := by rw [b2.cell]; rfl
        have y2 : w6.cell? ⟨w.heap.size + 1, 2, none⟩ = some (.int .i64 0) := by rw [b2.cell]; rfl
        have z0 := b2.frozen 0
        have z1 := b2.frozen 1
        have z2 := b2.frozen 2
        have x0 : w6.cell? ⟨wr.heap.size, 0, none⟩ = some (.int .i64 a0) := by rw [HX7.out.cell]; rfl
        have x1 : w6.cell? ⟨wr.heap.size, 1, none⟩ = some (.int .i64 a1) := by rw [HX7.out.cell]; rfl
        have x2 : w6.cell? ⟨wr.heap.size, 2, none⟩ = some (.int .i64 a2) := by rw [HX7.out.cell]; rfl
        have HB2 := Lib.hid b2
        clear b2 hF
        go_wp2_with fail
        have p := ((HB2.out.set_ 0 (.int .i64 a0)).set_ 1 (.int .i64 a1)).set_ 2 (.int .i64 a2)
        refine bodyPost_ret (results_cell_row rfl _ _ (w.heap.size + 1) 32 #[.int .i64 a0, .int .i64 a1, .int .i64 a2] (0, 0) _ rfl p Try.underlying32 rfl info32) rfl ⟨?_, ?_⟩
        · rw [HF.out]
        · exact (((HB0.out.trans (HB7.out.mono HB0.out.size)).setCell (by simp) _).setCell (by simp) _).setCell (by simp) _
    · obtain rfl : k = 3 := by omega
      have hF := HTO.out HNO.out
      have HF := Lib.hid hF
      have HK9 := Lib.hid (key9 tx (by have := HSZ.out; omega))
      obtain ⟨D, h1, h2, h3, h4⟩ := HM.out.below HB.out
      have H1 := Lib.hid h1
      obtain ⟨q, hq⟩ : ∃ q, Maps.has D (.string tx.data.toList) = q := ⟨_, rfl⟩
      have HQ3 : Hid (q = (oidx O tx).isSome) := Lib.hid (by rw [← hq]; exact h3 tx)
      have H4 := Lib.hid h4
      have b2 := Q2.out.below HB.out Q2.out.lt
      have y0 : wr.cell? ⟨w.heap.size + 1, 0, none⟩ = some (.int .i64 0) := by rw [b2.cell]; rfl
      have y1 : wr.cell? ⟨w.heap.size + 1, 1, none⟩ = some (.int .i64 0) := by rw [b2.cell]; rfl
      have y2 : wr.cell? ⟨w.heap.size + 1, 2, none⟩ = some (.int .i64 0) := by rw [b2.cell]; rfl
      have z0 := b2.frozen 0
      have z1 := b2.frozen 1
      have z2 := b2.frozen 2
      have b1 := Q1.out.below HB.out Q1.out.lt
      have x0 : wr.cell? ⟨w.heap.size, 0, none⟩ = some (.string tx) := by rw [b1.cell]; rfl
      have HB2 := Lib.hid b2
      clear h1 h2 h3 h4 b1 b2 hF HTA HTT HNO
      cases q with
      | true =>
        obtain ⟨i, hi⟩ := Option.isSome_iff_exists.1 HQ3.out.symm
        have hai := H4.out tx i hi
        have HAI := Lib.hid hai
        have HI := Lib.hid hi
        clear hai hi
        go_wp2_with (at_lookup; refine wpList_lookup_own_ok_int _ rfl _ _ 52 rfl 9 3 .i64 law9 Try.underlying52 Try.underlying3 (zero3 _) mb N D rfl H1.out _ _ rfl HK9.out ?_; intro c hat hwc; have hci : c = (i : Int) := (by have := hat.symm.trans HAI.out; simpa using this); rw [hci, hq]; clear hat hwc hci)
        have p := ((HB2.out.set_ 0 (.int .i64 (-1))).set_ 1 (.int .i64 0)).set_ 2 (.int .i64 (i : Int))
        refine bodyPost_ret (results_cell_row rfl _ _ (w.heap.size + 1) 32 #[.int .i64 (-1), .int .i64 0, .int .i64 (i : Int)] (0, 0) _ rfl p Try.underlying32 rfl info32) rfl ⟨?_, ?_⟩
        · rw [HF.out]
          rw [HI.out]
        · exact (((HB0.out.trans (HB.out.mono HB0.out.size)).setCell (by simp) _).setCell (by simp) _).setCell (by simp) _
      | false =>
        have hi : oidx O tx = none := by
          cases h : oidx O tx with
          | none => rfl
          | some i => have := HQ3.out; rw [h] at this; cases this
        have HI := Lib.hid hi
        clear hi
        go_wp2_with (first | (at_lookup; refine wpList_lookup_own_ok_int _ rfl _ _ 52 rfl 9 3 .i64 law9 Try.underlying52 Try.underlying3 (zero3 _) mb N D rfl H1.out _ _ rfl HK9.out ?_; intro c hat hwc; rw [hq]; clear hat hwc) | (go_at_call 22; (with_reducible refine (KN.out _).mono ?_); rintro _ w6 ⟨rfl, hb6⟩; have B6 := HB2.out.below hb6 HB2.out.lt; have y0 : w6.cell? ⟨w.heap.size + 1, 0, none⟩ = some (.int .i64 0) := (by rw [B6.cell]; rfl); have y1 : w6.cell? ⟨w.heap.size + 1, 1, none⟩ = some (.int .i64 0) := (by rw [B6.cell]; rfl); have y2 : w6.cell? ⟨w.heap.size + 1, 2, none⟩ = some (.int .i64 0) := (by rw [B6.cell]; rfl); have z0 := B6.frozen 0; have z1 := B6.frozen 1; have z2 := B6.frozen 2; have HB6 := Lib.hid hb6; have HX6 := Lib.hid B6; clear hb6 B6))
        have p := ((HX6.out.set_ 0 (.int .i64 (-1))).set_ 1 (.int .i64 0)).set_ 2 (.int .i64 (-1))
        refine bodyPost_ret (results_cell_row rfl _ _ (w.heap.size + 1) 32 #[.int .i64 (-1), .int .i64 0, .int .i64 (-1)] (0, 0) _ rfl p Try.underlying32 rfl info32) rfl ⟨?_, ?_⟩
        · rw [HF.out]
          rw [HI.out]
        · exact ((((HB0.out.trans (HB.out.mono HB0.out.size)).trans (HB6.out.mono (Nat.le_trans HB0.out.size HB.out.size))).setCell (by simp) _).setCell (by simp) _).setCell (by simp) _
end Go.Proofs.Ytoiiiobamanclaa
