import Derived.Test.YtbbcljffcjhiaaaD
namespace Go.Proofs.Ytbbcljffcjhiaaa
open Go.ChangeShapes Go.WideShapes Go.ChangeAt Go.RowKit
set_option linter.unusedVariables false
set_option linter.unusedSimpArgs false
theorem own_ne {w : World} {B e size n b t : Nat} {v : Value} {xs : List Value} {cs : Array Value} {fr : Nat × Nat} (ho : w.ownsRow B e size v n xs) (hb : w.heap[b]? = some (.cells cs t fr)) (hne : t ≠ e) : some b ≠ v.ownBlock := by
  rcases ho.2 with ⟨rfl, _⟩ | ⟨g, cap, cur, rfl, _, hg, _⟩
  · simp [Value.ownBlock]
  · intro h
    have : b = g := by simpa [Value.ownBlock] using h
    subst this
    rw [hg] at hb
    cases hb
    exact hne rfl
/-- how a round of the reference's loops stands: the row of names, the compartment's box, all below as it was -/
def MS (w W : World) (pv cv : List Value) (n : Nat) (L : List ByteArray) (v : Value) : Prop :=
  W.ownsRow (w.heap.size + 1) 9 1 v n (L.map Value.string) ∧ W.heap[w.heap.size + 2]? = some (.cells cv.toArray 37 (0, 0)) ∧ Below (w.heap.size + 1) (w.alloc (.cells pv.toArray 25)) W
theorem MS.drew {w W : World} {pv cv : List Value} {n : Nat} {L : List ByteArray} {v : Value} (h : MS w W pv cv n L v) : MS w W.drew pv cv n L v := ⟨h.1.drew, h.2.1, h.2.2.drew⟩
theorem MS.drewN {w W : World} {pv cv : List Value} {n : Nat} {L : List ByteArray} {v : Value} (h : MS w W pv cv n L v) : ∀ q, MS w (W.drewN q) pv cv n L v := fun q => ⟨h.1, h.2.1, ⟨h.2.2.os, h.2.2.tape, h.2.2.output, h.2.2.size, h.2.2.block⟩⟩
theorem MS.size {w W : World} {pv cv : List Value} {n : Nat} {L : List ByteArray} {v : Value} (h : MS w W pv cv n L v) : w.heap.size + 3 ≤ W.heap.size := by
  rcases Nat.lt_or_ge (w.heap.size + 2) W.heap.size with hlt | hge
  · omega
  · have := h.2.1; rw [Array.getElem?_eq_none hge] at this; cases this
theorem MS.below {w W : World} {pv cv : List Value} {n : Nat} {L : List ByteArray} {v : Value} (h : MS w W pv cv n L v) : Below w.heap.size w W :=
  ((Below.refl _ w).alloc (Nat.le_refl _) _).trans (h.2.2.mono (by omega))
theorem MS.pcell {w W : World} {pv cv : List Value} {n : Nat} {L : List ByteArray} {v : Value} (h : MS w W pv cv n L v) : ∀ j, W.cell? ⟨w.heap.size, j, none⟩ = pv[j]? := fun j => by
  have h1 : W.heap[w.heap.size]? = some (.cells pv.toArray 25 (0, 0)) := (h.2.2.block _ (by omega)).trans (heap_alloc_new w _)
  rw [cell_of_row _ _ _ _ _ _ h1]; simp
theorem MS.ccell {w W : World} {pv cv : List Value} {n : Nat} {L : List ByteArray} {v : Value} (h : MS w W pv cv n L v) : ∀ j, W.cell? ⟨w.heap.size + 2, j, none⟩ = cv[j]? := fun j => by
  rw [cell_of_row _ _ _ _ _ _ h.2.1]; simp
theorem MS.app {w W W' : World} {pv cv : List Value} {n m : Nat} {L : List ByteArray} {v v' : Value} {x : ByteArray} (h : MS w W pv cv n L v)
    (ho : W'.ownsRow (w.heap.size + 1) 9 1 v' m (L.map Value.string ++ [.string x])) (hg : (W.alloc (.cells #[.string x] 9)).grownBy W' v.ownBlock) : MS w W' pv cv m (L ++ [x]) v' := by
  have hs := h.size
  have hb : (W.alloc (.cells #[.string x] 9)).heap[w.heap.size + 2]? = some (.cells cv.toArray 37 (0, 0)) := (Below.heap_alloc _ _ _ (by omega)).trans h.2.1
  refine ⟨by rw [List.map_append]; exact ho, ?_, ?_⟩
  · rw [hg.block _ (by simp; omega) (own_ne (h.1.alloc _) hb (by decide))]
    exact hb
  · exact (h.2.2.alloc (by omega) _).grown hg (by simp; omega) (fun k hk => (h.1.lt k hk).1)
theorem MS.lie {w W : World} {pv cv : List Value} {n : Nat} {L : List ByteArray} {v : Value} (h : MS w W pv cv n L v) (x : ByteArray) : (W.alloc (.cells #[.string x] 9)).ownsRow (w.heap.size + 1) 9 1 v n (L.map Value.string) := h.1.alloc _
theorem MS.out {w W : World} {pv cv : List Value} {n : Nat} {L : List ByteArray} {v : Value} (h : MS w W pv cv n L v) (hl : L.length = n) : OwnOut L w (.returned v) W :=
  ⟨v, rfl, by rw [hl]; exact own_base h.1 (by omega), h.below⟩
def M1R (w : World) (pv cv : List Value) (nc : Nat) (FC FI : Nat → List Value) (ni : Nat) (v i : Value) (wr : World) : Prop := ∃ k : Nat, k ≤ ni ∧ i = .int .i64 (k : Int) ∧ MS w wr pv cv (1 + k) (l1 nc FC FI k) v
def M2R (w : World) (pv cv : List Value) (LL : Nat) (L : List ByteArray) (FD : Nat → List Value) (nd : Nat) (v i : Value) (wr : World) : Prop := ∃ k : Nat, k ≤ nd ∧ i = .int .i64 (k : Int) ∧ MS w wr pv cv (LL + k) (l2 L FD k) v
def M3R (w : World) (pv cv : List Value) (LL : Nat) (L : List ByteArray) (ns : Nat) (FS FG : Nat → List Value) (ng : Nat) (v i : Value) (wr : World) : Prop := ∃ k : Nat, k ≤ ng ∧ i = .int .i64 (k : Int) ∧ MS w wr pv cv (LL + k) (l3 L ns FS FG k) v
set_option maxRecDepth 100000 in
set_option maxHeartbeats 8000000 in
theorem c6_in (st tr : Int) (SA : Option Addr) (ns sc : Nat) (FS : Nat → List Value) (CA : Option Addr) (nc cc : Nat) (FC : Nat → List Value) (start : Int) (main : ByteArray) (ci : Nat) (nm : ByteArray) (fA : Option Addr) (fn fc : Nat) (xA : Option Addr) (xn xc : Nat)
    (IA : Option Addr) (ni ic : Nat) (FI : Nat → List Value) (DA : Option Addr) (nd dc : Nat) (FD : Nat → List Value) (GA : Option Addr) (ng gc : Nat) (FG : Nat → List Value) (w : World)
    (hci : ci < nc) (hFC : FC ci = [.string nm, .slice fA fn fc, .slice xA xn xc, .slice IA ni ic, .slice DA nd dc, .slice GA ng gc])
    (hS : Rw w SA ns 2 FS) (hQS : ∀ k, k < ns → QS 1048576 (FS k)) (hns : ns ≤ 1048576) (hC : Rw w CA nc 6 FC) (hQN : ∀ k, k < nc → ∃ s r, FC k = .string s :: r ∧ s.size ≤ 1048576) (hnc : nc ≤ 1048576)
    (hI : Rw w IA ni 2 FI) (hQI : ∀ k, k < ni → QI 1048576 (FI k)) (hni : ni ≤ 1048576) (hD : Rw w DA nd 3 FD) (hQD : ∀ k, k < nd → QD 1048576 (FD k)) (hnd : nd ≤ 1048576) (hG : Rw w GA ng 2 FG) (hQG : ∀ k, k < ng → QG (FG k)) (hng : ng ≤ 1048576) :
    Calls Try.prog 6 #[.agg #[.int .i64 st, .int .i64 tr, .slice SA ns sc, .slice CA nc cc, .int .i64 start, .string main], .int .i64 (ci : Int)] w fun e w' => OwnOut (l3 (l2 (l1 nc FC FI ni) FD nd) ns FS FG ng) w e w' := by
  obtain ⟨cb, co, rfl, hcl, hcc⟩ := hC (by omega)
  have hrow : ∀ j v, ([.string nm, .slice fA fn fc, .slice xA xn xc, .slice IA ni ic, .slice DA nd dc, .slice GA ng gc] : List Value)[j]? = some v → w.cell? ⟨cb, co + ci * 6 + j, none⟩ = some v := fun j v hv => hcc ci hci j v (by rw [hFC]; exact hv)
  have r0 := hrow 0 _ rfl
  have r1 := hrow 1 _ rfl
  have r2 := hrow 2 _ rfl
  have r3 := hrow 3 _ rfl
  have r4 := hrow 4 _ rfl
  have r5 := hrow 5 _ rfl
  rw [Nat.add_zero] at r0
  have HCN : Hid (∀ W, Below w.heap.size w W → ∀ k, k < nc → W.cell? ⟨cb, co + k * 6, none⟩ = some (.string (nmO (FC k))) ∧ (nmO (FC k)).size ≤ 1048576) := Lib.hid (fun W hW k hk => by
    obtain ⟨s, r, e, hs⟩ := hQN k hk
    rw [hW.cell (p := ⟨cb, _, none⟩) hcl, e]
    exact ⟨hcc k hk 0 (.string s) (by rw [e]; rfl), hs⟩)
  have HSN : Hid (∀ W, Below w.heap.size w W → ∀ k, k < ns → ∃ sb so, SA = some ⟨sb, so, none⟩ ∧ W.cell? ⟨sb, so + k * 2, none⟩ = some (.string (nmO (FS k))) ∧ (nmO (FS k)).size ≤ 1048576) := Lib.hid (fun W hW k hk => by
    obtain ⟨s, q, e, hs⟩ := hQS k hk
    obtain ⟨sb, so, e2, hl, hr⟩ := hS (by omega)
    refine ⟨sb, so, e2, ?_, ?_⟩
    · rw [hW.cell (p := ⟨sb, _, none⟩) hl, e]
      exact hr k hk 0 _ (by rw [e]; rfl)
    · rw [e]; exact hs)
  have HIR : Hid (∀ W, Below w.heap.size w W → ∀ k, k < ni → ∃ b o fr t, IA = some ⟨b, o, none⟩ ∧ FI k = [.int .i64 fr, .string t] ∧ t.size ≤ 1048576 ∧ W.cell? ⟨b, o + k * 2, none⟩ = some (.int .i64 fr) ∧ W.cell? ⟨b, o + k * 2 + 1, none⟩ = some (.string t)) := Lib.hid (fun W hW k hk => by
    obtain ⟨fr, t, e, hs⟩ := hQI k hk
    obtain ⟨b, o, e2, hl, hr⟩ := hI (by omega)
    refine ⟨b, o, fr, t, e2, e, hs, ?_, ?_⟩
    · rw [hW.cell (p := ⟨b, _, none⟩) hl]; exact hr k hk 0 _ (by rw [e]; rfl)
    · rw [hW.cell (p := ⟨b, _, none⟩) hl]; exact hr k hk 1 _ (by rw [e]; rfl))
  have HDR : Hid (∀ W, Below w.heap.size w W → ∀ k, k < nd → ∃ b o t p q, DA = some ⟨b, o, none⟩ ∧ FD k = [.string t, .int .u32 p, .int .u32 q] ∧ t.size ≤ 1048576 ∧ W.cell? ⟨b, o + k * 3, none⟩ = some (.string t) ∧ W.cell? ⟨b, o + k * 3 + 1, none⟩ = some (.int .u32 p) ∧ W.cell? ⟨b, o + k * 3 + 2, none⟩ = some (.int .u32 q)) := Lib.hid (fun W hW k hk => by
    obtain ⟨t, p, q, e, hs⟩ := hQD k hk
    obtain ⟨b, o, e2, hl, hr⟩ := hD (by omega)
    refine ⟨b, o, t, p, q, e2, e, hs, ?_, ?_, ?_⟩
    · rw [hW.cell (p := ⟨b, _, none⟩) hl]; exact hr k hk 0 _ (by rw [e]; rfl)
    · rw [hW.cell (p := ⟨b, _, none⟩) hl]; exact hr k hk 1 _ (by rw [e]; rfl)
    · rw [hW.cell (p := ⟨b, _, none⟩) hl]; exact hr k hk 2 _ (by rw [e]; rfl))
  have HGR : Hid (∀ W, Below w.heap.size w W → ∀ k, k < ng → ∃ b o s q, GA = some ⟨b, o, none⟩ ∧ FG k = [.int .i64 s, .bool q] ∧ W.cell? ⟨b, o + k * 2, none⟩ = some (.int .i64 s) ∧ W.cell? ⟨b, o + k * 2 + 1, none⟩ = some (.bool q)) := Lib.hid (fun W hW k hk => by
    obtain ⟨s, q, e⟩ := hQG k hk
    obtain ⟨b, o, e2, hl, hr⟩ := hG (by omega)
    refine ⟨b, o, s, q, e2, e, ?_, ?_⟩
    · rw [hW.cell (p := ⟨b, _, none⟩) hl]; exact hr k hk 0 _ (by rw [e]; rfl)
    · rw [hW.cell (p := ⟨b, _, none⟩) hl]; exact hr k hk 1 _ (by rw [e]; rfl))
  have d1 : decide ((ci : Int) < 0) = false := by simp
  have d2 : decide ((nc : Int) ≤ (ci : Int)) = false := by simp; omega
  have d3 : decide (nc ≤ ci) = false := by simp; omega
  have hcw := wrapN ci nc hci hnc
  have hcn : (ci : Int) < (nc : Int) := by omega
  have HS0 : Hid (MS w (((w.alloc (.cells #[.int .i64 st, .int .i64 tr, .slice SA ns sc, .slice (some ⟨cb, co, none⟩) nc cc, .int .i64 start, .string main] 25)).alloc (.cells #[.string sSw] 9)).alloc (.cells #[.string nm, .slice fA fn fc, .slice xA xn xc, .slice IA ni ic, .slice DA nd dc, .slice GA ng gc] 37)) [.int .i64 st, .int .i64 tr, .slice SA ns sc, .slice (some ⟨cb, co, none⟩) nc cc, .int .i64 start, .string main] [.string nm, .slice fA fn fc, .slice xA xn xc, .slice IA ni ic, .slice DA nd dc, .slice GA ng gc] 1 (l1 nc FC FI 0) (.slice (some ⟨w.heap.size + 1, 0, none⟩) 1 1)) := Lib.hid (by
    refine ⟨?_, ?_, ?_⟩
    · have := (own_new (w.alloc (.cells #[.int .i64 st, .int .i64 tr, .slice SA ns sc, .slice (some ⟨cb, co, none⟩) nc cc, .int .i64 start, .string main] 25)) sSw).alloc (.cells #[.string nm, .slice fA fn fc, .slice xA xn xc, .slice IA ni ic, .slice DA nd dc, .slice GA ng gc] 37)
      have hz : (w.alloc (.cells #[.int .i64 st, .int .i64 tr, .slice SA ns sc, .slice (some ⟨cb, co, none⟩) nc cc, .int .i64 start, .string main] 25)).heap.size = w.heap.size + 1 := by simp
      rw [hz] at this
      exact this
    · have := heap_alloc_new ((w.alloc (.cells #[.int .i64 st, .int .i64 tr, .slice SA ns sc, .slice (some ⟨cb, co, none⟩) nc cc, .int .i64 start, .string main] 25)).alloc (.cells #[.string sSw] 9)) (.cells #[.string nm, .slice fA fn fc, .slice xA xn xc, .slice IA ni ic, .slice DA nd dc, .slice GA ng gc] 37)
      have hz : ((w.alloc (.cells #[.int .i64 st, .int .i64 tr, .slice SA ns sc, .slice (some ⟨cb, co, none⟩) nc cc, .int .i64 start, .string main] 25)).alloc (.cells #[.string sSw] 9)).heap.size = w.heap.size + 2 := by simp
      rw [hz] at this
      exact this
    · exact ((Below.refl _ _).alloc (by simp) _).alloc (by simp) _)
  unfold sSw at HS0
  obtain ⟨i0, hi0, hz0, hz1, hz2⟩ := info9
  have HI0 := Lib.hid hi0
  have HZ0 := Lib.hid hz0
  have HZ1 := Lib.hid hz1
  have HZ2 := Lib.hid hz2
  clear hcc hrow hFC hS hQS hC hQN hI hQI hD hQD hG hQG hi0 hz0 hz1 hz2 hci
  go_enter Try.func6, Try.ntmps6
  go_wp2_with fail
  clear r0 r1 r2 r3 r4 r5
  go_loopw [5, 7, 8] (fun v i _ wr => M1R w [.int .i64 st, .int .i64 tr, .slice SA ns sc, .slice (some ⟨cb, co, none⟩) nc cc, .int .i64 start, .string main] [.string nm, .slice fA fn fc, .slice xA xn xc, .slice IA ni ic, .slice DA nd dc, .slice GA ng gc] nc FC FI ni v i wr) (fun _ i _ _ => ni - (intOf i).toNat)
  case atStart => exact ⟨0, Nat.zero_le _, rfl, HS0.out⟩
  case round =>
    obtain ⟨k, hk, rfl, hst⟩ := hrel
    obtain ⟨A6, c6, rfl, hc6⟩ := own_slice hst.1
    have HST := Lib.hid hst
    have HBW := Lib.hid hst.below
    clear hst
    by_cases hlt : k < ni
    · obtain ⟨b, o, fr, t, rfl, hF, ht, i0c, i1c⟩ := HIR.out _ HBW.out k hlt
      have hkn : (k : Int) < (ni : Int) := by omega
      have hkw := wrapN k ni hlt hni
      have HLT := Lib.hid hlt
      have HK : Hid (impS nc FC (FI k) = sImp ++ fromS nc FC fr ++ sDot ++ t) := Lib.hid (by rw [hF]; rfl)
      have HNL : Hid (1 + k + 1 ≤ maxLen) := Lib.hid (by unfold maxLen; omega)
      have HNB : Hid ((1 + k + 1) * 16 ≤ 140737488355328) := Lib.hid (by omega)
      have hz3 : w.heap.size + 3 ≤ wr.heap.size := HST.out.size
      have p3 := HST.out.pcell 3
      have q3 := HST.out.ccell 3
      simp at p3 q3
      clear hF hlt hk
      by_cases hin : 0 ≤ fr ∧ fr < nc
      · obtain ⟨j, rfl⟩ : ∃ j : Nat, fr = (j : Int) := ⟨fr.toNat, by omega⟩
        have hjn : j < nc := by omega
        obtain ⟨n0, ns0⟩ := HCN.out _ HBW.out j hjn
        have HFS : Hid (fromS nc FC (j : Int) = nmO (FC j)) := Lib.hid (by unfold fromS; rw [if_pos hin]; rfl)
        have e1 : decide ((0 : Int) ≤ (j : Int)) = true := by simp
        have e2 : decide ((j : Int) < (nc : Int)) = true := by simp; omega
        have e3 : decide (j < nc) = true := by simp; omega
        have hji : (j : Int) < (nc : Int) := by omega
        have hjw := wrapN j nc hjn hnc
        obtain ⟨s, hs⟩ : ∃ s, nmO (FC j) = s := ⟨_, rfl⟩
        rw [hs] at n0 ns0 HFS
        clear hs hin hjn
        go_wp2_with fail
        go_quiet (fail)
        generalize nq = d0 at *
        have HST := Lib.hid (HST.out.drewN d0)
        go_wp2_with fail
        go_quiet (fail)
        generalize nq = d1 at *
        have HST := Lib.hid (HST.out.drewN d1)
        obtain ⟨wz, hwz⟩ : ∃ wz, (wr.drewN d0).drewN d1 = wz := ⟨_, rfl⟩
        have q3z : wz.cell? ⟨w.heap.size + 2, 3, none⟩ = some (.slice (some ⟨b, o, none⟩) ni ic) := by rw [← hwz]; exact q3
        have i1cz : wz.cell? ⟨b, o + k * 2 + 1, none⟩ = some (.string t) := by rw [← hwz]; exact i1c
        rw [hwz] at HST ⊢
        have hzz := HST.out.size
        clear hwz q3 i1c
        have HO6 : Hid ((wz.alloc (.cells #[.string (⟨#[105, 109, 112, 111, 114, 116, 46]⟩ ++ s ++ ⟨#[46]⟩ ++ t)] 9)).ownsRow (w.heap.size + 1) 9 1 (.slice A6 (1 + k) c6) (1 + k) _) := Lib.hid (HST.out.lie _)
        have HBS : Hid (w.heap.size + 1 ≤ (wz.alloc (.cells #[.string (⟨#[105, 109, 112, 111, 114, 116, 46]⟩ ++ s ++ ⟨#[46]⟩ ++ t)] 9)).heap.size) := Lib.hid (by have := HST.out.size; simp; omega)
        go_wp2_with (at_builtin; refine wpList_append_lies _ (by rfl) _ _ 27 (by rfl) (w.heap.size + 1) 9 i0 (.string ⟨#[]⟩) 1 16 Try.underlying27 HI0.out HZ0.out HZ1.out HZ2.out rfl (by decide) (.slice A6 (1 + k) c6) (1 + k) _ (by rfl) HO6.out ⟨wz.heap.size, 0, none⟩ 1 1 [.string (⟨#[105, 109, 112, 111, 114, 116, 46]⟩ ++ s ++ ⟨#[46]⟩ ++ t)] (by rfl) rfl (one_at wz wz.heap.size rfl (.string (⟨#[105, 109, 112, 111, 114, 116, 46]⟩ ++ s ++ ⟨#[46]⟩ ++ t)) 9) (by intro u hu; simp at hu; subst hu; rfl) (by decide) HNL.out HNB.out HBS.out _ rfl ?_; intro g5 c5 w5 hown5 hgrow5 hat5 hlt5)
        have HLS : Hid (MS w w5 [.int .i64 st, .int .i64 tr, .slice SA ns sc, .slice (some ⟨cb, co, none⟩) nc cc, .int .i64 start, .string main] [.string nm, .slice fA fn fc, .slice xA xn xc, .slice (some ⟨b, o, none⟩) ni ic, .slice DA nd dc, .slice GA ng gc] _ (l1 nc FC FI (k + 1)) _) := Lib.hid (by rw [l1_succ, HK.out, HFS.out]; exact HST.out.app hown5 hgrow5)
        clear hown5 hgrow5
        go_roundw
        case rel => exact ⟨k + 1, HLT.out, by go_num, HLS.out⟩
        case measure => simp [intOf]; have := HLT.out; omega
      · have HFS : Hid (fromS nc FC fr = ⟨#[]⟩) := Lib.hid (by unfold fromS; rw [if_neg hin])
        by_cases h0 : 0 ≤ fr
        · have e1 : decide ((0 : Int) ≤ fr) = true := by simp; omega
          have e2 : decide (fr < (nc : Int)) = false := by simp; omega
          clear hin h0
          go_wp2_with fail
          go_quiet (fail)
          generalize nq = d0 at *
          have HST := Lib.hid (HST.out.drewN d0)
          obtain ⟨wz, hwz⟩ : ∃ wz, wr.drewN d0 = wz := ⟨_, rfl⟩
          have q3z : wz.cell? ⟨w.heap.size + 2, 3, none⟩ = some (.slice (some ⟨b, o, none⟩) ni ic) := by rw [← hwz]; exact q3
          have i1cz : wz.cell? ⟨b, o + k * 2 + 1, none⟩ = some (.string t) := by rw [← hwz]; exact i1c
          rw [hwz] at HST ⊢
          have hzz := HST.out.size
          clear hwz q3 i1c
          have HO6 : Hid ((wz.alloc (.cells #[.string (⟨#[105, 109, 112, 111, 114, 116, 46]⟩ ++ ⟨#[]⟩ ++ ⟨#[46]⟩ ++ t)] 9)).ownsRow (w.heap.size + 1) 9 1 (.slice A6 (1 + k) c6) (1 + k) _) := Lib.hid (HST.out.lie _)
          have HBS : Hid (w.heap.size + 1 ≤ (wz.alloc (.cells #[.string (⟨#[105, 109, 112, 111, 114, 116, 46]⟩ ++ ⟨#[]⟩ ++ ⟨#[46]⟩ ++ t)] 9)).heap.size) := Lib.hid (by have := HST.out.size; simp; omega)
          go_wp2_with (at_builtin; refine wpList_append_lies _ (by rfl) _ _ 27 (by rfl) (w.heap.size + 1) 9 i0 (.string ⟨#[]⟩) 1 16 Try.underlying27 HI0.out HZ0.out HZ1.out HZ2.out rfl (by decide) (.slice A6 (1 + k) c6) (1 + k) _ (by rfl) HO6.out ⟨wz.heap.size, 0, none⟩ 1 1 [.string (⟨#[105, 109, 112, 111, 114, 116, 46]⟩ ++ ⟨#[]⟩ ++ ⟨#[46]⟩ ++ t)] (by rfl) rfl (one_at wz wz.heap.size rfl (.string (⟨#[105, 109, 112, 111, 114, 116, 46]⟩ ++ ⟨#[]⟩ ++ ⟨#[46]⟩ ++ t)) 9) (by intro u hu; simp at hu; subst hu; rfl) (by decide) HNL.out HNB.out HBS.out _ rfl ?_; intro g5 c5 w5 hown5 hgrow5 hat5 hlt5)
          have HLS : Hid (MS w w5 [.int .i64 st, .int .i64 tr, .slice SA ns sc, .slice (some ⟨cb, co, none⟩) nc cc, .int .i64 start, .string main] [.string nm, .slice fA fn fc, .slice xA xn xc, .slice (some ⟨b, o, none⟩) ni ic, .slice DA nd dc, .slice GA ng gc] _ (l1 nc FC FI (k + 1)) _) := Lib.hid (by rw [l1_succ, HK.out, HFS.out]; exact HST.out.app hown5 hgrow5)
          clear hown5 hgrow5
          go_roundw
          case rel => exact ⟨k + 1, HLT.out, by go_num, HLS.out⟩
          case measure => simp [intOf]; have := HLT.out; omega
        · have e1 : decide ((0 : Int) ≤ fr) = false := by simp; omega
          clear hin h0
          go_wp2_with fail
          go_quiet (fail)
          generalize nq = d0 at *
          have HST := Lib.hid (HST.out.drewN d0)
          obtain ⟨wz, hwz⟩ : ∃ wz, wr.drewN d0 = wz := ⟨_, rfl⟩
          have q3z : wz.cell? ⟨w.heap.size + 2, 3, none⟩ = some (.slice (some ⟨b, o, none⟩) ni ic) := by rw [← hwz]; exact q3
          have i1cz : wz.cell? ⟨b, o + k * 2 + 1, none⟩ = some (.string t) := by rw [← hwz]; exact i1c
          rw [hwz] at HST ⊢
          have hzz := HST.out.size
          clear hwz q3 i1c
          have HO6 : Hid ((wz.alloc (.cells #[.string (⟨#[105, 109, 112, 111, 114, 116, 46]⟩ ++ ⟨#[]⟩ ++ ⟨#[46]⟩ ++ t)] 9)).ownsRow (w.heap.size + 1) 9 1 (.slice A6 (1 + k) c6) (1 + k) _) := Lib.hid (HST.out.lie _)
          have HBS : Hid (w.heap.size + 1 ≤ (wz.alloc (.cells #[.string (⟨#[105, 109, 112, 111, 114, 116, 46]⟩ ++ ⟨#[]⟩ ++ ⟨#[46]⟩ ++ t)] 9)).heap.size) := Lib.hid (by have := HST.out.size; simp; omega)
          go_wp2_with (at_builtin; refine wpList_append_lies _ (by rfl) _ _ 27 (by rfl) (w.heap.size + 1) 9 i0 (.string ⟨#[]⟩) 1 16 Try.underlying27 HI0.out HZ0.out HZ1.out HZ2.out rfl (by decide) (.slice A6 (1 + k) c6) (1 + k) _ (by rfl) HO6.out ⟨wz.heap.size, 0, none⟩ 1 1 [.string (⟨#[105, 109, 112, 111, 114, 116, 46]⟩ ++ ⟨#[]⟩ ++ ⟨#[46]⟩ ++ t)] (by rfl) rfl (one_at wz wz.heap.size rfl (.string (⟨#[105, 109, 112, 111, 114, 116, 46]⟩ ++ ⟨#[]⟩ ++ ⟨#[46]⟩ ++ t)) 9) (by intro u hu; simp at hu; subst hu; rfl) (by decide) HNL.out HNB.out HBS.out _ rfl ?_; intro g5 c5 w5 hown5 hgrow5 hat5 hlt5)
          have HLS : Hid (MS w w5 [.int .i64 st, .int .i64 tr, .slice SA ns sc, .slice (some ⟨cb, co, none⟩) nc cc, .int .i64 start, .string main] [.string nm, .slice fA fn fc, .slice xA xn xc, .slice (some ⟨b, o, none⟩) ni ic, .slice DA nd dc, .slice GA ng gc] _ (l1 nc FC FI (k + 1)) _) := Lib.hid (by rw [l1_succ, HK.out, HFS.out]; exact HST.out.app hown5 hgrow5)
          clear hown5 hgrow5
          go_roundw
          case rel => exact ⟨k + 1, HLT.out, by go_num, HLS.out⟩
          case measure => simp [intOf]; have := HLT.out; omega
    · obtain rfl : ni = k := by omega
      obtain ⟨L, hL⟩ : ∃ L, l1 nc FC FI ni = L := ⟨_, rfl⟩
      have HL := Lib.hid hL
      have HLe : Hid (L.length = 1 + ni) := Lib.hid (by rw [← hL, l1_len])
      rw [hL] at HST
      have HO1 : Hid (MS w wr [.int .i64 st, .int .i64 tr, .slice SA ns sc, .slice (some ⟨cb, co, none⟩) nc cc, .int .i64 start, .string main] [.string nm, .slice fA fn fc, .slice xA xn xc, .slice IA ni ic, .slice DA nd dc, .slice GA ng gc] (1 + ni + 0) (l2 L FD 0) (.slice A6 (1 + ni) c6)) := Lib.hid (by have := HST.out; unfold l2; simpa using this)
      have q3 := HST.out.ccell 3
      simp at q3
      clear hL hk hlt
      go_wp2_with fail
      clear q3
      go_loopw [5, 9] (fun v i wr => M2R w [.int .i64 st, .int .i64 tr, .slice SA ns sc, .slice (some ⟨cb, co, none⟩) nc cc, .int .i64 start, .string main] [.string nm, .slice fA fn fc, .slice xA xn xc, .slice IA ni ic, .slice DA nd dc, .slice GA ng gc] (1 + ni) L FD nd v i wr) (fun _ i _ => nd - (intOf i).toNat)
      case atStart => exact ⟨0, Nat.zero_le _, rfl, HO1.out⟩
      case round =>
        obtain ⟨k, hk, rfl, hst⟩ := hrel
        obtain ⟨A6, c6, rfl, hc6⟩ := own_slice hst.1
        have HST := Lib.hid hst
        have HBW := Lib.hid hst.below
        clear hst
        by_cases hlt : k < nd
        · obtain ⟨b, o, t, p, q, rfl, hF, ht, i0c, i1c, i2c⟩ := HDR.out _ HBW.out k hlt
          have hkn : (k : Int) < (nd : Int) := by omega
          have hkw := wrapN k nd hlt hnd
          have HK : Hid (devS (FD k) = sDev ++ t) := Lib.hid (by rw [hF]; rfl)
          have HLT := Lib.hid hlt
          have HNL : Hid (1 + ni + k + 1 ≤ maxLen) := Lib.hid (by unfold maxLen; omega)
          have HNB : Hid ((1 + ni + k + 1) * 16 ≤ 140737488355328) := Lib.hid (by omega)
          have hz3 : w.heap.size + 3 ≤ wr.heap.size := HST.out.size
          have q4 := HST.out.ccell 4
          simp at q4
          clear hF hlt hk
          have HO6 : Hid ((wr.alloc (.cells #[.string (⟨#[100, 101, 118, 105, 99, 101, 46]⟩ ++ t)] 9)).ownsRow (w.heap.size + 1) 9 1 (.slice A6 (1 + ni + k) c6) (1 + ni + k) _) := Lib.hid (HST.out.lie _)
          have HBS : Hid (w.heap.size + 1 ≤ (wr.alloc (.cells #[.string (⟨#[100, 101, 118, 105, 99, 101, 46]⟩ ++ t)] 9)).heap.size) := Lib.hid (by have := HST.out.size; simp; omega)
          go_wp2_with (at_builtin; refine wpList_append_lies _ (by rfl) _ _ 27 (by rfl) (w.heap.size + 1) 9 i0 (.string ⟨#[]⟩) 1 16 Try.underlying27 HI0.out HZ0.out HZ1.out HZ2.out rfl (by decide) (.slice A6 (1 + ni + k) c6) (1 + ni + k) _ (by rfl) HO6.out ⟨wr.heap.size, 0, none⟩ 1 1 [.string (⟨#[100, 101, 118, 105, 99, 101, 46]⟩ ++ t)] (by rfl) rfl (one_at wr wr.heap.size rfl (.string (⟨#[100, 101, 118, 105, 99, 101, 46]⟩ ++ t)) 9) (by intro u hu; simp at hu; subst hu; rfl) (by decide) HNL.out HNB.out HBS.out _ rfl ?_; intro g5 c5 w5 hown5 hgrow5 hat5 hlt5)
          have HLS : Hid (MS w w5 [.int .i64 st, .int .i64 tr, .slice SA ns sc, .slice (some ⟨cb, co, none⟩) nc cc, .int .i64 start, .string main] [.string nm, .slice fA fn fc, .slice xA xn xc, .slice IA ni ic, .slice (some ⟨b, o, none⟩) nd dc, .slice GA ng gc] _ (l2 L FD (k + 1)) _) := Lib.hid (by rw [l2_succ, HK.out]; exact HST.out.app hown5 hgrow5)
          clear hown5 hgrow5
          go_roundw
          case rel => exact ⟨k + 1, HLT.out, by go_num, HLS.out⟩
          case measure => simp [intOf]; have := HLT.out; omega
        · obtain rfl : nd = k := by omega
          obtain ⟨M, hM⟩ : ∃ M, l2 L FD nd = M := ⟨_, rfl⟩
          have HM := Lib.hid hM
          have HML : Hid (M.length = 1 + ni + nd) := Lib.hid (by rw [← hM, l2_len, HLe.out])
          rw [hM] at HST
          have HO2 : Hid (MS w wr [.int .i64 st, .int .i64 tr, .slice SA ns sc, .slice (some ⟨cb, co, none⟩) nc cc, .int .i64 start, .string main] [.string nm, .slice fA fn fc, .slice xA xn xc, .slice IA ni ic, .slice DA nd dc, .slice GA ng gc] (1 + ni + nd + 0) (l3 M ns FS FG 0) (.slice A6 (1 + ni + nd) c6)) := Lib.hid (by have := HST.out; unfold l3; simpa using this)
          have q4 := HST.out.ccell 4
          simp at q4
          clear hM hk hlt
          go_wp2_with fail
          clear q4
          go_loopw [5, 10, 11] (fun v i _ wr => M3R w [.int .i64 st, .int .i64 tr, .slice SA ns sc, .slice (some ⟨cb, co, none⟩) nc cc, .int .i64 start, .string main] [.string nm, .slice fA fn fc, .slice xA xn xc, .slice IA ni ic, .slice DA nd dc, .slice GA ng gc] (1 + ni + nd) M ns FS FG ng v i wr) (fun _ i _ _ => ng - (intOf i).toNat)
          case atStart => exact ⟨0, Nat.zero_le _, rfl, HO2.out⟩
          case round =>
            obtain ⟨k, hk, rfl, hst⟩ := hrel
            obtain ⟨A6, c6, rfl, hc6⟩ := own_slice hst.1
            have HST := Lib.hid hst
            have HBW := Lib.hid hst.below
            clear hst
            by_cases hlt : k < ng
            · obtain ⟨b, o, s, q, rfl, hF, i0c, i1c⟩ := HGR.out _ HBW.out k hlt
              have hkn : (k : Int) < (ng : Int) := by omega
              have hkw := wrapN k ng hlt hng
              have HK : Hid (givS ns FS (FG k) = sSha ++ fromS ns FS s) := Lib.hid (by rw [hF]; rfl)
              have HLT := Lib.hid hlt
              have HNL : Hid (1 + ni + nd + k + 1 ≤ maxLen) := Lib.hid (by unfold maxLen; omega)
              have HNB : Hid ((1 + ni + nd + k + 1) * 16 ≤ 140737488355328) := Lib.hid (by omega)
              have hz3 : w.heap.size + 3 ≤ wr.heap.size := HST.out.size
              have p2 := HST.out.pcell 2
              have q5 := HST.out.ccell 5
              simp at p2 q5
              clear hF hlt hk
              by_cases hin : 0 ≤ s ∧ s < ns
              · obtain ⟨j, rfl⟩ : ∃ j : Nat, s = (j : Int) := ⟨s.toNat, by omega⟩
                have hjn : j < ns := by omega
                obtain ⟨sb, so, rfl, n0, ns0⟩ := HSN.out _ HBW.out j hjn
                have HFS : Hid (fromS ns FS (j : Int) = nmO (FS j)) := Lib.hid (by unfold fromS; rw [if_pos hin]; rfl)
                have e1 : decide ((0 : Int) ≤ (j : Int)) = true := by simp
                have e2 : decide ((j : Int) < (ns : Int)) = true := by simp; omega
                have e3 : decide (j < ns) = true := by simp; omega
                have hji : (j : Int) < (ns : Int) := by omega
                have hjw := wrapN j ns hjn hns
                obtain ⟨x, hx⟩ : ∃ x, nmO (FS j) = x := ⟨_, rfl⟩
                rw [hx] at n0 ns0 HFS
                clear hx hin hjn
                go_wp2_with fail
                go_quiet (fail)
                generalize nq = d0 at *
                have HST := Lib.hid (HST.out.drewN d0)
                go_wp2_with fail
                go_quiet (fail)
                generalize nq = d1 at *
                have HST := Lib.hid (HST.out.drewN d1)
                obtain ⟨wz, hwz⟩ : ∃ wz, (wr.drewN d0).drewN d1 = wz := ⟨_, rfl⟩
                rw [hwz] at HST ⊢
                have hzz := HST.out.size
                clear hwz 
                have HO6 : Hid ((wz.alloc (.cells #[.string (⟨#[115, 104, 97, 114, 101, 46]⟩ ++ x)] 9)).ownsRow (w.heap.size + 1) 9 1 (.slice A6 (1 + ni + nd + k) c6) (1 + ni + nd + k) _) := Lib.hid (HST.out.lie _)
                have HBS : Hid (w.heap.size + 1 ≤ (wz.alloc (.cells #[.string (⟨#[115, 104, 97, 114, 101, 46]⟩ ++ x)] 9)).heap.size) := Lib.hid (by have := HST.out.size; simp; omega)
                go_wp2_with (at_builtin; refine wpList_append_lies _ (by rfl) _ _ 27 (by rfl) (w.heap.size + 1) 9 i0 (.string ⟨#[]⟩) 1 16 Try.underlying27 HI0.out HZ0.out HZ1.out HZ2.out rfl (by decide) (.slice A6 (1 + ni + nd + k) c6) (1 + ni + nd + k) _ (by rfl) HO6.out ⟨wz.heap.size, 0, none⟩ 1 1 [.string (⟨#[115, 104, 97, 114, 101, 46]⟩ ++ x)] (by rfl) rfl (one_at wz wz.heap.size rfl (.string (⟨#[115, 104, 97, 114, 101, 46]⟩ ++ x)) 9) (by intro u hu; simp at hu; subst hu; rfl) (by decide) HNL.out HNB.out HBS.out _ rfl ?_; intro g5 c5 w5 hown5 hgrow5 hat5 hlt5)
                have HLS : Hid (MS w w5 [.int .i64 st, .int .i64 tr, .slice (some ⟨sb, so, none⟩) ns sc, .slice (some ⟨cb, co, none⟩) nc cc, .int .i64 start, .string main] [.string nm, .slice fA fn fc, .slice xA xn xc, .slice IA ni ic, .slice DA nd dc, .slice (some ⟨b, o, none⟩) ng gc] _ (l3 M ns FS FG (k + 1)) _) := Lib.hid (by rw [l3_succ, HK.out, HFS.out]; exact HST.out.app hown5 hgrow5)
                clear hown5 hgrow5
                go_roundw
                case rel => exact ⟨k + 1, HLT.out, by go_num, HLS.out⟩
                case measure => simp [intOf]; have := HLT.out; omega
              · have HFS : Hid (fromS ns FS s = ⟨#[]⟩) := Lib.hid (by unfold fromS; rw [if_neg hin])
                by_cases h0 : 0 ≤ s
                · have e1 : decide ((0 : Int) ≤ s) = true := by simp; omega
                  have e2 : decide (s < (ns : Int)) = false := by simp; omega
                  clear hin h0
                  go_wp2_with fail
                  go_quiet (fail)
                  generalize nq = d0 at *
                  have HST := Lib.hid (HST.out.drewN d0)
                  obtain ⟨wz, hwz⟩ : ∃ wz, wr.drewN d0 = wz := ⟨_, rfl⟩
                  rw [hwz] at HST ⊢
                  have hzz := HST.out.size
                  clear hwz 
                  have HO6 : Hid ((wz.alloc (.cells #[.string (⟨#[115, 104, 97, 114, 101, 46]⟩ ++ ⟨#[]⟩)] 9)).ownsRow (w.heap.size + 1) 9 1 (.slice A6 (1 + ni + nd + k) c6) (1 + ni + nd + k) _) := Lib.hid (HST.out.lie _)
                  have HBS : Hid (w.heap.size + 1 ≤ (wz.alloc (.cells #[.string (⟨#[115, 104, 97, 114, 101, 46]⟩ ++ ⟨#[]⟩)] 9)).heap.size) := Lib.hid (by have := HST.out.size; simp; omega)
                  go_wp2_with (at_builtin; refine wpList_append_lies _ (by rfl) _ _ 27 (by rfl) (w.heap.size + 1) 9 i0 (.string ⟨#[]⟩) 1 16 Try.underlying27 HI0.out HZ0.out HZ1.out HZ2.out rfl (by decide) (.slice A6 (1 + ni + nd + k) c6) (1 + ni + nd + k) _ (by rfl) HO6.out ⟨wz.heap.size, 0, none⟩ 1 1 [.string (⟨#[115, 104, 97, 114, 101, 46]⟩ ++ ⟨#[]⟩)] (by rfl) rfl (one_at wz wz.heap.size rfl (.string (⟨#[115, 104, 97, 114, 101, 46]⟩ ++ ⟨#[]⟩)) 9) (by intro u hu; simp at hu; subst hu; rfl) (by decide) HNL.out HNB.out HBS.out _ rfl ?_; intro g5 c5 w5 hown5 hgrow5 hat5 hlt5)
                  have HLS : Hid (MS w w5 [.int .i64 st, .int .i64 tr, .slice SA ns sc, .slice (some ⟨cb, co, none⟩) nc cc, .int .i64 start, .string main] [.string nm, .slice fA fn fc, .slice xA xn xc, .slice IA ni ic, .slice DA nd dc, .slice (some ⟨b, o, none⟩) ng gc] _ (l3 M ns FS FG (k + 1)) _) := Lib.hid (by rw [l3_succ, HK.out, HFS.out]; exact HST.out.app hown5 hgrow5)
                  clear hown5 hgrow5
                  go_roundw
                  case rel => exact ⟨k + 1, HLT.out, by go_num, HLS.out⟩
                  case measure => simp [intOf]; have := HLT.out; omega
                · have e1 : decide ((0 : Int) ≤ s) = false := by simp; omega
                  clear hin h0
                  go_wp2_with fail
                  go_quiet (fail)
                  generalize nq = d0 at *
                  have HST := Lib.hid (HST.out.drewN d0)
                  obtain ⟨wz, hwz⟩ : ∃ wz, wr.drewN d0 = wz := ⟨_, rfl⟩
                  rw [hwz] at HST ⊢
                  have hzz := HST.out.size
                  clear hwz 
                  have HO6 : Hid ((wz.alloc (.cells #[.string (⟨#[115, 104, 97, 114, 101, 46]⟩ ++ ⟨#[]⟩)] 9)).ownsRow (w.heap.size + 1) 9 1 (.slice A6 (1 + ni + nd + k) c6) (1 + ni + nd + k) _) := Lib.hid (HST.out.lie _)
                  have HBS : Hid (w.heap.size + 1 ≤ (wz.alloc (.cells #[.string (⟨#[115, 104, 97, 114, 101, 46]⟩ ++ ⟨#[]⟩)] 9)).heap.size) := Lib.hid (by have := HST.out.size; simp; omega)
                  go_wp2_with (at_builtin; refine wpList_append_lies _ (by rfl) _ _ 27 (by rfl) (w.heap.size + 1) 9 i0 (.string ⟨#[]⟩) 1 16 Try.underlying27 HI0.out HZ0.out HZ1.out HZ2.out rfl (by decide) (.slice A6 (1 + ni + nd + k) c6) (1 + ni + nd + k) _ (by rfl) HO6.out ⟨wz.heap.size, 0, none⟩ 1 1 [.string (⟨#[115, 104, 97, 114, 101, 46]⟩ ++ ⟨#[]⟩)] (by rfl) rfl (one_at wz wz.heap.size rfl (.string (⟨#[115, 104, 97, 114, 101, 46]⟩ ++ ⟨#[]⟩)) 9) (by intro u hu; simp at hu; subst hu; rfl) (by decide) HNL.out HNB.out HBS.out _ rfl ?_; intro g5 c5 w5 hown5 hgrow5 hat5 hlt5)
                  have HLS : Hid (MS w w5 [.int .i64 st, .int .i64 tr, .slice SA ns sc, .slice (some ⟨cb, co, none⟩) nc cc, .int .i64 start, .string main] [.string nm, .slice fA fn fc, .slice xA xn xc, .slice IA ni ic, .slice DA nd dc, .slice (some ⟨b, o, none⟩) ng gc] _ (l3 M ns FS FG (k + 1)) _) := Lib.hid (by rw [l3_succ, HK.out, HFS.out]; exact HST.out.app hown5 hgrow5)
                  clear hown5 hgrow5
                  go_roundw
                  case rel => exact ⟨k + 1, HLT.out, by go_num, HLS.out⟩
                  case measure => simp [intOf]; have := HLT.out; omega
            · obtain rfl : ng = k := by omega
              have q5 := HST.out.ccell 5
              simp at q5
              have hlen := l3_len M ns FS FG ng
              go_wp2_with fail
              go_ret
              rw [HL.out, HM.out]
              exact HST.out.out (by rw [hlen, HML.out])
end Go.Proofs.Ytbbcljffcjhiaaa
