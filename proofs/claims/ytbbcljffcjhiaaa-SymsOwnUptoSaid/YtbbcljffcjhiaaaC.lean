import Derived.Test.YtbbcljffcjhiaaaB
namespace Go.Proofs.Ytbbcljffcjhiaaa
open Go.ChangeShapes Go.WideShapes Go.ChangeAt Go.RowKit
set_option linter.unusedVariables false
set_option linter.unusedSimpArgs false
def OwnOut (L : List ByteArray) (w : World) (e : Ending) (w' : World) : Prop := ∃ V, e = .returned V ∧ w'.ownsRow w.heap.size 9 1 V L.length (L.map Value.string) ∧ Below w.heap.size w w'
def L1R (w : World) (pv cv : List Value) (nc : Nat) (FC FI : Nat → List Value) (ni : Nat) (v i : Value) (wr : World) : Prop :=
  ∃ k, k ≤ ni ∧ i = .int .i64 (k : Int) ∧ wr.ownsRow (w.heap.size + 2) 9 1 v (1 + k) ((l1 nc FC FI k).map Value.string) ∧ Below (w.heap.size + 2) (w2 w pv cv) wr
def L2R (w : World) (pv cv : List Value) (LL : Nat) (L : List ByteArray) (FD : Nat → List Value) (nd : Nat) (v i : Value) (wr : World) : Prop :=
  ∃ k, k ≤ nd ∧ i = .int .i64 (k : Int) ∧ wr.ownsRow (w.heap.size + 2) 9 1 v (LL + k) ((l2 L FD k).map Value.string) ∧ Below (w.heap.size + 2) (w2 w pv cv) wr
def L3R (w : World) (pv cv : List Value) (LL : Nat) (L : List ByteArray) (ns : Nat) (FS FG : Nat → List Value) (ng : Nat) (v i : Value) (wr : World) : Prop :=
  ∃ k, k ≤ ng ∧ i = .int .i64 (k : Int) ∧ wr.ownsRow (w.heap.size + 2) 9 1 v (LL + k) ((l3 L ns FS FG k).map Value.string) ∧ Below (w.heap.size + 2) (w2 w pv cv) wr
theorem own_base {w : World} {B B' e size n : Nat} {v : Value} {xs : List Value} (h : w.ownsRow B e size v n xs) (hB : B' ≤ B) : w.ownsRow B' e size v n xs := by
  obtain ⟨h1, h2⟩ := h
  refine ⟨h1, ?_⟩
  rcases h2 with h2 | ⟨g, cap, cur, a, b, c, d⟩
  · exact Or.inl h2
  · exact Or.inr ⟨g, cap, cur, a, Nat.le_trans hB b, c, d⟩
theorem wrapN (k n : Nat) (h : k < n) (hn : n ≤ 1048576) : IntKind.i64.wrap (k : Int) = (k : Int) := by rw [IntKind.wrap_i64]; omega
set_option maxRecDepth 100000 in
set_option maxHeartbeats 8000000 in
theorem c5_in (st tr : Int) (SA : Option Addr) (ns sc : Nat) (FS : Nat → List Value) (CA : Option Addr) (nc cc : Nat) (FC : Nat → List Value) (start : Int) (main : ByteArray) (ci : Nat) (nm : ByteArray) (fA : Option Addr) (fn fc : Nat) (xA : Option Addr) (xn xc : Nat)
    (IA : Option Addr) (ni ic : Nat) (FI : Nat → List Value) (DA : Option Addr) (nd dc : Nat) (FD : Nat → List Value) (GA : Option Addr) (ng gc : Nat) (FG : Nat → List Value) (w : World)
    (hci : ci < nc) (hFC : FC ci = [.string nm, .slice fA fn fc, .slice xA xn xc, .slice IA ni ic, .slice DA nd dc, .slice GA ng gc])
    (hS : Rw w SA ns 2 FS) (hQS : ∀ k, k < ns → QS 1048576 (FS k)) (hns : ns ≤ 1048576) (hC : Rw w CA nc 6 FC) (hQN : ∀ k, k < nc → ∃ s r, FC k = .string s :: r ∧ s.size ≤ 1048576) (hnc : nc ≤ 1048576)
    (hI : Rw w IA ni 2 FI) (hQI : ∀ k, k < ni → QI 1048576 (FI k)) (hni : ni ≤ 1048576) (hD : Rw w DA nd 3 FD) (hQD : ∀ k, k < nd → QD 1048576 (FD k)) (hnd : nd ≤ 1048576) (hG : Rw w GA ng 2 FG) (hQG : ∀ k, k < ng → QG (FG k)) (hng : ng ≤ 1048576) :
    Calls Try.prog 5 #[.agg #[.int .i64 st, .int .i64 tr, .slice SA ns sc, .slice CA nc cc, .int .i64 start, .string main], .int .i64 (ci : Int)] w fun e w' => OwnOut (l3 (l2 (l1 nc FC FI ni) FD nd) ns FS FG ng) w e w' := by
  obtain ⟨cb, co, rfl, hcl, hcc⟩ := hC (by omega)
  have HBX : Hid (∀ W, Below (w.heap.size + 2) (w2 w [.int .i64 st, .int .i64 tr, .slice SA ns sc, .slice (some ⟨cb, co, none⟩) nc cc, .int .i64 start, .string main] [.string nm, .slice fA fn fc, .slice xA xn xc, .slice IA ni ic, .slice DA nd dc, .slice GA ng gc]) W → (∀ j, W.cell? ⟨w.heap.size, j, none⟩ = ([.int .i64 st, .int .i64 tr, .slice SA ns sc, .slice (some ⟨cb, co, none⟩) nc cc, .int .i64 start, .string main] : List Value)[j]?) ∧ (∀ j, W.cell? ⟨w.heap.size + 1, j, none⟩ = ([.string nm, .slice fA fn fc, .slice xA xn xc, .slice IA ni ic, .slice DA nd dc, .slice GA ng gc] : List Value)[j]?) ∧ Below w.heap.size w W) := Lib.hid (fun W hW => w2_at hW)
  have hrow : ∀ j v, ([.string nm, .slice fA fn fc, .slice xA xn xc, .slice IA ni ic, .slice DA nd dc, .slice GA ng gc] : List Value)[j]? = some v → w.cell? ⟨cb, co + ci * 6 + j, none⟩ = some v := fun j v hv => hcc ci hci j v (by rw [hFC]; exact hv)
  have r0 := hrow 0 _ rfl
  have r1 := hrow 1 _ rfl
  have r2 := hrow 2 _ rfl
  have r3 := hrow 3 _ rfl
  have r4 := hrow 4 _ rfl
  have r5 := hrow 5 _ rfl
  rw [Nat.add_zero] at r0
  have HCN : Hid (∀ W, Below w.heap.size w W → ∀ k, k < nc → W.cell? ⟨cb, co + k * 6, none⟩ = some (.string (nmO (FC k))) ∧ (nmO (FC k)).size ≤ 1048576) := Lib.hid (fun W hW k hk => by
    obtain ⟨s, r, e, hs⟩ := hQN k hk
    rw [hW.cell (p := ⟨cb, _, none⟩) hcl, e]
    exact ⟨hcc k hk 0 (.string s) (by rw [e]; rfl), hs⟩)
  have HSN : Hid (∀ W, Below w.heap.size w W → ∀ k, k < ns → ∃ sb so, SA = some ⟨sb, so, none⟩ ∧ W.cell? ⟨sb, so + k * 2, none⟩ = some (.string (nmO (FS k))) ∧ (nmO (FS k)).size ≤ 1048576) := Lib.hid (fun W hW k hk => by
    obtain ⟨s, q, e, hs⟩ := hQS k hk
    obtain ⟨sb, so, e2, hl, hr⟩ := hS (by omega)
    refine ⟨sb, so, e2, ?_, ?_⟩
    · rw [hW.cell (p := ⟨sb, _, none⟩) hl, e]
      exact hr k hk 0 _ (by rw [e]; rfl)
    · rw [e]; exact hs)
  have HIR : Hid (∀ W, Below w.heap.size w W → ∀ k, k < ni → ∃ b o fr t, IA = some ⟨b, o, none⟩ ∧ FI k = [.int .i64 fr, .string t] ∧ t.size ≤ 1048576 ∧ W.cell? ⟨b, o + k * 2, none⟩ = some (.int .i64 fr) ∧ W.cell? ⟨b, o + k * 2 + 1, none⟩ = some (.string t)) := Lib.hid (fun W hW k hk => by
    obtain ⟨fr, t, e, hs⟩ := hQI k hk
    obtain ⟨b, o, e2, hl, hr⟩ := hI (by omega)
    refine ⟨b, o, fr, t, e2, e, hs, ?_, ?_⟩
    · rw [hW.cell (p := ⟨b, _, none⟩) hl]; exact hr k hk 0 _ (by rw [e]; rfl)
    · rw [hW.cell (p := ⟨b, _, none⟩) hl]; exact hr k hk 1 _ (by rw [e]; rfl))
  have HDR : Hid (∀ W, Below w.heap.size w W → ∀ k, k < nd → ∃ b o t p q, DA = some ⟨b, o, none⟩ ∧ FD k = [.string t, .int .u32 p, .int .u32 q] ∧ t.size ≤ 1048576 ∧ W.cell? ⟨b, o + k * 3, none⟩ = some (.string t) ∧ W.cell? ⟨b, o + k * 3 + 1, none⟩ = some (.int .u32 p) ∧ W.cell? ⟨b, o + k * 3 + 2, none⟩ = some (.int .u32 q)) := Lib.hid (fun W hW k hk => by
    obtain ⟨t, p, q, e, hs⟩ := hQD k hk
    obtain ⟨b, o, e2, hl, hr⟩ := hD (by omega)
    refine ⟨b, o, t, p, q, e2, e, hs, ?_, ?_, ?_⟩
    · rw [hW.cell (p := ⟨b, _, none⟩) hl]; exact hr k hk 0 _ (by rw [e]; rfl)
    · rw [hW.cell (p := ⟨b, _, none⟩) hl]; exact hr k hk 1 _ (by rw [e]; rfl)
    · rw [hW.cell (p := ⟨b, _, none⟩) hl]; exact hr k hk 2 _ (by rw [e]; rfl))
  have HGR : Hid (∀ W, Below w.heap.size w W → ∀ k, k < ng → ∃ b o s q, GA = some ⟨b, o, none⟩ ∧ FG k = [.int .i64 s, .bool q] ∧ W.cell? ⟨b, o + k * 2, none⟩ = some (.int .i64 s) ∧ W.cell? ⟨b, o + k * 2 + 1, none⟩ = some (.bool q)) := Lib.hid (fun W hW k hk => by
    obtain ⟨s, q, e⟩ := hQG k hk
    obtain ⟨b, o, e2, hl, hr⟩ := hG (by omega)
    refine ⟨b, o, s, q, e2, e, ?_, ?_⟩
    · rw [hW.cell (p := ⟨b, _, none⟩) hl]; exact hr k hk 0 _ (by rw [e]; rfl)
    · rw [hW.cell (p := ⟨b, _, none⟩) hl]; exact hr k hk 1 _ (by rw [e]; rfl))
  have d1 : decide ((ci : Int) < 0) = false := by simp
  have d2 : decide ((nc : Int) ≤ (ci : Int)) = false := by simp; omega
  have d3 : decide (nc ≤ ci) = false := by simp; omega
  have hcw := wrapN ci nc hci hnc
  have hcn : (ci : Int) < (nc : Int) := by omega
  have HS0 : Hid (((w2 w [.int .i64 st, .int .i64 tr, .slice SA ns sc, .slice (some ⟨cb, co, none⟩) nc cc, .int .i64 start, .string main] [.string nm, .slice fA fn fc, .slice xA xn xc, .slice IA ni ic, .slice DA nd dc, .slice GA ng gc]).alloc (.cells #[.string sSw] 9)).ownsRow (w.heap.size + 2) 9 1 (.slice (some ⟨w.heap.size + 2, 0, none⟩) 1 1) 1 ((l1 nc FC FI 0).map Value.string)) := Lib.hid (by
    have := own_new (w2 w [.int .i64 st, .int .i64 tr, .slice SA ns sc, .slice (some ⟨cb, co, none⟩) nc cc, .int .i64 start, .string main] [.string nm, .slice fA fn fc, .slice xA xn xc, .slice IA ni ic, .slice DA nd dc, .slice GA ng gc]) sSw
    have hz : (w2 w [.int .i64 st, .int .i64 tr, .slice SA ns sc, .slice (some ⟨cb, co, none⟩) nc cc, .int .i64 start, .string main] [.string nm, .slice fA fn fc, .slice xA xn xc, .slice IA ni ic, .slice DA nd dc, .slice GA ng gc]).heap.size = w.heap.size + 2 := by unfold w2; simp
    rw [hz] at this
    exact this)
  have HB0 : Hid (Below (w.heap.size + 2) (w2 w [.int .i64 st, .int .i64 tr, .slice SA ns sc, .slice (some ⟨cb, co, none⟩) nc cc, .int .i64 start, .string main] [.string nm, .slice fA fn fc, .slice xA xn xc, .slice IA ni ic, .slice DA nd dc, .slice GA ng gc]) ((w2 w [.int .i64 st, .int .i64 tr, .slice SA ns sc, .slice (some ⟨cb, co, none⟩) nc cc, .int .i64 start, .string main] [.string nm, .slice fA fn fc, .slice xA xn xc, .slice IA ni ic, .slice DA nd dc, .slice GA ng gc]).alloc (.cells #[.string sSw] 9))) := Lib.hid ((Below.refl _ _).alloc (by unfold w2; simp) _)
  unfold w2 sSw at HS0 HB0
  obtain ⟨i0, hi0, hz0, hz1, hz2⟩ := info9
  have HI0 := Lib.hid hi0
  have HZ0 := Lib.hid hz0
  have HZ1 := Lib.hid hz1
  have HZ2 := Lib.hid hz2
  clear hcc hrow hFC hS hQS hC hQN hI hQI hD hQD hG hQG hi0 hz0 hz1 hz2 hci
  go_enter Try.func5, Try.ntmps5
  go_wp2_with fail
  clear r0 r1 r2 r3 r4 r5
  go_loopw [6, 8, 9, 33] (fun v _ _ i wr => L1R w [.int .i64 st, .int .i64 tr, .slice SA ns sc, .slice (some ⟨cb, co, none⟩) nc cc, .int .i64 start, .string main] [.string nm, .slice fA fn fc, .slice xA xn xc, .slice IA ni ic, .slice DA nd dc, .slice GA ng gc] nc FC FI ni v i wr) (fun v _ _ i _ => ni - (intOf i).toNat)
  case atStart => exact ⟨0, Nat.zero_le _, rfl, HS0.out, HB0.out⟩
  case round =>
    obtain ⟨k, hk, rfl, ho, hb⟩ := hrel
    obtain ⟨A6, c6, rfl, hc6⟩ := own_slice ho
    obtain ⟨bp, bc, hbw⟩ := HBX.out _ hb
    have HO := Lib.hid ho
    have HBL := Lib.hid hb
    have HBW := Lib.hid hbw
    have p2 := bp 2
    have p3 := bp 3
    have q4 := bc 4
    have q5 := bc 5
    simp at p2 p3 q4 q5
    clear ho hb bp bc hbw
    by_cases hlt : k < ni
    · obtain ⟨b, o, fr, t, rfl, hF, ht, i0c, i1c⟩ := HIR.out _ HBW.out k hlt
      have hkn : (k : Int) < (ni : Int) := by omega
      have hkw := wrapN k ni hlt hni
      have HLT := Lib.hid hlt
      have HK : Hid (impS nc FC (FI k) = sImp ++ fromS nc FC fr ++ sDot ++ t) := Lib.hid (by rw [hF]; rfl)
      have HHF := Lib.hid hF
      have HNL : Hid (1 + k + 1 ≤ maxLen) := Lib.hid (by unfold maxLen; omega)
      have HNB : Hid ((1 + k + 1) * 16 ≤ 140737488355328) := Lib.hid (by omega)
      have hbsz : w.heap.size + 2 ≤ wr.heap.size := by have := HBL.out.size; unfold w2 at this; simp at this; exact this
      have HBZ := Lib.hid hbsz
      have hne0 : w.heap.size ≠ wr.heap.size := by omega
      have hne1 : w.heap.size + 1 ≠ wr.heap.size := by omega
      clear hF hlt hk
      by_cases hin : 0 ≤ fr ∧ fr < nc
      · obtain ⟨j, rfl⟩ : ∃ j : Nat, fr = (j : Int) := ⟨fr.toNat, by omega⟩
        have hjn : j < nc := by omega
        obtain ⟨n0, ns0⟩ := HCN.out _ HBW.out j hjn
        have HFS : Hid (fromS nc FC (j : Int) = nmO (FC j)) := Lib.hid (by unfold fromS; rw [if_pos hin]; rfl)
        have e1 : decide ((0 : Int) ≤ (j : Int)) = true := by simp
        have e2 : decide ((j : Int) < (nc : Int)) = true := by simp; omega
        have hji : (j : Int) < (nc : Int) := by omega
        have hjw := wrapN j nc hjn hnc
        obtain ⟨s, hs⟩ : ∃ s, nmO (FC j) = s := ⟨_, rfl⟩
        rw [hs] at n0 ns0 HFS
        clear hs hin hjn
        have HLS : Hid ((l1 nc FC FI (k + 1)).map Value.string = (l1 nc FC FI k).map Value.string ++ [.string (⟨#[105, 109, 112, 111, 114, 116, 46]⟩ ++ s ++ ⟨#[46]⟩ ++ t)]) := Lib.hid (by rw [l1_succ, List.map_append, HK.out, HFS.out]; rfl)
        have HO6 : Hid (((wr.alloc (.cells #[.int .i64 (j : Int), .string t] 39)).alloc (.cells #[.string (sImp ++ s ++ sDot ++ t)] 9)).ownsRow (w.heap.size + 2) 9 1 (.slice A6 (1 + k) c6) (1 + k) ((l1 nc FC FI k).map Value.string)) := Lib.hid ((HO.out.alloc _).alloc _)
        have HB6 : Hid (Below (w.heap.size + 2) (w2 w [.int .i64 st, .int .i64 tr, .slice SA ns sc, .slice (some ⟨cb, co, none⟩) nc cc, .int .i64 start, .string main] [.string nm, .slice fA fn fc, .slice xA xn xc, .slice (some ⟨b, o, none⟩) ni ic, .slice DA nd dc, .slice GA ng gc]) ((wr.alloc (.cells #[.int .i64 (j : Int), .string t] 39)).alloc (.cells #[.string (sImp ++ s ++ sDot ++ t)] 9))) := Lib.hid ((HBL.out.alloc HBZ.out _).alloc (by have := HBZ.out; simp; omega) _)
        have HBS : Hid (w.heap.size + 2 ≤ ((wr.alloc (.cells #[.int .i64 (j : Int), .string t] 39)).alloc (.cells #[.string (sImp ++ s ++ sDot ++ t)] 9)).heap.size) := Lib.hid (by have := HBZ.out; simp; omega)
        unfold sImp sDot at HO6 HB6 HBS
        have hal := (Below.refl wr.heap.size wr).alloc (Nat.le_refl _) (.cells #[.int .i64 (j : Int), .string t] 39)
        have p3' := (hal.cell (p := ⟨w.heap.size, 3, none⟩) (by show w.heap.size < wr.heap.size; omega)).trans p3
        have n0' := (hal.cell (p := ⟨cb, co + j * 6, none⟩) (by show cb < wr.heap.size; omega)).trans n0
        clear hal
        go_wp2_with (at_builtin; refine wpList_append_lies _ (by rfl) _ _ 27 (by rfl) (w.heap.size + 2) 9 i0 (.string ⟨#[]⟩) 1 16 Try.underlying27 HI0.out HZ0.out HZ1.out HZ2.out rfl (by decide) (.slice A6 (1 + k) c6) (1 + k) _ (by rfl) HO6.out ⟨wr.heap.size + 1, 0, none⟩ 1 1 [.string (⟨#[105, 109, 112, 111, 114, 116, 46]⟩ ++ s ++ ⟨#[46]⟩ ++ t)] (by rfl) rfl (one_at (wr.alloc (.cells #[.int .i64 (j : Int), .string t] 39)) (wr.heap.size + 1) (by simp) (.string (⟨#[105, 109, 112, 111, 114, 116, 46]⟩ ++ s ++ ⟨#[46]⟩ ++ t)) 9) (by intro u hu; simp at hu; subst hu; rfl) (by decide) HNL.out HNB.out HBS.out _ rfl ?_; intro g5 c5 w5 hown5 hgrow5 hat5 hlt5)
        go_roundw
        case rel => exact ⟨k + 1, HLT.out, by go_num, by rw [HLS.out]; exact hown5, gr_below HB6.out HO6.out hgrow5 HBS.out⟩
        case measure => simp [intOf]; have := HLT.out; omega
      · have HFS : Hid (fromS nc FC fr = ⟨#[]⟩) := Lib.hid (by unfold fromS; rw [if_neg hin])
        by_cases h0 : 0 ≤ fr
        · have e1 : decide ((0 : Int) ≤ fr) = true := by simp; omega
          have e2 : decide (fr < (nc : Int)) = false := by simp; omega
          clear hin h0
          have HLS : Hid ((l1 nc FC FI (k + 1)).map Value.string = (l1 nc FC FI k).map Value.string ++ [.string (⟨#[105, 109, 112, 111, 114, 116, 46]⟩ ++ ⟨#[]⟩ ++ ⟨#[46]⟩ ++ t)]) := Lib.hid (by rw [l1_succ, List.map_append, HK.out, HFS.out]; rfl)
          have HO6 : Hid (((wr.alloc (.cells #[.int .i64 fr, .string t] 39)).alloc (.cells #[.string (sImp ++ ⟨#[]⟩ ++ sDot ++ t)] 9)).ownsRow (w.heap.size + 2) 9 1 (.slice A6 (1 + k) c6) (1 + k) ((l1 nc FC FI k).map Value.string)) := Lib.hid ((HO.out.alloc _).alloc _)
          have HB6 : Hid (Below (w.heap.size + 2) (w2 w [.int .i64 st, .int .i64 tr, .slice SA ns sc, .slice (some ⟨cb, co, none⟩) nc cc, .int .i64 start, .string main] [.string nm, .slice fA fn fc, .slice xA xn xc, .slice (some ⟨b, o, none⟩) ni ic, .slice DA nd dc, .slice GA ng gc]) ((wr.alloc (.cells #[.int .i64 fr, .string t] 39)).alloc (.cells #[.string (sImp ++ ⟨#[]⟩ ++ sDot ++ t)] 9))) := Lib.hid ((HBL.out.alloc HBZ.out _).alloc (by have := HBZ.out; simp; omega) _)
          have HBS : Hid (w.heap.size + 2 ≤ ((wr.alloc (.cells #[.int .i64 fr, .string t] 39)).alloc (.cells #[.string (sImp ++ ⟨#[]⟩ ++ sDot ++ t)] 9)).heap.size) := Lib.hid (by have := HBZ.out; simp; omega)
          unfold sImp sDot at HO6 HB6 HBS
          have hal := (Below.refl wr.heap.size wr).alloc (Nat.le_refl _) (.cells #[.int .i64 fr, .string t] 39)
          have p3' := (hal.cell (p := ⟨w.heap.size, 3, none⟩) (by show w.heap.size < wr.heap.size; omega)).trans p3
          clear hal
          go_wp2_with (at_builtin; refine wpList_append_lies _ (by rfl) _ _ 27 (by rfl) (w.heap.size + 2) 9 i0 (.string ⟨#[]⟩) 1 16 Try.underlying27 HI0.out HZ0.out HZ1.out HZ2.out rfl (by decide) (.slice A6 (1 + k) c6) (1 + k) _ (by rfl) HO6.out ⟨wr.heap.size + 1, 0, none⟩ 1 1 [.string (⟨#[105, 109, 112, 111, 114, 116, 46]⟩ ++ ⟨#[]⟩ ++ ⟨#[46]⟩ ++ t)] (by rfl) rfl (one_at (wr.alloc (.cells #[.int .i64 fr, .string t] 39)) (wr.heap.size + 1) (by simp) (.string (⟨#[105, 109, 112, 111, 114, 116, 46]⟩ ++ ⟨#[]⟩ ++ ⟨#[46]⟩ ++ t)) 9) (by intro u hu; simp at hu; subst hu; rfl) (by decide) HNL.out HNB.out HBS.out _ rfl ?_; intro g5 c5 w5 hown5 hgrow5 hat5 hlt5)
          go_roundw
          case rel => exact ⟨k + 1, HLT.out, by go_num, by rw [HLS.out]; exact hown5, gr_below HB6.out HO6.out hgrow5 HBS.out⟩
          case measure => simp [intOf]; have := HLT.out; omega
        · have e1 : decide ((0 : Int) ≤ fr) = false := by simp; omega
          clear hin h0
          have HLS : Hid ((l1 nc FC FI (k + 1)).map Value.string = (l1 nc FC FI k).map Value.string ++ [.string (⟨#[105, 109, 112, 111, 114, 116, 46]⟩ ++ ⟨#[]⟩ ++ ⟨#[46]⟩ ++ t)]) := Lib.hid (by rw [l1_succ, List.map_append, HK.out, HFS.out]; rfl)
          have HO6 : Hid (((wr.alloc (.cells #[.int .i64 fr, .string t] 39)).alloc (.cells #[.string (sImp ++ ⟨#[]⟩ ++ sDot ++ t)] 9)).ownsRow (w.heap.size + 2) 9 1 (.slice A6 (1 + k) c6) (1 + k) ((l1 nc FC FI k).map Value.string)) := Lib.hid ((HO.out.alloc _).alloc _)
          have HB6 : Hid (Below (w.heap.size + 2) (w2 w [.int .i64 st, .int .i64 tr, .slice SA ns sc, .slice (some ⟨cb, co, none⟩) nc cc, .int .i64 start, .string main] [.string nm, .slice fA fn fc, .slice xA xn xc, .slice (some ⟨b, o, none⟩) ni ic, .slice DA nd dc, .slice GA ng gc]) ((wr.alloc (.cells #[.int .i64 fr, .string t] 39)).alloc (.cells #[.string (sImp ++ ⟨#[]⟩ ++ sDot ++ t)] 9))) := Lib.hid ((HBL.out.alloc HBZ.out _).alloc (by have := HBZ.out; simp; omega) _)
          have HBS : Hid (w.heap.size + 2 ≤ ((wr.alloc (.cells #[.int .i64 fr, .string t] 39)).alloc (.cells #[.string (sImp ++ ⟨#[]⟩ ++ sDot ++ t)] 9)).heap.size) := Lib.hid (by have := HBZ.out; simp; omega)
          unfold sImp sDot at HO6 HB6 HBS
          have hal := (Below.refl wr.heap.size wr).alloc (Nat.le_refl _) (.cells #[.int .i64 fr, .string t] 39)
          have p3' := (hal.cell (p := ⟨w.heap.size, 3, none⟩) (by show w.heap.size < wr.heap.size; omega)).trans p3
          clear hal
          go_wp2_with (at_builtin; refine wpList_append_lies _ (by rfl) _ _ 27 (by rfl) (w.heap.size + 2) 9 i0 (.string ⟨#[]⟩) 1 16 Try.underlying27 HI0.out HZ0.out HZ1.out HZ2.out rfl (by decide) (.slice A6 (1 + k) c6) (1 + k) _ (by rfl) HO6.out ⟨wr.heap.size + 1, 0, none⟩ 1 1 [.string (⟨#[105, 109, 112, 111, 114, 116, 46]⟩ ++ ⟨#[]⟩ ++ ⟨#[46]⟩ ++ t)] (by rfl) rfl (one_at (wr.alloc (.cells #[.int .i64 fr, .string t] 39)) (wr.heap.size + 1) (by simp) (.string (⟨#[105, 109, 112, 111, 114, 116, 46]⟩ ++ ⟨#[]⟩ ++ ⟨#[46]⟩ ++ t)) 9) (by intro u hu; simp at hu; subst hu; rfl) (by decide) HNL.out HNB.out HBS.out _ rfl ?_; intro g5 c5 w5 hown5 hgrow5 hat5 hlt5)
          go_roundw
          case rel => exact ⟨k + 1, HLT.out, by go_num, by rw [HLS.out]; exact hown5, gr_below HB6.out HO6.out hgrow5 HBS.out⟩
          case measure => simp [intOf]; have := HLT.out; omega
    · obtain rfl : ni = k := by omega
      obtain ⟨L, hL⟩ : ∃ L, l1 nc FC FI ni = L := ⟨_, rfl⟩
      have HL := Lib.hid hL
      have HLe : Hid (L.length = 1 + ni) := Lib.hid (by rw [← hL, l1_len])
      rw [hL] at HO
      have HO1 : Hid (wr.ownsRow (w.heap.size + 2) 9 1 (.slice A6 (1 + ni) c6) (1 + ni + 0) ((l2 L FD 0).map Value.string)) := Lib.hid (by have := HO.out; unfold l2; simpa using this)
      clear hL hk hlt
      go_wp2_with fail
      clear p2 p3 q4 q5
      go_loopw [6, 11, 68] (fun v _ i wr => L2R w [.int .i64 st, .int .i64 tr, .slice SA ns sc, .slice (some ⟨cb, co, none⟩) nc cc, .int .i64 start, .string main] [.string nm, .slice fA fn fc, .slice xA xn xc, .slice IA ni ic, .slice DA nd dc, .slice GA ng gc] (1 + ni) L FD nd v i wr) (fun v _ i _ => nd - (intOf i).toNat)
      case atStart => exact ⟨0, Nat.zero_le _, rfl, HO1.out, HBL.out⟩
      case round =>
        obtain ⟨k, hk, rfl, ho, hb⟩ := hrel
        obtain ⟨A6, c6, rfl, hc6⟩ := own_slice ho
        obtain ⟨bp, bc, hbw⟩ := HBX.out _ hb
        have HO := Lib.hid ho
        have HBL := Lib.hid hb
        have HBW := Lib.hid hbw
        have p2 := bp 2
        have q5 := bc 5
        simp at p2 q5
        clear ho hb bp bc hbw
        by_cases hlt : k < nd
        · obtain ⟨b, o, t, p, q, rfl, hF, ht, i0c, i1c, i2c⟩ := HDR.out _ HBW.out k hlt
          have hkn : (k : Int) < (nd : Int) := by omega
          have hkw := wrapN k nd hlt hnd
          have HK : Hid (devS (FD k) = sDev ++ t) := Lib.hid (by rw [hF]; rfl)
          have HLT := Lib.hid hlt
          have HNL : Hid ((1 + ni) + k + 1 ≤ maxLen) := Lib.hid (by unfold maxLen; have := hni; omega)
          have HNB : Hid (((1 + ni) + k + 1) * 16 ≤ 140737488355328) := Lib.hid (by have := hni; omega)
          have hbsz : w.heap.size + 2 ≤ wr.heap.size := by have := HBL.out.size; unfold w2 at this; simp at this; exact this
          have HBZ := Lib.hid hbsz
          have hne0 : w.heap.size ≠ wr.heap.size := by omega
          have hne1 : w.heap.size + 1 ≠ wr.heap.size := by omega
          clear hF hlt hk
          have HLS : Hid ((l2 L FD (k + 1)).map Value.string = (l2 L FD k).map Value.string ++ [.string (⟨#[100, 101, 118, 105, 99, 101, 46]⟩ ++ t)]) := Lib.hid (by rw [l2_succ, List.map_append, HK.out]; rfl)
          have HO6 : Hid (((wr.alloc (.cells #[.string t, .int .u32 p, .int .u32 q] 42)).alloc (.cells #[.string (⟨#[100, 101, 118, 105, 99, 101, 46]⟩ ++ t)] 9)).ownsRow (w.heap.size + 2) 9 1 (.slice A6 ((1 + ni) + k) c6) ((1 + ni) + k) ((l2 L FD k).map Value.string)) := Lib.hid ((HO.out.alloc _).alloc _)
          have HB6 : Hid (Below (w.heap.size + 2) (w2 w [.int .i64 st, .int .i64 tr, .slice SA ns sc, .slice (some ⟨cb, co, none⟩) nc cc, .int .i64 start, .string main] [.string nm, .slice fA fn fc, .slice xA xn xc, .slice IA ni ic, .slice (some ⟨b, o, none⟩) nd dc, .slice GA ng gc]) ((wr.alloc (.cells #[.string t, .int .u32 p, .int .u32 q] 42)).alloc (.cells #[.string (⟨#[100, 101, 118, 105, 99, 101, 46]⟩ ++ t)] 9))) := Lib.hid ((HBL.out.alloc HBZ.out _).alloc (by have := HBZ.out; simp; omega) _)
          have HBS : Hid (w.heap.size + 2 ≤ ((wr.alloc (.cells #[.string t, .int .u32 p, .int .u32 q] 42)).alloc (.cells #[.string (⟨#[100, 101, 118, 105, 99, 101, 46]⟩ ++ t)] 9)).heap.size) := Lib.hid (by have := HBZ.out; simp; omega)
          have hal := (Below.refl wr.heap.size wr).alloc (Nat.le_refl _) (.cells #[.string t, .int .u32 p, .int .u32 q] 42)
          clear hal
          go_wp2_with (at_builtin; refine wpList_append_lies _ (by rfl) _ _ 27 (by rfl) (w.heap.size + 2) 9 i0 (.string ⟨#[]⟩) 1 16 Try.underlying27 HI0.out HZ0.out HZ1.out HZ2.out rfl (by decide) (.slice A6 ((1 + ni) + k) c6) ((1 + ni) + k) _ (by rfl) HO6.out ⟨wr.heap.size + 1, 0, none⟩ 1 1 [.string (⟨#[100, 101, 118, 105, 99, 101, 46]⟩ ++ t)] (by rfl) rfl (one_at (wr.alloc (.cells #[.string t, .int .u32 p, .int .u32 q] 42)) (wr.heap.size + 1) (by simp) (.string (⟨#[100, 101, 118, 105, 99, 101, 46]⟩ ++ t)) 9) (by intro u hu; simp at hu; subst hu; rfl) (by decide) HNL.out HNB.out HBS.out _ rfl ?_; intro g5 c5 w5 hown5 hgrow5 hat5 hlt5)
          go_roundw
          case rel => exact ⟨k + 1, HLT.out, by go_num, by rw [HLS.out]; exact hown5, gr_below HB6.out HO6.out hgrow5 HBS.out⟩
          case measure => simp [intOf]; have := HLT.out; omega
        · obtain rfl : nd = k := by omega
          obtain ⟨M, hM⟩ : ∃ M, l2 L FD nd = M := ⟨_, rfl⟩
          have HM := Lib.hid hM
          have HML : Hid (M.length = 1 + ni + nd) := Lib.hid (by rw [← hM, l2_len, HLe.out])
          rw [hM] at HO
          have HO2 : Hid (wr.ownsRow (w.heap.size + 2) 9 1 (.slice A6 (1 + ni + nd) c6) (1 + ni + nd + 0) ((l3 M ns FS FG 0).map Value.string)) := Lib.hid (by have := HO.out; unfold l3; simpa using this)
          clear hM hk hlt
          go_wp2_with fail
          clear p2 q5
          go_loopw [6, 13, 14, 82] (fun v _ _ i wr => L3R w [.int .i64 st, .int .i64 tr, .slice SA ns sc, .slice (some ⟨cb, co, none⟩) nc cc, .int .i64 start, .string main] [.string nm, .slice fA fn fc, .slice xA xn xc, .slice IA ni ic, .slice DA nd dc, .slice GA ng gc] (1 + ni + nd) M ns FS FG ng v i wr) (fun v _ _ i _ => ng - (intOf i).toNat)
          case atStart => exact ⟨0, Nat.zero_le _, rfl, HO2.out, HBL.out⟩
          case round =>
            obtain ⟨k, hk, rfl, ho, hb⟩ := hrel
            obtain ⟨A6, c6, rfl, hc6⟩ := own_slice ho
            obtain ⟨bp, bc, hbw⟩ := HBX.out _ hb
            have HO := Lib.hid ho
            have HBL := Lib.hid hb
            have HBW := Lib.hid hbw
            have p2 := bp 2
            have q5 := bc 5
            simp at p2 q5
            clear ho hb bp bc hbw
            by_cases hlt : k < ng
            · obtain ⟨b, o, s, q, rfl, hF, i0c, i1c⟩ := HGR.out _ HBW.out k hlt
              have hkn : (k : Int) < (ng : Int) := by omega
              have hkw := wrapN k ng hlt hng
              have HK : Hid (givS ns FS (FG k) = sSha ++ fromS ns FS s) := Lib.hid (by rw [hF]; rfl)
              have HLT := Lib.hid hlt
              have HNL : Hid ((1 + ni + nd) + k + 1 ≤ maxLen) := Lib.hid (by unfold maxLen; have := hni; omega)
              have HNB : Hid (((1 + ni + nd) + k + 1) * 16 ≤ 140737488355328) := Lib.hid (by have := hni; omega)
              have hbsz : w.heap.size + 2 ≤ wr.heap.size := by have := HBL.out.size; unfold w2 at this; simp at this; exact this
              have HBZ := Lib.hid hbsz
              have hne0 : w.heap.size ≠ wr.heap.size := by omega
              have hne1 : w.heap.size + 1 ≠ wr.heap.size := by omega
              clear hF hlt hk
              by_cases hin : 0 ≤ s ∧ s < ns
              · obtain ⟨j, rfl⟩ : ∃ j : Nat, s = (j : Int) := ⟨s.toNat, by omega⟩
                have hjn : j < ns := by omega
                obtain ⟨sb, so, rfl, n0, ns0⟩ := HSN.out _ HBW.out j hjn
                have HFS : Hid (fromS ns FS (j : Int) = nmO (FS j)) := Lib.hid (by unfold fromS; rw [if_pos hin]; rfl)
                have e1 : decide ((0 : Int) ≤ (j : Int)) = true := by simp
                have e2 : decide ((j : Int) < (ns : Int)) = true := by simp; omega
                have hji : (j : Int) < (ns : Int) := by omega
                have hjw := wrapN j ns hjn hns
                obtain ⟨x, hx⟩ : ∃ x, nmO (FS j) = x := ⟨_, rfl⟩
                rw [hx] at n0 ns0 HFS
                clear hx hin hjn
                have HLS : Hid ((l3 M ns FS FG (k + 1)).map Value.string = (l3 M ns FS FG k).map Value.string ++ [.string (⟨#[115, 104, 97, 114, 101, 46]⟩ ++ x)]) := Lib.hid (by rw [l3_succ, List.map_append, HK.out, HFS.out]; rfl)
                have HO6 : Hid (((wr.alloc (.cells #[.int .i64 (j : Int), .bool q] 44)).alloc (.cells #[.string (⟨#[115, 104, 97, 114, 101, 46]⟩ ++ x)] 9)).ownsRow (w.heap.size + 2) 9 1 (.slice A6 ((1 + ni + nd) + k) c6) ((1 + ni + nd) + k) ((l3 M ns FS FG k).map Value.string)) := Lib.hid ((HO.out.alloc _).alloc _)
                have HB6 : Hid (Below (w.heap.size + 2) (w2 w [.int .i64 st, .int .i64 tr, .slice (some ⟨sb, so, none⟩) ns sc, .slice (some ⟨cb, co, none⟩) nc cc, .int .i64 start, .string main] [.string nm, .slice fA fn fc, .slice xA xn xc, .slice IA ni ic, .slice DA nd dc, .slice (some ⟨b, o, none⟩) ng gc]) ((wr.alloc (.cells #[.int .i64 (j : Int), .bool q] 44)).alloc (.cells #[.string (⟨#[115, 104, 97, 114, 101, 46]⟩ ++ x)] 9))) := Lib.hid ((HBL.out.alloc HBZ.out _).alloc (by have := HBZ.out; simp; omega) _)
                have HBS : Hid (w.heap.size + 2 ≤ ((wr.alloc (.cells #[.int .i64 (j : Int), .bool q] 44)).alloc (.cells #[.string (⟨#[115, 104, 97, 114, 101, 46]⟩ ++ x)] 9)).heap.size) := Lib.hid (by have := HBZ.out; simp; omega)
                have hal := (Below.refl wr.heap.size wr).alloc (Nat.le_refl _) (.cells #[.int .i64 (j : Int), .bool q] 44)
                have p2' := (hal.cell (p := ⟨w.heap.size, 2, none⟩) (by show w.heap.size < wr.heap.size; omega)).trans p2
                have n0' := (hal.cell (p := ⟨sb, so + j * 2, none⟩) (by show sb < wr.heap.size; have := World.block_lt_of_cell? wr _ n0; exact this)).trans n0
                clear hal
                go_wp2_with (at_builtin; refine wpList_append_lies _ (by rfl) _ _ 27 (by rfl) (w.heap.size + 2) 9 i0 (.string ⟨#[]⟩) 1 16 Try.underlying27 HI0.out HZ0.out HZ1.out HZ2.out rfl (by decide) (.slice A6 ((1 + ni + nd) + k) c6) ((1 + ni + nd) + k) _ (by rfl) HO6.out ⟨wr.heap.size + 1, 0, none⟩ 1 1 [.string (⟨#[115, 104, 97, 114, 101, 46]⟩ ++ x)] (by rfl) rfl (one_at (wr.alloc (.cells #[.int .i64 (j : Int), .bool q] 44)) (wr.heap.size + 1) (by simp) (.string (⟨#[115, 104, 97, 114, 101, 46]⟩ ++ x)) 9) (by intro u hu; simp at hu; subst hu; rfl) (by decide) HNL.out HNB.out HBS.out _ rfl ?_; intro g5 c5 w5 hown5 hgrow5 hat5 hlt5)
                go_roundw
                case rel => exact ⟨k + 1, HLT.out, by go_num, by rw [HLS.out]; exact hown5, gr_below HB6.out HO6.out hgrow5 HBS.out⟩
                case measure => simp [intOf]; have := HLT.out; omega
              · have HFS : Hid (fromS ns FS s = ⟨#[]⟩) := Lib.hid (by unfold fromS; rw [if_neg hin])
                by_cases h0 : 0 ≤ s
                · have e1 : decide ((0 : Int) ≤ s) = true := by simp; omega
                  have e2 : decide (s < (ns : Int)) = false := by simp; omega
                  clear hin h0
                  have HLS : Hid ((l3 M ns FS FG (k + 1)).map Value.string = (l3 M ns FS FG k).map Value.string ++ [.string (⟨#[115, 104, 97, 114, 101, 46]⟩ ++ ⟨#[]⟩)]) := Lib.hid (by rw [l3_succ, List.map_append, HK.out, HFS.out]; rfl)
                  have HO6 : Hid (((wr.alloc (.cells #[.int .i64 s, .bool q] 44)).alloc (.cells #[.string (⟨#[115, 104, 97, 114, 101, 46]⟩ ++ ⟨#[]⟩)] 9)).ownsRow (w.heap.size + 2) 9 1 (.slice A6 ((1 + ni + nd) + k) c6) ((1 + ni + nd) + k) ((l3 M ns FS FG k).map Value.string)) := Lib.hid ((HO.out.alloc _).alloc _)
                  have HB6 : Hid (Below (w.heap.size + 2) (w2 w [.int .i64 st, .int .i64 tr, .slice SA ns sc, .slice (some ⟨cb, co, none⟩) nc cc, .int .i64 start, .string main] [.string nm, .slice fA fn fc, .slice xA xn xc, .slice IA ni ic, .slice DA nd dc, .slice (some ⟨b, o, none⟩) ng gc]) ((wr.alloc (.cells #[.int .i64 s, .bool q] 44)).alloc (.cells #[.string (⟨#[115, 104, 97, 114, 101, 46]⟩ ++ ⟨#[]⟩)] 9))) := Lib.hid ((HBL.out.alloc HBZ.out _).alloc (by have := HBZ.out; simp; omega) _)
                  have HBS : Hid (w.heap.size + 2 ≤ ((wr.alloc (.cells #[.int .i64 s, .bool q] 44)).alloc (.cells #[.string (⟨#[115, 104, 97, 114, 101, 46]⟩ ++ ⟨#[]⟩)] 9)).heap.size) := Lib.hid (by have := HBZ.out; simp; omega)
                  have hal := (Below.refl wr.heap.size wr).alloc (Nat.le_refl _) (.cells #[.int .i64 s, .bool q] 44)
                  have p2' := (hal.cell (p := ⟨w.heap.size, 2, none⟩) (by show w.heap.size < wr.heap.size; omega)).trans p2
                  clear hal
                  go_wp2_with (at_builtin; refine wpList_append_lies _ (by rfl) _ _ 27 (by rfl) (w.heap.size + 2) 9 i0 (.string ⟨#[]⟩) 1 16 Try.underlying27 HI0.out HZ0.out HZ1.out HZ2.out rfl (by decide) (.slice A6 ((1 + ni + nd) + k) c6) ((1 + ni + nd) + k) _ (by rfl) HO6.out ⟨wr.heap.size + 1, 0, none⟩ 1 1 [.string (⟨#[115, 104, 97, 114, 101, 46]⟩ ++ ⟨#[]⟩)] (by rfl) rfl (one_at (wr.alloc (.cells #[.int .i64 s, .bool q] 44)) (wr.heap.size + 1) (by simp) (.string (⟨#[115, 104, 97, 114, 101, 46]⟩ ++ ⟨#[]⟩)) 9) (by intro u hu; simp at hu; subst hu; rfl) (by decide) HNL.out HNB.out HBS.out _ rfl ?_; intro g5 c5 w5 hown5 hgrow5 hat5 hlt5)
                  go_roundw
                  case rel => exact ⟨k + 1, HLT.out, by go_num, by rw [HLS.out]; exact hown5, gr_below HB6.out HO6.out hgrow5 HBS.out⟩
                  case measure => simp [intOf]; have := HLT.out; omega
                · have e1 : decide ((0 : Int) ≤ s) = false := by simp; omega
                  clear hin h0
                  have HLS : Hid ((l3 M ns FS FG (k + 1)).map Value.string = (l3 M ns FS FG k).map Value.string ++ [.string (⟨#[115, 104, 97, 114, 101, 46]⟩ ++ ⟨#[]⟩)]) := Lib.hid (by rw [l3_succ, List.map_append, HK.out, HFS.out]; rfl)
                  have HO6 : Hid (((wr.alloc (.cells #[.int .i64 s, .bool q] 44)).alloc (.cells #[.string (⟨#[115, 104, 97, 114, 101, 46]⟩ ++ ⟨#[]⟩)] 9)).ownsRow (w.heap.size + 2) 9 1 (.slice A6 ((1 + ni + nd) + k) c6) ((1 + ni + nd) + k) ((l3 M ns FS FG k).map Value.string)) := Lib.hid ((HO.out.alloc _).alloc _)
                  have HB6 : Hid (Below (w.heap.size + 2) (w2 w [.int .i64 st, .int .i64 tr, .slice SA ns sc, .slice (some ⟨cb, co, none⟩) nc cc, .int .i64 start, .string main] [.string nm, .slice fA fn fc, .slice xA xn xc, .slice IA ni ic, .slice DA nd dc, .slice (some ⟨b, o, none⟩) ng gc]) ((wr.alloc (.cells #[.int .i64 s, .bool q] 44)).alloc (.cells #[.string (⟨#[115, 104, 97, 114, 101, 46]⟩ ++ ⟨#[]⟩)] 9))) := Lib.hid ((HBL.out.alloc HBZ.out _).alloc (by have := HBZ.out; simp; omega) _)
                  have HBS : Hid (w.heap.size + 2 ≤ ((wr.alloc (.cells #[.int .i64 s, .bool q] 44)).alloc (.cells #[.string (⟨#[115, 104, 97, 114, 101, 46]⟩ ++ ⟨#[]⟩)] 9)).heap.size) := Lib.hid (by have := HBZ.out; simp; omega)
                  have hal := (Below.refl wr.heap.size wr).alloc (Nat.le_refl _) (.cells #[.int .i64 s, .bool q] 44)
                  have p2' := (hal.cell (p := ⟨w.heap.size, 2, none⟩) (by show w.heap.size < wr.heap.size; omega)).trans p2
                  clear hal
                  go_wp2_with (at_builtin; refine wpList_append_lies _ (by rfl) _ _ 27 (by rfl) (w.heap.size + 2) 9 i0 (.string ⟨#[]⟩) 1 16 Try.underlying27 HI0.out HZ0.out HZ1.out HZ2.out rfl (by decide) (.slice A6 ((1 + ni + nd) + k) c6) ((1 + ni + nd) + k) _ (by rfl) HO6.out ⟨wr.heap.size + 1, 0, none⟩ 1 1 [.string (⟨#[115, 104, 97, 114, 101, 46]⟩ ++ ⟨#[]⟩)] (by rfl) rfl (one_at (wr.alloc (.cells #[.int .i64 s, .bool q] 44)) (wr.heap.size + 1) (by simp) (.string (⟨#[115, 104, 97, 114, 101, 46]⟩ ++ ⟨#[]⟩)) 9) (by intro u hu; simp at hu; subst hu; rfl) (by decide) HNL.out HNB.out HBS.out _ rfl ?_; intro g5 c5 w5 hown5 hgrow5 hat5 hlt5)
                  go_roundw
                  case rel => exact ⟨k + 1, HLT.out, by go_num, by rw [HLS.out]; exact hown5, gr_below HB6.out HO6.out hgrow5 HBS.out⟩
                  case measure => simp [intOf]; have := HLT.out; omega
            · obtain rfl : ng = k := by omega
              have HOF := Lib.hid HO.out
              have hlen := l3_len M ns FS FG ng
              go_wp2_with fail
              go_ret
              rw [HL.out, HM.out]
              exact ⟨_, rfl, by rw [hlen, HML.out]; exact own_base HOF.out (by omega), HBW.out⟩
end Go.Proofs.Ytbbcljffcjhiaaa
