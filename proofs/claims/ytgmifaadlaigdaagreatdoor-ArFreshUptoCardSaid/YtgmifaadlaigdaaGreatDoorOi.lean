import Derived.Test.YtgmifaadlaigdaaGreatDoorOh
import Derived.Lib.ConvBytes
namespace Go.Proofs.YtgmifaadlaigdaaGreatDoor
open Go.ChangeShapes Go.WideShapes Go.ChangeAt Go.RowKit
set_option linter.unusedVariables false
theorem at_own {w : World} {B n : Nat} {V : Value} {f : Nat → Nat} (h : w.ownsRow B 3 1 V n ((List.range n).map fun j => Value.int .i64 (f j : Int))) (hf : ∀ k, k < n → f k < 4294967296) : ∃ A c, V = .slice A n c ∧ At w A n f := by
  rcases h.2 with ⟨hv, h0⟩ | ⟨g, cap, cur, hv, r⟩
  · exact ⟨none, 0, by rw [hv, h0], fun h1 => by omega⟩
  · refine ⟨_, _, hv, fun _ => ⟨g, rfl, (h.lt g (by rw [hv]; rfl)).2, fun k hk => ⟨?_, hf k hk⟩⟩⟩
    have := h.cells (g := g) (by rw [hv]; rfl) k (.int .i64 (f k : Int)) (by simp [hk])
    rw [← this]
    congr 1
    unfold Addr.add
    split <;> simp_all
theorem At.below {w w' : World} {A : Option Addr} {n : Nat} {f : Nat → Nat} (h : At w A n f) (hb : Below w.heap.size w w') : At w' A n f := fun h0 => by
  obtain ⟨b, e, hl, hc⟩ := h h0
  exact ⟨b, e, Nat.lt_of_lt_of_le hl hb.size, fun k hk => ⟨by rw [hb.cell (p := ⟨b, k, none⟩) hl]; exact (hc k hk).1, (hc k hk).2⟩⟩
theorem below_bytes (w : World) (s : ByteArray) : Below w.heap.size w (Lib.bytesWorld w 5 s) :=
  ⟨rfl, rfl, rfl, by rw [Lib.bytesWorld_size]; omega, fun k hk => Lib.bytesWorld_at_old w 5 s k hk⟩
theorem bs_bytes (w : World) (s : ByteArray) : Bs (Lib.bytesWorld w 5 s) w.heap.size 0 s.size (bb s) :=
  ⟨by rw [Lib.bytesWorld_size]; omega, fun k hk => ⟨bb_lt s k, by
    rw [Nat.zero_add, Lib.bytesWorld_cell w 5 s k hk, bb_eq s k hk]
    have h2 := bb_list s k hk
    simp [List.getD, h2]⟩⟩
theorem le_cap (w : World) (s : ByteArray) : s.size ≤ grownCap w s.size 0 5 := grownCap_ge w s.size 0 5
/-- a nil slice has no room -/
def Nz (g : Nat → Mem) (n : Nat) : Prop := ∀ k, k < n → (g k).A = none → (g k).c = 0
/-- what Put answers -/
def PutOut (g : Nat → Mem) (x : Nat → Ix) (n m : Nat) (w : World) (e : Ending) (w' : World) : Prop :=
  (¬ (MemsOk g n ∧ IxsOk x n m) ∧ e = .returned (.tuple #[.slice none 0 0, .int .i64 2]) ∧ Below w.heap.size w w') ∨
  ((MemsOk g n ∧ IxsOk x n m) ∧ 65536 < endN g (begN x m) n ∧ e = .returned (.tuple #[.slice none 0 0, .int .i64 3]) ∧ Below w.heap.size w w') ∨
  ((MemsOk g n ∧ IxsOk x n m) ∧ endN g (begN x m) n ≤ 65536 ∧ (∃ b c, e = .returned (.tuple #[.slice (some ⟨b, 0, none⟩) (arB g x n m).size c, .int .i64 0]) ∧ (arB g x n m).size ≤ c ∧ w.heap.size ≤ b ∧ Bs w' b 0 (arB g x n m).size (bb (arB g x n m))) ∧ Below w.heap.size w w')
def R8 (N : Nat) (w0 : World) (g : Nat → Mem) (s : ByteArray) (n : Nat) (v i : Value) (wr : World) : Prop := ∃ k : Nat, k ≤ n ∧ i = .int .i64 (k : Int) ∧ Bu N w0 wr (outB g s k)
set_option maxRecDepth 100000 in
set_option maxHeartbeats 8000000 in
theorem c8 (A B : Option Addr) (n c m d : Nat) (g : Nat → Mem) (x : Nat → Ix) (w : World) (hA : Ms w A n g) (hB : Is w B m x) (hz : Nz g n) (hg : Gl w) (hn : n ≤ 1073741824) (hm : m ≤ 1073741824)
    (hx : lgN x m ≤ 16777216) (hb : endN g (begN x m) n ≤ 1099511627776) : Calls Tryz.prog 8 #[.slice A n c, .slice B m d] w (PutOut g x n m w) := by
  have HA := Lib.hid hA
  have HB := Lib.hid hB
  have HG := Lib.hid hg
  have HZ := Lib.hid hz
  have K20 := Lib.hid (c20 A B n c m d g x w hA hB hn hm)
  have K21 : Hid (∀ w1, Below w.heap.size w w1 → Calls Tryz.prog 21 #[.slice A n c, .slice B m d] w1 fun e w' => ∃ V, e = .returned (.tuple #[V, .int .i64 (endN g (begN x m) n : Int)]) ∧ w'.ownsRow w1.heap.size 3 1 V n ((List.range n).map fun j => Value.int .i64 (evn (endN g (begN x m) j) : Int)) ∧ Below w1.heap.size w1 w') :=
    Lib.hid (fun w1 h1 => c21 A B n c m d g x w1 (hA.below h1) (hB.below h1) hx hb)
  clear hA hB hz hg hx hb
  go_enter Tryz.func8, Tryz.ntmps8
  go_wp2_with fail
  refine (K20.out).mono ?_
  rintro _ w1 ⟨ok, rfl, hok, hb1⟩
  have HB1 := Lib.hid hb1
  have HOK := Lib.hid hok
  clear hb1 hok
  cases ok
  · have HNO : Hid (¬ (MemsOk g n ∧ IxsOk x n m)) := Lib.hid (fun h => by have := HOK.out.mpr h; cases this)
    go_wp2_with fail
    go_ret2
    exact Or.inl ⟨HNO.out, rfl, HB1.out⟩
  · have HY := Lib.hid (HOK.out.mp rfl)
    go_wp2_with fail
    refine (K21.out _ HB1.out).mono ?_
    rintro _ w2 ⟨V, rfl, ho, hb2⟩
    have HB2 : Hid (Below w.heap.size w w2) := Lib.hid (HB1.out.trans (hb2.mono HB1.out.size))
    have HO := Lib.hid ho
    clear hb2 ho
    obtain ⟨en, hen⟩ : ∃ en, endN g (begN x m) n = en := ⟨_, rfl⟩
    rw [hen]
    have HEN := Lib.hid hen
    clear hen
    by_cases hle : 65536 < en
    · have HV : Hid (∃ A c, V = .slice A n c) := Lib.hid (by
        rcases HO.out.2 with ⟨hv, h0⟩ | ⟨g, cap, cur, hv, r⟩
        · exact ⟨none, 0, by rw [hv, h0]⟩
        · exact ⟨_, _, hv⟩)
      obtain ⟨AV, cV, rfl⟩ := HV.out
      go_wp2_with fail
      go_ret2
      exact Or.inr (Or.inl ⟨HY.out, by rw [HEN.out]; exact hle, rfl, HB2.out⟩)
    · have HLE : Hid (∀ k, k ≤ n → endN g (begN x m) k ≤ 65536) := Lib.hid (fun k hk => by
        have := endN_le g (begN x m) hk
        rw [HEN.out] at this
        omega)
      have HEV : Hid (∀ k, k < n → evn (endN g (begN x m) k) < 4294967296) := Lib.hid (fun k hk => by have := HLE.out k (by omega); unfold evn; omega)
      obtain ⟨AV, cV, rfl, hat⟩ := at_own HO.out HEV.out
      have HAT := Lib.hid hat
      clear hat HO
      have HU2 := Lib.hid (bu_fresh w2)
      have HBG : Hid (0 < m → begN x m = 68 + ixS x m) := Lib.hid (fun h => by unfold begN; rw [if_neg (by omega)])
      have HIX : Hid (0 < m → ixS x m ≤ 65536) := Lib.hid (fun h => by
        have := HLE.out 0 (Nat.zero_le _)
        rw [endN, HBG.out h] at this
        omega)
      have K22 := Lib.hid (bw22 HU2.out magicB (by decide) (by decide))
      go_wp2_with fail
      refine K22.out.mono ?_
      rintro _ w3 ⟨rfl, hu3⟩
      have HU3 : Hid (Bu w2.heap.size w2 w3 magicB) := Lib.hid (by rw [show magicB = ⟨#[]⟩ ++ magicB by rfl]; exact hu3)
      clear hu3
      have HLN : Hid (∀ i, i < n → (g i).nm.size ≤ 15) := Lib.hid (fun i hi => by
        have := (HY.out.1 i hi).1
        unfold nmB at this
        exact (of_decide_eq_true this).1.2)
      have HIXS : Hid (ixS x m < 10000000000) := Lib.hid (by
        by_cases h : 0 < m
        · have := HIX.out h; omega
        · obtain rfl : m = 0 := by omega
          show 4 + 4 * 0 + 0 < _
          decide)
      by_cases hm0 : 0 < m
      · have K23 := Lib.hid (c23 HU3.out AV B n cV m d g x (begN x m) (by decide) (HB.out.below HB2.out) HAT.out HY.out.2 (HIX.out hm0) (HG.out.below HB2.out) rfl)
        have HS : Hid (startB g x m = padB magicB ++ headB ⟨#[47]⟩ (ixS x m) ++ indexB g x (begN x m) m) := Lib.hid (by
          unfold startB
          rw [if_neg (by omega), indexB_size]
          rfl)
        rw [← HS.out] at K23
        go_wp2_with fail
        refine K23.out.mono ?_
        rintro _ w4 ⟨rfl, hu4⟩
        have HU4 := Lib.hid hu4
        clear hu4 HS K23
        go_wp2_with fail
        have HAR : Hid (outB g (startB g x m) n = arB g x n m) := Lib.hid rfl
        have HSZ : Hid (∀ k, k ≤ n → (outB g (startB g x m) k).size = endN g (begN x m) k) := Lib.hid (fun k hk => by
          rw [outB_size g _ k (fun i hi => ⟨HLN.out i (by omega), by have := HLE.out (i + 1) (by omega); rw [endN] at this; unfold evn at this; omega⟩), startB_size g x m HIXS.out])
        have HS0 : Hid (outB g (startB g x m) 0 = startB g x m) := Lib.hid rfl
        have HST : Hid (∀ k, outB g (startB g x m) (k + 1) = padB (outB g (startB g x m) k) ++ headB ((g k).nm ++ ⟨#[47]⟩) (g k).n ++ strN (g k).f (g k).n) := Lib.hid (fun _ => rfl)
        generalize startB g x m = s0 at *
        go_loopw [33] (fun i wr => R8 w2.heap.size w2 g s0 n i i wr) (fun i _ => n - (intOf i).toNat)
        case atStart => exact ⟨0, Nat.zero_le _, rfl, by rw [HS0.out]; exact HU4.out⟩
        case round =>
          obtain ⟨k, hk, rfl, hu⟩ := hrel
          have HU5 := Lib.hid hu
          clear hu
          by_cases hlt : k < n
          · have hbw : Below w.heap.size w wr := HB2.out.trans (HU5.out.2.mono HB2.out.size)
            obtain ⟨b, o, rfl, hbl, hc⟩ := HA.out (by omega)
            obtain ⟨q0, q1, hbz, hg1, hg2, hsl⟩ := hc k hlt
            have z : ∀ j, wr.cell? ⟨b, j, none⟩ = w.cell? ⟨b, j, none⟩ := fun j => hbw.cell (p := ⟨b, j, none⟩) hbl
            rw [← z] at q0 q1
            have HLT := Lib.hid hlt
            have HSK := Lib.hid (HST.out k)
            have z1 : (outB g s0 k).size ≤ 65536 := by rw [HSZ.out k hk]; exact HLE.out k hk
            have z2 : (g k).n ≤ 65536 := by
              have := HLE.out (k + 1) hlt
              rw [endN] at this
              unfold evn at this
              omega
            have z3 := HLN.out k hlt
            have zz : ((g k).nm ++ ⟨#[47]⟩).size = (g k).nm.size + 1 := by rw [ByteArray.size_append]; rfl
            have z4 : (padB (outB g s0 k) ++ headB ((g k).nm ++ ⟨#[47]⟩) (g k).n).size ≤ 65600 := by
              have h60 := headB_size ((g k).nm ++ ⟨#[47]⟩) (g k).n (by omega) (by omega)
              rw [ByteArray.size_append, padB_size, h60]
              unfold evn
              omega
            have K24 := Lib.hid (c24k (bu_alloc HU5.out (.cells #[.string (g k).nm, .slice (g k).A (g k).n (g k).c] 39)) ((g k).nm ++ ⟨#[47]⟩) (g k).n (by omega) (by omega) (by omega) (HG.out.below HB2.out) rfl)
            have K24' := Lib.hid (c24k (bu_drew (bu_alloc HU5.out (.cells #[.string (g k).nm, .slice (g k).A (g k).n (g k).c] 39))) ((g k).nm ++ ⟨#[47]⟩) (g k).n (by omega) (by omega) (by omega) (HG.out.below HB2.out) rfl)
            have HBZ : Hid (Bz w2 (g k).A (g k).n (g k).f) := Lib.hid (hbz.below HB2.out)
            have HZK := Lib.hid (HZ.out k hlt)
            have Z4 := Lib.hid z4
            have z5 : ¬ (9223372036854775807 < (g k).nm.size + 1) := by omega
            clear hc z hbw hbz zz z1 z4
            generalize (g k).nm = nm at *
            generalize (g k).A = gA at *
            generalize (g k).n = gn at *
            generalize (g k).c = gc at *
            generalize (g k).f = gf at *
            generalize outB g s0 k = t at *
            generalize headB (nm ++ ⟨#[47]⟩) gn = hd at *
            go_wp2_with fail
            (first | (refine K24.out.mono ?_) | (refine K24'.out.mono ?_))
            rintro _ w6 ⟨rfl, hu6, hk6⟩
            have hM : w6.cell? ⟨wr.heap.size, 1, none⟩ = some (.slice gA gn gc) := by
              have hx := hk6 wr.heap.size #[.string nm, .slice gA gn gc] 39 (0, 0) (by have := is_lt HU5.out.1; omega) (by decide) (heap_alloc_new wr _)
              rw [Lib.cell_of_heap hx]; rfl
            have HU6 := Lib.hid hu6
            clear hu6 hk6
            have K25 := Lib.hid (bw25 HU6.out gA gn gc gf HZK.out HBZ.out rfl hg2 (by have := Z4.out; omega) (by omega))
            have K25' := Lib.hid (bw25 (bu_drew HU6.out) gA gn gc gf HZK.out HBZ.out rfl hg2 (by have := Z4.out; omega) (by omega))
            go_wp2_with fail
            (first | (refine K25.out.mono ?_) | (refine K25'.out.mono ?_))
            rintro _ w7 ⟨rfl, hu7⟩
            rw [← HSK.out] at hu7
            have HU7 := Lib.hid hu7
            clear hu7
            go_wp2_with fail
            go_roundw
            case rel => exact ⟨k + 1, HLT.out, by go_num, HU7.out⟩
            case measure => simp [intOf]; have := HLT.out; omega
          · obtain rfl : k = n := by omega
            have HEQ : Hid ((outB g s0 k).size ≤ 65536) := Lib.hid (by rw [HSZ.out k hk]; exact HLE.out k hk)
            have K26 := Lib.hid (bw26 HU5.out (by
              rw [HSZ.out k hk]
              have := endN_le g (begN x m) (Nat.zero_le k)
              rw [endN] at this
              have h8 : 8 ≤ begN x m := by unfold begN; split <;> omega
              omega))
            rw [HAR.out] at K26 HEQ
            obtain ⟨ar, har⟩ : ∃ ar, arB g x k m = ar := ⟨_, rfl⟩
            rw [har] at K26 HEQ
            have HAE := Lib.hid har
            clear har
            go_wp2_with fail
            refine K26.out.mono ?_
            rintro _ w9 ⟨rfl, hb9⟩
            have HB9 : Hid (Below w.heap.size w w9) := Lib.hid (HB2.out.trans (hb9.mono HB2.out.size))
            clear hb9
            go_wp2_with fail
            rw [Lib.run_convert_string_bytes w9 9 24 5 ar Tryz.underlying9 Tryz.underlying24 Tryz.underlying5]
            simp only [Result.andThen]
            rw [Oper.upon_value]
            go_wp2_with fail
            go_ret2
            refine Or.inr (Or.inr ⟨HY.out, by rw [HEN.out]; omega, ⟨w9.heap.size, _, by rw [HAE.out]; rfl, ?_, by have := HB9.out.size; omega, ?_⟩, HB9.out.trans ((below_bytes w9 ar).mono HB9.out.size)⟩)
            · rw [HAE.out]; exact le_cap w9 ar
            · rw [HAE.out]; exact bs_bytes w9 ar
      · have HS : Hid (startB g x m = magicB) := Lib.hid (by unfold startB; rw [if_pos (by omega)])
        have HU4 : Hid (Bu w2.heap.size w2 w3 (startB g x m)) := Lib.hid (by rw [HS.out]; exact HU3.out)
        clear HS
        go_wp2_with fail
        have HAR : Hid (outB g (startB g x m) n = arB g x n m) := Lib.hid rfl
        have HSZ : Hid (∀ k, k ≤ n → (outB g (startB g x m) k).size = endN g (begN x m) k) := Lib.hid (fun k hk => by
          rw [outB_size g _ k (fun i hi => ⟨HLN.out i (by omega), by have := HLE.out (i + 1) (by omega); rw [endN] at this; unfold evn at this; omega⟩), startB_size g x m HIXS.out])
        have HS0 : Hid (outB g (startB g x m) 0 = startB g x m) := Lib.hid rfl
        have HST : Hid (∀ k, outB g (startB g x m) (k + 1) = padB (outB g (startB g x m) k) ++ headB ((g k).nm ++ ⟨#[47]⟩) (g k).n ++ strN (g k).f (g k).n) := Lib.hid (fun _ => rfl)
        generalize startB g x m = s0 at *
        go_loopw [33] (fun i wr => R8 w2.heap.size w2 g s0 n i i wr) (fun i _ => n - (intOf i).toNat)
        case atStart => exact ⟨0, Nat.zero_le _, rfl, by rw [HS0.out]; exact HU4.out⟩
        case round =>
          obtain ⟨k, hk, rfl, hu⟩ := hrel
          have HU5 := Lib.hid hu
          clear hu
          by_cases hlt : k < n
          · have hbw : Below w.heap.size w wr := HB2.out.trans (HU5.out.2.mono HB2.out.size)
            obtain ⟨b, o, rfl, hbl, hc⟩ := HA.out (by omega)
            obtain ⟨q0, q1, hbz, hg1, hg2, hsl⟩ := hc k hlt
            have z : ∀ j, wr.cell? ⟨b, j, none⟩ = w.cell? ⟨b, j, none⟩ := fun j => hbw.cell (p := ⟨b, j, none⟩) hbl
            rw [← z] at q0 q1
            have HLT := Lib.hid hlt
            have HSK := Lib.hid (HST.out k)
            have z1 : (outB g s0 k).size ≤ 65536 := by rw [HSZ.out k hk]; exact HLE.out k hk
            have z2 : (g k).n ≤ 65536 := by
              have := HLE.out (k + 1) hlt
              rw [endN] at this
              unfold evn at this
              omega
            have z3 := HLN.out k hlt
            have zz : ((g k).nm ++ ⟨#[47]⟩).size = (g k).nm.size + 1 := by rw [ByteArray.size_append]; rfl
            have z4 : (padB (outB g s0 k) ++ headB ((g k).nm ++ ⟨#[47]⟩) (g k).n).size ≤ 65600 := by
              have h60 := headB_size ((g k).nm ++ ⟨#[47]⟩) (g k).n (by omega) (by omega)
              rw [ByteArray.size_append, padB_size, h60]
              unfold evn
              omega
            have K24 := Lib.hid (c24k (bu_alloc HU5.out (.cells #[.string (g k).nm, .slice (g k).A (g k).n (g k).c] 39)) ((g k).nm ++ ⟨#[47]⟩) (g k).n (by omega) (by omega) (by omega) (HG.out.below HB2.out) rfl)
            have K24' := Lib.hid (c24k (bu_drew (bu_alloc HU5.out (.cells #[.string (g k).nm, .slice (g k).A (g k).n (g k).c] 39))) ((g k).nm ++ ⟨#[47]⟩) (g k).n (by omega) (by omega) (by omega) (HG.out.below HB2.out) rfl)
            have HBZ : Hid (Bz w2 (g k).A (g k).n (g k).f) := Lib.hid (hbz.below HB2.out)
            have HZK := Lib.hid (HZ.out k hlt)
            have Z4 := Lib.hid z4
            have z5 : ¬ (9223372036854775807 < (g k).nm.size + 1) := by omega
            clear hc z hbw hbz zz z1 z4
            generalize (g k).nm = nm at *
            generalize (g k).A = gA at *
            generalize (g k).n = gn at *
            generalize (g k).c = gc at *
            generalize (g k).f = gf at *
            generalize outB g s0 k = t at *
            generalize headB (nm ++ ⟨#[47]⟩) gn = hd at *
            go_wp2_with fail
            (first | (refine K24.out.mono ?_) | (refine K24'.out.mono ?_))
            rintro _ w6 ⟨rfl, hu6, hk6⟩
            have hM : w6.cell? ⟨wr.heap.size, 1, none⟩ = some (.slice gA gn gc) := by
              have hx := hk6 wr.heap.size #[.string nm, .slice gA gn gc] 39 (0, 0) (by have := is_lt HU5.out.1; omega) (by decide) (heap_alloc_new wr _)
              rw [Lib.cell_of_heap hx]; rfl
            have HU6 := Lib.hid hu6
            clear hu6 hk6
            have K25 := Lib.hid (bw25 HU6.out gA gn gc gf HZK.out HBZ.out rfl hg2 (by have := Z4.out; omega) (by omega))
            have K25' := Lib.hid (bw25 (bu_drew HU6.out) gA gn gc gf HZK.out HBZ.out rfl hg2 (by have := Z4.out; omega) (by omega))
            go_wp2_with fail
            (first | (refine K25.out.mono ?_) | (refine K25'.out.mono ?_))
            rintro _ w7 ⟨rfl, hu7⟩
            rw [← HSK.out] at hu7
            have HU7 := Lib.hid hu7
            clear hu7
            go_wp2_with fail
            go_roundw
            case rel => exact ⟨k + 1, HLT.out, by go_num, HU7.out⟩
            case measure => simp [intOf]; have := HLT.out; omega
          · obtain rfl : k = n := by omega
            have HEQ : Hid ((outB g s0 k).size ≤ 65536) := Lib.hid (by rw [HSZ.out k hk]; exact HLE.out k hk)
            have K26 := Lib.hid (bw26 HU5.out (by
              rw [HSZ.out k hk]
              have := endN_le g (begN x m) (Nat.zero_le k)
              rw [endN] at this
              have h8 : 8 ≤ begN x m := by unfold begN; split <;> omega
              omega))
            rw [HAR.out] at K26 HEQ
            obtain ⟨ar, har⟩ : ∃ ar, arB g x k m = ar := ⟨_, rfl⟩
            rw [har] at K26 HEQ
            have HAE := Lib.hid har
            clear har
            go_wp2_with fail
            refine K26.out.mono ?_
            rintro _ w9 ⟨rfl, hb9⟩
            have HB9 : Hid (Below w.heap.size w w9) := Lib.hid (HB2.out.trans (hb9.mono HB2.out.size))
            clear hb9
            go_wp2_with fail
            rw [Lib.run_convert_string_bytes w9 9 24 5 ar Tryz.underlying9 Tryz.underlying24 Tryz.underlying5]
            simp only [Result.andThen]
            rw [Oper.upon_value]
            go_wp2_with fail
            go_ret2
            refine Or.inr (Or.inr ⟨HY.out, by rw [HEN.out]; omega, ⟨w9.heap.size, _, by rw [HAE.out]; rfl, ?_, by have := HB9.out.size; omega, ?_⟩, HB9.out.trans ((below_bytes w9 ar).mono HB9.out.size)⟩)
            · rw [HAE.out]; exact le_cap w9 ar
            · rw [HAE.out]; exact bs_bytes w9 ar
end Go.Proofs.YtgmifaadlaigdaaGreatDoor
