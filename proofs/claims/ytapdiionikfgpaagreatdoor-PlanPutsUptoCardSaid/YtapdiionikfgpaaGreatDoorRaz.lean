import Derived.Test.YtapdiionikfgpaaGreatDoorQdz
import Derived.Laws.StructEq
import Derived.WalkSmall
namespace Go.Proofs.YtapdiionikfgpaaGreatDoor
open Go.ChangeShapes Go.WideShapes Go.ChangeAt Go.RowKit
set_option linter.unusedVariables false
set_option linter.unusedSimpArgs false
/-- a compartment, a plan: whatever numbers -/
structure CoI where
  nm : ByteArray
  fs : List (ByteArray × Bool)
  es : List (ByteArray × Int × Int)
  is : List (Int × ByteArray)
  ds : List (ByteArray × Int × Int)
  gs : List (Int × Bool)
structure PlI where
  st : Int
  tr : Int
  ss : List (ByteArray × Int)
  cs : List CoI
  s0 : Int
  mn : ByteArray
def iFs (x : ByteArray × Bool) : List Value := [.string x.1, .bool x.2]
def iEs (x : ByteArray × Int × Int) : List Value := [.string x.1, .int .i64 x.2.1, .int .i64 x.2.2]
def iIs (x : Int × ByteArray) : List Value := [.int .i64 x.1, .string x.2]
def iDs (x : ByteArray × Int × Int) : List Value := [.string x.1, .int .u32 x.2.1, .int .u32 x.2.2]
def iGs (x : Int × Bool) : List Value := [.int .i64 x.1, .bool x.2]
def iSs (x : ByteArray × Int) : List Value := [.string x.1, .int .i64 x.2]
def iCo (x : Sv × CoI) : List Value := [.string x.2.nm, x.1.f, x.1.e, x.1.i, x.1.d, x.1.g]
/-- a list lies there -/
def Ly {α : Type} (W : World) (v : Value) (sz : Nat) (f : α → List Value) (L : List α) : Prop :=
  ∃ A c, v = .slice A L.length c ∧ (0 < L.length → ∃ b o, A = some ⟨b, o, none⟩ ∧ b < W.heap.size ∧ ∀ k x, L[k]? = some x → ∀ j u, (f x)[j]? = some u → W.cell? ⟨b, o + k * sz + j, none⟩ = some u)
theorem Ly.below {α : Type} {W W' : World} {v : Value} {sz : Nat} {f : α → List Value} {L : List α} (h : Ly W v sz f L) (hb : Below W.heap.size W W') : Ly W' v sz f L := by
  obtain ⟨A, c, e, h2⟩ := h
  refine ⟨A, c, e, fun h0 => ?_⟩
  obtain ⟨b, o, e2, hl, hc⟩ := h2 h0
  refine ⟨b, o, e2, Nat.lt_of_lt_of_le hl hb.size, fun k x hx j u hu => ?_⟩
  rw [hb.cell (p := ⟨b, _, none⟩) hl]
  exact hc k x hx j u hu
theorem Ly.at' {α : Type} {W : World} {A : Option Addr} {n c sz : Nat} {f : α → List Value} {L : List α} (h : Ly W (.slice A n c) sz f L) : n = L.length ∧ (0 < L.length → ∃ b o, A = some ⟨b, o, none⟩ ∧ b < W.heap.size ∧ ∀ k x, L[k]? = some x → ∀ j u, (f x)[j]? = some u → W.cell? ⟨b, o + k * sz + j, none⟩ = some u) := by
  obtain ⟨A', c', e, h2⟩ := h
  cases e
  exact ⟨rfl, h2⟩
def RE {α : Type} (w : World) (L1 L2 : List α) (i : Value) (wr : World) : Prop := ∃ k : Nat, k ≤ L1.length ∧ i = .int .i64 (k : Int) ∧ Below w.heap.size w wr ∧ ∀ j, j < k → L1[j]? = L2[j]?
theorem ne_at {α : Type} [DecidableEq α] {L1 L2 : List α} {k : Nat} {x y : α} (hx : L1[k]? = some x) (hy : L2[k]? = some y) (h : x ≠ y) : decide (L1 = L2) = false := by
  refine decide_eq_false (fun e => h ?_)
  rw [e, hy] at hx
  cases hx
  rfl
theorem eq_all {α : Type} [DecidableEq α] {L1 L2 : List α} (hl : L1.length = L2.length) (h : ∀ j, j < L1.length → L1[j]? = L2[j]?) : decide (L1 = L2) = true := by
  refine decide_eq_true (List.ext_getElem? (fun j => ?_))
  rcases Nat.lt_or_ge j L1.length with h1 | h1
  · exact h j h1
  · rw [List.getElem?_eq_none h1, List.getElem?_eq_none (by omega)]
set_option maxRecDepth 100000 in
set_option maxHeartbeats 8000000 in
theorem n107 (v1 v2 : Value) (L1 L2 : List (ByteArray × Bool)) (w : World) (h1 : Ly w v1 2 iFs L1) (h2 : Ly w v2 2 iFs L2) (hl1 : L1.length ≤ 1048576) (hl2 : L2.length ≤ 1048576) :
    Calls Tryz.prog 107 #[v1, v2] w fun e w' => e = .returned (.bool (decide (L1 = L2))) ∧ Below w.heap.size w w' := by
  obtain ⟨A1, c1, rfl, g1⟩ := h1
  obtain ⟨A2, c2, rfl, g2⟩ := h2
  have G1 := Lib.hid g1
  have G2 := Lib.hid g2
  have HL1 := Lib.hid hl1
  clear g1 g2
  by_cases hl : L1.length = L2.length
  · have e0 : ((L1.length : Int) != (L2.length : Int)) = false := by simp; omega
    have e00 : ((L1.length : Int) == (L2.length : Int)) = true := by simp; omega
    have HL := Lib.hid hl
    go_enter Tryz.func107, Tryz.ntmps107
    go_wp2_with fail
    go_loopw [5, 13] (fun _ i wr => RE w L1 L2 i wr) (fun _ i _ => L1.length - (intOf i).toNat)
    case atStart => exact ⟨0, Nat.zero_le _, rfl, Below.refl _ _, fun j hj => absurd hj (by omega)⟩
    case round =>
      obtain ⟨k, hk, rfl, hb, hm⟩ := hrel
      have HB := Lib.hid hb
      have HM := Lib.hid hm
      clear hb hm
      by_cases hlt : k < L1.length
      · obtain ⟨x, hx⟩ : ∃ x, L1[k]? = some x := ⟨_, List.getElem?_eq_getElem hlt⟩
        obtain ⟨y, hy⟩ : ∃ y, L2[k]? = some y := ⟨_, List.getElem?_eq_getElem (by omega)⟩
        obtain ⟨b1, o1, rfl, hb1, hc1⟩ := G1.out (by omega)
        obtain ⟨b2, o2, rfl, hb2, hc2⟩ := G2.out (by omega)
        have p10 : wr.cell? ⟨b1, o1 + k * 2, none⟩ = some (.string x.1) := (HB.out.cell (p := ⟨b1, _, none⟩) hb1).trans (hc1 k x hx 0 _ rfl)
        have p20 : wr.cell? ⟨b2, o2 + k * 2, none⟩ = some (.string y.1) := (HB.out.cell (p := ⟨b2, _, none⟩) hb2).trans (hc2 k y hy 0 _ rfl)
        have p11 : wr.cell? ⟨b1, o1 + k * 2 + 1, none⟩ = some (.bool x.2) := (HB.out.cell (p := ⟨b1, _, none⟩) hb1).trans (hc1 k x hx 1 _ rfl)
        have p21 : wr.cell? ⟨b2, o2 + k * 2 + 1, none⟩ = some (.bool y.2) := (HB.out.cell (p := ⟨b2, _, none⟩) hb2).trans (hc2 k y hy 1 _ rfl)
        have hkn : (k : Int) < (L1.length : Int) := by omega
        have hkn2 : (k : Int) < (L2.length : Int) := by omega
        have hkw : IntKind.i64.wrap (k : Int) = (k : Int) := by rw [IntKind.wrap_i64]; omega
        have HX := Lib.hid hx
        have HY := Lib.hid hy
        have HLT := Lib.hid hlt
        clear hx hy hlt hc1 hc2 hb1 hb2
        by_cases hq0 : ¬ (x.1 = y.1)
        · have ht0 := hq0
          have HR := Lib.hid (ne_at HX.out HY.out (fun e => ht0 (by rw [e])))
          have t0 : (x.1.toList == y.1.toList) = false := by rw [bs_eq]; exact decide_eq_false ht0
          clear ht0 hq0
          go_wp2_with fail
          go_quiet (fail)
          go_wp2_with fail
          go_ret
          exact ⟨by rw [HR.out]; rfl, by first | exact HB.out | exact below_drewN HB.out _⟩
        have ht0 := Classical.not_not.1 hq0
        clear hq0
        by_cases hq1 : ¬ (x.2 = y.2)
        · have ht1 := hq1
          have HR := Lib.hid (ne_at HX.out HY.out (fun e => ht1 (by rw [e])))
          have t0 : (x.1.toList == y.1.toList) = true := by rw [bs_eq]; exact decide_eq_true ht0
          have t1 : (x.2 == y.2) = false := by simpa using ht1
          clear ht0 ht1 hq1
          go_wp2_with fail
          go_quiet (fail)
          go_wp2_with fail
          go_ret
          exact ⟨by rw [HR.out]; rfl, by first | exact HB.out | exact below_drewN HB.out _⟩
        have ht1 := Classical.not_not.1 hq1
        clear hq1
        have t0 : (x.1.toList == y.1.toList) = true := by rw [bs_eq]; exact decide_eq_true ht0
        have t1 : (x.2 == y.2) = true := by simpa using ht1
        have HXY : Hid (x = y) := Lib.hid (Prod.ext ht0 ht1)
        clear ht0 ht1
        go_wp2_with fail
        go_quiet (fail)
        go_wp2_with fail
        go_roundw
        case rel => exact ⟨k + 1, HLT.out, by go_num, by first | exact HB.out | exact below_drewN HB.out _, fun j hj => by
          by_cases hjk : j = k
          · rw [hjk, HX.out, HY.out, HXY.out]
          · exact HM.out j (by omega)⟩
        case measure => simp [intOf]; have := HLT.out; omega
      · have HR := Lib.hid (eq_all HL.out (fun j hj => HM.out j (by omega)))
        obtain rfl : k = L1.length := by omega
        clear hlt hk
        go_wp2_with fail
        go_ret
        exact ⟨by rw [HR.out]; rfl, HB.out⟩
  · have e0 : ((L1.length : Int) != (L2.length : Int)) = true := by simp; omega
    have e00 : ((L1.length : Int) == (L2.length : Int)) = false := by simp; omega
    have HR : Hid (decide (L1 = L2) = false) := Lib.hid (decide_eq_false (fun e => hl (by rw [e])))
    go_enter Tryz.func107, Tryz.ntmps107
    go_wp2_with fail
    go_ret
    exact ⟨by rw [HR.out]; rfl, Below.refl _ _⟩
set_option maxRecDepth 100000 in
set_option maxHeartbeats 8000000 in
theorem r23 (v1 v2 : Value) (L1 L2 : List (ByteArray × Bool)) (w : World) (h1 : Ly w v1 2 iFs L1) (h2 : Ly w v2 2 iFs L2) (hl1 : L1.length ≤ 1048576) (hl2 : L2.length ≤ 1048576) :
    Calls Tryz.prog 23 #[v1, v2] w fun e w' => e = .returned (.bool (decide (L1 = L2))) ∧ Below w.heap.size w w' := by
  obtain ⟨A1, c1, rfl, g1⟩ := h1
  obtain ⟨A2, c2, rfl, g2⟩ := h2
  have G1 := Lib.hid g1
  have G2 := Lib.hid g2
  have HL1 := Lib.hid hl1
  clear g1 g2
  by_cases hl : L1.length = L2.length
  · have e0 : ((L1.length : Int) != (L2.length : Int)) = false := by simp; omega
    have e00 : ((L1.length : Int) == (L2.length : Int)) = true := by simp; omega
    have HL := Lib.hid hl
    go_enter Tryz.func23, Tryz.ntmps23
    go_wp2_with fail
    go_loopw [5] (fun i wr => RE w L1 L2 i wr) (fun i _ => L1.length - (intOf i).toNat)
    case atStart => exact ⟨0, Nat.zero_le _, rfl, Below.refl _ _, fun j hj => absurd hj (by omega)⟩
    case round =>
      obtain ⟨k, hk, rfl, hb, hm⟩ := hrel
      have HB := Lib.hid hb
      have HM := Lib.hid hm
      clear hb hm
      by_cases hlt : k < L1.length
      · obtain ⟨x, hx⟩ : ∃ x, L1[k]? = some x := ⟨_, List.getElem?_eq_getElem hlt⟩
        obtain ⟨y, hy⟩ : ∃ y, L2[k]? = some y := ⟨_, List.getElem?_eq_getElem (by omega)⟩
        obtain ⟨b1, o1, rfl, hb1, hc1⟩ := G1.out (by omega)
        obtain ⟨b2, o2, rfl, hb2, hc2⟩ := G2.out (by omega)
        have p10 : wr.cell? ⟨b1, o1 + k * 2, none⟩ = some (.string x.1) := (HB.out.cell (p := ⟨b1, _, none⟩) hb1).trans (hc1 k x hx 0 _ rfl)
        have p20 : wr.cell? ⟨b2, o2 + k * 2, none⟩ = some (.string y.1) := (HB.out.cell (p := ⟨b2, _, none⟩) hb2).trans (hc2 k y hy 0 _ rfl)
        have p11 : wr.cell? ⟨b1, o1 + k * 2 + 1, none⟩ = some (.bool x.2) := (HB.out.cell (p := ⟨b1, _, none⟩) hb1).trans (hc1 k x hx 1 _ rfl)
        have p21 : wr.cell? ⟨b2, o2 + k * 2 + 1, none⟩ = some (.bool y.2) := (HB.out.cell (p := ⟨b2, _, none⟩) hb2).trans (hc2 k y hy 1 _ rfl)
        have hkn : (k : Int) < (L1.length : Int) := by omega
        have hkn2 : (k : Int) < (L2.length : Int) := by omega
        have hkw : IntKind.i64.wrap (k : Int) = (k : Int) := by rw [IntKind.wrap_i64]; omega
        have HX := Lib.hid hx
        have HY := Lib.hid hy
        have HLT := Lib.hid hlt
        clear hx hy hlt hc1 hc2 hb1 hb2
        by_cases hq0 : ¬ (x.1 = y.1)
        · have ht0 := hq0
          have HR := Lib.hid (ne_at HX.out HY.out (fun e => ht0 (by rw [e])))
          have t0 : (x.1.toList == y.1.toList) = false := by rw [bs_eq]; exact decide_eq_false ht0
          clear ht0 hq0
          go_wp2_with fail
          go_quiet (fail)
          go_wp2_with fail
          go_ret
          exact ⟨by rw [HR.out]; rfl, by first | exact HB.out | exact below_drewN HB.out _⟩
        have ht0 := Classical.not_not.1 hq0
        clear hq0
        by_cases hq1 : ¬ (x.2 = y.2)
        · have ht1 := hq1
          have HR := Lib.hid (ne_at HX.out HY.out (fun e => ht1 (by rw [e])))
          have t0 : (x.1.toList == y.1.toList) = true := by rw [bs_eq]; exact decide_eq_true ht0
          have t1 : (x.2 == y.2) = false := by simpa using ht1
          clear ht0 ht1 hq1
          go_wp2_with fail
          go_quiet (fail)
          go_wp2_with fail
          go_ret
          exact ⟨by rw [HR.out]; rfl, by first | exact HB.out | exact below_drewN HB.out _⟩
        have ht1 := Classical.not_not.1 hq1
        clear hq1
        have t0 : (x.1.toList == y.1.toList) = true := by rw [bs_eq]; exact decide_eq_true ht0
        have t1 : (x.2 == y.2) = true := by simpa using ht1
        have HXY : Hid (x = y) := Lib.hid (Prod.ext ht0 ht1)
        clear ht0 ht1
        go_wp2_with fail
        go_quiet (fail)
        go_wp2_with fail
        go_roundw
        case rel => exact ⟨k + 1, HLT.out, by go_num, by first | exact HB.out | exact below_drewN HB.out _, fun j hj => by
          by_cases hjk : j = k
          · rw [hjk, HX.out, HY.out, HXY.out]
          · exact HM.out j (by omega)⟩
        case measure => simp [intOf]; have := HLT.out; omega
      · have HR := Lib.hid (eq_all HL.out (fun j hj => HM.out j (by omega)))
        obtain rfl : k = L1.length := by omega
        clear hlt hk
        go_wp2_with fail
        go_ret
        exact ⟨by rw [HR.out]; rfl, HB.out⟩
  · have e0 : ((L1.length : Int) != (L2.length : Int)) = true := by simp; omega
    have e00 : ((L1.length : Int) == (L2.length : Int)) = false := by simp; omega
    have HR : Hid (decide (L1 = L2) = false) := Lib.hid (decide_eq_false (fun e => hl (by rw [e])))
    go_enter Tryz.func23, Tryz.ntmps23
    go_wp2_with fail
    go_loopw [5] (fun i wr => i = .int .i64 0 ∧ wr = w) (fun i _ => 1)
    case atStart => exact ⟨rfl, rfl⟩
    case round =>
      obtain ⟨rfl, rfl⟩ := hrel
      go_wp2_with fail
      all_goals
        go_ret
        exact ⟨by rw [HR.out]; rfl, Below.refl _ _⟩
set_option maxRecDepth 100000 in
set_option maxHeartbeats 8000000 in
theorem n108 (v1 v2 : Value) (L1 L2 : List (ByteArray × Int × Int)) (w : World) (h1 : Ly w v1 3 iEs L1) (h2 : Ly w v2 3 iEs L2) (hl1 : L1.length ≤ 1048576) (hl2 : L2.length ≤ 1048576) :
    Calls Tryz.prog 108 #[v1, v2] w fun e w' => e = .returned (.bool (decide (L1 = L2))) ∧ Below w.heap.size w w' := by
  obtain ⟨A1, c1, rfl, g1⟩ := h1
  obtain ⟨A2, c2, rfl, g2⟩ := h2
  have G1 := Lib.hid g1
  have G2 := Lib.hid g2
  have HL1 := Lib.hid hl1
  clear g1 g2
  by_cases hl : L1.length = L2.length
  · have e0 : ((L1.length : Int) != (L2.length : Int)) = false := by simp; omega
    have e00 : ((L1.length : Int) == (L2.length : Int)) = true := by simp; omega
    have HL := Lib.hid hl
    go_enter Tryz.func108, Tryz.ntmps108
    go_wp2_with fail
    go_loopw [5, 13] (fun _ i wr => RE w L1 L2 i wr) (fun _ i _ => L1.length - (intOf i).toNat)
    case atStart => exact ⟨0, Nat.zero_le _, rfl, Below.refl _ _, fun j hj => absurd hj (by omega)⟩
    case round =>
      obtain ⟨k, hk, rfl, hb, hm⟩ := hrel
      have HB := Lib.hid hb
      have HM := Lib.hid hm
      clear hb hm
      by_cases hlt : k < L1.length
      · obtain ⟨x, hx⟩ : ∃ x, L1[k]? = some x := ⟨_, List.getElem?_eq_getElem hlt⟩
        obtain ⟨y, hy⟩ : ∃ y, L2[k]? = some y := ⟨_, List.getElem?_eq_getElem (by omega)⟩
        obtain ⟨b1, o1, rfl, hb1, hc1⟩ := G1.out (by omega)
        obtain ⟨b2, o2, rfl, hb2, hc2⟩ := G2.out (by omega)
        have p10 : wr.cell? ⟨b1, o1 + k * 3, none⟩ = some (.string x.1) := (HB.out.cell (p := ⟨b1, _, none⟩) hb1).trans (hc1 k x hx 0 _ rfl)
        have p20 : wr.cell? ⟨b2, o2 + k * 3, none⟩ = some (.string y.1) := (HB.out.cell (p := ⟨b2, _, none⟩) hb2).trans (hc2 k y hy 0 _ rfl)
        have p11 : wr.cell? ⟨b1, o1 + k * 3 + 1, none⟩ = some (.int .i64 x.2.1) := (HB.out.cell (p := ⟨b1, _, none⟩) hb1).trans (hc1 k x hx 1 _ rfl)
        have p21 : wr.cell? ⟨b2, o2 + k * 3 + 1, none⟩ = some (.int .i64 y.2.1) := (HB.out.cell (p := ⟨b2, _, none⟩) hb2).trans (hc2 k y hy 1 _ rfl)
        have p12 : wr.cell? ⟨b1, o1 + k * 3 + 2, none⟩ = some (.int .i64 x.2.2) := (HB.out.cell (p := ⟨b1, _, none⟩) hb1).trans (hc1 k x hx 2 _ rfl)
        have p22 : wr.cell? ⟨b2, o2 + k * 3 + 2, none⟩ = some (.int .i64 y.2.2) := (HB.out.cell (p := ⟨b2, _, none⟩) hb2).trans (hc2 k y hy 2 _ rfl)
        have hkn : (k : Int) < (L1.length : Int) := by omega
        have hkn2 : (k : Int) < (L2.length : Int) := by omega
        have hkw : IntKind.i64.wrap (k : Int) = (k : Int) := by rw [IntKind.wrap_i64]; omega
        have HX := Lib.hid hx
        have HY := Lib.hid hy
        have HLT := Lib.hid hlt
        clear hx hy hlt hc1 hc2 hb1 hb2
        by_cases hq0 : ¬ (x.1 = y.1)
        · have ht0 := hq0
          have HR := Lib.hid (ne_at HX.out HY.out (fun e => ht0 (by rw [e])))
          have t0 : (x.1.toList == y.1.toList) = false := by rw [bs_eq]; exact decide_eq_false ht0
          clear ht0 hq0
          go_wp2_with fail
          go_quiet (fail)
          go_wp2_with fail
          go_ret
          exact ⟨by rw [HR.out]; rfl, by first | exact HB.out | exact below_drewN HB.out _⟩
        have ht0 := Classical.not_not.1 hq0
        clear hq0
        by_cases hq1 : ¬ (x.2.1 = y.2.1)
        · have ht1 := hq1
          have HR := Lib.hid (ne_at HX.out HY.out (fun e => ht1 (by rw [e])))
          have t0 : (x.1.toList == y.1.toList) = true := by rw [bs_eq]; exact decide_eq_true ht0
          have t1 : (x.2.1 == y.2.1) = false := by simpa using ht1
          clear ht0 ht1 hq1
          go_wp2_with fail
          go_quiet (fail)
          go_wp2_with fail
          go_ret
          exact ⟨by rw [HR.out]; rfl, by first | exact HB.out | exact below_drewN HB.out _⟩
        have ht1 := Classical.not_not.1 hq1
        clear hq1
        by_cases hq2 : ¬ (x.2.2 = y.2.2)
        · have ht2 := hq2
          have HR := Lib.hid (ne_at HX.out HY.out (fun e => ht2 (by rw [e])))
          have t0 : (x.1.toList == y.1.toList) = true := by rw [bs_eq]; exact decide_eq_true ht0
          have t1 : (x.2.1 == y.2.1) = true := by simpa using ht1
          have t2 : (x.2.2 == y.2.2) = false := by simpa using ht2
          clear ht0 ht1 ht2 hq2
          go_wp2_with fail
          go_quiet (fail)
          go_wp2_with fail
          go_ret
          exact ⟨by rw [HR.out]; rfl, by first | exact HB.out | exact below_drewN HB.out _⟩
        have ht2 := Classical.not_not.1 hq2
        clear hq2
        have t0 : (x.1.toList == y.1.toList) = true := by rw [bs_eq]; exact decide_eq_true ht0
        have t1 : (x.2.1 == y.2.1) = true := by simpa using ht1
        have t2 : (x.2.2 == y.2.2) = true := by simpa using ht2
        have HXY : Hid (x = y) := Lib.hid (Prod.ext ht0 (Prod.ext ht1 ht2))
        clear ht0 ht1 ht2
        go_wp2_with fail
        go_quiet (fail)
        go_wp2_with fail
        go_roundw
        case rel => exact ⟨k + 1, HLT.out, by go_num, by first | exact HB.out | exact below_drewN HB.out _, fun j hj => by
          by_cases hjk : j = k
          · rw [hjk, HX.out, HY.out, HXY.out]
          · exact HM.out j (by omega)⟩
        case measure => simp [intOf]; have := HLT.out; omega
      · have HR := Lib.hid (eq_all HL.out (fun j hj => HM.out j (by omega)))
        obtain rfl : k = L1.length := by omega
        clear hlt hk
        go_wp2_with fail
        go_ret
        exact ⟨by rw [HR.out]; rfl, HB.out⟩
  · have e0 : ((L1.length : Int) != (L2.length : Int)) = true := by simp; omega
    have e00 : ((L1.length : Int) == (L2.length : Int)) = false := by simp; omega
    have HR : Hid (decide (L1 = L2) = false) := Lib.hid (decide_eq_false (fun e => hl (by rw [e])))
    go_enter Tryz.func108, Tryz.ntmps108
    go_wp2_with fail
    go_ret
    exact ⟨by rw [HR.out]; rfl, Below.refl _ _⟩
set_option maxRecDepth 100000 in
set_option maxHeartbeats 8000000 in
theorem r24 (v1 v2 : Value) (L1 L2 : List (ByteArray × Int × Int)) (w : World) (h1 : Ly w v1 3 iEs L1) (h2 : Ly w v2 3 iEs L2) (hl1 : L1.length ≤ 1048576) (hl2 : L2.length ≤ 1048576) :
    Calls Tryz.prog 24 #[v1, v2] w fun e w' => e = .returned (.bool (decide (L1 = L2))) ∧ Below w.heap.size w w' := by
  obtain ⟨A1, c1, rfl, g1⟩ := h1
  obtain ⟨A2, c2, rfl, g2⟩ := h2
  have G1 := Lib.hid g1
  have G2 := Lib.hid g2
  have HL1 := Lib.hid hl1
  clear g1 g2
  by_cases hl : L1.length = L2.length
  · have e0 : ((L1.length : Int) != (L2.length : Int)) = false := by simp; omega
    have e00 : ((L1.length : Int) == (L2.length : Int)) = true := by simp; omega
    have HL := Lib.hid hl
    go_enter Tryz.func24, Tryz.ntmps24
    go_wp2_with fail
    go_loopw [5] (fun i wr => RE w L1 L2 i wr) (fun i _ => L1.length - (intOf i).toNat)
    case atStart => exact ⟨0, Nat.zero_le _, rfl, Below.refl _ _, fun j hj => absurd hj (by omega)⟩
    case round =>
      obtain ⟨k, hk, rfl, hb, hm⟩ := hrel
      have HB := Lib.hid hb
      have HM := Lib.hid hm
      clear hb hm
      by_cases hlt : k < L1.length
      · obtain ⟨x, hx⟩ : ∃ x, L1[k]? = some x := ⟨_, List.getElem?_eq_getElem hlt⟩
        obtain ⟨y, hy⟩ : ∃ y, L2[k]? = some y := ⟨_, List.getElem?_eq_getElem (by omega)⟩
        obtain ⟨b1, o1, rfl, hb1, hc1⟩ := G1.out (by omega)
        obtain ⟨b2, o2, rfl, hb2, hc2⟩ := G2.out (by omega)
        have p10 : wr.cell? ⟨b1, o1 + k * 3, none⟩ = some (.string x.1) := (HB.out.cell (p := ⟨b1, _, none⟩) hb1).trans (hc1 k x hx 0 _ rfl)
        have p20 : wr.cell? ⟨b2, o2 + k * 3, none⟩ = some (.string y.1) := (HB.out.cell (p := ⟨b2, _, none⟩) hb2).trans (hc2 k y hy 0 _ rfl)
        have p11 : wr.cell? ⟨b1, o1 + k * 3 + 1, none⟩ = some (.int .i64 x.2.1) := (HB.out.cell (p := ⟨b1, _, none⟩) hb1).trans (hc1 k x hx 1 _ rfl)
        have p21 : wr.cell? ⟨b2, o2 + k * 3 + 1, none⟩ = some (.int .i64 y.2.1) := (HB.out.cell (p := ⟨b2, _, none⟩) hb2).trans (hc2 k y hy 1 _ rfl)
        have p12 : wr.cell? ⟨b1, o1 + k * 3 + 2, none⟩ = some (.int .i64 x.2.2) := (HB.out.cell (p := ⟨b1, _, none⟩) hb1).trans (hc1 k x hx 2 _ rfl)
        have p22 : wr.cell? ⟨b2, o2 + k * 3 + 2, none⟩ = some (.int .i64 y.2.2) := (HB.out.cell (p := ⟨b2, _, none⟩) hb2).trans (hc2 k y hy 2 _ rfl)
        have hkn : (k : Int) < (L1.length : Int) := by omega
        have hkn2 : (k : Int) < (L2.length : Int) := by omega
        have hkw : IntKind.i64.wrap (k : Int) = (k : Int) := by rw [IntKind.wrap_i64]; omega
        have HX := Lib.hid hx
        have HY := Lib.hid hy
        have HLT := Lib.hid hlt
        clear hx hy hlt hc1 hc2 hb1 hb2
        by_cases hq0 : ¬ (x.1 = y.1)
        · have ht0 := hq0
          have HR := Lib.hid (ne_at HX.out HY.out (fun e => ht0 (by rw [e])))
          have t0 : (x.1.toList == y.1.toList) = false := by rw [bs_eq]; exact decide_eq_false ht0
          clear ht0 hq0
          go_wp2_with fail
          go_quiet (fail)
          go_wp2_with fail
          go_ret
          exact ⟨by rw [HR.out]; rfl, by first | exact HB.out | exact below_drewN HB.out _⟩
        have ht0 := Classical.not_not.1 hq0
        clear hq0
        by_cases hq1 : ¬ (x.2.1 = y.2.1)
        · have ht1 := hq1
          have HR := Lib.hid (ne_at HX.out HY.out (fun e => ht1 (by rw [e])))
          have t0 : (x.1.toList == y.1.toList) = true := by rw [bs_eq]; exact decide_eq_true ht0
          have t1 : (x.2.1 == y.2.1) = false := by simpa using ht1
          clear ht0 ht1 hq1
          go_wp2_with fail
          go_quiet (fail)
          go_wp2_with fail
          go_ret
          exact ⟨by rw [HR.out]; rfl, by first | exact HB.out | exact below_drewN HB.out _⟩
        have ht1 := Classical.not_not.1 hq1
        clear hq1
        by_cases hq2 : ¬ (x.2.2 = y.2.2)
        · have ht2 := hq2
          have HR := Lib.hid (ne_at HX.out HY.out (fun e => ht2 (by rw [e])))
          have t0 : (x.1.toList == y.1.toList) = true := by rw [bs_eq]; exact decide_eq_true ht0
          have t1 : (x.2.1 == y.2.1) = true := by simpa using ht1
          have t2 : (x.2.2 == y.2.2) = false := by simpa using ht2
          clear ht0 ht1 ht2 hq2
          go_wp2_with fail
          go_quiet (fail)
          go_wp2_with fail
          go_ret
          exact ⟨by rw [HR.out]; rfl, by first | exact HB.out | exact below_drewN HB.out _⟩
        have ht2 := Classical.not_not.1 hq2
        clear hq2
        have t0 : (x.1.toList == y.1.toList) = true := by rw [bs_eq]; exact decide_eq_true ht0
        have t1 : (x.2.1 == y.2.1) = true := by simpa using ht1
        have t2 : (x.2.2 == y.2.2) = true := by simpa using ht2
        have HXY : Hid (x = y) := Lib.hid (Prod.ext ht0 (Prod.ext ht1 ht2))
        clear ht0 ht1 ht2
        go_wp2_with fail
        go_quiet (fail)
        go_wp2_with fail
        go_roundw
        case rel => exact ⟨k + 1, HLT.out, by go_num, by first | exact HB.out | exact below_drewN HB.out _, fun j hj => by
          by_cases hjk : j = k
          · rw [hjk, HX.out, HY.out, HXY.out]
          · exact HM.out j (by omega)⟩
        case measure => simp [intOf]; have := HLT.out; omega
      · have HR := Lib.hid (eq_all HL.out (fun j hj => HM.out j (by omega)))
        obtain rfl : k = L1.length := by omega
        clear hlt hk
        go_wp2_with fail
        go_ret
        exact ⟨by rw [HR.out]; rfl, HB.out⟩
  · have e0 : ((L1.length : Int) != (L2.length : Int)) = true := by simp; omega
    have e00 : ((L1.length : Int) == (L2.length : Int)) = false := by simp; omega
    have HR : Hid (decide (L1 = L2) = false) := Lib.hid (decide_eq_false (fun e => hl (by rw [e])))
    go_enter Tryz.func24, Tryz.ntmps24
    go_wp2_with fail
    go_loopw [5] (fun i wr => i = .int .i64 0 ∧ wr = w) (fun i _ => 1)
    case atStart => exact ⟨rfl, rfl⟩
    case round =>
      obtain ⟨rfl, rfl⟩ := hrel
      go_wp2_with fail
      all_goals
        go_ret
        exact ⟨by rw [HR.out]; rfl, Below.refl _ _⟩
set_option maxRecDepth 100000 in
set_option maxHeartbeats 8000000 in
theorem n109 (v1 v2 : Value) (L1 L2 : List (Int × ByteArray)) (w : World) (h1 : Ly w v1 2 iIs L1) (h2 : Ly w v2 2 iIs L2) (hl1 : L1.length ≤ 1048576) (hl2 : L2.length ≤ 1048576) :
    Calls Tryz.prog 109 #[v1, v2] w fun e w' => e = .returned (.bool (decide (L1 = L2))) ∧ Below w.heap.size w w' := by
  obtain ⟨A1, c1, rfl, g1⟩ := h1
  obtain ⟨A2, c2, rfl, g2⟩ := h2
  have G1 := Lib.hid g1
  have G2 := Lib.hid g2
  have HL1 := Lib.hid hl1
  clear g1 g2
  by_cases hl : L1.length = L2.length
  · have e0 : ((L1.length : Int) != (L2.length : Int)) = false := by simp; omega
    have e00 : ((L1.length : Int) == (L2.length : Int)) = true := by simp; omega
    have HL := Lib.hid hl
    go_enter Tryz.func109, Tryz.ntmps109
    go_wp2_with fail
    go_loopw [5, 13] (fun _ i wr => RE w L1 L2 i wr) (fun _ i _ => L1.length - (intOf i).toNat)
    case atStart => exact ⟨0, Nat.zero_le _, rfl, Below.refl _ _, fun j hj => absurd hj (by omega)⟩
    case round =>
      obtain ⟨k, hk, rfl, hb, hm⟩ := hrel
      have HB := Lib.hid hb
      have HM := Lib.hid hm
      clear hb hm
      by_cases hlt : k < L1.length
      · obtain ⟨x, hx⟩ : ∃ x, L1[k]? = some x := ⟨_, List.getElem?_eq_getElem hlt⟩
        obtain ⟨y, hy⟩ : ∃ y, L2[k]? = some y := ⟨_, List.getElem?_eq_getElem (by omega)⟩
        obtain ⟨b1, o1, rfl, hb1, hc1⟩ := G1.out (by omega)
        obtain ⟨b2, o2, rfl, hb2, hc2⟩ := G2.out (by omega)
        have p10 : wr.cell? ⟨b1, o1 + k * 2, none⟩ = some (.int .i64 x.1) := (HB.out.cell (p := ⟨b1, _, none⟩) hb1).trans (hc1 k x hx 0 _ rfl)
        have p20 : wr.cell? ⟨b2, o2 + k * 2, none⟩ = some (.int .i64 y.1) := (HB.out.cell (p := ⟨b2, _, none⟩) hb2).trans (hc2 k y hy 0 _ rfl)
        have p11 : wr.cell? ⟨b1, o1 + k * 2 + 1, none⟩ = some (.string x.2) := (HB.out.cell (p := ⟨b1, _, none⟩) hb1).trans (hc1 k x hx 1 _ rfl)
        have p21 : wr.cell? ⟨b2, o2 + k * 2 + 1, none⟩ = some (.string y.2) := (HB.out.cell (p := ⟨b2, _, none⟩) hb2).trans (hc2 k y hy 1 _ rfl)
        have hkn : (k : Int) < (L1.length : Int) := by omega
        have hkn2 : (k : Int) < (L2.length : Int) := by omega
        have hkw : IntKind.i64.wrap (k : Int) = (k : Int) := by rw [IntKind.wrap_i64]; omega
        have HX := Lib.hid hx
        have HY := Lib.hid hy
        have HLT := Lib.hid hlt
        clear hx hy hlt hc1 hc2 hb1 hb2
        by_cases hq0 : ¬ (x.1 = y.1)
        · have ht0 := hq0
          have HR := Lib.hid (ne_at HX.out HY.out (fun e => ht0 (by rw [e])))
          have t0 : (x.1 == y.1) = false := by simpa using ht0
          clear ht0 hq0
          go_wp2_with fail
          go_quiet (fail)
          go_wp2_with fail
          go_ret
          exact ⟨by rw [HR.out]; rfl, by first | exact HB.out | exact below_drewN HB.out _⟩
        have ht0 := Classical.not_not.1 hq0
        clear hq0
        by_cases hq1 : ¬ (x.2 = y.2)
        · have ht1 := hq1
          have HR := Lib.hid (ne_at HX.out HY.out (fun e => ht1 (by rw [e])))
          have t0 : (x.1 == y.1) = true := by simpa using ht0
          have t1 : (x.2.toList == y.2.toList) = false := by rw [bs_eq]; exact decide_eq_false ht1
          clear ht0 ht1 hq1
          go_wp2_with fail
          go_quiet (fail)
          go_wp2_with fail
          go_ret
          exact ⟨by rw [HR.out]; rfl, by first | exact HB.out | exact below_drewN HB.out _⟩
        have ht1 := Classical.not_not.1 hq1
        clear hq1
        have t0 : (x.1 == y.1) = true := by simpa using ht0
        have t1 : (x.2.toList == y.2.toList) = true := by rw [bs_eq]; exact decide_eq_true ht1
        have HXY : Hid (x = y) := Lib.hid (Prod.ext ht0 ht1)
        clear ht0 ht1
        go_wp2_with fail
        go_quiet (fail)
        go_wp2_with fail
        go_roundw
        case rel => exact ⟨k + 1, HLT.out, by go_num, by first | exact HB.out | exact below_drewN HB.out _, fun j hj => by
          by_cases hjk : j = k
          · rw [hjk, HX.out, HY.out, HXY.out]
          · exact HM.out j (by omega)⟩
        case measure => simp [intOf]; have := HLT.out; omega
      · have HR := Lib.hid (eq_all HL.out (fun j hj => HM.out j (by omega)))
        obtain rfl : k = L1.length := by omega
        clear hlt hk
        go_wp2_with fail
        go_ret
        exact ⟨by rw [HR.out]; rfl, HB.out⟩
  · have e0 : ((L1.length : Int) != (L2.length : Int)) = true := by simp; omega
    have e00 : ((L1.length : Int) == (L2.length : Int)) = false := by simp; omega
    have HR : Hid (decide (L1 = L2) = false) := Lib.hid (decide_eq_false (fun e => hl (by rw [e])))
    go_enter Tryz.func109, Tryz.ntmps109
    go_wp2_with fail
    go_ret
    exact ⟨by rw [HR.out]; rfl, Below.refl _ _⟩
set_option maxRecDepth 100000 in
set_option maxHeartbeats 8000000 in
theorem r25 (v1 v2 : Value) (L1 L2 : List (Int × ByteArray)) (w : World) (h1 : Ly w v1 2 iIs L1) (h2 : Ly w v2 2 iIs L2) (hl1 : L1.length ≤ 1048576) (hl2 : L2.length ≤ 1048576) :
    Calls Tryz.prog 25 #[v1, v2] w fun e w' => e = .returned (.bool (decide (L1 = L2))) ∧ Below w.heap.size w w' := by
  obtain ⟨A1, c1, rfl, g1⟩ := h1
  obtain ⟨A2, c2, rfl, g2⟩ := h2
  have G1 := Lib.hid g1
  have G2 := Lib.hid g2
  have HL1 := Lib.hid hl1
  clear g1 g2
  by_cases hl : L1.length = L2.length
  · have e0 : ((L1.length : Int) != (L2.length : Int)) = false := by simp; omega
    have e00 : ((L1.length : Int) == (L2.length : Int)) = true := by simp; omega
    have HL := Lib.hid hl
    go_enter Tryz.func25, Tryz.ntmps25
    go_wp2_with fail
    go_loopw [5] (fun i wr => RE w L1 L2 i wr) (fun i _ => L1.length - (intOf i).toNat)
    case atStart => exact ⟨0, Nat.zero_le _, rfl, Below.refl _ _, fun j hj => absurd hj (by omega)⟩
    case round =>
      obtain ⟨k, hk, rfl, hb, hm⟩ := hrel
      have HB := Lib.hid hb
      have HM := Lib.hid hm
      clear hb hm
      by_cases hlt : k < L1.length
      · obtain ⟨x, hx⟩ : ∃ x, L1[k]? = some x := ⟨_, List.getElem?_eq_getElem hlt⟩
        obtain ⟨y, hy⟩ : ∃ y, L2[k]? = some y := ⟨_, List.getElem?_eq_getElem (by omega)⟩
        obtain ⟨b1, o1, rfl, hb1, hc1⟩ := G1.out (by omega)
        obtain ⟨b2, o2, rfl, hb2, hc2⟩ := G2.out (by omega)
        have p10 : wr.cell? ⟨b1, o1 + k * 2, none⟩ = some (.int .i64 x.1) := (HB.out.cell (p := ⟨b1, _, none⟩) hb1).trans (hc1 k x hx 0 _ rfl)
        have p20 : wr.cell? ⟨b2, o2 + k * 2, none⟩ = some (.int .i64 y.1) := (HB.out.cell (p := ⟨b2, _, none⟩) hb2).trans (hc2 k y hy 0 _ rfl)
        have p11 : wr.cell? ⟨b1, o1 + k * 2 + 1, none⟩ = some (.string x.2) := (HB.out.cell (p := ⟨b1, _, none⟩) hb1).trans (hc1 k x hx 1 _ rfl)
        have p21 : wr.cell? ⟨b2, o2 + k * 2 + 1, none⟩ = some (.string y.2) := (HB.out.cell (p := ⟨b2, _, none⟩) hb2).trans (hc2 k y hy 1 _ rfl)
        have hkn : (k : Int) < (L1.length : Int) := by omega
        have hkn2 : (k : Int) < (L2.length : Int) := by omega
        have hkw : IntKind.i64.wrap (k : Int) = (k : Int) := by rw [IntKind.wrap_i64]; omega
        have HX := Lib.hid hx
        have HY := Lib.hid hy
        have HLT := Lib.hid hlt
        clear hx hy hlt hc1 hc2 hb1 hb2
        by_cases hq0 : ¬ (x.1 = y.1)
        · have ht0 := hq0
          have HR := Lib.hid (ne_at HX.out HY.out (fun e => ht0 (by rw [e])))
          have t0 : (x.1 == y.1) = false := by simpa using ht0
          clear ht0 hq0
          go_wp2_with fail
          go_quiet (fail)
          go_wp2_with fail
          go_ret
          exact ⟨by rw [HR.out]; rfl, by first | exact HB.out | exact below_drewN HB.out _⟩
        have ht0 := Classical.not_not.1 hq0
        clear hq0
        by_cases hq1 : ¬ (x.2 = y.2)
        · have ht1 := hq1
          have HR := Lib.hid (ne_at HX.out HY.out (fun e => ht1 (by rw [e])))
          have t0 : (x.1 == y.1) = true := by simpa using ht0
          have t1 : (x.2.toList == y.2.toList) = false := by rw [bs_eq]; exact decide_eq_false ht1
          clear ht0 ht1 hq1
          go_wp2_with fail
          go_quiet (fail)
          go_wp2_with fail
          go_ret
          exact ⟨by rw [HR.out]; rfl, by first | exact HB.out | exact below_drewN HB.out _⟩
        have ht1 := Classical.not_not.1 hq1
        clear hq1
        have t0 : (x.1 == y.1) = true := by simpa using ht0
        have t1 : (x.2.toList == y.2.toList) = true := by rw [bs_eq]; exact decide_eq_true ht1
        have HXY : Hid (x = y) := Lib.hid (Prod.ext ht0 ht1)
        clear ht0 ht1
        go_wp2_with fail
        go_quiet (fail)
        go_wp2_with fail
        go_roundw
        case rel => exact ⟨k + 1, HLT.out, by go_num, by first | exact HB.out | exact below_drewN HB.out _, fun j hj => by
          by_cases hjk : j = k
          · rw [hjk, HX.out, HY.out, HXY.out]
          · exact HM.out j (by omega)⟩
        case measure => simp [intOf]; have := HLT.out; omega
      · have HR := Lib.hid (eq_all HL.out (fun j hj => HM.out j (by omega)))
        obtain rfl : k = L1.length := by omega
        clear hlt hk
        go_wp2_with fail
        go_ret
        exact ⟨by rw [HR.out]; rfl, HB.out⟩
  · have e0 : ((L1.length : Int) != (L2.length : Int)) = true := by simp; omega
    have e00 : ((L1.length : Int) == (L2.length : Int)) = false := by simp; omega
    have HR : Hid (decide (L1 = L2) = false) := Lib.hid (decide_eq_false (fun e => hl (by rw [e])))
    go_enter Tryz.func25, Tryz.ntmps25
    go_wp2_with fail
    go_loopw [5] (fun i wr => i = .int .i64 0 ∧ wr = w) (fun i _ => 1)
    case atStart => exact ⟨rfl, rfl⟩
    case round =>
      obtain ⟨rfl, rfl⟩ := hrel
      go_wp2_with fail
      all_goals
        go_ret
        exact ⟨by rw [HR.out]; rfl, Below.refl _ _⟩
set_option maxRecDepth 100000 in
set_option maxHeartbeats 8000000 in
theorem n110 (v1 v2 : Value) (L1 L2 : List (ByteArray × Int × Int)) (w : World) (h1 : Ly w v1 3 iDs L1) (h2 : Ly w v2 3 iDs L2) (hl1 : L1.length ≤ 1048576) (hl2 : L2.length ≤ 1048576) :
    Calls Tryz.prog 110 #[v1, v2] w fun e w' => e = .returned (.bool (decide (L1 = L2))) ∧ Below w.heap.size w w' := by
  obtain ⟨A1, c1, rfl, g1⟩ := h1
  obtain ⟨A2, c2, rfl, g2⟩ := h2
  have G1 := Lib.hid g1
  have G2 := Lib.hid g2
  have HL1 := Lib.hid hl1
  clear g1 g2
  by_cases hl : L1.length = L2.length
  · have e0 : ((L1.length : Int) != (L2.length : Int)) = false := by simp; omega
    have e00 : ((L1.length : Int) == (L2.length : Int)) = true := by simp; omega
    have HL := Lib.hid hl
    go_enter Tryz.func110, Tryz.ntmps110
    go_wp2_with fail
    go_loopw [5, 13] (fun _ i wr => RE w L1 L2 i wr) (fun _ i _ => L1.length - (intOf i).toNat)
    case atStart => exact ⟨0, Nat.zero_le _, rfl, Below.refl _ _, fun j hj => absurd hj (by omega)⟩
    case round =>
      obtain ⟨k, hk, rfl, hb, hm⟩ := hrel
      have HB := Lib.hid hb
      have HM := Lib.hid hm
      clear hb hm
      by_cases hlt : k < L1.length
      · obtain ⟨x, hx⟩ : ∃ x, L1[k]? = some x := ⟨_, List.getElem?_eq_getElem hlt⟩
        obtain ⟨y, hy⟩ : ∃ y, L2[k]? = some y := ⟨_, List.getElem?_eq_getElem (by omega)⟩
        obtain ⟨b1, o1, rfl, hb1, hc1⟩ := G1.out (by omega)
        obtain ⟨b2, o2, rfl, hb2, hc2⟩ := G2.out (by omega)
        have p10 : wr.cell? ⟨b1, o1 + k * 3, none⟩ = some (.string x.1) := (HB.out.cell (p := ⟨b1, _, none⟩) hb1).trans (hc1 k x hx 0 _ rfl)
        have p20 : wr.cell? ⟨b2, o2 + k * 3, none⟩ = some (.string y.1) := (HB.out.cell (p := ⟨b2, _, none⟩) hb2).trans (hc2 k y hy 0 _ rfl)
        have p11 : wr.cell? ⟨b1, o1 + k * 3 + 1, none⟩ = some (.int .u32 x.2.1) := (HB.out.cell (p := ⟨b1, _, none⟩) hb1).trans (hc1 k x hx 1 _ rfl)
        have p21 : wr.cell? ⟨b2, o2 + k * 3 + 1, none⟩ = some (.int .u32 y.2.1) := (HB.out.cell (p := ⟨b2, _, none⟩) hb2).trans (hc2 k y hy 1 _ rfl)
        have p12 : wr.cell? ⟨b1, o1 + k * 3 + 2, none⟩ = some (.int .u32 x.2.2) := (HB.out.cell (p := ⟨b1, _, none⟩) hb1).trans (hc1 k x hx 2 _ rfl)
        have p22 : wr.cell? ⟨b2, o2 + k * 3 + 2, none⟩ = some (.int .u32 y.2.2) := (HB.out.cell (p := ⟨b2, _, none⟩) hb2).trans (hc2 k y hy 2 _ rfl)
        have hkn : (k : Int) < (L1.length : Int) := by omega
        have hkn2 : (k : Int) < (L2.length : Int) := by omega
        have hkw : IntKind.i64.wrap (k : Int) = (k : Int) := by rw [IntKind.wrap_i64]; omega
        have HX := Lib.hid hx
        have HY := Lib.hid hy
        have HLT := Lib.hid hlt
        clear hx hy hlt hc1 hc2 hb1 hb2
        by_cases hq0 : ¬ (x.1 = y.1)
        · have ht0 := hq0
          have HR := Lib.hid (ne_at HX.out HY.out (fun e => ht0 (by rw [e])))
          have t0 : (x.1.toList == y.1.toList) = false := by rw [bs_eq]; exact decide_eq_false ht0
          clear ht0 hq0
          go_wp2_with fail
          go_quiet (fail)
          go_wp2_with fail
          go_ret
          exact ⟨by rw [HR.out]; rfl, by first | exact HB.out | exact below_drewN HB.out _⟩
        have ht0 := Classical.not_not.1 hq0
        clear hq0
        by_cases hq1 : ¬ (x.2.1 = y.2.1)
        · have ht1 := hq1
          have HR := Lib.hid (ne_at HX.out HY.out (fun e => ht1 (by rw [e])))
          have t0 : (x.1.toList == y.1.toList) = true := by rw [bs_eq]; exact decide_eq_true ht0
          have t1 : (x.2.1 == y.2.1) = false := by simpa using ht1
          clear ht0 ht1 hq1
          go_wp2_with fail
          go_quiet (fail)
          go_wp2_with fail
          go_ret
          exact ⟨by rw [HR.out]; rfl, by first | exact HB.out | exact below_drewN HB.out _⟩
        have ht1 := Classical.not_not.1 hq1
        clear hq1
        by_cases hq2 : ¬ (x.2.2 = y.2.2)
        · have ht2 := hq2
          have HR := Lib.hid (ne_at HX.out HY.out (fun e => ht2 (by rw [e])))
          have t0 : (x.1.toList == y.1.toList) = true := by rw [bs_eq]; exact decide_eq_true ht0
          have t1 : (x.2.1 == y.2.1) = true := by simpa using ht1
          have t2 : (x.2.2 == y.2.2) = false := by simpa using ht2
          clear ht0 ht1 ht2 hq2
          go_wp2_with fail
          go_quiet (fail)
          go_wp2_with fail
          go_ret
          exact ⟨by rw [HR.out]; rfl, by first | exact HB.out | exact below_drewN HB.out _⟩
        have ht2 := Classical.not_not.1 hq2
        clear hq2
        have t0 : (x.1.toList == y.1.toList) = true := by rw [bs_eq]; exact decide_eq_true ht0
        have t1 : (x.2.1 == y.2.1) = true := by simpa using ht1
        have t2 : (x.2.2 == y.2.2) = true := by simpa using ht2
        have HXY : Hid (x = y) := Lib.hid (Prod.ext ht0 (Prod.ext ht1 ht2))
        clear ht0 ht1 ht2
        go_wp2_with fail
        go_quiet (fail)
        go_wp2_with fail
        go_roundw
        case rel => exact ⟨k + 1, HLT.out, by go_num, by first | exact HB.out | exact below_drewN HB.out _, fun j hj => by
          by_cases hjk : j = k
          · rw [hjk, HX.out, HY.out, HXY.out]
          · exact HM.out j (by omega)⟩
        case measure => simp [intOf]; have := HLT.out; omega
      · have HR := Lib.hid (eq_all HL.out (fun j hj => HM.out j (by omega)))
        obtain rfl : k = L1.length := by omega
        clear hlt hk
        go_wp2_with fail
        go_ret
        exact ⟨by rw [HR.out]; rfl, HB.out⟩
  · have e0 : ((L1.length : Int) != (L2.length : Int)) = true := by simp; omega
    have e00 : ((L1.length : Int) == (L2.length : Int)) = false := by simp; omega
    have HR : Hid (decide (L1 = L2) = false) := Lib.hid (decide_eq_false (fun e => hl (by rw [e])))
    go_enter Tryz.func110, Tryz.ntmps110
    go_wp2_with fail
    go_ret
    exact ⟨by rw [HR.out]; rfl, Below.refl _ _⟩
set_option maxRecDepth 100000 in
set_option maxHeartbeats 8000000 in
theorem r26 (v1 v2 : Value) (L1 L2 : List (ByteArray × Int × Int)) (w : World) (h1 : Ly w v1 3 iDs L1) (h2 : Ly w v2 3 iDs L2) (hl1 : L1.length ≤ 1048576) (hl2 : L2.length ≤ 1048576) :
    Calls Tryz.prog 26 #[v1, v2] w fun e w' => e = .returned (.bool (decide (L1 = L2))) ∧ Below w.heap.size w w' := by
  obtain ⟨A1, c1, rfl, g1⟩ := h1
  obtain ⟨A2, c2, rfl, g2⟩ := h2
  have G1 := Lib.hid g1
  have G2 := Lib.hid g2
  have HL1 := Lib.hid hl1
  clear g1 g2
  by_cases hl : L1.length = L2.length
  · have e0 : ((L1.length : Int) != (L2.length : Int)) = false := by simp; omega
    have e00 : ((L1.length : Int) == (L2.length : Int)) = true := by simp; omega
    have HL := Lib.hid hl
    go_enter Tryz.func26, Tryz.ntmps26
    go_wp2_with fail
    go_loopw [5] (fun i wr => RE w L1 L2 i wr) (fun i _ => L1.length - (intOf i).toNat)
    case atStart => exact ⟨0, Nat.zero_le _, rfl, Below.refl _ _, fun j hj => absurd hj (by omega)⟩
    case round =>
      obtain ⟨k, hk, rfl, hb, hm⟩ := hrel
      have HB := Lib.hid hb
      have HM := Lib.hid hm
      clear hb hm
      by_cases hlt : k < L1.length
      · obtain ⟨x, hx⟩ : ∃ x, L1[k]? = some x := ⟨_, List.getElem?_eq_getElem hlt⟩
        obtain ⟨y, hy⟩ : ∃ y, L2[k]? = some y := ⟨_, List.getElem?_eq_getElem (by omega)⟩
        obtain ⟨b1, o1, rfl, hb1, hc1⟩ := G1.out (by omega)
        obtain ⟨b2, o2, rfl, hb2, hc2⟩ := G2.out (by omega)
        have p10 : wr.cell? ⟨b1, o1 + k * 3, none⟩ = some (.string x.1) := (HB.out.cell (p := ⟨b1, _, none⟩) hb1).trans (hc1 k x hx 0 _ rfl)
        have p20 : wr.cell? ⟨b2, o2 + k * 3, none⟩ = some (.string y.1) := (HB.out.cell (p := ⟨b2, _, none⟩) hb2).trans (hc2 k y hy 0 _ rfl)
        have p11 : wr.cell? ⟨b1, o1 + k * 3 + 1, none⟩ = some (.int .u32 x.2.1) := (HB.out.cell (p := ⟨b1, _, none⟩) hb1).trans (hc1 k x hx 1 _ rfl)
        have p21 : wr.cell? ⟨b2, o2 + k * 3 + 1, none⟩ = some (.int .u32 y.2.1) := (HB.out.cell (p := ⟨b2, _, none⟩) hb2).trans (hc2 k y hy 1 _ rfl)
        have p12 : wr.cell? ⟨b1, o1 + k * 3 + 2, none⟩ = some (.int .u32 x.2.2) := (HB.out.cell (p := ⟨b1, _, none⟩) hb1).trans (hc1 k x hx 2 _ rfl)
        have p22 : wr.cell? ⟨b2, o2 + k * 3 + 2, none⟩ = some (.int .u32 y.2.2) := (HB.out.cell (p := ⟨b2, _, none⟩) hb2).trans (hc2 k y hy 2 _ rfl)
        have hkn : (k : Int) < (L1.length : Int) := by omega
        have hkn2 : (k : Int) < (L2.length : Int) := by omega
        have hkw : IntKind.i64.wrap (k : Int) = (k : Int) := by rw [IntKind.wrap_i64]; omega
        have HX := Lib.hid hx
        have HY := Lib.hid hy
        have HLT := Lib.hid hlt
        clear hx hy hlt hc1 hc2 hb1 hb2
        by_cases hq0 : ¬ (x.1 = y.1)
        · have ht0 := hq0
          have HR := Lib.hid (ne_at HX.out HY.out (fun e => ht0 (by rw [e])))
          have t0 : (x.1.toList == y.1.toList) = false := by rw [bs_eq]; exact decide_eq_false ht0
          clear ht0 hq0
          go_wp2_with fail
          go_quiet (fail)
          go_wp2_with fail
          go_ret
          exact ⟨by rw [HR.out]; rfl, by first | exact HB.out | exact below_drewN HB.out _⟩
        have ht0 := Classical.not_not.1 hq0
        clear hq0
        by_cases hq1 : ¬ (x.2.1 = y.2.1)
        · have ht1 := hq1
          have HR := Lib.hid (ne_at HX.out HY.out (fun e => ht1 (by rw [e])))
          have t0 : (x.1.toList == y.1.toList) = true := by rw [bs_eq]; exact decide_eq_true ht0
          have t1 : (x.2.1 == y.2.1) = false := by simpa using ht1
          clear ht0 ht1 hq1
          go_wp2_with fail
          go_quiet (fail)
          go_wp2_with fail
          go_ret
          exact ⟨by rw [HR.out]; rfl, by first | exact HB.out | exact below_drewN HB.out _⟩
        have ht1 := Classical.not_not.1 hq1
        clear hq1
        by_cases hq2 : ¬ (x.2.2 = y.2.2)
        · have ht2 := hq2
          have HR := Lib.hid (ne_at HX.out HY.out (fun e => ht2 (by rw [e])))
          have t0 : (x.1.toList == y.1.toList) = true := by rw [bs_eq]; exact decide_eq_true ht0
          have t1 : (x.2.1 == y.2.1) = true := by simpa using ht1
          have t2 : (x.2.2 == y.2.2) = false := by simpa using ht2
          clear ht0 ht1 ht2 hq2
          go_wp2_with fail
          go_quiet (fail)
          go_wp2_with fail
          go_ret
          exact ⟨by rw [HR.out]; rfl, by first | exact HB.out | exact below_drewN HB.out _⟩
        have ht2 := Classical.not_not.1 hq2
        clear hq2
        have t0 : (x.1.toList == y.1.toList) = true := by rw [bs_eq]; exact decide_eq_true ht0
        have t1 : (x.2.1 == y.2.1) = true := by simpa using ht1
        have t2 : (x.2.2 == y.2.2) = true := by simpa using ht2
        have HXY : Hid (x = y) := Lib.hid (Prod.ext ht0 (Prod.ext ht1 ht2))
        clear ht0 ht1 ht2
        go_wp2_with fail
        go_quiet (fail)
        go_wp2_with fail
        go_roundw
        case rel => exact ⟨k + 1, HLT.out, by go_num, by first | exact HB.out | exact below_drewN HB.out _, fun j hj => by
          by_cases hjk : j = k
          · rw [hjk, HX.out, HY.out, HXY.out]
          · exact HM.out j (by omega)⟩
        case measure => simp [intOf]; have := HLT.out; omega
      · have HR := Lib.hid (eq_all HL.out (fun j hj => HM.out j (by omega)))
        obtain rfl : k = L1.length := by omega
        clear hlt hk
        go_wp2_with fail
        go_ret
        exact ⟨by rw [HR.out]; rfl, HB.out⟩
  · have e0 : ((L1.length : Int) != (L2.length : Int)) = true := by simp; omega
    have e00 : ((L1.length : Int) == (L2.length : Int)) = false := by simp; omega
    have HR : Hid (decide (L1 = L2) = false) := Lib.hid (decide_eq_false (fun e => hl (by rw [e])))
    go_enter Tryz.func26, Tryz.ntmps26
    go_wp2_with fail
    go_loopw [5] (fun i wr => i = .int .i64 0 ∧ wr = w) (fun i _ => 1)
    case atStart => exact ⟨rfl, rfl⟩
    case round =>
      obtain ⟨rfl, rfl⟩ := hrel
      go_wp2_with fail
      all_goals
        go_ret
        exact ⟨by rw [HR.out]; rfl, Below.refl _ _⟩
set_option maxRecDepth 100000 in
set_option maxHeartbeats 8000000 in
theorem n111 (v1 v2 : Value) (L1 L2 : List (Int × Bool)) (w : World) (h1 : Ly w v1 2 iGs L1) (h2 : Ly w v2 2 iGs L2) (hl1 : L1.length ≤ 1048576) (hl2 : L2.length ≤ 1048576) :
    Calls Tryz.prog 111 #[v1, v2] w fun e w' => e = .returned (.bool (decide (L1 = L2))) ∧ Below w.heap.size w w' := by
  obtain ⟨A1, c1, rfl, g1⟩ := h1
  obtain ⟨A2, c2, rfl, g2⟩ := h2
  have G1 := Lib.hid g1
  have G2 := Lib.hid g2
  have HL1 := Lib.hid hl1
  clear g1 g2
  by_cases hl : L1.length = L2.length
  · have e0 : ((L1.length : Int) != (L2.length : Int)) = false := by simp; omega
    have e00 : ((L1.length : Int) == (L2.length : Int)) = true := by simp; omega
    have HL := Lib.hid hl
    go_enter Tryz.func111, Tryz.ntmps111
    go_wp2_with fail
    go_loopw [5, 13] (fun _ i wr => RE w L1 L2 i wr) (fun _ i _ => L1.length - (intOf i).toNat)
    case atStart => exact ⟨0, Nat.zero_le _, rfl, Below.refl _ _, fun j hj => absurd hj (by omega)⟩
    case round =>
      obtain ⟨k, hk, rfl, hb, hm⟩ := hrel
      have HB := Lib.hid hb
      have HM := Lib.hid hm
      clear hb hm
      by_cases hlt : k < L1.length
      · obtain ⟨x, hx⟩ : ∃ x, L1[k]? = some x := ⟨_, List.getElem?_eq_getElem hlt⟩
        obtain ⟨y, hy⟩ : ∃ y, L2[k]? = some y := ⟨_, List.getElem?_eq_getElem (by omega)⟩
        obtain ⟨b1, o1, rfl, hb1, hc1⟩ := G1.out (by omega)
        obtain ⟨b2, o2, rfl, hb2, hc2⟩ := G2.out (by omega)
        have p10 : wr.cell? ⟨b1, o1 + k * 2, none⟩ = some (.int .i64 x.1) := (HB.out.cell (p := ⟨b1, _, none⟩) hb1).trans (hc1 k x hx 0 _ rfl)
        have p20 : wr.cell? ⟨b2, o2 + k * 2, none⟩ = some (.int .i64 y.1) := (HB.out.cell (p := ⟨b2, _, none⟩) hb2).trans (hc2 k y hy 0 _ rfl)
        have p11 : wr.cell? ⟨b1, o1 + k * 2 + 1, none⟩ = some (.bool x.2) := (HB.out.cell (p := ⟨b1, _, none⟩) hb1).trans (hc1 k x hx 1 _ rfl)
        have p21 : wr.cell? ⟨b2, o2 + k * 2 + 1, none⟩ = some (.bool y.2) := (HB.out.cell (p := ⟨b2, _, none⟩) hb2).trans (hc2 k y hy 1 _ rfl)
        have hkn : (k : Int) < (L1.length : Int) := by omega
        have hkn2 : (k : Int) < (L2.length : Int) := by omega
        have hkw : IntKind.i64.wrap (k : Int) = (k : Int) := by rw [IntKind.wrap_i64]; omega
        have HX := Lib.hid hx
        have HY := Lib.hid hy
        have HLT := Lib.hid hlt
        clear hx hy hlt hc1 hc2 hb1 hb2
        by_cases hq0 : ¬ (x.1 = y.1)
        · have ht0 := hq0
          have HR := Lib.hid (ne_at HX.out HY.out (fun e => ht0 (by rw [e])))
          have t0 : (x.1 == y.1) = false := by simpa using ht0
          clear ht0 hq0
          go_wp2_with fail
          go_quiet (fail)
          go_wp2_with fail
          go_ret
          exact ⟨by rw [HR.out]; rfl, by first | exact HB.out | exact below_drewN HB.out _⟩
        have ht0 := Classical.not_not.1 hq0
        clear hq0
        by_cases hq1 : ¬ (x.2 = y.2)
        · have ht1 := hq1
          have HR := Lib.hid (ne_at HX.out HY.out (fun e => ht1 (by rw [e])))
          have t0 : (x.1 == y.1) = true := by simpa using ht0
          have t1 : (x.2 == y.2) = false := by simpa using ht1
          clear ht0 ht1 hq1
          go_wp2_with fail
          go_quiet (fail)
          go_wp2_with fail
          go_ret
          exact ⟨by rw [HR.out]; rfl, by first | exact HB.out | exact below_drewN HB.out _⟩
        have ht1 := Classical.not_not.1 hq1
        clear hq1
        have t0 : (x.1 == y.1) = true := by simpa using ht0
        have t1 : (x.2 == y.2) = true := by simpa using ht1
        have HXY : Hid (x = y) := Lib.hid (Prod.ext ht0 ht1)
        clear ht0 ht1
        go_wp2_with fail
        go_quiet (fail)
        go_wp2_with fail
        go_roundw
        case rel => exact ⟨k + 1, HLT.out, by go_num, by first | exact HB.out | exact below_drewN HB.out _, fun j hj => by
          by_cases hjk : j = k
          · rw [hjk, HX.out, HY.out, HXY.out]
          · exact HM.out j (by omega)⟩
        case measure => simp [intOf]; have := HLT.out; omega
      · have HR := Lib.hid (eq_all HL.out (fun j hj => HM.out j (by omega)))
        obtain rfl : k = L1.length := by omega
        clear hlt hk
        go_wp2_with fail
        go_ret
        exact ⟨by rw [HR.out]; rfl, HB.out⟩
  · have e0 : ((L1.length : Int) != (L2.length : Int)) = true := by simp; omega
    have e00 : ((L1.length : Int) == (L2.length : Int)) = false := by simp; omega
    have HR : Hid (decide (L1 = L2) = false) := Lib.hid (decide_eq_false (fun e => hl (by rw [e])))
    go_enter Tryz.func111, Tryz.ntmps111
    go_wp2_with fail
    go_ret
    exact ⟨by rw [HR.out]; rfl, Below.refl _ _⟩
set_option maxRecDepth 100000 in
set_option maxHeartbeats 8000000 in
theorem r27 (v1 v2 : Value) (L1 L2 : List (Int × Bool)) (w : World) (h1 : Ly w v1 2 iGs L1) (h2 : Ly w v2 2 iGs L2) (hl1 : L1.length ≤ 1048576) (hl2 : L2.length ≤ 1048576) :
    Calls Tryz.prog 27 #[v1, v2] w fun e w' => e = .returned (.bool (decide (L1 = L2))) ∧ Below w.heap.size w w' := by
  obtain ⟨A1, c1, rfl, g1⟩ := h1
  obtain ⟨A2, c2, rfl, g2⟩ := h2
  have G1 := Lib.hid g1
  have G2 := Lib.hid g2
  have HL1 := Lib.hid hl1
  clear g1 g2
  by_cases hl : L1.length = L2.length
  · have e0 : ((L1.length : Int) != (L2.length : Int)) = false := by simp; omega
    have e00 : ((L1.length : Int) == (L2.length : Int)) = true := by simp; omega
    have HL := Lib.hid hl
    go_enter Tryz.func27, Tryz.ntmps27
    go_wp2_with fail
    go_loopw [5] (fun i wr => RE w L1 L2 i wr) (fun i _ => L1.length - (intOf i).toNat)
    case atStart => exact ⟨0, Nat.zero_le _, rfl, Below.refl _ _, fun j hj => absurd hj (by omega)⟩
    case round =>
      obtain ⟨k, hk, rfl, hb, hm⟩ := hrel
      have HB := Lib.hid hb
      have HM := Lib.hid hm
      clear hb hm
      by_cases hlt : k < L1.length
      · obtain ⟨x, hx⟩ : ∃ x, L1[k]? = some x := ⟨_, List.getElem?_eq_getElem hlt⟩
        obtain ⟨y, hy⟩ : ∃ y, L2[k]? = some y := ⟨_, List.getElem?_eq_getElem (by omega)⟩
        obtain ⟨b1, o1, rfl, hb1, hc1⟩ := G1.out (by omega)
        obtain ⟨b2, o2, rfl, hb2, hc2⟩ := G2.out (by omega)
        have p10 : wr.cell? ⟨b1, o1 + k * 2, none⟩ = some (.int .i64 x.1) := (HB.out.cell (p := ⟨b1, _, none⟩) hb1).trans (hc1 k x hx 0 _ rfl)
        have p20 : wr.cell? ⟨b2, o2 + k * 2, none⟩ = some (.int .i64 y.1) := (HB.out.cell (p := ⟨b2, _, none⟩) hb2).trans (hc2 k y hy 0 _ rfl)
        have p11 : wr.cell? ⟨b1, o1 + k * 2 + 1, none⟩ = some (.bool x.2) := (HB.out.cell (p := ⟨b1, _, none⟩) hb1).trans (hc1 k x hx 1 _ rfl)
        have p21 : wr.cell? ⟨b2, o2 + k * 2 + 1, none⟩ = some (.bool y.2) := (HB.out.cell (p := ⟨b2, _, none⟩) hb2).trans (hc2 k y hy 1 _ rfl)
        have hkn : (k : Int) < (L1.length : Int) := by omega
        have hkn2 : (k : Int) < (L2.length : Int) := by omega
        have hkw : IntKind.i64.wrap (k : Int) = (k : Int) := by rw [IntKind.wrap_i64]; omega
        have HX := Lib.hid hx
        have HY := Lib.hid hy
        have HLT := Lib.hid hlt
        clear hx hy hlt hc1 hc2 hb1 hb2
        by_cases hq0 : ¬ (x.1 = y.1)
        · have ht0 := hq0
          have HR := Lib.hid (ne_at HX.out HY.out (fun e => ht0 (by rw [e])))
          have t0 : (x.1 == y.1) = false := by simpa using ht0
          clear ht0 hq0
          go_wp2_with fail
          go_quiet (fail)
          go_wp2_with fail
          go_ret
          exact ⟨by rw [HR.out]; rfl, by first | exact HB.out | exact below_drewN HB.out _⟩
        have ht0 := Classical.not_not.1 hq0
        clear hq0
        by_cases hq1 : ¬ (x.2 = y.2)
        · have ht1 := hq1
          have HR := Lib.hid (ne_at HX.out HY.out (fun e => ht1 (by rw [e])))
          have t0 : (x.1 == y.1) = true := by simpa using ht0
          have t1 : (x.2 == y.2) = false := by simpa using ht1
          clear ht0 ht1 hq1
          go_wp2_with fail
          go_quiet (fail)
          go_wp2_with fail
          go_ret
          exact ⟨by rw [HR.out]; rfl, by first | exact HB.out | exact below_drewN HB.out _⟩
        have ht1 := Classical.not_not.1 hq1
        clear hq1
        have t0 : (x.1 == y.1) = true := by simpa using ht0
        have t1 : (x.2 == y.2) = true := by simpa using ht1
        have HXY : Hid (x = y) := Lib.hid (Prod.ext ht0 ht1)
        clear ht0 ht1
        go_wp2_with fail
        go_quiet (fail)
        go_wp2_with fail
        go_roundw
        case rel => exact ⟨k + 1, HLT.out, by go_num, by first | exact HB.out | exact below_drewN HB.out _, fun j hj => by
          by_cases hjk : j = k
          · rw [hjk, HX.out, HY.out, HXY.out]
          · exact HM.out j (by omega)⟩
        case measure => simp [intOf]; have := HLT.out; omega
      · have HR := Lib.hid (eq_all HL.out (fun j hj => HM.out j (by omega)))
        obtain rfl : k = L1.length := by omega
        clear hlt hk
        go_wp2_with fail
        go_ret
        exact ⟨by rw [HR.out]; rfl, HB.out⟩
  · have e0 : ((L1.length : Int) != (L2.length : Int)) = true := by simp; omega
    have e00 : ((L1.length : Int) == (L2.length : Int)) = false := by simp; omega
    have HR : Hid (decide (L1 = L2) = false) := Lib.hid (decide_eq_false (fun e => hl (by rw [e])))
    go_enter Tryz.func27, Tryz.ntmps27
    go_wp2_with fail
    go_loopw [5] (fun i wr => i = .int .i64 0 ∧ wr = w) (fun i _ => 1)
    case atStart => exact ⟨rfl, rfl⟩
    case round =>
      obtain ⟨rfl, rfl⟩ := hrel
      go_wp2_with fail
      all_goals
        go_ret
        exact ⟨by rw [HR.out]; rfl, Below.refl _ _⟩
set_option maxRecDepth 100000 in
set_option maxHeartbeats 8000000 in
theorem n61 (v1 v2 : Value) (L1 L2 : List (ByteArray × Int)) (w : World) (h1 : Ly w v1 2 iSs L1) (h2 : Ly w v2 2 iSs L2) (hl1 : L1.length ≤ 1048576) (hl2 : L2.length ≤ 1048576) :
    Calls Tryz.prog 61 #[v1, v2] w fun e w' => e = .returned (.bool (decide (L1 = L2))) ∧ Below w.heap.size w w' := by
  obtain ⟨A1, c1, rfl, g1⟩ := h1
  obtain ⟨A2, c2, rfl, g2⟩ := h2
  have G1 := Lib.hid g1
  have G2 := Lib.hid g2
  have HL1 := Lib.hid hl1
  clear g1 g2
  by_cases hl : L1.length = L2.length
  · have e0 : ((L1.length : Int) != (L2.length : Int)) = false := by simp; omega
    have e00 : ((L1.length : Int) == (L2.length : Int)) = true := by simp; omega
    have HL := Lib.hid hl
    go_enter Tryz.func61, Tryz.ntmps61
    go_wp2_with fail
    go_loopw [5, 13] (fun _ i wr => RE w L1 L2 i wr) (fun _ i _ => L1.length - (intOf i).toNat)
    case atStart => exact ⟨0, Nat.zero_le _, rfl, Below.refl _ _, fun j hj => absurd hj (by omega)⟩
    case round =>
      obtain ⟨k, hk, rfl, hb, hm⟩ := hrel
      have HB := Lib.hid hb
      have HM := Lib.hid hm
      clear hb hm
      by_cases hlt : k < L1.length
      · obtain ⟨x, hx⟩ : ∃ x, L1[k]? = some x := ⟨_, List.getElem?_eq_getElem hlt⟩
        obtain ⟨y, hy⟩ : ∃ y, L2[k]? = some y := ⟨_, List.getElem?_eq_getElem (by omega)⟩
        obtain ⟨b1, o1, rfl, hb1, hc1⟩ := G1.out (by omega)
        obtain ⟨b2, o2, rfl, hb2, hc2⟩ := G2.out (by omega)
        have p10 : wr.cell? ⟨b1, o1 + k * 2, none⟩ = some (.string x.1) := (HB.out.cell (p := ⟨b1, _, none⟩) hb1).trans (hc1 k x hx 0 _ rfl)
        have p20 : wr.cell? ⟨b2, o2 + k * 2, none⟩ = some (.string y.1) := (HB.out.cell (p := ⟨b2, _, none⟩) hb2).trans (hc2 k y hy 0 _ rfl)
        have p11 : wr.cell? ⟨b1, o1 + k * 2 + 1, none⟩ = some (.int .i64 x.2) := (HB.out.cell (p := ⟨b1, _, none⟩) hb1).trans (hc1 k x hx 1 _ rfl)
        have p21 : wr.cell? ⟨b2, o2 + k * 2 + 1, none⟩ = some (.int .i64 y.2) := (HB.out.cell (p := ⟨b2, _, none⟩) hb2).trans (hc2 k y hy 1 _ rfl)
        have hkn : (k : Int) < (L1.length : Int) := by omega
        have hkn2 : (k : Int) < (L2.length : Int) := by omega
        have hkw : IntKind.i64.wrap (k : Int) = (k : Int) := by rw [IntKind.wrap_i64]; omega
        have HX := Lib.hid hx
        have HY := Lib.hid hy
        have HLT := Lib.hid hlt
        clear hx hy hlt hc1 hc2 hb1 hb2
        by_cases hq0 : ¬ (x.1 = y.1)
        · have ht0 := hq0
          have HR := Lib.hid (ne_at HX.out HY.out (fun e => ht0 (by rw [e])))
          have t0 : (x.1.toList == y.1.toList) = false := by rw [bs_eq]; exact decide_eq_false ht0
          clear ht0 hq0
          go_wp2_with fail
          go_quiet (fail)
          go_wp2_with fail
          go_ret
          exact ⟨by rw [HR.out]; rfl, by first | exact HB.out | exact below_drewN HB.out _⟩
        have ht0 := Classical.not_not.1 hq0
        clear hq0
        by_cases hq1 : ¬ (x.2 = y.2)
        · have ht1 := hq1
          have HR := Lib.hid (ne_at HX.out HY.out (fun e => ht1 (by rw [e])))
          have t0 : (x.1.toList == y.1.toList) = true := by rw [bs_eq]; exact decide_eq_true ht0
          have t1 : (x.2 == y.2) = false := by simpa using ht1
          clear ht0 ht1 hq1
          go_wp2_with fail
          go_quiet (fail)
          go_wp2_with fail
          go_ret
          exact ⟨by rw [HR.out]; rfl, by first | exact HB.out | exact below_drewN HB.out _⟩
        have ht1 := Classical.not_not.1 hq1
        clear hq1
        have t0 : (x.1.toList == y.1.toList) = true := by rw [bs_eq]; exact decide_eq_true ht0
        have t1 : (x.2 == y.2) = true := by simpa using ht1
        have HXY : Hid (x = y) := Lib.hid (Prod.ext ht0 ht1)
        clear ht0 ht1
        go_wp2_with fail
        go_quiet (fail)
        go_wp2_with fail
        go_roundw
        case rel => exact ⟨k + 1, HLT.out, by go_num, by first | exact HB.out | exact below_drewN HB.out _, fun j hj => by
          by_cases hjk : j = k
          · rw [hjk, HX.out, HY.out, HXY.out]
          · exact HM.out j (by omega)⟩
        case measure => simp [intOf]; have := HLT.out; omega
      · have HR := Lib.hid (eq_all HL.out (fun j hj => HM.out j (by omega)))
        obtain rfl : k = L1.length := by omega
        clear hlt hk
        go_wp2_with fail
        go_ret
        exact ⟨by rw [HR.out]; rfl, HB.out⟩
  · have e0 : ((L1.length : Int) != (L2.length : Int)) = true := by simp; omega
    have e00 : ((L1.length : Int) == (L2.length : Int)) = false := by simp; omega
    have HR : Hid (decide (L1 = L2) = false) := Lib.hid (decide_eq_false (fun e => hl (by rw [e])))
    go_enter Tryz.func61, Tryz.ntmps61
    go_wp2_with fail
    go_ret
    exact ⟨by rw [HR.out]; rfl, Below.refl _ _⟩
end Go.Proofs.YtapdiionikfgpaaGreatDoor
