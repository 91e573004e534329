import Derived.Test.YtoiiiobamanclaaI
namespace Go.Proofs.Ytoiiiobamanclaa
open Go.ChangeShapes Go.WideShapes Go.ChangeAt Go.RowKit Go.Shelf
set_option linter.unusedVariables false
/-- the first that is so -/
def ixp {α : Type} (p : α → Bool) (L : List α) : Int := match L.findIdx? p with | some i => (i : Int) | none => -1
theorem ixp_hit {α : Type} {p : α → Bool} {L : List α} {k : Nat} {x : α} (hk : L[k]? = some x) (hx : p x = true) (h : ∀ (j : Nat) y, j < k → L[j]? = some y → p y = false) : ixp p L = (k : Int) := by
  have : L.findIdx? p = some k := by
    rw [List.findIdx?_eq_some_iff_getElem]
    obtain ⟨hl, e⟩ := List.getElem?_eq_some_iff.1 hk
    refine ⟨hl, by rw [e]; exact hx, fun j hj => ?_⟩
    rw [h j _ hj (List.getElem?_eq_getElem (by omega))]
    simp
  unfold ixp
  rw [this]
theorem ixp_miss {α : Type} {p : α → Bool} {L : List α} (h : ∀ (j : Nat) y, j < L.length → L[j]? = some y → p y = false) : ixp p L = -1 := by
  have : L.findIdx? p = none := by
    rw [List.findIdx?_eq_none_iff]
    intro x hx
    obtain ⟨j, hj, e⟩ := List.getElem_of_mem hx
    rw [h j x hj (by rw [← e]; exact List.getElem?_eq_getElem hj)]
  unfold ixp
  rw [this]
/-- a name bound -/
structure Bd where (nm : ByteArray) (t : Tg)
abbrev Bd.c (b : Bd) : List Value := [.string b.nm, .int .i64 b.t.o, .int .i64 b.t.s, .int .i64 b.t.w]
def RIx {α : Type} (p : α → Bool) (L : List α) (w : World) (i : Value) (wr : World) : Prop := ∃ k : Nat, k ≤ L.length ∧ i = .int .i64 (k : Int) ∧ Below w.heap.size w wr ∧ ∀ (j : Nat) y, j < k → L[j]? = some y → p y = false

set_option maxRecDepth 100000 in
set_option maxHeartbeats 4000000 in
theorem index18 (v : Value) (L : List Nm) (g : Nat) (lb : Array Value) (eg : ∀ args w, (callFunc g args).run Try.prog w = .ok (.enter g args) w) (p : Nm → Bool) (w : World) (hv : Ly w v 12 Nm.c L) (hL : L.length ≤ 1048576)
    (hp : ∀ (k : Nat) n, L[k]? = some n → ∀ W, Below w.heap.size w W → Calls Try.prog g (#[.agg n.c.toArray] ++ lb) W fun e w' => e = .returned (.bool (p n)) ∧ Below w.heap.size w w') :
    Calls Try.prog 18 #[v, .func (.func g) #[] lb] w fun e w' => e = .returned (.int .i64 (ixp p L)) ∧ Below w.heap.size w w' := by
  obtain ⟨A, c, rfl, hA⟩ := hv
  have HA := Lib.hid hA; have HP := Lib.hid hp
  clear hA hp
  go_enter Try.func18, Try.ntmps18
  go_wp2_with fail
  go_loopw [5, 8] (fun _ i wr => RIx p L w i wr) (fun _ i _ => L.length - (intOf i).toNat)
  case atStart => exact ⟨0, Nat.zero_le _, rfl, Below.refl _ _, fun j y hj => absurd hj (Nat.not_lt_zero _)⟩
  case round =>
    obtain ⟨k, hk, rfl, hb, hno⟩ := hrel
    have HB := Lib.hid hb; have HNO := Lib.hid hno
    clear hb hno
    by_cases hlt : k < L.length
    · obtain ⟨n, hn⟩ : ∃ n, L[k]? = some n := ⟨_, List.getElem?_eq_getElem hlt⟩
      obtain ⟨ab, ao, rfl, hbl, hc⟩ := HA.out (by omega)
      have hcall := HP.out k n hn wr HB.out
      obtain ⟨q, hq⟩ : ∃ q, p n = q := ⟨_, rfl⟩
      rw [hq] at hcall
      have HQ := Lib.hid hq; have HN := Lib.hid hn; have HLT := Lib.hid hlt
      have hcc : ∀ (j : Nat) u, n.c[j]? = some u → wr.cell? ⟨ab, ao + k * 12 + j, none⟩ = some u := fun j u hu => by
        rw [HB.out.cell (p := ⟨ab, _, none⟩) hbl]
        exact hc k n hn j u hu
      clear hc hn hq
      obtain ⟨tx, ⟨s0, s1, s2⟩, ⟨d0, d1, d2⟩, ⟨e0, e1, e2⟩, tw, ak⟩ := n
      have c0 : wr.cell? ⟨ab, ao + k * 12, none⟩ = some (.string tx) := hcc 0 _ rfl
      have c1 : wr.cell? ⟨ab, ao + k * 12 + 1, none⟩ = some (.int .i64 s0) := hcc 1 _ rfl
      have c2 : wr.cell? ⟨ab, ao + k * 12 + 2, none⟩ = some (.int .i64 s1) := hcc 2 _ rfl
      have c3 : wr.cell? ⟨ab, ao + k * 12 + 3, none⟩ = some (.int .i64 s2) := hcc 3 _ rfl
      have c4 : wr.cell? ⟨ab, ao + k * 12 + 4, none⟩ = some (.int .i64 d0) := hcc 4 _ rfl
      have c5 : wr.cell? ⟨ab, ao + k * 12 + 5, none⟩ = some (.int .i64 d1) := hcc 5 _ rfl
      have c6 : wr.cell? ⟨ab, ao + k * 12 + 6, none⟩ = some (.int .i64 d2) := hcc 6 _ rfl
      have c7 : wr.cell? ⟨ab, ao + k * 12 + 7, none⟩ = some (.int .i64 e0) := hcc 7 _ rfl
      have c8 : wr.cell? ⟨ab, ao + k * 12 + 8, none⟩ = some (.int .i64 e1) := hcc 8 _ rfl
      have c9 : wr.cell? ⟨ab, ao + k * 12 + 9, none⟩ = some (.int .i64 e2) := hcc 9 _ rfl
      have c10 : wr.cell? ⟨ab, ao + k * 12 + 10, none⟩ = some (.bool tw) := hcc 10 _ rfl
      have c11 : wr.cell? ⟨ab, ao + k * 12 + 11, none⟩ = some (.bool ak) := hcc 11 _ rfl
      clear hcc
      cases q with
      | true =>
        go_wp2_with (go_at_fn g; refine hcall.mono ?_; rintro e w' ⟨rfl, hb'⟩)
        go_ret
        exact ⟨by rw [ixp_hit HN.out HQ.out HNO.out]; rfl, hb'⟩
      | false =>
        go_wp2_with (go_at_fn g; refine hcall.mono ?_; rintro e w' ⟨rfl, hb'⟩)
        go_roundw
        case rel =>
          refine ⟨k + 1, HLT.out, by go_num, hb', fun j y hj hy => ?_⟩
          by_cases e : j = k
          · subst e
            rw [HN.out] at hy
            cases hy
            exact HQ.out
          · exact HNO.out j y (by omega) hy
        case measure => simp [intOf]; have := HLT.out; omega
    · obtain rfl : k = L.length := by omega
      go_wp2_with fail
      go_ret
      exact ⟨by rw [ixp_miss HNO.out]; rfl, HB.out⟩

set_option maxRecDepth 100000 in
set_option maxHeartbeats 4000000 in
theorem index26 (v : Value) (L : List Bd) (g : Nat) (lb : Array Value) (eg : ∀ args w, (callFunc g args).run Try.prog w = .ok (.enter g args) w) (p : Bd → Bool) (w : World) (hv : Ly w v 4 Bd.c L) (hL : L.length ≤ 1048576)
    (hp : ∀ (k : Nat) n, L[k]? = some n → ∀ W, Below w.heap.size w W → Calls Try.prog g (#[.agg n.c.toArray] ++ lb) W fun e w' => e = .returned (.bool (p n)) ∧ Below w.heap.size w w') :
    Calls Try.prog 26 #[v, .func (.func g) #[] lb] w fun e w' => e = .returned (.int .i64 (ixp p L)) ∧ Below w.heap.size w w' := by
  obtain ⟨A, c, rfl, hA⟩ := hv
  have HA := Lib.hid hA; have HP := Lib.hid hp
  clear hA hp
  go_enter Try.func26, Try.ntmps26
  go_wp2_with fail
  go_loopw [5, 8] (fun _ i wr => RIx p L w i wr) (fun _ i _ => L.length - (intOf i).toNat)
  case atStart => exact ⟨0, Nat.zero_le _, rfl, Below.refl _ _, fun j y hj => absurd hj (Nat.not_lt_zero _)⟩
  case round =>
    obtain ⟨k, hk, rfl, hb, hno⟩ := hrel
    have HB := Lib.hid hb; have HNO := Lib.hid hno
    clear hb hno
    by_cases hlt : k < L.length
    · obtain ⟨n, hn⟩ : ∃ n, L[k]? = some n := ⟨_, List.getElem?_eq_getElem hlt⟩
      obtain ⟨ab, ao, rfl, hbl, hc⟩ := HA.out (by omega)
      have hcall := HP.out k n hn wr HB.out
      obtain ⟨q, hq⟩ : ∃ q, p n = q := ⟨_, rfl⟩
      rw [hq] at hcall
      have HQ := Lib.hid hq; have HN := Lib.hid hn; have HLT := Lib.hid hlt
      have hcc : ∀ (j : Nat) u, n.c[j]? = some u → wr.cell? ⟨ab, ao + k * 4 + j, none⟩ = some u := fun j u hu => by
        rw [HB.out.cell (p := ⟨ab, _, none⟩) hbl]
        exact hc k n hn j u hu
      clear hc hn hq
      obtain ⟨tx, ⟨s0, s1, s2⟩⟩ := n
      have c0 : wr.cell? ⟨ab, ao + k * 4, none⟩ = some (.string tx) := hcc 0 _ rfl
      have c1 : wr.cell? ⟨ab, ao + k * 4 + 1, none⟩ = some (.int .i64 s0) := hcc 1 _ rfl
      have c2 : wr.cell? ⟨ab, ao + k * 4 + 2, none⟩ = some (.int .i64 s1) := hcc 2 _ rfl
      have c3 : wr.cell? ⟨ab, ao + k * 4 + 3, none⟩ = some (.int .i64 s2) := hcc 3 _ rfl
      clear hcc
      cases q with
      | true =>
        go_wp2_with (go_at_fn g; refine hcall.mono ?_; rintro e w' ⟨rfl, hb'⟩)
        go_ret
        exact ⟨by rw [ixp_hit HN.out HQ.out HNO.out]; rfl, hb'⟩
      | false =>
        go_wp2_with (go_at_fn g; refine hcall.mono ?_; rintro e w' ⟨rfl, hb'⟩)
        go_roundw
        case rel =>
          refine ⟨k + 1, HLT.out, by go_num, hb', fun j y hj hy => ?_⟩
          by_cases e : j = k
          · subst e
            rw [HN.out] at hy
            cases hy
            exact HQ.out
          · exact HNO.out j y (by omega) hy
        case measure => simp [intOf]; have := HLT.out; omega
    · obtain rfl : k = L.length := by omega
      go_wp2_with fail
      go_ret
      exact ⟨by rw [ixp_miss HNO.out]; rfl, HB.out⟩

/-- a name that is there twice -/
theorem twice19 (n : Nm) (w : World) : Calls Try.prog 19 #[.agg n.c.toArray] w fun e w' => e = .returned (.bool n.tw) ∧ Below w.heap.size w w' := by
  have b := Blk.new w 57 n.c.toArray
  have x : (w.alloc (.cells n.c.toArray 57)).cell? ⟨w.heap.size, 10, none⟩ = some (.bool n.tw) := by rw [b.cell]; rfl
  have HB := Lib.hid b
  clear b
  obtain ⟨tx, ⟨s0, s1, s2⟩, ⟨d0, d1, d2⟩, ⟨e0, e1, e2⟩, tw, ak⟩ := n
  go_enter Try.func19, Try.ntmps19
  go_wp2_with fail
  go_ret
  exact ⟨rfl, (Below.refl _ w).alloc (Nat.le_refl _) _⟩
/-- a name that is asked for and nobody's -/
theorem asked20 (O : List ByteArray) (n : Nm) (mb N mc : Nat) (w : World) (hm : Mf w mb N (oidx O)) (hmc : mc < w.heap.size) (hc : w.cell? ⟨mc, 0, none⟩ = some (.map (some mb))) (hs : n.tx.size ≤ 1048576) :
    Calls Try.prog 20 #[.agg n.c.toArray, .pointer (some ⟨mc, 0, none⟩)] w fun e w' => e = .returned (.bool (n.ak && decide (tgt O n = tn))) ∧ Below w.heap.size w w' := by
  have KT := Lib.hid (fun (w : World) (hm : Mf w mb N (oidx O)) => target21 O n mb N w hm hs)
  have KN := Lib.hid none22
  have b := Blk.new w 57 n.c.toArray
  have hb : Below w.heap.size w (w.alloc (.cells n.c.toArray 57)) := (Below.refl _ w).alloc (Nat.le_refl _) _
  have hc' : (w.alloc (.cells n.c.toArray 57)).cell? ⟨mc, 0, none⟩ = some (.map (some mb)) := (hb.cell (p := ⟨mc, 0, none⟩) hmc).trans hc
  have HM := Lib.hid (hm.below hb); have HB := Lib.hid hb; have HC := Lib.hid hc'; have HX := Lib.hid b
  have HEQ := Lib.hid (eqTg (tgt O n) tn)
  clear hm hc hc' hb b
  generalize tgt O n = T at *
  obtain ⟨T0, T1, T2⟩ := T
  obtain ⟨q, hq⟩ : ∃ q, decide ((⟨T0, T1, T2⟩ : Tg) = tn) = q := ⟨_, rfl⟩
  rw [hq] at HEQ ⊢
  clear hq
  obtain ⟨tx, ⟨s0, s1, s2⟩, ⟨d0, d1, d2⟩, ⟨e0, e1, e2⟩, tw, ak⟩ := n
  have heq := HEQ.out
  cases ak with
  | false =>
    go_enter Try.func20, Try.ntmps20
    go_wp2_with fail
    go_ret
    exact ⟨rfl, HB.out⟩
  | true =>
    have hc9 := HC.out
    go_enter Try.func20, Try.ntmps20
    go_wp2_with (first
      | (go_at_call 21; (with_reducible refine (KT.out _ HM.out).mono ?_); rintro _ w5 ⟨rfl, hb5⟩)
      | (go_at_call 22; (with_reducible refine (KN.out _).mono ?_); rintro _ w6 ⟨rfl, hb6⟩))
    go_ret
    exact ⟨by simp, HB.out.trans ((hb5.trans (hb6.mono hb5.size)).mono (by simp))⟩
end Go.Proofs.Ytoiiiobamanclaa
