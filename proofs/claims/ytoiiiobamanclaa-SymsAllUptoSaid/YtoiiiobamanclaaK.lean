import Derived.Test.YtoiiiobamanclaaJ
namespace Go.Proofs.Ytoiiiobamanclaa
open Go.ChangeShapes Go.WideShapes Go.ChangeAt Go.RowKit Go.Shelf
set_option linter.unusedVariables false
theorem ixp_cases {α : Type} (p : α → Bool) (L : List α) : (∃ (i : Nat) (x : α), L[i]? = some x ∧ p x = true ∧ ixp p L = (i : Int) ∧ L.find? p = some x) ∨ (ixp p L = -1 ∧ L.find? p = none) := by
  cases h : L.findIdx? p with
  | none =>
    refine .inr ⟨by unfold ixp; rw [h], ?_⟩
    rw [List.findIdx?_eq_none_iff] at h
    rw [List.find?_eq_none]
    intro x hx
    rw [h x hx]
    exact Bool.false_ne_true
  | some i =>
    have h0 := h
    rw [List.findIdx?_eq_some_iff_getElem] at h
    obtain ⟨hl, hp, hn⟩ := h
    refine .inl ⟨i, L[i], List.getElem?_eq_getElem hl, hp, by unfold ixp; rw [h0], ?_⟩
    rw [List.find?_eq_some_iff_getElem]
    exact ⟨hp, i, hl, rfl, fun j hj => by simpa using hn j hj⟩
theorem NmR.ly {w : World} {base : Nat} {v : Value} {L : List Nm} (h : NmR w base v L) : Ly w v 12 Nm.c L := by
  rcases h.form with ⟨rfl, rfl⟩ | ⟨g, cap, cur, rfl, hb, hg, hn, hm, hs, ht⟩
  · exact ⟨none, 0, rfl, fun h => absurd h (Nat.lt_irrefl 0)⟩
  · refine ⟨_, cap, rfl, fun h0 => ⟨g, 0, rfl, hg.lt, fun k x hx j u hu => ?_⟩⟩
    rw [hg.cell, Nat.zero_add]
    exact (ht k x hx).2 j u hu
/-- the table so far -/
def BdR (w : World) (base : Nat) (v : Value) (L : List Bd) : Prop := w.ownsRow base 37 4 v L.length (L.flatMap Bd.c)
theorem bd_get : ∀ (L : List Bd) (k j : Nat) (b : Bd), L[k]? = some b → j < 4 → (L.flatMap Bd.c)[k * 4 + j]? = b.c[j]?
  | [], k, j, b, h, _ => by simp at h
  | a :: L, 0, j, b, h, hj => by
    simp at h
    subst h
    rw [List.flatMap_cons, List.getElem?_append_left (by show 0 * 4 + j < 4; omega)]
    rw [Nat.zero_mul, Nat.zero_add]
  | a :: L, k + 1, j, b, h, hj => by
    rw [List.getElem?_cons_succ] at h
    have := bd_get L k j b h hj
    rw [List.flatMap_cons, List.getElem?_append_right (by show 4 ≤ _; omega)]
    rw [show (k + 1) * 4 + j - a.c.length = k * 4 + j by show (k + 1) * 4 + j - 4 = _; omega]
    exact this
theorem BdR.ly {w : World} {base : Nat} {v : Value} {L : List Bd} (h : BdR w base v L) : Ly w v 4 Bd.c L := by
  rcases h.2 with ⟨rfl, h0⟩ | ⟨g, cap, cur, rfl, hb, hg, hn, hm, hs, ht⟩
  · rw [List.length_eq_zero_iff.1 h0]
    exact ⟨none, 0, rfl, fun h => absurd h (Nat.lt_irrefl 0)⟩
  · refine ⟨_, cap, rfl, fun h0 => ⟨g, 0, rfl, (Array.getElem?_eq_some_iff.1 hg).1, fun k x hx j u hu => ?_⟩⟩
    have hj : j < 4 := (List.getElem?_eq_some_iff.1 hu).1
    have h1 := h.cells rfl (k * 4 + j) u (by rw [bd_get L k j x hx hj]; exact hu)
    rw [show ((⟨g, 0, none⟩ : Addr).add (k * 4 + j)) = ⟨g, k * 4 + j, none⟩ by (simp [Addr.add]; omega)] at h1
    rw [Nat.zero_add]
    exact h1
theorem gr_below {B e sz n : Nat} {w w1 w2 : World} {v : Value} {xs : List Value} (hb : Below B w w1) (hR : w1.ownsRow B e sz v n xs) (hg : w1.grownBy w2 v.ownBlock) (hB : B ≤ w1.heap.size) : Below B w w2 :=
  hb.grown hg hB (fun k hk => by
    rcases hR.2 with ⟨rfl, _⟩ | ⟨g, cap, cur, rfl, hgb, _⟩
    · cases hk
    · simp [Value.ownBlock] at hk; omega)
theorem info37 : (Try.prog.info? 37).map (fun i => (i.zero, i.size, i.bytes)) = some (some (.agg #[.string ⟨#[]⟩, .int .i64 0, .int .i64 0, .int .i64 0]), 4, 40) := by kernel_rfl
/-- whence names come -/
theorem step_tx {E : List Nm} {s : Sm} {t : Tg} {n : Nm} (h : n ∈ step E s t) : n.tx = s.nm ∨ ∃ m ∈ E, m.tx = n.tx := by
  unfold step at h
  split at h
  · exact .inr ⟨n, h, rfl⟩
  · split at h
    · rename_i i hi
      obtain ⟨m, hm, hmt⟩ := idx_at hi
      rcases List.mem_or_eq_of_mem_set h with h | h
      · exact .inr ⟨n, h, rfl⟩
      · left
        rw [h, take_tx, List.getD_eq_getElem?_getD, hm]
        exact hmt
    · rcases List.mem_append.1 h with h | h
      · exact .inr ⟨n, h, rfl⟩
      · left
        rw [List.mem_singleton.1 h, take_tx]
        rfl
theorem inn_tx {P : ByteArray → Prop} {E : List Nm} {o : Nat} {S : List Sm} (hS : ∀ s ∈ S, P s.nm) (hE : ∀ n ∈ E, P n.tx) : ∀ k n, n ∈ inn E o S k → P n.tx
  | 0, n, h => hE n h
  | k + 1, n, h => by
    unfold inn at h
    split at h
    · rename_i s hs
      rcases step_tx h with e | ⟨m, hm, e⟩
      · rw [e]; exact hS s (List.mem_of_getElem? hs)
      · rw [← e]; exact inn_tx hS hE k m hm
    · exact inn_tx hS hE k n h
theorem outE_tx {P : ByteArray → Prop} {D : List (List Sm)} (hD : ∀ S ∈ D, ∀ s ∈ S, P s.nm) : ∀ o n, n ∈ outE D o → P n.tx
  | 0, n, h => by cases h
  | o + 1, n, h => by
    unfold outE at h
    split at h
    · rename_i S hS
      exact inn_tx (hD S (List.mem_of_getElem? hS)) (outE_tx hD o) _ n h
    · exact outE_tx hD o n h
set_option maxRecDepth 100000 in
set_option maxHeartbeats 4000000 in
/-- the first name that is so -/
theorem wrong17 (b : Nat) (A : Option Addr) (c : Nat) (L : List Nm) (g : Nat) (lb : Array Value) (eg : ∀ args w, (callFunc g args).run Try.prog w = .ok (.enter g args) w) (p : Nm → Bool) (w : World) (hb : w.cell? ⟨b, 0, none⟩ = some (.slice A L.length c)) (hv : Ly w (.slice A L.length c) 12 Nm.c L) (hL : L.length ≤ 1048576)
    (hp : ∀ (k : Nat) n, L[k]? = some n → ∀ W, Below w.heap.size w W → Calls Try.prog g (#[.agg n.c.toArray] ++ lb) W fun e w' => e = .returned (.bool (p n)) ∧ Below w.heap.size w w') :
    Calls Try.prog 17 #[.func (.func g) #[] lb, .pointer (some ⟨b, 0, none⟩)] w fun e w' => e = .returned (.int .i64 (ixp p L)) ∧ Below w.heap.size w w' := by
  have K := Lib.hid (index18 _ L g lb eg p w hv hL hp)
  clear hp hv
  generalize ixp p L = r at *
  go_enter Try.func17, Try.ntmps17
  go_wp2_with fail
  (with_reducible refine K.out.mono ?_)
  rintro _ w5 ⟨rfl, hb5⟩
  have HB := Lib.hid hb5
  clear hb5
  go_wp2_with fail
  go_ret
  exact ⟨rfl, HB.out⟩
end Go.Proofs.Ytoiiiobamanclaa
