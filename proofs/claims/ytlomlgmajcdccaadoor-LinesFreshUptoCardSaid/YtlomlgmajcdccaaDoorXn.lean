import Derived.Test.YtlomlgmajcdccaaDoorXm
import Derived.Laws.AppendOwnNone
namespace Go.Proofs.YtlomlgmajcdccaaDoor
open Go.ChangeShapes Go.WideShapes Go.ChangeAt Go.RowKit
set_option linter.unusedVariables false
theorem txt_len (f : Nat → ByteArray) (n : Nat) : ((List.range n).map fun j => Value.string (f j)).length = n := by simp
/-- texts appended to nothing, whatever the source -/
theorem app_txt {w : World} {ops : Array Oper} {rest : List Oper} {o : Oper} {a : Act} {Q : Exit → Act → World → Prop} (hgd : o.guard = none) (s x : Operand)
    (ho : o.op = .call { callee := .builtin .append, args := #[s, x], argTypes := #[29, 29] }) (hs : a.eval s = .slice none 0 0)
    (A : Option Addr) (n c : Nat) (f : Nat → ByteArray) (hx : a.eval x = .slice A n c) (hS : Ss w A n f) (hn : n ≤ 16777216) (B : Nat) (hB : B ≤ w.heap.size)
    (h : ∀ v' w', w'.ownsRow B 9 1 v' n ((List.range n).map fun j => Value.string (f j)) → w.grownBy w' none → wpList Tryd.prog ops Q rest (a.put o.dst v') w') : wpList Tryd.prog ops Q (o :: rest) a w := by
  obtain ⟨i0, hi, hz⟩ : ∃ i, Tryd.prog.info? 9 = some i ∧ (i.zero, i.size, i.bytes) = (some (.string ⟨#[]⟩), 1, 16) := by
    have h : (Tryd.prog.info? 9).map (fun i => (i.zero, i.size, i.bytes)) = some (some (.string ⟨#[]⟩), 1, 16) := by kernel_rfl
    cases hq : Tryd.prog.info? 9 with
    | none => rw [hq] at h; cases h
    | some i => rw [hq] at h; exact ⟨i, rfl, by simpa using h⟩
  simp only [Prod.mk.injEq] at hz
  obtain ⟨hz0, hz1, hz2⟩ := hz
  rcases A with _ | ad
  · have h0 : n = 0 := by
      by_cases h0 : n = 0
      · exact h0
      · obtain ⟨b, o, e, _⟩ := hS (by omega)
        cases e
    subst h0
    refine wpList_plain hgd fun K hK => ?_
    have hrun : (Builtin.append_ #[29, 29] o.type #[.slice none 0 0, .slice none 0 c]).run Tryd.prog w = .ok (.slice none 0 0) w := by
      simp [Builtin.append_, run_underlying Tryd.underlying29, sizeOf, typeInfo, hi, Builtin.lenOf, Builtin.firstCells]
    unfold Oper.wp
    simp [execOp, ho, resolve, invoke, builtin, hs, hx, hrun, Result.andThen]
    exact hK _ _ (h _ w (World.ownsRow_nil _ _ _ _) (World.grownBy.refl w _))
  · refine wpList_append_own w hgd s x 29 ho B 9 i0 (.string ⟨#[]⟩) 1 16 Tryd.underlying29 hi hz0 hz1 hz2 rfl (by decide) (.slice none 0 0) 0 [] hs (World.ownsRow_nil _ _ _ _) ad n c ((List.range n).map fun j => Value.string (f j)) hx (by simp) ?_ (fun u hu => by
      obtain ⟨j, _, rfl⟩ := List.mem_map.1 hu
      rfl) (by unfold maxLen; omega) (by omega) hB fun v' w' h1 h2 _ => h v' w' (by simpa using h1) h2
    intro j u hu
    have hj : j < n := by
      rcases Nat.lt_or_ge j n with hh | hh
      · exact hh
      · rw [List.getElem?_eq_none (by simp; exact hh)] at hu; cases hu
    obtain ⟨b, o', e, _, hc⟩ := hS (by omega)
    obtain rfl := Option.some.inj e
    rw [add_add0, (hc j hj).1]
    rw [List.getElem?_map, List.getElem?_range hj] at hu
    exact hu
/-- lines of the call's own, that read as these -/
def DI (w : World) (B : Nat) (g : Nat → Wl) (V : Value) (k : Nat) : Prop :=
  ∃ D : List (Int × Value × Nat), D.length = k ∧ w.ownsRow B 31 2 V k (D.flatMap fun x => [.int .i64 x.1, x.2.1]) ∧
    ∀ j, (h : j < D.length) → D[j].1 = (g j).line ∧ D[j].2.2 = (g j).n ∧ w.ownsRow B 9 1 D[j].2.1 (g j).n ((List.range (g j).n).map fun i => Value.string ((g j).f i))
theorem di_nil (w : World) (B : Nat) (g : Nat → Wl) : DI w B g (.slice none 0 0) 0 := ⟨[], rfl, World.ownsRow_nil _ _ _ _, fun j h => absurd h (by simp)⟩
theorem di_below {w w' : World} {B : Nat} {g : Nat → Wl} {V : Value} {k : Nat} (h : DI w B g V k) (hb : Below w.heap.size w w') : DI w' B g V k := by
  obtain ⟨D, h1, h2, h3⟩ := h
  exact ⟨D, h1, own_below h2 hb, fun j hj => ⟨(h3 j hj).1, (h3 j hj).2.1, own_below (h3 j hj).2.2 hb⟩⟩
theorem below_none {w w' : World} (hg : w.grownBy w' none) : Below w.heap.size w w' := ⟨hg.os, hg.tape, hg.output, hg.size, fun k hk => hg.block k hk (by simp)⟩
/-- the lines as the callee reads them -/
theorem di_ws {w : World} {B : Nat} {g : Nat → Wl} {V : Value} {n : Nat} (h : DI w B g V n) (hg : ∀ k, k < n → (g k).n ≤ 16777216 ∧ ∀ j, j < (g k).n → ((g k).f j).size ≤ 9223372036854775807) :
    ∃ A c g', V = .slice A n c ∧ Ws w A n g' ∧ AlikeW n g g' := by
  obtain ⟨D, h1, h2, h3⟩ := h
  obtain ⟨A, c, rfl, hnc⟩ := own_slice h2
  refine ⟨A, c, ?_⟩
  have hgk : ∀ k, ∃ y : Wl, k < n → y.line = (g k).line ∧ y.n = (g k).n ∧ y.f = (g k).f ∧ (D[k]?).map (·.2.1) = some (.slice y.A y.n y.c) ∧ y.n ≤ y.c ∧ Ss w y.A y.n y.f := by
    intro k
    by_cases hk : k < n
    · have hkD : k < D.length := by omega
      obtain ⟨e1, e2, e3⟩ := h3 k hkD
      obtain ⟨A', c', hv, hc'⟩ := own_slice e3
      refine ⟨⟨(g k).line, A', (g k).n, c', (g k).f⟩, fun _ => ⟨rfl, rfl, rfl, by rw [List.getElem?_eq_getElem hkD]; simp [hv], hc', fun h0 => ?_⟩⟩
      simp only at h0
      have hA : ∃ b, A' = some ⟨b, 0, none⟩ := by
        rw [hv] at e3
        rcases e3.2 with ⟨q, q'⟩ | ⟨b, cap, cur, q, _⟩
        · omega
        · simp at q; exact ⟨b, q.1⟩
      obtain ⟨b, rfl⟩ := hA
      rw [hv] at e3
      refine ⟨b, 0, rfl, (e3.lt b rfl).2, fun j hj => ?_⟩
      have hj : j < (g k).n := hj
      have := e3.cells (g := b) rfl j (.string ((g k).f j)) (by rw [List.getElem?_map, List.getElem?_range hj]; rfl)
      rw [addr_add] at this
      rw [Nat.zero_add]
      exact ⟨this, (hg k hk).2 j hj⟩
    · exact ⟨⟨0, none, 0, 0, fun _ => ⟨#[]⟩⟩, fun h => absurd h hk⟩
  obtain ⟨g', hg'⟩ := Classical.axiomOfChoice hgk
  refine ⟨g', rfl, fun h0 => ?_, fun k hk => ⟨(hg' k hk).2.1.symm, fun j _ => by rw [(hg' k hk).2.2.1]⟩⟩
  have hA : ∃ b, A = some ⟨b, 0, none⟩ := by
    rcases h2.2 with ⟨q, q'⟩ | ⟨b, cap, cur, q, _⟩
    · omega
    · simp at q; exact ⟨b, q.1⟩
  obtain ⟨b, rfl⟩ := hA
  refine ⟨b, 0, rfl, (h2.lt b rfl).2, fun k hk => ?_⟩
  have hkD : k < D.length := by omega
  obtain ⟨e1, e2, e3, e4, e5, e6⟩ := hg' k hk
  obtain ⟨f1, f2⟩ := fm_at (fun x : Int × Value × Nat => Value.int .i64 x.1) (fun x => x.2.1) D k hkD
  have c1 := h2.cells (g := b) rfl _ _ f1
  have c2 := h2.cells (g := b) rfl _ _ f2
  rw [addr_add] at c1 c2
  rw [Nat.zero_add]
  rw [List.getElem?_eq_getElem hkD] at e4
  have e4 : D[k].2.1 = .slice (g' k).A (g' k).n (g' k).c := by simpa using e4
  refine ⟨?_, ?_, e6, by rw [e2]; have := (hg k hk).1; omega, e5⟩
  · rw [c1, (h3 k hkD).1, e1]
  · rw [c2, e4]
/-- one line more -/
theorem di_snoc {w w' : World} {B : Nat} {g : Nat → Wl} {V V' v : Value} {k : Nat} {x : Wl} {D : List (Int × Value × Nat)} (hx : g k = x) (h1 : D.length = k) (h2 : w.ownsRow B 31 2 V k (D.flatMap fun x => [.int .i64 x.1, x.2.1]))
    (h3 : ∀ j, (h : j < D.length) → D[j].1 = (g j).line ∧ D[j].2.2 = (g j).n ∧ w.ownsRow B 9 1 D[j].2.1 (g j).n ((List.range (g j).n).map fun i => Value.string ((g j).f i)))
    (hv : w.ownsRow B 9 1 v x.n ((List.range x.n).map fun i => Value.string (x.f i)))
    (hD : w'.ownsRow B 31 2 V' (k + 1) ((D.flatMap fun x => [.int .i64 x.1, x.2.1]) ++ [.int .i64 x.line, v])) (hg : w.grownBy w' V.ownBlock) : DI w' B g V' (k + 1) := by
  subst hx
  refine ⟨D ++ [((g k).line, v, (g k).n)], by simp [h1], ?_, fun j hj => ?_⟩
  · rw [List.flatMap_append]
    exact hD
  · by_cases hjk : j < D.length
    · obtain ⟨e1, e2, e3⟩ := h3 j hjk
      rw [List.getElem_append_left hjk]
      exact ⟨e1, e2, e3.kept hg (own_apart e3 h2 (by decide))⟩
    · have : j = k := by simp at hj; omega
      subst this
      rw [List.getElem_append_right (by omega)]
      simp only [h1, Nat.sub_self, List.getElem_cons_zero]
      exact ⟨trivial, trivial, hv.kept hg (own_apart hv h2 (by decide))⟩
/-- so many lines copied -/
def R7 (w : World) (g : Nat → Wl) (n : Nat) (mv i : Value) (wr : World) : Prop := ∃ k : Nat, k ≤ n ∧ i = .int .i64 (k : Int) ∧ DI wr w.heap.size g mv k ∧ Below w.heap.size w wr
/-- a row of so many texts -/
def Str (w : World) (B : Nat) (v : Value) (n : Nat) : Prop := ∃ l : List ByteArray, l.length = n ∧ w.ownsRow B 9 1 v n (l.map Value.string)
theorem str_store {w : World} {B n n0 c0 b j : Nat} {v : Value} {xs0 : List Value} (s : ByteArray) (h : Str w B v n) (hx : w.ownsRow B 9 1 (.slice (some ⟨b, 0, none⟩) n0 c0) n0 xs0) : Str (w.setCell ⟨b, j, none⟩ (.string s)) B v n := by
  obtain ⟨l, hl, ho⟩ := h
  obtain ⟨A, c, rfl, hnc⟩ := own_slice ho
  have hg := (hx.stored j (.string s)).2
  by_cases hA : (Value.slice A n c).ownBlock = some b
  · have hA2 : A = some ⟨b, 0, none⟩ := by
      rcases ho.2 with ⟨q, _⟩ | ⟨b', cap, cur, q, _⟩
      · simp at q
        rw [q.1] at hA
        cases hA
      · simp at q
        rw [q.1] at hA
        simp [Value.ownBlock] at hA
        rw [q.1, hA]
    subst hA2
    refine ⟨l.set j s, by simpa using hl, ?_⟩
    rw [List.map_set]
    exact (ho.stored j (.string s)).1
  · exact ⟨l, hl, ho.kept hg (Or.inr hA)⟩
/-- what Read answered, its words whatever they are -/
def RX (w w3 : World) (V : Value) (n : Nat) (E : List (Nat × Value × Nat)) : Prop :=
  w.ownsRow w3.heap.size 31 2 V n (E.flatMap fun x => [.int .i64 (x.1 : Int), x.2.1]) ∧ (∀ x ∈ E, Str w w3.heap.size x.2.1 x.2.2) ∧ Below w3.heap.size w3 w
theorem rx_store {w w3 : World} {V : Value} {n b n0 c0 j : Nat} {E : List (Nat × Value × Nat)} {xs0 : List Value} (s : ByteArray) (h : RX w w3 V n E) (hx : w.ownsRow w3.heap.size 9 1 (.slice (some ⟨b, 0, none⟩) n0 c0) n0 xs0) : RX (w.setCell ⟨b, j, none⟩ (.string s)) w3 V n E := by
  obtain ⟨h1, h2, h3⟩ := h
  refine ⟨h1.kept (hx.stored j (.string s)).2 ?_, fun x hx' => str_store s (h2 x hx') hx, h3.setCell (hx.lt b rfl).1 _⟩
  exact own_apart h1 hx (by decide)
theorem rx_start {w w3 : World} {A : Option Addr} {c : Nat} {R : List (Nat × List ByteArray)} {n : Nat} (hn : R.length = n) (h : RdOut w3.heap.size (.slice A n c) R w) (hb : Below w3.heap.size w3 w) :
    ∃ E : List (Nat × Value × Nat), E.length = n ∧ RX w w3 (.slice A n c) n E := by
  obtain ⟨D, h1, h2, h3⟩ := h
  have hl : D.length = n := by rw [← hn, ← h1, List.length_map]
  rw [hl] at h2
  refine ⟨D.map fun x => (x.1, x.2.1, x.2.2.length), by simpa using hl, ?_, fun x hx => ?_, hb⟩
  · rw [List.flatMap_map]
    exact h2
  · obtain ⟨y, hy, rfl⟩ := List.mem_map.1 hx
    exact ⟨y.2.2, rfl, h3 y hy⟩
/-- the k-th line, as it lies -/
theorem rx_at {w w3 : World} {A : Option Addr} {n c k : Nat} {E : List (Nat × Value × Nat)} (h : RX w w3 (.slice A n c) n E) (hE : E.length = n) (hk : k < n) :
    ∃ b A1 n1 c1, A = some ⟨b, 0, none⟩ ∧ w.cell? ⟨b, k * 2 + 1, none⟩ = some (.slice A1 n1 c1) ∧ (∃ x ∈ E, x.2.1 = .slice A1 n1 c1 ∧ x.2.2 = n1) ∧ E[k]? = some ((E[k]'(by omega)).1, .slice A1 n1 c1, n1) ∧ n1 ≤ c1 := by
  obtain ⟨h1, h2, h3⟩ := h
  have hkE : k < E.length := by omega
  obtain ⟨l, hl, ho⟩ := h2 _ (List.getElem_mem hkE)
  obtain ⟨A1, c1, hv, hnc⟩ := own_slice ho
  have hA : ∃ b, A = some ⟨b, 0, none⟩ := by
    rcases h1.2 with ⟨q, q'⟩ | ⟨b, cap, cur, q, _⟩
    · omega
    · simp at q; exact ⟨b, q.1⟩
  obtain ⟨b, rfl⟩ := hA
  obtain ⟨f1, f2⟩ := fm_at (fun x : Nat × Value × Nat => Value.int .i64 (x.1 : Int)) (fun x => x.2.1) E k hkE
  have c2 := h1.cells (g := b) rfl _ _ f2
  rw [addr_add, hv] at c2
  refine ⟨b, A1, E[k].2.2, c1, rfl, c2, ⟨E[k], List.getElem_mem hkE, hv, rfl⟩, ?_, hnc⟩
  rw [List.getElem?_eq_getElem hkE]
  congr 1
  exact Prod.ext rfl (Prod.ext hv rfl)
def R7b (w3 : World) (V : Value) (n : Nat) (E : List (Nat × Value × Nat)) (i : Value) (wr : World) : Prop := ∃ k : Nat, k ≤ n ∧ i = .int .i64 (k : Int) ∧ RX wr w3 V n E
end Go.Proofs.YtlomlgmajcdccaaDoor
