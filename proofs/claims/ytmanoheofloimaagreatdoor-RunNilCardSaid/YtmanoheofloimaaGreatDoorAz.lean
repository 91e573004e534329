import Derived.Test.YtmanoheofloimaaGreatDoorGb
import Derived.Test.YtmanoheofloimaaGreatDoorGa
namespace Go.Proofs.YtmanoheofloimaaGreatDoor
open Go.ChangeShapes Go.WideShapes Go.ChangeAt Go.RowKit
set_option linter.unusedVariables false
set_option maxRecDepth 100000
section
variable {P : Program}
theorem add_off (g off j : Nat) : (⟨g, off, none⟩ : Addr).add j = ⟨g, off + j, none⟩ := by unfold Addr.add; split <;> simp_all
/-- a struct within a block, loaded -/
theorem run_loadVar_sub (w : World) (g off : Nat) (t ty : TypeId) (cs : Array Value) (l : List Value) (fr : Nat × Nat) (d : TypeDesc) (hg : w.heap[g]? = some (.cells cs t fr)) (hl : ∀ j v, l[j]? = some v → cs[off + j]? = some v)
    (hu : P.underlying ty = some d) (hd : (match d with | .struct _ | .array _ _ => true | _ => false) = true) (hi : (P.info? ty).map (·.size) = some l.length) :
    (loadVar ty ⟨g, off, none⟩).run P w = .ok (.agg l.toArray) w := by
  have h := run_loadCells_list (P := P) w ⟨g, off, none⟩ l (fun j v hv => by
    rw [add_off, cell_of_row w g (off + j) cs t fr hg]
    exact hl j v hv)
  cases hq : P.info? ty with
  | none => simp [hq] at hi
  | some i =>
    have hs : i.size = l.length := by simpa [hq] using hi
    have hagg : (isAgg ty).run P w = .ok true w := by
      unfold isAgg
      rw [Sem.run_bind, run_underlying hu w]
      cases d <;> simp_all
    simp [loadVar, Sem.run_bind, hagg, sizeOf, typeInfo, hq, hs, h]
theorem wp_load_sub {o : Oper} {a : Act} {w : World} {K : Act → World → Prop} {Q : Exit → Act → World → Prop} (ty : TypeId) (x : Operand) (ho : o.op = .load ty x)
    (g off : Nat) (hx : a.eval x = .pointer (some ⟨g, off, none⟩)) (t : TypeId) (cs : Array Value) (l : List Value) (fr : Nat × Nat) (d : TypeDesc) (hg : w.heap[g]? = some (.cells cs t fr)) (hl : ∀ j v, l[j]? = some v → cs[off + j]? = some v)
    (hu : P.underlying ty = some d) (hd : (match d with | .struct _ | .array _ _ => true | _ => false) = true) (hi : (P.info? ty).map (·.size) = some l.length)
    (h : K (a.put o.dst (.agg l.toArray)) w) : o.wp P a w K Q := by
  unfold Oper.wp execOp
  simp only [ho, hx, Instr.loadAt, Instr.sureAddr, Sem.run_bind, Sem.run_pure, Result.andThen_ok, run_loadVar_sub w g off t ty cs l fr d hg hl hu hd hi]
  exact h
theorem putA_nil (C : Array Value) (off : Nat) : putA C off [] = C := by
  unfold putA
  simp
theorem putA_cons (C : Array Value) (off : Nat) (v : Value) (vs : List Value) (h : off + vs.length + 1 ≤ C.size) : putA (C.setIfInBounds off v) (off + 1) vs = putA C off (v :: vs) := by
  unfold putA
  congr 1
  have hL : off < C.toList.length := by simp; omega
  rw [Array.toList_setIfInBounds]
  generalize C.toList = L at *
  have e1 : (L.set off v).take (off + 1) = L.take off ++ [v] := by
    rw [List.take_add_one, List.take_set_of_le (Nat.le_refl _)]
    simp [hL]
  have e2 : (L.set off v).drop (off + 1 + vs.length) = L.drop (off + (v :: vs).length) := by
    rw [List.drop_set_of_lt (by omega)]
    congr 1
    simp; omega
  rw [e1, e2]
  simp
theorem run_storeCells_sub (g off : Nat) (t : TypeId) : ∀ (vs : List Value) (i : Nat) (cur : Array Value) (w : World), w.heap[g]? = some (.cells cur t (0, 0)) → off + i + vs.length ≤ cur.size → (∀ v ∈ vs, v.oneCell' = true) →
    (storeCells ⟨g, off, none⟩ vs i).run P w = .ok () (w.setRow g (putA cur (off + i) vs))
  | [], i, cur, w, hg, hl, _ => by
    rw [putA_nil]
    simp only [storeCells]
    show Result.ok () w = _
    congr 1
    have hlt : g < w.heap.size := (Array.getElem?_eq_some_iff.1 hg).1
    have hv : w.heap[g] = .cells cur t (0, 0) := (Array.getElem?_eq_some_iff.1 hg).2
    unfold World.setRow
    cases w with
    | mk heap tape drawn os output =>
      congr 1
      apply Array.ext
      · simp
      · intro k h1 h2
        simp only [Array.getElem_modify]
        split
        · rename_i hk; subst hk; simp at hv; simp [hv]
        · rfl
  | v :: rest, i, cur, w, hg, hl, h1 => by
    have hi : off + i < cur.size := by simp at hl; omega
    have hcell : w.cell? ⟨g, off + i, none⟩ = some cur[off + i] := by simp [World.cell?, hg, hi]
    have hfro : w.frozen? ⟨g, off + i, none⟩ = false := by simp [World.frozen?, hg]
    have hst : (store ((⟨g, off, none⟩ : Addr).add i) v).run P w = .ok () (w.setRow g (cur.setIfInBounds (off + i) v)) := by
      rw [add_off, run_store P w _ v _ (h1 v (by simp)), hcell]
      simp [hfro, setCell_eq_setRow w g (off + i) cur t (0, 0) v hg]
    have ih := run_storeCells_sub g off t rest (i + 1) (cur.setIfInBounds (off + i) v) (w.setRow g (cur.setIfInBounds (off + i) v)) (setRow_heap w g cur _ t _ hg) (by simp at hl ⊢; omega) (fun x hx => h1 x (by simp [hx]))
    simp only [storeCells, Sem.run_bind, hst, Result.andThen_ok, ih, setRow_setRow]
    rw [← Nat.add_assoc, putA_cons _ _ _ _ (by simp at hl; omega)]
theorem run_storeVar_sub (w : World) (g off : Nat) (t ty : TypeId) (old cells : Array Value) (hg : w.heap[g]? = some (.cells old t (0, 0))) (hi : (P.info? ty).map (·.size) = some cells.size)
    (ho : off + cells.size ≤ old.size) (h1 : cells.all (·.oneCell') = true) :
    (storeVar ty ⟨g, off, none⟩ (.agg cells)).run P w = .ok () (w.setRow g (putA old off cells.toList)) := by
  have := run_storeCells_sub (P := P) g off t cells.toList 0 old w hg (by simp; omega) (fun v hv => (Array.all_eq_true_iff_forall_mem.1 h1) v (by simpa using hv))
  cases hq : P.info? ty with
  | none => simp [hq] at hi
  | some i =>
    have hs : cells.size = i.size := by simp [hq] at hi; omega
    simp [storeVar, sizeOf, typeInfo, hq, Value.cells, hs, this]
theorem wp_store_sub {o : Oper} {a : Act} {w : World} {K : Act → World → Prop} {Q : Exit → Act → World → Prop} (ty : TypeId) (x y : Operand) (ho : o.op = .store ty x y)
    (g off : Nat) (cells : Array Value) (hx : a.eval x = .pointer (some ⟨g, off, none⟩)) (hy : a.eval y = .agg cells)
    (t : TypeId) (old : Array Value) (hg : w.heap[g]? = some (.cells old t (0, 0))) (hi : (P.info? ty).map (·.size) = some cells.size)
    (hold : off + cells.size ≤ old.size) (h1 : cells.all (·.oneCell') = true)
    (h : K (a.put o.dst undef) (w.setRow g (putA old off cells.toList))) : o.wp P a w K Q := by
  unfold Oper.wp execOp
  simp only [ho, hx, hy, Instr.storeAt, Instr.sureAddr, Sem.run_bind, Sem.run_pure, Result.andThen_ok, run_storeVar_sub w g off t ty old cells hg hi hold h1]
  exact h
theorem wpList_store_sub {ops : Array Oper} {rest : List Oper} {o : Oper} {a : Act} {w : World} {Q : Exit → Act → World → Prop} (hgd : o.guard = none) (ty : TypeId) (x y : Operand) (ho : o.op = .store ty x y)
    (g off : Nat) (cells : Array Value) (hx : a.eval x = .pointer (some ⟨g, off, none⟩)) (hy : a.eval y = .agg cells)
    (t : TypeId) (old : Array Value) (hg : w.heap[g]? = some (.cells old t (0, 0))) (hi : (P.info? ty).map (·.size) = some cells.size)
    (hold : off + cells.size ≤ old.size) (h1 : cells.all (·.oneCell') = true)
    (h : wpList P ops Q rest (a.put o.dst undef) (w.setRow g (putA old off cells.toList))) : wpList P ops Q (o :: rest) a w :=
  wpList_plain hgd fun _ hK => wp_store_sub ty x y ho g off cells hx hy t old hg hi hold h1 (hK _ _ h)
end
/-- a capability -/
structure Cq where (g : Bool) (a p y e b t : Nat)
abbrev Cq.L (c : Cq) : List Value := [.bool c.g, .int .u32 (c.a : Int), .int .u8 (c.p : Int), .int .u8 (c.y : Int), .int .u8 (c.e : Int), .int .u16 (c.b : Int), .int .u16 (c.t : Int)]
abbrev Cq.v (c : Cq) : Value := .agg #[.bool c.g, .int .u32 (c.a : Int), .int .u8 (c.p : Int), .int .u8 (c.y : Int), .int .u8 (c.e : Int), .int .u16 (c.b : Int), .int .u16 (c.t : Int)]
def nul : Cq := ⟨false, 0, 0, 0, 0, 0, 0⟩
/-- fields that are no more than they may be -/
def Cq.fit (c : Cq) : Prop := c.a < 4294967296 ∧ c.p < 256 ∧ c.y < 256 ∧ c.e < 256 ∧ c.b < 65536 ∧ c.t < 65536
/-- capabilities one behind the other -/
def flat (c : Nat → Cq) : Nat → List Value
  | 0 => []
  | n + 1 => flat c n ++ (c n).L
theorem flat_len (c : Nat → Cq) : ∀ n, (flat c n).length = 7 * n
  | 0 => rfl
  | n + 1 => by rw [flat, List.length_append, flat_len c n]; simp; omega
theorem flat_at (c : Nat → Cq) : ∀ n r j, r < n → j < 7 → (flat c n)[7 * r + j]? = (c r).L[j]?
  | 0, r, j, h, _ => by omega
  | n + 1, r, j, h, hj => by
    rw [flat]
    by_cases e : r = n
    · subst e
      rw [List.getElem?_append_right (by rw [flat_len]; omega), flat_len]
      congr 1
      omega
    · rw [List.getElem?_append_left (by rw [flat_len]; omega)]
      exact flat_at c n r j (by omega) hj
def upd (c : Nat → Cq) (r : Nat) (x : Cq) : Nat → Cq := fun i => if i = r then x else c i
theorem flat_congr {c d : Nat → Cq} : ∀ {n}, (∀ i, i < n → c i = d i) → flat c n = flat d n
  | 0, _ => rfl
  | n + 1, h => by rw [flat, flat, flat_congr (fun i hi => h i (by omega)), h n (by omega)]
theorem flat_upd (c : Nat → Cq) (r : Nat) (x : Cq) : ∀ n, r < n → (flat c n).take (7 * r) ++ (x.L ++ (flat c n).drop (7 * r + 7)) = flat (upd c r x) n
  | 0, h => by omega
  | n + 1, h => by
    by_cases e : r = n
    · subst e
      rw [flat, flat, flat_congr (c := upd c r x) (d := c) (fun i hi => by unfold upd; rw [if_neg (by omega)])]
      have h1 : (flat c r ++ (c r).L).take (7 * r) = flat c r := by rw [List.take_append_of_le_length (by rw [flat_len]; omega), List.take_of_length_le (by rw [flat_len]; omega)]
      have h2 : (flat c r ++ (c r).L).drop (7 * r + 7) = [] := by rw [List.drop_of_length_le (by rw [List.length_append, flat_len]; simp)]
      rw [h1, h2, List.append_nil]
      unfold upd
      rw [if_pos rfl]
    · rw [flat, flat, ← flat_upd c r x n (by omega)]
      rw [List.take_append_of_le_length (by rw [flat_len]; omega), List.drop_append_of_le_length (by rw [flat_len]; omega)]
      have h3 : upd c r x n = c n := by unfold upd; rw [if_neg (by omega)]
      rw [h3]
      simp
end Go.Proofs.YtmanoheofloimaaGreatDoor
