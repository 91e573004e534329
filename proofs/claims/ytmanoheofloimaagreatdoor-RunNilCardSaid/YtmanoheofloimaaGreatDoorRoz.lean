import Derived.Test.YtmanoheofloimaaGreatDoorGi
namespace Go.Proofs.YtmanoheofloimaaGreatDoor
open Go.ChangeShapes Go.WideShapes Go.ChangeAt Go.RowKit
set_option linter.unusedVariables false
set_option linter.unusedSimpArgs false
set_option maxRecDepth 100000
section
variable {P : Program} {o : Oper} {a : Act} {w : World} {K : Act → World → Prop} {Q : Exit → Act → World → Prop}
theorem wp_value (v : Value) (h : (execOp a.eval o).run P w = .ok (.value v) w) (hk : K (a.put o.dst v) w) : o.wp P a w K Q := by
  unfold Oper.wp
  rw [h]
  exact hk
theorem wp_move (x : Operand) (ho : o.op = .move x) (v : Value) (hx : a.eval x = v) (hk : K (a.put o.dst v) w) : o.wp P a w K Q :=
  wp_value v (by subst hx; unfold execOp; simp only [ho]; rfl) hk
theorem wp_assign (x : Operand) (ho : o.op = .assign x) (v : Value) (hx : a.eval x = v) (hk : K (a.put o.dst v) w) : o.wp P a w K Q :=
  wp_value v (by subst hx; unfold execOp; simp only [ho]; rfl) hk
theorem wp_nil (x : Operand) (ho : o.op = .nilCheck x) (p : Addr) (hx : a.eval x = .pointer (some p)) (hk : K (a.put o.dst (.pointer (some p))) w) : o.wp P a w K Q :=
  wp_value _ (by unfold execOp; simp only [ho, hx]; rfl) hk
theorem wp_ld (t : TypeId) (x : Operand) (ho : o.op = .load t x) (p : Addr) (v : Value) (hx : a.eval x = .pointer (some p)) (ht : ∀ W, (isAgg t).run P W = .ok false W) (hc : w.cell? p = some v) (hk : K (a.put o.dst v) w) : o.wp P a w K Q :=
  wp_value v (by
    unfold execOp
    simp [ho, hx, Instr.loadAt, Instr.sureAddr, loadVar, Sem.run_bind, ht, run_load, hc]) hk
theorem wp_call1 (f : FuncId) (x : Operand) (ty : TypeId) (ho : o.op = .call { callee := .value (.func f), args := #[x], argTypes := #[ty] }) (v1 : Value) (h1 : a.eval x = v1)
    (hcf : ∀ W, (callFunc f #[v1]).run P W = .ok (.enter f #[v1]) W)
    (h : Calls P f #[v1] w fun
      | .returned v, w'' => K (a.put o.dst v) w''
      | .panicked chain, w'' => Q (.panic chain) a w''
      | .outgrown, _ => LetsOut Q) : o.wp P a w K Q := by
  have e : (execOp a.eval o).run P w = .ok (.enter f #[v1]) w := by
    obtain ⟨ev, hev⟩ : ∃ ev, a.eval = ev := ⟨_, rfl⟩
    have hfn : a.eval (.func f) = .func (.func f) #[] #[] := rfl
    rw [hev] at h1 hfn ⊢
    unfold execOp
    simp only [ho]
    simp [resolve, invoke, go_sem, h1, hfn, hcf]
  unfold Oper.wp
  rw [e]
  exact h
theorem wp_call4 (f : FuncId) (x y z u : Operand) (tx ty tz tu : TypeId) (ho : o.op = .call { callee := .value (.func f), args := #[x, y, z, u], argTypes := #[tx, ty, tz, tu] }) (v1 v2 v3 v4 : Value) (h1 : a.eval x = v1) (h2 : a.eval y = v2) (h3 : a.eval z = v3) (h4 : a.eval u = v4)
    (hcf : ∀ W, (callFunc f #[v1, v2, v3, v4]).run P W = .ok (.enter f #[v1, v2, v3, v4]) W)
    (h : Calls P f #[v1, v2, v3, v4] w fun
      | .returned v, w'' => K (a.put o.dst v) w''
      | .panicked chain, w'' => Q (.panic chain) a w''
      | .outgrown, _ => LetsOut Q) : o.wp P a w K Q := by
  have e : (execOp a.eval o).run P w = .ok (.enter f #[v1, v2, v3, v4]) w := by
    obtain ⟨ev, hev⟩ : ∃ ev, a.eval = ev := ⟨_, rfl⟩
    have hfn : a.eval (.func f) = .func (.func f) #[] #[] := rfl
    rw [hev] at h1 h2 h3 h4 hfn ⊢
    unfold execOp
    simp only [ho]
    simp [resolve, invoke, go_sem, h1, h2, h3, h4, hfn, hcf]
  unfold Oper.wp
  rw [e]
  exact h
theorem wp_extract (x : Operand) (k : Nat) (ho : o.op = .extract x k) (cs : Array Value) (v : Value) (hx : a.eval x = .tuple cs) (hk' : cs[k]? = some v) (hk : K (a.put o.dst v) w) : o.wp P a w K Q :=
  wp_value v (by
    obtain ⟨ev, hev⟩ : ∃ ev, a.eval = ev := ⟨_, rfl⟩
    rw [hev] at hx ⊢
    unfold execOp
    simp [ho, hx, Instr.extract, hk', go_sem]) hk
theorem wp_al (t : TypeId) (ho : o.op = .alloc t) (Z : Array Value) (hz : ∀ W, (zeroValue t).run P W = .ok (.agg Z) W) (hk : K (a.put o.dst (.pointer (some ⟨w.heap.size, 0, none⟩))) (w.alloc (.cells Z t))) : o.wp P a w K Q := by
  unfold Oper.wp execOp
  simp [ho, hz, go_sem]
  exact hk
end
section
variable {o : Oper} {a : Act} {w : World} {K : Act → World → Prop} {Q : Exit → Act → World → Prop}
/-- a field's address: the shift is a fact of its own -/
theorem wp_fa (t : TypeId) (x : Operand) (k d : Nat) (ho : o.op = .fieldAddr t x k) (g off off' : Nat) (hx : a.eval x = .pointer (some ⟨g, off, none⟩))
    (hf : ∀ W : World, (execOp (fun _ => .pointer (some ⟨g, off, none⟩)) { dst := none, op := .fieldAddr t (.tmp 0) k, type := 0, pos := "", after := #[], guard := none }).run Tryz.prog W = .ok (.value (.pointer (some ⟨g, off', none⟩))) W)
    (hk : K (a.put o.dst (.pointer (some ⟨g, off', none⟩))) w) : o.wp Tryz.prog a w K Q := by
  refine wp_value _ ?_ hk
  have := hf w
  unfold execOp at this ⊢
  simp only [ho, hx] at this ⊢
  exact this
end
end Go.Proofs.YtmanoheofloimaaGreatDoor
