import Derived.Test.YtmanoheofloimaaGreatDoorRuz
import Derived.Test.YtmanoheofloimaaGreatDoorRqz
import Derived.Shelf.Abstract
import Derived.WalkKit
import Derived.OwnWalkIn
import Derived.TacticsInMore
import Derived.LoopNIn
import Derived.LoopIn
namespace Go.Proofs.YtmanoheofloimaaGreatDoor
open Go.ChangeShapes Go.WideShapes Go.ChangeAt Go.RowKit Go.Shelf
set_option linter.unusedVariables false
set_option maxRecDepth 100000
attribute [local go_sem] Oper.semAt_some
section
variable {F : Fence} {n : Nat} {P : Program} {ops : Array Oper} {rest : List Oper} {o : Oper} {a : Act} {w : World} {Q : Exit → Act → World → Prop}
theorem wpListIn_load_row (hgd : o.guard = none) (ty : TypeId) (x : Operand) (ho : o.op = .load ty x)
    (g : Nat) (hx : a.eval x = .pointer (some ⟨g, 0, none⟩)) (t : TypeId) (cs : Array Value) (fr : Nat × Nat) (d : TypeDesc) (hg : w.heap[g]? = some (.cells cs t fr))
    (hu : P.underlying ty = some d) (hd : (match d with | .struct _ | .array _ _ => true | _ => false) = true) (hi : (P.info? ty).map (·.size) = some cs.size)
    (h : wpListIn F n P ops Q rest (a.put o.dst (.agg cs)) w) : wpListIn F n P ops Q (o :: rest) a w := by
  refine wpListIn_plain hgd fun K hK => ?_
  unfold Oper.wpIn
  refine ⟨?_, ?_⟩
  · simp [Oper.about, ho]
  · rw [Oper.semAt_plain F _ _ (by rw [ho]; intro c hc'; cases hc')]
    unfold execOp
    simp only [ho, hx, Instr.loadAt, Instr.sureAddr, Sem.run_bind, Sem.run_pure, Result.andThen_ok, run_loadVar_row w g t ty cs fr d hg hu hd hi]
    exact hK _ _ h
theorem load_row_in {K : Act → World → Prop} (ty : TypeId) (x : Operand) (ho : o.op = .load ty x)
    (g : Nat) (hx : a.eval x = .pointer (some ⟨g, 0, none⟩)) (t : TypeId) (cs : Array Value) (fr : Nat × Nat) (d : TypeDesc) (hg : w.heap[g]? = some (.cells cs t fr))
    (hu : P.underlying ty = some d) (hd : (match d with | .struct _ | .array _ _ => true | _ => false) = true) (hi : (P.info? ty).map (·.size) = some cs.size)
    (h : K (a.put o.dst (.agg cs)) w) : o.wpIn F n P a w K Q := by
  unfold Oper.wpIn
  refine ⟨?_, ?_⟩
  · simp [Oper.about, ho]
  · rw [Oper.semAt_plain F _ _ (by rw [ho]; intro c hc'; cases hc')]
    unfold execOp
    simp only [ho, hx, Instr.loadAt, Instr.sureAddr, Sem.run_bind, Sem.run_pure, Result.andThen_ok, run_loadVar_row w g t ty cs fr d hg hu hd hi]
    exact h
theorem wpListIn_store_row (hgd : o.guard = none) (ty : TypeId) (x y : Operand) (ho : o.op = .store ty x y)
    (g : Nat) (cells : Array Value) (hx : a.eval x = .pointer (some ⟨g, 0, none⟩)) (hy : a.eval y = .agg cells)
    (t : TypeId) (old : Array Value) (hg : w.heap[g]? = some (.cells old t (0, 0))) (hi : (P.info? ty).map (·.size) = some cells.size)
    (hold : old.size = cells.size) (h1 : cells.all (·.oneCell') = true)
    (h : wpListIn F n P ops Q rest (a.put o.dst undef) (w.setRow g cells)) : wpListIn F n P ops Q (o :: rest) a w := by
  refine wpListIn_plain hgd fun K hK => ?_
  unfold Oper.wpIn
  refine ⟨?_, ?_⟩
  · simp [Oper.about, ho]
  · rw [Oper.semAt_plain F _ _ (by rw [ho]; intro c hc'; cases hc')]
    unfold execOp
    simp only [ho, hx, hy, Instr.storeAt, Instr.sureAddr, Sem.run_bind, Sem.run_pure, Result.andThen_ok, run_storeVar_row w g t ty old cells hg hi hold h1]
    exact hK _ _ h
end
set_option maxHeartbeats 1000000 in
theorem it19 (n l x q wb sb b : Nat) (DL : List Value) (MA MB : Array Value) (M : Nat → Nat) (G : Nat → Bool) (W1 : World) (J : World → Prop)
    (hM : Mem W1 b M G) (hX : Blk W1 x 36 MA) (hq : Blk W1 q 55 #[P x 0, .slice none 0 0]) (hw : Blk W1 wb 80 #[P q 0]) (hs : Blk W1 sb 3 #[.int .i64 5])
    (hxq : x ≠ q) (hxw : x ≠ wb) (hn : 1 ≤ n) (hDL : DL.length = 5) (hD1 : DL.toArray.all (·.oneCell') = true) (hA : MA[151]? = some (.bool false)) (hB : MB[151]? = some (.bool true))
    (KS : ∀ W, Mem W b M G → Blk W x 36 MA → Calls Tryz.prog 4 #[P x 0, .agg #[.bool false, .int .u32 0]] W fun e w' => e = .returned (.tuple #[.agg DL.toArray, .int .i64 0]) ∧ Blk w' x 36 MB ∧ Mem w' b M G ∧ Only x W w')
    (hY : ∀ W, Only x W1 W → Blk W x 36 MB → YieldAt Fence.wide (n - 1) Tryz.prog l #[.agg DL.toArray] W fun e W' => e = .returned (.bool true) ∧ J W')
    (hJ : ∀ W, J W → Blk W x 36 MB ∧ Blk W q 55 #[P x 0, .slice none 0 0] ∧ Blk W wb 80 #[P q 0]) :
    CallsIn Fence.wide n Tryz.prog 19 #[.func (.yield l) #[] #[], P sb 0, P wb 0] W1 fun e W' => (∃ v, e = .returned v) ∧ J W' := by
  have cs : W1.cell? ⟨sb, 0, none⟩ = some (.int .i64 5) := by rw [hs.cell]; rfl
  have c1 : W1.cell? ⟨wb, 0, none⟩ = some (P q 0) := by rw [hw.cell]; rfl
  have c2 : W1.cell? ⟨q, 0, none⟩ = some (P x 0) := by rw [hq.cell]; rfl
  have c3 : W1.cell? ⟨x, 151, none⟩ = some (.bool false) := by rw [hX.cell]; exact hA
  have HM := Lib.hid hM; have HX := Lib.hid hX; have HQ := Lib.hid hq; have HW := Lib.hid hw; have HY := Lib.hid hY; have HJ := Lib.hid hJ; have HK := Lib.hid KS
  clear hM hX hq hw hs hY hJ KS
  refine callsIn_of_wp Tryz.func19 rfl trivial ?_ rfl
  simp only [Tryz.ntmps19, List.size_toArray, List.length_cons, List.length_nil, Nat.reduceAdd, Nat.reduceSub, Array.replicate_succ, Array.replicate_zero, List.push_toArray, List.append_toArray, List.nil_append, List.cons_append]
  gi_wp2
  gi_loopw [4, 5, 7] (fun _ _ p wr => (p = .int .i64 0 ∧ wr = W1) ∨ (p = .int .i64 1 ∧ J wr)) (fun _ _ p _ => 5 - (intOf p).toNat)
  case atStart => exact .inl ⟨rfl, rfl⟩
  case round =>
    rcases hrel with ⟨rfl, rfl⟩ | ⟨rfl, hj⟩
    · skip
      gi_wp2_with fail
      rename_i Q1 Q2 K1 hc1 K2 hc2
      refine wpIn_wide.2 (step19 (x := x) (q := q) (wb := wb) (b := b) (yl := .func (.yield l) #[] #[]) (sb := sb) (k := 0) (DL := DL) (MA := MA) (MB := MB) (M := M) (G := G) (w0 := wr) HX.out.lt HQ.out.lt HW.out.lt HM.out.lt hxq hxw hDL hD1 HK.out _ _ _ ?_ ?_)
      · exact { sz := rfl, df := rfl
                fx := fun e he => by
                  simp only [F19, List.mem_cons, List.not_mem_nil, or_false] at he
                  rcases he with rfl | rfl | rfl | rfl | rfl | rfl <;> rfl
                tv := fun e he q => by rw [rep_false] at q; cases q
                mm := HM.out
                mx := by rw [rep_false, if_neg (by decide)]; exact HX.out
                mq := HQ.out, mw := HW.out
                a4 := fun q => by rw [rep_false] at q; cases q
                b4 := fun q => by rw [rep_false] at q; cases q
                o := (Only.refl _ _).drew }
      intro l' a w' hall h
      have f0 := h.fx (0, .func (.yield l) #[] #[]) (by simp [F19])
      have f1 := h.fx (1, P sb 0) (by simp [F19])
      have f2 := h.fx (2, P wb 0) (by simp [F19])
      have f3 := h.fx (3, undef) (by simp [F19])
      have f6 := h.fx (6, .int .i64 5) (by simp [F19])
      have f7 := h.fx (7, .int .i64 0) (by simp [F19])
      have f5 := h.tv (12, 5, .int .i64 0) (by simp [T19]) (hall 12 (by decide))
      obtain ⟨r, C, f4, hr, hb4, _, e4⟩ := h.a4 (hall 10 (by decide))
      have e4 := e4 (hall 11 (by decide))
      have hmx := h.mx
      rw [hall 6 (by decide), if_pos rfl] at hmx
      have hdf := h.df
      have hlit := lit36 a.tmps h.sz
      have ho := h.o
      clear h hall
      subst e4
      obtain ⟨tmps, defers⟩ := a
      simp only at f0 f1 f2 f3 f4 f5 f6 f7 hdf hlit
      subst hdf
      rw [f0, f1, f2, f3, f4, f5, f6, f7] at hlit
      clear f0 f1 f2 f3 f4 f5 f6 f7
      generalize tmps.getD 8 undef = v8 at hlit
      generalize tmps.getD 9 undef = v9 at hlit
      generalize tmps.getD 10 undef = v10 at hlit
      generalize tmps.getD 11 undef = v11 at hlit
      generalize tmps.getD 12 undef = v12 at hlit
      generalize tmps.getD 13 undef = v13 at hlit
      generalize tmps.getD 14 undef = v14 at hlit
      generalize tmps.getD 15 undef = v15 at hlit
      generalize tmps.getD 16 undef = v16 at hlit
      generalize tmps.getD 17 undef = v17 at hlit
      generalize tmps.getD 18 undef = v18 at hlit
      generalize tmps.getD 19 undef = v19 at hlit
      generalize tmps.getD 20 undef = v20 at hlit
      generalize tmps.getD 21 undef = v21 at hlit
      generalize tmps.getD 22 undef = v22 at hlit
      generalize tmps.getD 23 undef = v23 at hlit
      generalize tmps.getD 24 undef = v24 at hlit
      generalize tmps.getD 25 undef = v25 at hlit
      generalize tmps.getD 26 undef = v26 at hlit
      generalize tmps.getD 27 undef = v27 at hlit
      generalize tmps.getD 28 undef = v28 at hlit
      generalize tmps.getD 29 undef = v29 at hlit
      generalize tmps.getD 30 undef = v30 at hlit
      generalize tmps.getD 31 undef = v31 at hlit
      generalize tmps.getD 32 undef = v32 at hlit
      generalize tmps.getD 33 undef = v33 at hlit
      generalize tmps.getD 34 undef = v34 at hlit
      generalize tmps.getD 35 undef = v35 at hlit
      subst hlit
      obtain ⟨fn, tmps, assign, body, hy, hR⟩ := HY.out w' ho hmx
      have HB4 := Lib.hid hb4
      have HID : Hid ((Tryz.prog.info? 39).map (·.size) = some DL.toArray.size) := Lib.hid (by rw [List.size_toArray, hDL]; exact info41s)
      obtain ⟨DA, hDA⟩ : ∃ DA, DL.toArray = DA := ⟨_, rfl⟩
      rw [hDA] at hy HB4 HID
      clear hb4 ho hmx hDA
      refine hc2 _ _ ?_
      gi_wp2_with (refine load_row_in 39 (.tmp 4) rfl r rfl 39 DA (0, 0) _ HB4.out Tryz.underlying39 rfl HID.out ?_)
      refine hR.mono ?_
      rintro e W3 ⟨rfl, hj⟩
      clear HM HX HQ HW HY HB4 hy
      gi_wp2
      go_roundw
      case rel => exact .inr ⟨rfl, hj⟩
      case measure => show (5 - (1 : Int).toNat) < (5 - (0 : Int).toNat); decide
    · obtain ⟨j1, j2, j3⟩ := HJ.out _ hj
      have d1 : wr.cell? ⟨wb, 0, none⟩ = some (P q 0) := by rw [j3.cell]; rfl
      have d2 : wr.cell? ⟨q, 0, none⟩ = some (P x 0) := by rw [j2.cell]; rfl
      have d3 : wr.cell? ⟨x, 151, none⟩ = some (.bool true) := by rw [j1.cell]; exact hB
      clear j1 j2 j3
      gi_wp2
      refine bodyPost_ret (results_none rfl _ _ _) rfl ?_
      exact ⟨⟨_, rfl⟩, hj⟩
end Go.Proofs.YtmanoheofloimaaGreatDoor
