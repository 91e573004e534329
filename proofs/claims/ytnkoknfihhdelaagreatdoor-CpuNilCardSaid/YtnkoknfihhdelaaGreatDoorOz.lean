import Derived.Test.YtnkoknfihhdelaaGreatDoorNz
namespace Go.Proofs.YtnkoknfihhdelaaGreatDoor
open Go.ChangeShapes Go.WideShapes Go.ChangeAt Go.RowKit
set_option linter.unusedVariables false
set_option maxRecDepth 100000
set_option maxHeartbeats 2000000
def dn0 : Dn := ⟨0, .slice none 0 0, false, 0, 0⟩
theorem z41 (W : World) : (zeroValue 41).run Tryz.prog W = .ok (.agg dn0.L.toArray) W := by kernel_rfl
theorem info41s : (Tryz.prog.info? 41).map (·.size) = some 5 := by kernel_rfl
theorem b32 : Tryz.prog.built 32 [] = some st0.L.toArray := by kernel_rfl
theorem b41 : Tryz.prog.built 41 [] = some dn0.L.toArray := by kernel_rfl
theorem dn0_one : dn0.L.toArray.all (·.oneCell') = true := by kernel_rfl
section
variable {P : Program}
theorem wpList_buildE {ops : Array Oper} {rest : List Oper} {o : Oper} {a : Act} {w : World} {Q : Exit → Act → World → Prop} (hg : o.guard = none) (t : TypeId) (parts : List (Nat × Operand)) (ho : o.op = .build t parts.toArray)
    (cells : Array Value) (hf : P.built t (parts.map fun (i, x) => (i, a.eval x)) = some cells)
    (h : wpList P ops Q rest (a.put o.dst (.agg cells)) w) : wpList P ops Q (o :: rest) a w := by
  have e : (parts.toArray.map fun (i, x) => (i, a.eval x)).toList = parts.map fun (i, x) => (i, a.eval x) := by simp
  refine wpList_build hg t parts.toArray ho (by rw [e, hf]; rfl) ?_
  rw [e, hf]
  exact h
/-- two struct results and one in a slot -/
theorem results_cct {fn : Func} {p q r : Tmp} {ty tz : TypeId} (h : fn.results = #[.cell p ty, .cell q tz, .tmp r]) (tmps : Array Value) (w : World) (g k : Nat) (t u : TypeId) (cs ds : Array Value) (f1 f2 : Nat × Nat) (d d2 : TypeDesc) (v : Value)
    (hp : tmps.getD p undef = .pointer (some ⟨g, 0, none⟩)) (hg : w.heap[g]? = some (.cells cs t f1))
    (hu : P.underlying ty = some d) (hd : (match d with | .struct _ | .array _ _ => true | _ => false) = true) (hi : (P.info? ty).map (·.size) = some cs.size)
    (hq : tmps.getD q undef = .pointer (some ⟨k, 0, none⟩)) (hk : w.heap[k]? = some (.cells ds u f2))
    (hu2 : P.underlying tz = some d2) (hd2 : (match d2 with | .struct _ | .array _ _ => true | _ => false) = true) (hi2 : (P.info? tz).map (·.size) = some ds.size)
    (hr : tmps.getD r undef = v) :
    (results fn tmps).run P w = .ok (.tuple #[.agg cs, .agg ds, v]) w := by
  have hp' : tmps[p]?.getD undef = .pointer (some ⟨g, 0, none⟩) := by simpa using hp
  have hq' : tmps[q]?.getD undef = .pointer (some ⟨k, 0, none⟩) := by simpa using hq
  have hr' : tmps[r]?.getD undef = v := by simpa using hr
  simp [results, h, hp', hq', hr', asAddr, run_loadVar_row w g t ty cs f1 d hg hu hd hi, run_loadVar_row w k u tz ds f2 d2 hk hu2 hd2 hi2]
end
/-- Step of no memory -/
theorem c10_no (a : Option Addr) (s : St) (tm : Bool) (x : Int) (w : World) (h : ∀ o1 o2 o3, Nope (((w.alloc o1).alloc o2).alloc o3) a) :
    Calls Tryz.prog 10 #[.pointer a, .agg s.L.toArray, .bool tm, .int .u32 x] w fun e w' => e = .returned (.tuple #[.agg st0.L.toArray, .agg dn0.L.toArray, .int .i64 1]) ∧ Below w.heap.size w w' := by
  have hsS : s.L.toArray.size = 151 := by rw [List.size_toArray]; exact s.len
  have hsZ : st0.L.toArray.size = 151 := by rw [List.size_toArray]; exact st0.len
  have hsD : dn0.L.toArray.size = 5 := rfl
  have h1Z : st0.L.toArray.all (·.oneCell') = true := St.one _
  have h1D := dn0_one
  have hb : Tryz.prog.built 32 [] = some st0.L.toArray := b32
  have hb2 : Tryz.prog.built 41 [] = some dn0.L.toArray := b41
  have hz : ∀ W, (zeroValue 32).run Tryz.prog W = .ok (.agg st0.L.toArray) W := z32
  have hz2 : ∀ W, (zeroValue 41).run Tryz.prog W = .ok (.agg dn0.L.toArray) W := z41
  generalize s.L.toArray = SA at *
  generalize st0.L.toArray = ZA at *
  generalize dn0.L.toArray = DA at *
  have HZ := Lib.hid hsZ
  have HD := Lib.hid hsD
  have HZ1 := Lib.hid h1Z
  have HD1 := Lib.hid h1D
  have HB := Lib.hid hb
  have HB2 := Lib.hid hb2
  clear hsS hsZ hsD h1Z h1D hb hb2
  have HR : Hid (Blk (((w.alloc (.cells SA 32)).alloc (.cells ZA 32)).alloc (.cells DA 41)) (w.heap.size + 1) 32 ZA) := Lib.hid (by
    have := (Blk.new (w.alloc (.cells SA 32)) 32 ZA).alloc (.cells DA 41)
    simpa using this)
  have HQ : Hid (Blk (((w.alloc (.cells SA 32)).alloc (.cells ZA 32)).alloc (.cells DA 41)) (w.heap.size + 2) 41 DA) := Lib.hid (by
    have := Blk.new ((w.alloc (.cells SA 32)).alloc (.cells ZA 32)) 41 DA
    simpa using this)
  have HO : Hid (Below w.heap.size w (((w.alloc (.cells SA 32)).alloc (.cells ZA 32)).alloc (.cells DA 41))) := Lib.hid ((((Below.refl _ _).alloc (Nat.le_refl _) _).alloc (by simp) _).alloc (by simp; omega) _)
  have HN := Lib.hid (h (.cells SA 32) (.cells ZA 32) (.cells DA 41))
  clear h
  go_enter Tryz.func10, Tryz.ntmps10
  go_upto_region 1 with fail
  generalize ((w.alloc (.cells SA 32)).alloc (.cells ZA 32)).alloc (.cells DA 41) = W at *
  have hS1 : Hid (Blk (W.setRow (w.heap.size + 1) ZA) (w.heap.size + 1) 32 ZA) := Lib.hid (blk_row HR.out _)
  have hQ1 : Hid (Blk (W.setRow (w.heap.size + 1) ZA) (w.heap.size + 2) 41 DA) := Lib.hid ((only_row W (w.heap.size + 1) ZA).blk (by omega) HQ.out)
  have hS2 : Hid (Blk ((W.setRow (w.heap.size + 1) ZA).setRow (w.heap.size + 2) DA) (w.heap.size + 1) 32 ZA) := Lib.hid ((only_row _ (w.heap.size + 2) DA).blk (by omega) hS1.out)
  have hQ2 : Hid (Blk ((W.setRow (w.heap.size + 1) ZA).setRow (w.heap.size + 2) DA) (w.heap.size + 2) 41 DA) := Lib.hid (blk_row hQ1.out _)
  have hO2 : Hid (Below w.heap.size w ((W.setRow (w.heap.size + 1) ZA).setRow (w.heap.size + 2) DA)) := Lib.hid (below_setRow (below_setRow HO.out (by omega) _) (by omega) _)
  go_wp2_with fail
  refine (nLoad _ _ 0 HN.out).mono ?_
  rintro _ _ ⟨rfl, rfl⟩
  go_wp2_with (first
    | (refine wpList_store_row rfl 32 (.tmp 8) (.tmp 22) rfl (w.heap.size + 1) ZA rfl rfl 32 ZA HR.out (by rw [info32s, HZ.out]) rfl HZ1.out ?_)
    | (refine wpList_store_row rfl 41 (.tmp 9) (.tmp 23) rfl (w.heap.size + 2) DA rfl rfl 41 DA hQ1.out (by rw [info41s, HD.out]) rfl HD1.out ?_))
  exact bodyPost_ret (results_cct (r := 10) rfl _ _ (w.heap.size + 1) (w.heap.size + 2) _ _ ZA DA _ _ _ _ _ rfl hS2.out Tryz.underlying32 rfl (by rw [info32s, HZ.out]) rfl hQ2.out Tryz.underlying41 rfl (by rw [info41s, HD.out]) rfl) rfl ⟨rfl, hO2.out⟩
theorem b32q (q : Cq) : Tryz.prog.built 32 [(1, .agg q.L.toArray)] = some (st0.put 16 q).L.toArray := by kernel_rfl
/-- Start -/
theorem c45 (q : Cq) (w : World) : Calls Tryz.prog 45 #[.agg q.L.toArray] w fun e w' => e = .returned (.agg (st0.put 16 q).L.toArray) ∧ Below w.heap.size w w' := by
  have hb := b32q q
  have hsZ : st0.L.toArray.size = 151 := by rw [List.size_toArray]; exact st0.len
  have hsX : (st0.put 16 q).L.toArray.size = 151 := by rw [List.size_toArray]; exact St.len _
  have h1X : (st0.put 16 q).L.toArray.all (·.oneCell') = true := St.one _
  have hz : ∀ W, (zeroValue 32).run Tryz.prog W = .ok (.agg st0.L.toArray) W := z32
  have hsQ : q.L.toArray.size = 7 := rfl
  generalize q.L.toArray = QA at *
  generalize (st0.put 16 q).L.toArray = XA at *
  generalize st0.L.toArray = ZA at *
  have HQ := Lib.hid hsQ
  have HZ := Lib.hid hsZ
  have HX := Lib.hid hsX
  have HX1 := Lib.hid h1X
  have HB := Lib.hid hb
  clear hsZ hsX h1X hb hsQ
  have HC : Hid (Blk ((w.alloc (.cells QA 29)).alloc (.cells ZA 32)) w.heap.size 29 QA) := Lib.hid ((Blk.new w 29 QA).alloc _)
  have HR : Hid (Blk ((w.alloc (.cells QA 29)).alloc (.cells ZA 32)) (w.heap.size + 1) 32 ZA) := Lib.hid (by
    have := Blk.new (w.alloc (.cells QA 29)) 32 ZA
    simpa using this)
  have HO : Hid (Below w.heap.size w ((w.alloc (.cells QA 29)).alloc (.cells ZA 32))) := Lib.hid (((Below.refl _ _).alloc (Nat.le_refl _) _).alloc (by simp) _)
  go_enter Tryz.func45, Tryz.ntmps45
  go_upto_region 1 with fail
  generalize (w.alloc (.cells QA 29)).alloc (.cells ZA 32) = W at *
  go_wp2_with (first
    | (refine wpList_load_row rfl 29 (.tmp 1) rfl w.heap.size rfl 29 QA (0, 0) _ HC.out Tryz.underlying29 rfl (by rw [info29s, HQ.out]) ?_)
    | (refine wpList_buildE rfl 32 [(1, .tmp 3)] rfl XA HB.out ?_)
    | (refine wpList_store_row rfl 32 (.tmp 2) (.tmp 4) rfl (w.heap.size + 1) XA rfl rfl 32 ZA HR.out (by rw [info32s, HX.out]) (by rw [HZ.out, HX.out]) HX1.out ?_))
  exact bodyPost_ret (results_cell_row rfl _ _ (w.heap.size + 1) 32 XA (0, 0) _ rfl (blk_row HR.out _) Tryz.underlying32 rfl (by rw [info32s, HX.out])) rfl ⟨rfl, below_setRow HO.out (by omega) _⟩
end Go.Proofs.YtnkoknfihhdelaaGreatDoor
