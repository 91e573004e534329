import Derived.Test.YtnkoknfihhdelaaGreatDoorGe
import Derived.Defers
import Derived.Recover
import Derived.Laws.Pointers
namespace Go.Proofs.YtnkoknfihhdelaaGreatDoor
open Go.ChangeShapes Go.WideShapes Go.ChangeAt Go.RowKit
set_option linter.unusedVariables false
set_option maxRecDepth 100000
set_option maxHeartbeats 1000000
theorem c57_idle (p : Addr) (w : World) :
    CallsD Tryz.prog 57 #[.pointer (some p)] .returning w fun e u' w' => e = .returned (.tuple #[]) ∧ u' = .returning ∧ w' = w := by
  refine callsD_of_wpS Tryz.func57 rfl fun c₀ cs hu => ?_
  apply wpS_seq
  apply wpS_region
  simp [wpOpsS, go_sem, recoverD, hu, Tryz.ntmps57, Exit.thenS]
  refine wpS_of_wp ?_
  go_wp2
  cases c₀
  simp_all [bodyPostS, results, Tryz.results57]
theorem trapOf (z : Int) (W : World) : (Instr.typeAssert (.iface 118 (.agg #[.int .u32 z])) 20 118 true).run Tryz.prog W = .ok (.tuple #[.agg #[.int .u32 z], .bool true]) W := by kernel_rfl
theorem c57_pan (p : Addr) (z y : Int) (older : List PanicEntry) (w : World) (hp : p.block < w.heap.size) (hc : w.cell? p = some (.int .u32 y)) (hz : w.frozen? p = false) :
    CallsD Tryz.prog 57 #[.pointer (some p)] (.panicking ({ v := .iface 118 (.agg #[.int .u32 z]), recovered := false } :: older)) w fun e u' w' =>
      e = .returned (.tuple #[]) ∧ u' = .panicking ({ v := .iface 118 (.agg #[.int .u32 z]), recovered := true } :: older) ∧ w' = (w.alloc (.cells #[.int .u32 z] 118)).setCell p (.int .u32 z) := by
  refine callsD_of_wpS Tryz.func57 rfl fun c₀ cs hu => ?_
  apply wpS_seq
  apply wpS_region
  simp [wpOpsS, go_sem, recoverD, hu, Tryz.ntmps57, Exit.thenS]
  refine wpS_of_wp ?_
  have hmd : (({ fn := c₀.fn, tmps := c₀.tmps, todo := c₀.todo, defers := c₀.defers, mode := FrameMode.panicking ({ v := Value.iface 118 (Value.agg #[Value.int IntKind.u32 z]), recovered := true } :: older), kind := c₀.kind, roundOf := c₀.roundOf } : Frame)).mode = FrameMode.panicking ({ v := Value.iface 118 (Value.agg #[Value.int IntKind.u32 z]), recovered := true } :: older) := rfl
  generalize hc1 : ({ fn := c₀.fn, tmps := c₀.tmps, todo := c₀.todo, defers := c₀.defers, mode := FrameMode.panicking ({ v := Value.iface 118 (Value.agg #[Value.int IntKind.u32 z]), recovered := true } :: older), kind := c₀.kind, roundOf := c₀.roundOf } : Frame) = c1 at *
  have HC1 := Lib.hid hc1
  clear hc1
  have hfin : ∀ (a' : Act), a'.defers = [] → bodyPostS Tryz.prog Tryz.f57 c₀ cs (fun e u' w' => e = .returned (.tuple #[]) ∧ u' = .panicking ({ v := .iface 118 (.agg #[.int .u32 z]), recovered := true } :: older) ∧ w' = (w.alloc (.cells #[.int .u32 z] 118)).setCell p (.int .u32 z)) Exit.normal a' (c1 :: cs) ((w.alloc (.cells #[.int .u32 z] 118)).setCell p (.int .u32 z)) := fun a' ha => by
    cases a'
    simp_all [bodyPostS, results, Tryz.results57]
    exact HC1.out.symm
  generalize bodyPostS Tryz.prog Tryz.f57 c₀ cs (fun e u' w' => e = .returned (.tuple #[]) ∧ u' = .panicking ({ v := .iface 118 (.agg #[.int .u32 z]), recovered := true } :: older) ∧ w' = (w.alloc (.cells #[.int .u32 z] 118)).setCell p (.int .u32 z)) = Q at *
  show Code.wp _ _ _ { tmps := #[.pointer (some p), .iface 118 (.agg #[.int .u32 z]), undef, undef, .iface 118 (.agg #[.int .u32 z]), undef, undef, undef, undef, undef, undef, undef, undef, undef, undef, undef, undef], defers := [] } w
  have hta := trapOf z
  have hc2 : (w.alloc (.cells #[.int .u32 z] 118)).cell? p = some (.int .u32 y) := ((Below.refl w.heap.size w).alloc (Nat.le_refl _) _).cell hp |>.trans hc
  have hz2 : (w.alloc (.cells #[.int .u32 z] 118)).frozen? p = false := ((Below.refl w.heap.size w).alloc (Nat.le_refl _) _).frozen hp |>.trans hz
  go_wp2
  rfl
/-- attempt, where the fetch refuses -/
theorem c30_pan (g : Nat) (z : Int) (w : World) (hg : g < w.heap.size)
    (K58 : ∀ w1, Below w.heap.size w w1 → Calls Tryz.prog 58 #[.pointer (some ⟨g, 0, none⟩)] w1 fun e w' => e = .panicked [{ v := .iface 118 (.agg #[.int .u32 z]), recovered := false }] ∧ Below w1.heap.size w1 w') :
    Calls Tryz.prog 30 #[.pointer (some ⟨g, 0, none⟩)] w fun e w' => e = .returned (.int .u32 z) ∧ Below w.heap.size w w' := by
  have hmf : ∀ (fn : Fn) (first cap : Array Value) (w : World), (Instr.makeFunc fn first cap).run Tryz.prog w = .ok (.func fn first cap) w := fun _ _ _ _ => rfl
  have hO : Below w.heap.size w (w.alloc (.cells #[.int .u32 0] 25)) := (Below.refl _ _).alloc (Nat.le_refl _) _
  have K := Lib.hid (K58 _ hO)
  have hR := Blk.new w 25 #[.int .u32 0]
  have HO := Lib.hid hO
  have HR := Lib.hid hR
  clear K58 hO hR
  go_enter_defers Tryz.func30, Tryz.ntmps30
  go_wp2_with fail
  refine K.out.mono ?_
  rintro _ w1 ⟨rfl, hb⟩
  have HB : Hid (Below w.heap.size w w1) := Lib.hid (HO.out.trans (hb.mono HO.out.size))
  have HR1 : Hid (Blk w1 w.heap.size 25 #[.int .u32 0]) := Lib.hid (HR.out.below hb HR.out.lt)
  clear hb
  go_wp2_with fail
  have y := HR1.out.cell 0
  simp only [List.getElem?_toArray, List.getElem?_cons_zero] at y
  have fz := HR1.out.frozen 0
  have hl1 := HR1.out.lt
  refine leaves_cons (f := 57) (args := #[.pointer (some ⟨w.heap.size, 0, none⟩)]) (by simp) (by simp [go_sem]) ?_
  refine (c57_pan ⟨w.heap.size, 0, none⟩ z 0 [] w1 hl1 y fz).mono ?_
  rintro e u' w'' ⟨rfl, rfl, rfl⟩
  have hS : Blk ((w1.alloc (.cells #[.int .u32 z] 118)).setCell ⟨w.heap.size, 0, none⟩ (.int .u32 z)) w.heap.size 25 #[.int .u32 z] := by
    have := (HR1.out.alloc (.cells #[.int .u32 z] 118)).set_ 0 (.int .u32 z)
    simpa using this
  have y2 := hS.cell 0
  simp only [List.getElem?_toArray, List.getElem?_cons_zero] at y2
  have hb2 : Below w.heap.size w ((w1.alloc (.cells #[.int .u32 z] 118)).setCell ⟨w.heap.size, 0, none⟩ (.int .u32 z)) := (HB.out.alloc HB.out.size _).setCell (Nat.le_refl _) _
  generalize (w1.alloc (.cells #[.int .u32 z] 118)).setCell ⟨w.heap.size, 0, none⟩ (.int .u32 z) = W at *
  clear hS
  show Leaves _ _ _ _ _ _ _
  simp [Leaves, settle, results, Tryz.results30, go_sem, y2]
  exact hb2
/-- attempt, of an operator with a number of its own -/
theorem c30_imm (g : Nat) (k : WK) (q x : Cq) (b : Nat) (M : Nat → Nat) (T : Nat → Bool) (i : In.Ins) (v n : Nat) (e : Int) (w : World) (h : Wk w g k) (hq : k.A.c 16 = q) (hf : q.fit) (hmay : Ca.may q.g q.a q.p q.y q.e q.b q.t 8 q.a 4 = true) (hd : devB q.a = false)
    (hmp : k.mp = .pointer (some ⟨b, 0, none⟩)) (hm : Mem w b M T) (hw : wordB q.a 4 = true) (hbg : b ≠ g) (htc : k.d.tc = .slice none 0 0) (hgl : In.Glob w) (hg3 : 3 ≤ g)
    (hn : numL M q.a 4 < 4294967296) (hget : In.get (numL M q.a 4) = (i, 0)) (ho1 : 21 ≤ i.o) (ho2 : i.o ≤ 29) (hr16 : i.a < 16) (hd16 : i.d < 16) (hx : k.A.c i.a = x) (hi : i.m % 4294967296 = (n : Int)) (ha4 : q.a + 4 < 4294967296)
    (KA : ∀ w, Calls Tryz.prog 139 #[.int .u8 (i.o : Int), .int .u32 (x.a : Int), .int .u32 (n : Int)] w fun en w' => en = .returned (.tuple #[.int .u32 (v : Int), .int .i64 e]) ∧ w = w') :
    Calls Tryz.prog 30 #[.pointer (some ⟨g, 0, none⟩)] w fun e w' => e = .returned (.int .u32 0) ∧ ∃ tv, (∃ A c, tv = .slice A 1 c) ∧ Wk w' g ((((k.tc tv).ins (toI i)).putN 16 (q.sa (q.a + 4))).putN i.d (numQ v)) ∧ Sv g w.heap.size w w' := by
  have hmf : ∀ (fn : Fn) (first cap : Array Value) (w : World), (Instr.makeFunc fn first cap).run Tryz.prog w = .ok (.func fn first cap) w := fun _ _ _ _ => rfl
  have hO : Below w.heap.size w (w.alloc (.cells #[.int .u32 0] 25)) := (Below.refl _ _).alloc (Nat.le_refl _) _
  have hl := Blk.lt h
  have hR := Blk.new w 25 #[.int .u32 0]
  have hsz : (w.alloc (.cells #[.int .u32 0] 25)).heap.size = w.heap.size + 1 := by simp
  have K58 := Lib.hid (c58_ok g (w.heap.size + 1) k q b M T (.slice none 0 0) 0 [] i (w.alloc (.cells #[.int .u32 0] 25)) (Blk.alloc h _) hq hf hmay hd hmp (hm.below hO hm.lt) hw (by have := hm.lt; omega) hbg htc (World.ownsRow_nil _ _ _ _) (by omega) (by omega) (by decide) (hgl.below hO (by omega)) hg3 hn hget)
  have K60 : Hid (∀ w1 tv, Wk w1 g ((k.tc tv).ins (toI i)) → Calls Tryz.prog 60 #[.pointer (some ⟨g, 0, none⟩)] w1 fun e w' => e = .returned (.int .u32 (q.a : Int)) ∧ w1 = w') := Lib.hid (fun w1 tv h1 => by
    have := c60 g _ w1 h1
    rw [show ((k.tc tv).ins (toI i)).A.c 16 = q from hq] at this
    exact this)
  have K59 : Hid (∀ w1 tv, Wk w1 g ((k.tc tv).ins (toI i)) → Calls Tryz.prog 59 #[.pointer (some ⟨g, 0, none⟩), .int .u32 ((q.a : Int) + 4)] w1 fun e w' => e = .returned (.tuple #[]) ∧ Wk w' g (((k.tc tv).ins (toI i)).putN 16 (q.sa (q.a + 4))) ∧ Only g w1 w') := Lib.hid (fun w1 tv h1 => by
    have := c59 g _ q (q.a + 4) w1 h1 hq hf ha4
    have e1 : ((q.a + 4 : Nat) : Int) = (q.a : Int) + 4 := by omega
    rw [e1] at this
    exact this)
  have K61 : Hid (∀ w1 tv, Wk w1 g (((k.tc tv).ins (toI i)).putN 16 (q.sa (q.a + 4))) → Calls Tryz.prog 61 #[.pointer (some ⟨g, 0, none⟩)] w1 fun e w' => e = .returned (.tuple #[]) ∧ Wk w' g ((((k.tc tv).ins (toI i)).putN 16 (q.sa (q.a + 4))).putN i.d (numQ v)) ∧ Only g w1 w') := Lib.hid (fun w1 tv h1 => c61_imm g _ i.o i.a i.d v e n x w1 h1 rfl ho1 ho2 rfl hr16 rfl hd16 hx hi KA)
  have hgne : w.heap.size ≠ g := by omega
  have HO := Lib.hid hO
  have HR := Lib.hid hR
  have hqa : q.a < 4294967292 := by omega
  clear hO hR h hq hf hmay hd hmp hm hw htc hgl hget hx hi KA hn hsz
  go_enter_defers Tryz.func30, Tryz.ntmps30
  go_wp2_with fail
  refine K58.out.mono ?_
  rintro _ w1 ⟨rfl, tv, hk1, hown1, hs1⟩
  have HK1 := Lib.hid hk1
  have HTV : Hid (∃ A c, tv = .slice A 1 c) := Lib.hid (by
    rcases hown1.2 with ⟨hv, h0⟩ | ⟨g, cap, cur, hv, _⟩
    · omega
    · exact ⟨_, cap, hv⟩)
  clear hown1
  have HS1 := Lib.hid ((Below.sv HO.out (Nat.le_refl _) (g := g)).trans ⟨hs1.os, hs1.tape, hs1.output, hs1.size, fun k' hk' hg' => hs1.block k' (by omega) hg'⟩)
  have HR1 : Hid (Blk w1 w.heap.size 25 #[.int .u32 0]) := Lib.hid (hs1.blk (by omega) hgne HR.out)
  clear hk1 hs1 K58
  go_wp2_with fail
  refine (K60.out w1 tv HK1.out).mono ?_
  rintro _ _ ⟨rfl, rfl⟩
  go_wp2_with fail
  refine (K59.out w1 tv HK1.out).mono ?_
  rintro _ w2 ⟨rfl, hk2, ho2'⟩
  have HK2 := Lib.hid hk2
  have HS2 := Lib.hid (HS1.out.trans (ho2'.sv (Nat.le_of_lt HR1.out.lt)))
  have HR2 : Hid (Blk w2 w.heap.size 25 #[.int .u32 0]) := Lib.hid (ho2'.blk hgne HR1.out)
  clear hk2 ho2' HK1 HS1 HR1
  go_wp2_with fail
  refine (K61.out w2 tv HK2.out).mono ?_
  rintro _ w3 ⟨rfl, hk3, ho3⟩
  have HK3 := Lib.hid hk3
  have HS3 := Lib.hid (HS2.out.trans (ho3.sv (Nat.le_of_lt HR2.out.lt)))
  have HR3 : Hid (Blk w3 w.heap.size 25 #[.int .u32 0]) := Lib.hid (ho3.blk hgne HR2.out)
  clear hk3 ho3 HK2 HS2 HR2
  have y := HR3.out.cell 0
  simp only [List.getElem?_toArray, List.getElem?_cons_zero] at y
  have fz := HR3.out.frozen 0
  have hl3 := HR3.out.lt
  go_wp2_with fail
  have hS : Blk (w3.setCell ⟨w.heap.size, 0, none⟩ (.int .u32 0)) w.heap.size 25 #[.int .u32 0] := by
    have := HR3.out.set_ 0 (.int .u32 0)
    simpa using this
  have y2 := hS.cell 0
  simp only [List.getElem?_toArray, List.getElem?_cons_zero] at y2
  have HK4 : Hid (Wk (w3.setCell ⟨w.heap.size, 0, none⟩ (.int .u32 0)) g ((((k.tc tv).ins (toI i)).putN 16 (q.sa (q.a + 4))).putN i.d (numQ v))) := Lib.hid (Blk.far HK3.out (fun e => hgne e.symm) _)
  have HS4 : Hid (Sv g w.heap.size w (w3.setCell ⟨w.heap.size, 0, none⟩ (.int .u32 0))) := Lib.hid (HS3.out.trans ⟨rfl, rfl, rfl, by simp, fun k' hk' _ => Below.heap_setCell _ _ _ _ (by show k' ≠ w.heap.size; omega)⟩)
  clear hS HK3 HS3 HR3 y fz
  generalize w3.setCell ⟨w.heap.size, 0, none⟩ (.int .u32 0) = W at *
  refine leaves_cons (f := 57) (args := #[.pointer (some ⟨w.heap.size, 0, none⟩)]) (by simp) (by simp [go_sem]) ?_
  refine (c57_idle ⟨w.heap.size, 0, none⟩ W).mono ?_
  rintro e u' w'' ⟨rfl, rfl, rfl⟩
  obtain ⟨A, c, rfl⟩ := HTV.out
  show Leaves _ _ _ _ _ _ _
  simp [Leaves, settle, results, Tryz.results30, go_sem, y2]
  first | exact ⟨_, ⟨A, c, rfl⟩, HK4.out, HS4.out⟩ | exact ⟨A, c, HK4.out, HS4.out⟩ | exact ⟨A, ⟨c, HK4.out⟩, HS4.out⟩
end Go.Proofs.YtnkoknfihhdelaaGreatDoor
