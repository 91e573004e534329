import Derived.Test.YtmanoheofloimaaGreatDoorGe
import Derived.Defers
import Derived.Recover
import Derived.Laws.Pointers
namespace Go.Proofs.YtmanoheofloimaaGreatDoor
open Go.ChangeShapes Go.WideShapes Go.ChangeAt Go.RowKit
set_option linter.unusedVariables false
set_option maxRecDepth 100000
set_option maxHeartbeats 1000000
theorem trapOf (z : Int) (W : World) : (Instr.typeAssert (.iface 93 (.agg #[.int .u32 z])) 20 93 true).run Tryz.prog W = .ok (.tuple #[.agg #[.int .u32 z], .bool true]) W := by kernel_rfl
theorem c57_pan (p : Addr) (z y : Int) (older : List PanicEntry) (w : World) (hp : p.block < w.heap.size) (hc : w.cell? p = some (.int .u32 y)) (hz : w.frozen? p = false) :
    CallsD Tryz.prog 24 #[.pointer (some p)] (.panicking ({ v := .iface 93 (.agg #[.int .u32 z]), recovered := false } :: older)) w fun e u' w' =>
      e = .returned (.tuple #[]) ∧ u' = .panicking ({ v := .iface 93 (.agg #[.int .u32 z]), recovered := true } :: older) ∧ w' = (w.alloc (.cells #[.int .u32 z] 93)).setCell p (.int .u32 z) := by
  refine callsD_of_wpS Tryz.func24 rfl fun c₀ cs hu => ?_
  apply wpS_seq
  apply wpS_region
  simp [wpOpsS, go_sem, recoverD, hu, Tryz.ntmps24, Exit.thenS]
  refine wpS_of_wp ?_
  have hmd : (({ fn := c₀.fn, tmps := c₀.tmps, todo := c₀.todo, defers := c₀.defers, mode := FrameMode.panicking ({ v := Value.iface 93 (Value.agg #[Value.int IntKind.u32 z]), recovered := true } :: older), kind := c₀.kind, roundOf := c₀.roundOf } : Frame)).mode = FrameMode.panicking ({ v := Value.iface 93 (Value.agg #[Value.int IntKind.u32 z]), recovered := true } :: older) := rfl
  generalize hc1 : ({ fn := c₀.fn, tmps := c₀.tmps, todo := c₀.todo, defers := c₀.defers, mode := FrameMode.panicking ({ v := Value.iface 93 (Value.agg #[Value.int IntKind.u32 z]), recovered := true } :: older), kind := c₀.kind, roundOf := c₀.roundOf } : Frame) = c1 at *
  have HC1 := Lib.hid hc1
  clear hc1
  have hfin : ∀ (a' : Act), a'.defers = [] → bodyPostS Tryz.prog Tryz.f24 c₀ cs (fun e u' w' => e = .returned (.tuple #[]) ∧ u' = .panicking ({ v := .iface 93 (.agg #[.int .u32 z]), recovered := true } :: older) ∧ w' = (w.alloc (.cells #[.int .u32 z] 93)).setCell p (.int .u32 z)) Exit.normal a' (c1 :: cs) ((w.alloc (.cells #[.int .u32 z] 93)).setCell p (.int .u32 z)) := fun a' ha => by
    cases a'
    simp_all [bodyPostS, results, Tryz.results24]
    exact HC1.out.symm
  generalize bodyPostS Tryz.prog Tryz.f24 c₀ cs (fun e u' w' => e = .returned (.tuple #[]) ∧ u' = .panicking ({ v := .iface 93 (.agg #[.int .u32 z]), recovered := true } :: older) ∧ w' = (w.alloc (.cells #[.int .u32 z] 93)).setCell p (.int .u32 z)) = Q at *
  show Code.wp _ _ _ { tmps := #[.pointer (some p), .iface 93 (.agg #[.int .u32 z]), undef, undef, .iface 93 (.agg #[.int .u32 z]), undef, undef, undef, undef, undef, undef, undef, undef, undef, undef, undef, undef], defers := [] } w
  have hta := trapOf z
  have hc2 : (w.alloc (.cells #[.int .u32 z] 93)).cell? p = some (.int .u32 y) := ((Below.refl w.heap.size w).alloc (Nat.le_refl _) _).cell hp |>.trans hc
  have hz2 : (w.alloc (.cells #[.int .u32 z] 93)).frozen? p = false := ((Below.refl w.heap.size w).alloc (Nat.le_refl _) _).frozen hp |>.trans hz
  go_wp2
  rfl
/-- attempt, where the fetch refuses -/
theorem c30_pan (g : Nat) (z : Int) (w : World) (hg : g < w.heap.size)
    (K58 : ∀ w1, Below w.heap.size w w1 → Calls Tryz.prog 25 #[.pointer (some ⟨g, 0, none⟩)] w1 fun e w' => e = .panicked [{ v := .iface 93 (.agg #[.int .u32 z]), recovered := false }] ∧ Below w1.heap.size w1 w') :
    Calls Tryz.prog 18 #[.pointer (some ⟨g, 0, none⟩)] w fun e w' => e = .returned (.int .u32 z) ∧ Below w.heap.size w w' := by
  have hmf : ∀ (fn : Fn) (first cap : Array Value) (w : World), (Instr.makeFunc fn first cap).run Tryz.prog w = .ok (.func fn first cap) w := fun _ _ _ _ => rfl
  have hO : Below w.heap.size w (w.alloc (.cells #[.int .u32 0] 22)) := (Below.refl _ _).alloc (Nat.le_refl _) _
  have K := Lib.hid (K58 _ hO)
  have hR := Blk.new w 22 #[.int .u32 0]
  have HO := Lib.hid hO
  have HR := Lib.hid hR
  clear K58 hO hR
  go_enter_defers Tryz.func18, Tryz.ntmps18
  go_wp2_with fail
  refine K.out.mono ?_
  rintro _ w1 ⟨rfl, hb⟩
  have HB : Hid (Below w.heap.size w w1) := Lib.hid (HO.out.trans (hb.mono HO.out.size))
  have HR1 : Hid (Blk w1 w.heap.size 22 #[.int .u32 0]) := Lib.hid (HR.out.below hb HR.out.lt)
  clear hb
  go_wp2_with fail
  have y := HR1.out.cell 0
  simp only [List.getElem?_toArray, List.getElem?_cons_zero] at y
  have fz := HR1.out.frozen 0
  have hl1 := HR1.out.lt
  refine leaves_cons (f := 24) (args := #[.pointer (some ⟨w.heap.size, 0, none⟩)]) (by simp) (by simp [go_sem]) ?_
  refine (c57_pan ⟨w.heap.size, 0, none⟩ z 0 [] w1 hl1 y fz).mono ?_
  rintro e u' w'' ⟨rfl, rfl, rfl⟩
  have hS : Blk ((w1.alloc (.cells #[.int .u32 z] 93)).setCell ⟨w.heap.size, 0, none⟩ (.int .u32 z)) w.heap.size 22 #[.int .u32 z] := by
    have := (HR1.out.alloc (.cells #[.int .u32 z] 93)).set_ 0 (.int .u32 z)
    simpa using this
  have y2 := hS.cell 0
  simp only [List.getElem?_toArray, List.getElem?_cons_zero] at y2
  have hb2 : Below w.heap.size w ((w1.alloc (.cells #[.int .u32 z] 93)).setCell ⟨w.heap.size, 0, none⟩ (.int .u32 z)) := (HB.out.alloc HB.out.size _).setCell (Nat.le_refl _) _
  generalize (w1.alloc (.cells #[.int .u32 z] 93)).setCell ⟨w.heap.size, 0, none⟩ (.int .u32 z) = W at *
  clear hS
  show Leaves _ _ _ _ _ _ _
  simp [Leaves, settle, results, Tryz.results18, go_sem, y2]
  exact hb2
end Go.Proofs.YtmanoheofloimaaGreatDoor
