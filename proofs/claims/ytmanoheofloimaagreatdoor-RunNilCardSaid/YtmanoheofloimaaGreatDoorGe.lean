import Derived.Test.YtmanoheofloimaaGreatDoorGd
import Derived.Test.YtmanoheofloimaaGreatDoorGg
import Derived.Test.YtmanoheofloimaaGreatDoorMSz
import Derived.Test.YtmanoheofloimaaGreatDoorIV
namespace Go.Proofs.YtmanoheofloimaaGreatDoor
open Go.ChangeShapes Go.WideShapes Go.ChangeAt Go.RowKit
set_option linter.unusedVariables false
set_option maxRecDepth 100000
/-- where all but a block is as it was, below a bound -/
structure Sv (g B : Nat) (w w' : World) : Prop where
  os : w'.os = w.os
  tape : w'.tape = w.tape
  output : w'.output = w.output
  size : w.heap.size ≤ w'.heap.size
  block : ∀ k, k < B → k ≠ g → w'.heap[k]? = w.heap[k]?
theorem Sv.trans {g B : Nat} {a b c : World} (h : Sv g B a b) (k : Sv g B b c) : Sv g B a c := ⟨k.os.trans h.os, k.tape.trans h.tape, k.output.trans h.output, Nat.le_trans h.size k.size, fun i hi hg => (k.block i hi hg).trans (h.block i hi hg)⟩
theorem Sv.blk {g B b : Nat} {t : TypeId} {C : Array Value} {w w' : World} (h : Sv g B w w') (hb : b < B) (hg : b ≠ g) (k : Blk w b t C) : Blk w' b t C := (h.block b hb hg).trans k
theorem Sv.below {g B : Nat} {w w' : World} (h : Sv g B w w') (hg : w.heap.size ≤ g) (hB : w.heap.size ≤ B) : Below w.heap.size w w' := ⟨h.os, h.tape, h.output, h.size, fun k hk => h.block k (by omega) (by omega)⟩
def WK.tc (k : WK) (v : Value) : WK := { k with d := { k.d with tc := v } }
end Go.Proofs.YtmanoheofloimaaGreatDoor
namespace Go.Proofs.YtmanoheofloimaaGreatDoor
open Go.ChangeShapes Go.WideShapes Go.ChangeAt Go.RowKit
set_option linter.unusedVariables false
set_option maxRecDepth 100000
/-- fetch, where there is nothing to fetch -/
theorem c58_may (g : Nat) (k : WK) (q : Cq) (w : World) (h : Wk w g k) (hq : k.A.c 16 = q) (hf : q.fit) (hmay : Ca.may q.g q.a q.p q.y q.e q.b q.t 8 q.a 4 = false) :
    Calls Tryz.prog 25 #[.pointer (some ⟨g, 0, none⟩)] w fun e w' => e = .panicked [{ v := .iface 93 (.agg #[.int .u32 1]), recovered := false }] ∧ Below w.heap.size w w' := by
  have K60 := Lib.hid (c60 g k w h)
  have hsv := h.sevenP 16 113 (by decide) rfl
  rw [hq] at hsv K60
  have KM := Lib.hid (Ca.c36 q.g q.a q.p q.y q.e q.b q.t 8 q.a 4 hf.1 hf.2.1 hf.2.2.1 hf.2.2.2.1 hf.2.2.2.2.1 hf.2.2.2.2.2 (by decide) (by have := hf.1; omega) (by decide) w)
  rw [hmay] at KM
  have hl := Blk.lt h
  have ha := hf.1
  obtain ⟨x0, x1, x2, x3, x4, x5, x6⟩ := hsv
  have hcv : ∀ W, (convert 22 103 (.int .u32 (q.a : Int))).run Tryz.prog W = .ok (.int .u64 (q.a : Int)) W := fun W => by
    have : IntKind.u64.wrap (q.a : Int) = (q.a : Int) := by rw [IntKind.wrap_u64]; omega
    simp [convert, run_underlying Tryz.underlying22, run_underlying Tryz.underlying103, this, go_sem]
  clear h hq hf hmay
  go_enter Tryz.func25, Tryz.ntmps25
  go_wp2_with fail
  refine K60.out.mono ?_
  rintro _ _ ⟨rfl, rfl⟩
  go_wp2_with fail
  refine KM.out.mono ?_
  rintro _ w1 ⟨rfl, hb⟩
  have HB := Lib.hid hb
  clear hb x0 x1 x2 x3 x4 x5 x6
  go_wp2_with fail
  exact ⟨rfl, rfl, HB.out⟩
end Go.Proofs.YtmanoheofloimaaGreatDoor
