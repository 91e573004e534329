import Derived.Test.YtmanoheofloimaaGreatDoorPz
import Derived.Test.YtmanoheofloimaaGreatDoorLz
namespace Go.Proofs.YtmanoheofloimaaGreatDoor
open Go.ChangeShapes Go.WideShapes Go.ChangeAt Go.RowKit
set_option linter.unusedVariables false
set_option maxRecDepth 100000
set_option maxHeartbeats 1000000
/-- Step, where the fetch refuses -/
theorem step_may (b : Nat) (s : St) (q : Cq) (tm : Bool) (x : Nat) (M : Nat → Nat) (T : Nat → Bool) (w : World) (hm : Mem w b M T) (hh : s.halted = false) (hon : (tm && s.on) = false) (hq : s.c 16 = q) (hf : q.fit) (hmay : Ca.may q.g q.a q.p q.y q.e q.b q.t 8 q.a 4 = false) :
    Calls Tryz.prog 11 #[.pointer (some ⟨b, 0, none⟩), .agg s.L.toArray, .bool tm, .int .u32 (x : Int)] w fun e w' => e = .returned (.tuple #[.agg (trp (s.put 0 nul) 1).L.toArray, .agg (⟨1, .slice none 0 0, false, 0, 0⟩ : Dn).L.toArray, .int .i64 0]) ∧ Below w.heap.size w w' := by
  refine (c10_run b s tm x 1 M T (fun k' => k' = wk0 (.pointer (some ⟨b, 0, none⟩)) (s.put 0 nul) x) (fun w2 => Below w.heap.size w w2) w hm hh hon (fun k' hk => ⟨none, 0, 0, by rw [hk]; rfl⟩) ?_).mono ?_
  · intro w1 g hg hb hk
    have hq' : (wk0 (.pointer (some ⟨b, 0, none⟩)) (s.put 0 nul) x).A.c 16 = q := hq
    refine (c30_pan g 1 w1 hk.lt fun w2 hb2 => ?_).mono ?_
    · refine (c58_may g _ q w2 (Blk.below hk hb2 hk.lt) hq' hf hmay).mono ?_
      rintro e w' ⟨rfl, h2⟩
      exact ⟨rfl, h2⟩
    · rintro e w' ⟨rfl, hb2⟩
      exact ⟨rfl, _, rfl, Blk.below hk hb2 hk.lt, hb.trans (hb2.mono hb.size), fun i _ hi => hb2.block i (by have := hk.lt; omega), hb2.size⟩
  · rintro e w' ⟨k', w2, rfl, hb, hb2, rfl⟩
    exact ⟨rfl, hb.trans hb2⟩
end Go.Proofs.YtmanoheofloimaaGreatDoor
