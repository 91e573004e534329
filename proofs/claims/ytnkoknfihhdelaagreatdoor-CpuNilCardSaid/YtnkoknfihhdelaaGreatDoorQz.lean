import Derived.Test.YtnkoknfihhdelaaGreatDoorPz
import Derived.Test.YtnkoknfihhdelaaGreatDoorLz
namespace Go.Proofs.YtnkoknfihhdelaaGreatDoor
open Go.ChangeShapes Go.WideShapes Go.ChangeAt Go.RowKit
set_option linter.unusedVariables false
set_option maxRecDepth 100000
set_option maxHeartbeats 1000000
/-- Step, where the fetch refuses -/
theorem step_may (b : Nat) (s : St) (q : Cq) (tm : Bool) (x : Nat) (M : Nat → Nat) (T : Nat → Bool) (w : World) (hm : Mem w b M T) (hh : s.halted = false) (hon : (tm && s.on) = false) (hq : s.c 16 = q) (hf : q.fit) (hmay : Ca.may q.g q.a q.p q.y q.e q.b q.t 8 q.a 4 = false) :
    Calls Tryz.prog 10 #[.pointer (some ⟨b, 0, none⟩), .agg s.L.toArray, .bool tm, .int .u32 (x : Int)] w fun e w' => e = .returned (.tuple #[.agg (trp (s.put 0 nul) 1).L.toArray, .agg (⟨1, .slice none 0 0, false, 0, 0⟩ : Dn).L.toArray, .int .i64 0]) ∧ Below w.heap.size w w' := by
  refine (c10_run b s tm x 1 M T (fun k' => k' = wk0 (.pointer (some ⟨b, 0, none⟩)) (s.put 0 nul) x) (fun w2 => Below w.heap.size w w2) w hm hh hon (fun k' hk => ⟨none, 0, 0, by rw [hk]; rfl⟩) ?_).mono ?_
  · intro w1 g hg hb hk
    have hq' : (wk0 (.pointer (some ⟨b, 0, none⟩)) (s.put 0 nul) x).A.c 16 = q := hq
    refine (c30_pan g 1 w1 hk.lt fun w2 hb2 => ?_).mono ?_
    · refine (c58_may g _ q w2 (Blk.below hk hb2 hk.lt) hq' hf hmay).mono ?_
      rintro e w' ⟨rfl, h2⟩
      exact ⟨rfl, h2⟩
    · rintro e w' ⟨rfl, hb2⟩
      exact ⟨rfl, _, rfl, Blk.below hk hb2 hk.lt, hb.trans (hb2.mono hb.size), fun i _ hi => hb2.block i (by have := hk.lt; omega), hb2.size⟩
  · rintro e w' ⟨k', w2, rfl, hb, hb2, rfl⟩
    exact ⟨rfl, hb.trans hb2⟩
/-- Step, of an operator with a number of its own -/
theorem step_imm (b : Nat) (s : St) (q x1 : Cq) (tm : Bool) (x : Nat) (M : Nat → Nat) (T : Nat → Bool) (i : In.Ins) (v n : Nat) (e : Int) (w : World) (hm : Mem w b M T) (hh : s.halted = false) (hon : (tm && s.on) = false) (hq : s.c 16 = q) (hf : q.fit) (hmay : Ca.may q.g q.a q.p q.y q.e q.b q.t 8 q.a 4 = true) (hd : devB q.a = false)
    (hw : wordB q.a 4 = true) (hgl : In.Glob w) (hn : numL M q.a 4 < 4294967296) (hget : In.get (numL M q.a 4) = (i, 0)) (ho1 : 21 ≤ i.o) (ho2 : i.o ≤ 29) (hr16 : i.a < 16) (hd16 : i.d < 16) (hx : (s.put 0 nul).c i.a = x1) (hi : i.m % 4294967296 = (n : Int)) (ha4 : q.a + 4 < 4294967296)
    (KA : ∀ w, Calls Tryz.prog 139 #[.int .u8 (i.o : Int), .int .u32 (x1.a : Int), .int .u32 (n : Int)] w fun en w' => en = .returned (.tuple #[.int .u32 (v : Int), .int .i64 e]) ∧ w = w') :
    Calls Tryz.prog 10 #[.pointer (some ⟨b, 0, none⟩), .agg s.L.toArray, .bool tm, .int .u32 (x : Int)] w fun e w' => ∃ A c, e = .returned (.tuple #[.agg ((((s.put 0 nul).put 16 (q.sa (q.a + 4))).put i.d (numQ v)).put 0 nul).L.toArray, .agg (⟨0, .slice A 1 c, false, 0, 0⟩ : Dn).L.toArray, .int .i64 0]) ∧ Below w.heap.size w w' := by
  have hbl := hm.lt
  have hg3 := hgl.size
  refine (c10_run b s tm x 0 M T (fun k' => ∃ A c, k' = ((((wk0 (.pointer (some ⟨b, 0, none⟩)) (s.put 0 nul) x).tc (.slice A 1 c)).ins (toI i)).putN 16 (q.sa (q.a + 4))).putN i.d (numQ v)) (fun w2 => Below w.heap.size w w2) w hm hh hon (fun k' hk => by obtain ⟨A, c, hk⟩ := hk; exact ⟨A, 1, c, by rw [hk]; rfl⟩) ?_).mono ?_
  · intro w1 g hg hb hk
    refine (c30_imm g _ q x1 b M T i v n e w1 hk hq hf hmay hd rfl (hm.below hb hbl) hw (by omega) rfl (hgl.below hb hg3) (by omega) hn hget ho1 ho2 hr16 hd16 hx hi ha4 KA).mono ?_
    rintro e w' ⟨rfl, tv, ⟨A, c, rfl⟩, hk2, hs⟩
    exact ⟨rfl, _, ⟨A, c, rfl⟩, hk2, ⟨hs.os.trans hb.os, hs.tape.trans hb.tape, hs.output.trans hb.output, Nat.le_trans hb.size hs.size, fun i hi => (hs.block i (by have := hk.lt; omega) (by omega)).trans (hb.block i hi)⟩, fun i _ hi => hs.block i (by have := hk.lt; omega) (by omega), hs.size⟩
  · rintro e w' ⟨k', w2, ⟨A, c, rfl⟩, hb, hb2, rfl⟩
    exact ⟨A, c, rfl, hb.trans hb2⟩
end Go.Proofs.YtnkoknfihhdelaaGreatDoor
