import Derived.Test.YtnkoknfihhdelaaGreatDoorGd
import Derived.Test.YtnkoknfihhdelaaGreatDoorKJ
import Derived.Test.YtnkoknfihhdelaaGreatDoorMSz
import Derived.Test.YtnkoknfihhdelaaGreatDoorIV
namespace Go.Proofs.YtnkoknfihhdelaaGreatDoor
open Go.ChangeShapes Go.WideShapes Go.ChangeAt Go.RowKit
set_option linter.unusedVariables false
set_option maxRecDepth 100000
def devB (a : Nat) : Bool := decide (65280 ≤ a ∧ a < 65536)
set_option maxHeartbeats 400000 in
theorem c88 (a : Nat) (w : World) : Calls Tryz.prog 88 #[.int .u32 (a : Int)] w fun e w' => e = .returned (.bool (devB a)) ∧ w = w' := by
  by_cases h1 : 65280 ≤ a
  · by_cases h2 : a < 65536
    · have HD : Hid (devB a = true) := Lib.hid (by unfold devB; exact decide_eq_true ⟨h1, h2⟩)
      have b1 : decide ((65280 : Int) ≤ (a : Int)) = true := decide_eq_true (by omega)
      have b2 : decide ((a : Int) < 65536) = true := decide_eq_true (by omega)
      rw [HD.out]
      clear h1 h2
      go_enter Tryz.func88, Tryz.ntmps88
      go_wp2_with fail
      go_ret
      exact ⟨rfl, rfl⟩
    · have HD : Hid (devB a = false) := Lib.hid (by unfold devB; exact decide_eq_false (fun q => h2 q.2))
      have b1 : decide ((65280 : Int) ≤ (a : Int)) = true := decide_eq_true (by omega)
      have b2 : decide ((a : Int) < 65536) = false := decide_eq_false (by omega)
      rw [HD.out]
      clear h1 h2
      go_enter Tryz.func88, Tryz.ntmps88
      go_wp2_with fail
      go_ret
      exact ⟨rfl, rfl⟩
  · have HD : Hid (devB a = false) := Lib.hid (by unfold devB; exact decide_eq_false (fun q => h1 q.1))
    have b1 : decide ((65280 : Int) ≤ (a : Int)) = false := decide_eq_false (by omega)
    rw [HD.out]
    clear h1
    go_enter Tryz.func88, Tryz.ntmps88
    go_wp2_with fail
    go_ret
    exact ⟨rfl, rfl⟩
/-- where all but a block is as it was, below a bound -/
structure Sv (g B : Nat) (w w' : World) : Prop where
  os : w'.os = w.os
  tape : w'.tape = w.tape
  output : w'.output = w.output
  size : w.heap.size ≤ w'.heap.size
  block : ∀ k, k < B → k ≠ g → w'.heap[k]? = w.heap[k]?
theorem Only.sv {g B : Nat} {w w' : World} (h : Only g w w') (hB : B ≤ w.heap.size) : Sv g B w w' := by
  have h0 := h.1 0 (Nat.zero_le _) (Nat.zero_le _)
  exact ⟨h0.os, h0.tape, h0.output, h0.size, fun k hk hg => h.2 k hg (by omega)⟩
theorem Sv.trans {g B : Nat} {a b c : World} (h : Sv g B a b) (k : Sv g B b c) : Sv g B a c := ⟨k.os.trans h.os, k.tape.trans h.tape, k.output.trans h.output, Nat.le_trans h.size k.size, fun i hi hg => (k.block i hi hg).trans (h.block i hi hg)⟩
theorem Sv.blk {g B b : Nat} {t : TypeId} {C : Array Value} {w w' : World} (h : Sv g B w w') (hb : b < B) (hg : b ≠ g) (k : Blk w b t C) : Blk w' b t C := (h.block b hb hg).trans k
theorem Sv.below {g B : Nat} {w w' : World} (h : Sv g B w w') (hg : w.heap.size ≤ g) (hB : w.heap.size ≤ B) : Below w.heap.size w w' := ⟨h.os, h.tape, h.output, h.size, fun k hk => h.block k (by omega) (by omega)⟩
theorem Below.sv {g B : Nat} {w w' : World} (h : Below w.heap.size w w') (hB : B ≤ w.heap.size) : Sv g B w w' := ⟨h.os, h.tape, h.output, h.size, fun k hk _ => h.block k (by omega)⟩
theorem l_cells (w : World) (N : Nat) (hN : w.heap.size = N) (l : List Value) (t : TypeId) : ∀ (j : Nat) (u : Value), l[j]? = some u → (w.alloc (.cells l.toArray t)).cell? ((⟨N, 0, none⟩ : Addr).add j) = some u := by
  intro j u h
  subst hN
  have ha : ((⟨w.heap.size, 0, none⟩ : Addr).add j) = ⟨w.heap.size, j, none⟩ := by unfold Addr.add; split <;> simp_all
  rw [ha]
  rw [World.cell?_alloc_new]
  simpa using h
def WK.tc (k : WK) (v : Value) : WK := { k with d := { k.d with tc := v } }
theorem WK.tc_L (k : WK) (v : Value) : k.L.toArray.setIfInBounds 310 v = (k.tc v).L.toArray := by
  apply Array.ext'
  rw [Array.toList_setIfInBounds]
  show k.L.set 310 v = (k.tc v).L
  unfold WK.L
  show (k.mp :: (k.A.L ++ (k.N.L ++ (k.i.L ++ (.int .u32 (k.ans : Int) :: k.d.L))))).set 310 v = _
  rw [show 310 = 309 + 1 by omega, List.set_cons_succ, List.set_append_right _ _ (by rw [St.len]; omega), St.len, List.set_append_right _ _ (by rw [St.len]; omega), St.len]
  rfl
set_option maxHeartbeats 800000 in
/-- touch -/
theorem c89 (g B : Nat) (k : WK) (wh n : Int) (at' : Nat) (tc : Value) (m : Nat) (xs : List Value) (w : World) (h : Wk w g k) (htc : k.d.tc = tc) (ho : w.ownsRow B 59 3 tc m xs) (hg : g < B) (hB : B ≤ w.heap.size) (hm : m ≤ 65536) :
    Calls Tryz.prog 89 #[.pointer (some ⟨g, 0, none⟩), .int .i64 wh, .int .u32 (at' : Int), .int .i64 n] w fun e w' => e = .returned (.tuple #[]) ∧ ∃ v, Wk w' g (k.tc v) ∧ w'.ownsRow B 59 3 v (m + 1) (xs ++ [.int .i64 wh, .int .u32 (at' : Int), .int .i64 n]) ∧ Sv g B w w' := by
  have x : w.cell? ⟨g, 310, none⟩ = some tc := by rw [← htc]; exact h.cellT 7 310 rfl
  obtain ⟨i0, hi, hz⟩ : ∃ i, Tryz.prog.info? 59 = some i ∧ (i.zero, i.size, i.bytes) = (some (.agg #[.int .i64 0, .int .u32 0, .int .i64 0]), 3, 24) := by
    have h : (Tryz.prog.info? 59).map (fun i => (i.zero, i.size, i.bytes)) = some (some (.agg #[.int .i64 0, .int .u32 0, .int .i64 0]), 3, 24) := by kernel_rfl
    cases hq : Tryz.prog.info? 59 with
    | none => rw [hq] at h; cases h
    | some i => rw [hq] at h; exact ⟨i, rfl, by simpa using h⟩
  simp only [Prod.mk.injEq] at hz
  obtain ⟨hz0, hz1, hz2⟩ := hz
  have HI := Lib.hid hi
  have HZ0 := Lib.hid hz0
  have HZ1 := Lib.hid hz1
  have HZ2 := Lib.hid hz2
  have HW := Lib.hid h
  have HO := Lib.hid ho
  have hl := Blk.lt h
  have hfz : w.frozen? ⟨g, 310, none⟩ = false := Blk.frozen h 310
  clear hi hz0 hz1 hz2 h ho htc
  go_enter Tryz.func89, Tryz.ntmps89
  go_wp2_with (at_builtin; refine wpList_append_own _ rfl _ _ 39 rfl B 59 i0 (.agg #[.int .i64 0, .int .u32 0, .int .i64 0]) 3 24 Tryz.underlying39 HI.out HZ0.out HZ1.out HZ2.out rfl (by decide) _ _ _ rfl (HO.out.alloc _) ⟨w.heap.size, 0, none⟩ 1 1 [.int .i64 wh, .int .u32 (at' : Int), .int .i64 n] rfl rfl (l_cells w w.heap.size rfl [.int .i64 wh, .int .u32 (at' : Int), .int .i64 n] 59) (fun y hy => by simp at hy; rcases hy with rfl | rfl | rfl <;> rfl) (by unfold maxLen; omega) (by omega) (by simp; omega) ?_)
  intro v w5 hown5 hgrow5 _
  obtain ⟨A, c, rfl⟩ : ∃ A c, v = .slice A (m + 1) c := by
    rcases hown5.2 with ⟨hv, h0⟩ | ⟨g, cap, cur, hv, _⟩
    · omega
    · exact ⟨_, cap, hv⟩
  have hK5 : Wk w5 g k := by
    refine (hgrow5.block g (by simp; omega) (fun e => ?_)).trans (Blk.alloc HW.out _)
    have := (HO.out.lt g e.symm).1
    omega
  have hS5 : Sv g B w w5 := by
    have hsz := hgrow5.size
    simp at hsz
    refine ⟨hgrow5.os, hgrow5.tape, hgrow5.output, by omega, fun k' hk hkg => ?_⟩
    rw [hgrow5.block k' (by simp; omega) (fun e => by have := (HO.out.lt k' e.symm).1; omega)]
    exact Below.heap_alloc w _ k' (by omega)
  have hx5 := Blk.cell hK5 310
  rw [← Blk.cell HW.out, x] at hx5
  have hf5 := Blk.frozen hK5 310
  have HK5 := Lib.hid hK5
  have HS5 := Lib.hid hS5
  have HO5 := Lib.hid hown5
  have HT := Lib.hid (k.tc_L (.slice A (m + 1) c))
  have hl5 := Blk.lt hK5
  clear hK5 hS5 hown5 hgrow5 x hfz
  go_wp2_with fail
  go_end0
  refine ⟨rfl, .slice A (m + 1) c, ?_, ?_, HS5.out.trans ⟨rfl, rfl, rfl, by simp, fun k' _ hg' => Below.heap_setCell _ _ _ _ hg'⟩⟩
  · have := Blk.set_ HK5.out 310 (.slice A (m + 1) c)
    rw [HT.out] at this
    exact this
  · have hne : (Value.slice A (m + 1) c).ownBlock ≠ some g := fun e => by have := (HO5.out.lt g e).1; omega
    exact HO5.out.kept (row := some g) ⟨rfl, rfl, rfl, by simp, fun k' _ h' => Below.heap_setCell _ _ _ _ (fun e => h' (by rw [e]))⟩ (Or.inr hne)
end Go.Proofs.YtnkoknfihhdelaaGreatDoor
namespace Go.Proofs.YtnkoknfihhdelaaGreatDoor
open Go.ChangeShapes Go.WideShapes Go.ChangeAt Go.RowKit
set_option linter.unusedVariables false
set_option maxRecDepth 100000
def toI (i : In.Ins) : Ins := ⟨i.o, i.d, i.a, i.b, i.m⟩
def WK.ins (k : WK) (i : Ins) : WK := { k with i := i }
theorem put_mid (x : Value) (A N I J T : List Value) (hA : A.length = 151) (hN : N.length = 151) (hI : I.length = 5) (hJ : J.length = 5) : putA (x :: (A ++ (N ++ (I ++ T)))).toArray 303 J = (x :: (A ++ (N ++ (J ++ T)))).toArray := by
  unfold putA
  rw [hJ]
  congr 1
  have e1 : (x :: (A ++ (N ++ (I ++ T)))).take 303 = x :: (A ++ N) := by
    rw [show 303 = 302 + 1 by omega, List.take_succ_cons, ← List.append_assoc, List.take_append_of_le_length (by simp; omega), List.take_of_length_le (by simp; omega)]
  have e2 : (x :: (A ++ (N ++ (I ++ T)))).drop (303 + 5) = T := by
    rw [show 303 + 5 = 307 + 1 by omega, List.drop_succ_cons, ← List.append_assoc, ← List.append_assoc, List.drop_append_of_le_length (by simp; omega), List.drop_of_length_le (by simp; omega), List.nil_append]
  show List.take 303 (x :: (A ++ (N ++ (I ++ T)))) ++ (J ++ List.drop (303 + 5) (x :: (A ++ (N ++ (I ++ T))))) = _
  rw [e1, e2]
  simp
theorem WK.ins_L (k : WK) (i : Ins) : putA k.L.toArray 303 i.L = (k.ins i).L.toArray :=
  put_mid k.mp k.A.L k.N.L k.i.L i.L (.int .u32 (k.ans : Int) :: k.d.L) k.A.len k.N.len rfl rfl
theorem info53s : (Tryz.prog.info? 53).map (·.size) = some 5 := by kernel_rfl
theorem ins_all (i : Ins) : (i.L.toArray).all (·.oneCell') = true := by simp [Value.oneCell']
theorem glob_sv {g B : Nat} {w w' : World} (h : In.Glob w) (hs : Sv g B w w') (hg : 3 ≤ g) (hB : 3 ≤ B) : In.Glob w' := by
  obtain ⟨⟨a, b, c⟩, ⟨a1, b1, c1⟩, a2, b2, c2⟩ := h
  exact ⟨⟨a, b, (hs.block 0 (by omega) (by omega)).trans c⟩, ⟨a1, b1, (hs.block 1 (by omega) (by omega)).trans c1⟩, a2, b2, (hs.block 2 (by omega) (by omega)).trans c2⟩
/-- fetch, where there is nothing to fetch -/
theorem c58_may (g : Nat) (k : WK) (q : Cq) (w : World) (h : Wk w g k) (hq : k.A.c 16 = q) (hf : q.fit) (hmay : Ca.may q.g q.a q.p q.y q.e q.b q.t 8 q.a 4 = false) :
    Calls Tryz.prog 58 #[.pointer (some ⟨g, 0, none⟩)] w fun e w' => e = .panicked [{ v := .iface 118 (.agg #[.int .u32 1]), recovered := false }] ∧ Below w.heap.size w w' := by
  have K60 := Lib.hid (c60 g k w h)
  have hsv := h.sevenP 16 113 (by decide) rfl
  rw [hq] at hsv K60
  have KM := Lib.hid (Ca.c36 q.g q.a q.p q.y q.e q.b q.t 8 q.a 4 hf.1 hf.2.1 hf.2.2.1 hf.2.2.2.1 hf.2.2.2.2.1 hf.2.2.2.2.2 (by decide) (by have := hf.1; omega) (by decide) w)
  rw [hmay] at KM
  have hl := Blk.lt h
  have ha := hf.1
  obtain ⟨x0, x1, x2, x3, x4, x5, x6⟩ := hsv
  have hcv : ∀ W, (convert 25 84 (.int .u32 (q.a : Int))).run Tryz.prog W = .ok (.int .u64 (q.a : Int)) W := fun W => by
    have : IntKind.u64.wrap (q.a : Int) = (q.a : Int) := by rw [IntKind.wrap_u64]; omega
    simp [convert, run_underlying Tryz.underlying25, run_underlying Tryz.underlying84, this, go_sem]
  clear h hq hf hmay
  go_enter Tryz.func58, Tryz.ntmps58
  go_wp2_with fail
  refine K60.out.mono ?_
  rintro _ _ ⟨rfl, rfl⟩
  go_wp2_with fail
  refine KM.out.mono ?_
  rintro _ w1 ⟨rfl, hb⟩
  have HB := Lib.hid hb
  clear hb x0 x1 x2 x3 x4 x5 x6
  go_wp2_with fail
  exact ⟨rfl, rfl, HB.out⟩
set_option maxHeartbeats 1000000 in
/-- fetch, where a word is an instruction -/
theorem c58_ok (g B : Nat) (k : WK) (q : Cq) (b : Nat) (M : Nat → Nat) (T : Nat → Bool) (tc : Value) (m : Nat) (xs : List Value) (i : In.Ins) (w : World) (h : Wk w g k) (hq : k.A.c 16 = q) (hf : q.fit) (hmay : Ca.may q.g q.a q.p q.y q.e q.b q.t 8 q.a 4 = true) (hd : devB q.a = false)
    (hmp : k.mp = .pointer (some ⟨b, 0, none⟩)) (hm : Mem w b M T) (hw : wordB q.a 4 = true) (hbB : b < B) (hbg : b ≠ g) (htc : k.d.tc = tc) (ho : w.ownsRow B 59 3 tc m xs) (hg : g < B) (hB : B ≤ w.heap.size) (hm6 : m ≤ 65536) (hgl : In.Glob w) (hg3 : 3 ≤ g)
    (hn : numL M q.a 4 < 4294967296) (hget : In.get (numL M q.a 4) = (i, 0)) :
    Calls Tryz.prog 58 #[.pointer (some ⟨g, 0, none⟩)] w fun e w' => e = .returned (.tuple #[]) ∧ ∃ v, Wk w' g ((k.tc v).ins (toI i)) ∧ w'.ownsRow B 59 3 v (m + 1) (xs ++ [.int .i64 1, .int .u32 (q.a : Int), .int .i64 4]) ∧ Sv g B w w' := by
  have K60 := Lib.hid (c60 g k w h)
  have hsv := h.sevenP 16 113 (by decide) rfl
  rw [hq] at hsv K60
  have KM := Lib.hid (Ca.c36 q.g q.a q.p q.y q.e q.b q.t 8 q.a 4 hf.1 hf.2.1 hf.2.2.1 hf.2.2.2.1 hf.2.2.2.2.1 hf.2.2.2.2.2 (by decide) (by have := hf.1; omega) (by decide) w)
  rw [hmay] at KM
  have KD := Lib.hid (c88 q.a)
  rw [hd] at KD
  have hl := Blk.lt h
  have ha := hf.1
  have x7 : w.cell? ⟨g, 0, none⟩ = some (.pointer (some ⟨b, 0, none⟩)) := by rw [← hmp]; exact Blk.cell h 0
  obtain ⟨x0, x1, x2, x3, x4, x5, x6⟩ := hsv
  have hcv : ∀ W, (convert 25 84 (.int .u32 (q.a : Int))).run Tryz.prog W = .ok (.int .u64 (q.a : Int)) W := fun W => by
    have : IntKind.u64.wrap (q.a : Int) = (q.a : Int) := by rw [IntKind.wrap_u64]; omega
    simp [convert, run_underlying Tryz.underlying25, run_underlying Tryz.underlying84, this, go_sem]
  have KL : Hid (∀ w1, Below w.heap.size w w1 → Calls Tryz.prog 27 #[.pointer (some ⟨b, 0, none⟩), .int .u32 (q.a : Int), .int .i64 4] w1 fun e w' => e = .returned (.tuple #[.int .u32 (numL M q.a 4 : Int), .int .i64 0]) ∧ w1 = w') := Lib.hid (fun w1 hb => mLoad b q.a 4 M T w1 (hm.below hb (by have := hm.lt; exact this)) hw)
  have KT : Hid (∀ w1, Below w.heap.size w w1 → Calls Tryz.prog 89 #[.pointer (some ⟨g, 0, none⟩), .int .i64 1, .int .u32 (q.a : Int), .int .i64 4] w1 fun e w' => e = .returned (.tuple #[]) ∧ ∃ v, Wk w' g (k.tc v) ∧ w'.ownsRow B 59 3 v (m + 1) (xs ++ [.int .i64 1, .int .u32 (q.a : Int), .int .i64 4]) ∧ Sv g B w1 w') := Lib.hid (fun w1 hb => c89 g B k 1 4 q.a tc m xs w1 (Blk.below h hb hl) htc (ho.kept (row := none) ⟨hb.os, hb.tape, hb.output, hb.size, fun k' hk _ => hb.block k' hk⟩ (by cases hv : tc.ownBlock <;> simp)) hg (Nat.le_trans hB hb.size) hm6)
  have HGL := Lib.hid hgl
  obtain ⟨n, hnn⟩ : ∃ n, numL M q.a 4 = n := ⟨_, rfl⟩
  rw [hnn] at KL hn hget
  have HGET := Lib.hid hget
  have HI : Hid (∀ v, putA (k.tc v).L.toArray 303 (toI i).L = ((k.tc v).ins (toI i)).L.toArray) := Lib.hid (fun v => (k.tc v).ins_L (toI i))
  clear h hq hf hmay hd hmp hm hw htc ho hgl hnn hget
  go_enter Tryz.func58, Tryz.ntmps58
  go_wp2_with fail
  refine K60.out.mono ?_
  rintro _ _ ⟨rfl, rfl⟩
  go_wp2_with fail
  refine KM.out.mono ?_
  rintro _ w1 ⟨rfl, hb⟩
  have HB := Lib.hid hb
  have x8 : w1.cell? ⟨g, 0, none⟩ = some (.pointer (some ⟨b, 0, none⟩)) := (hb.cell (p := ⟨g, 0, none⟩) hl).trans x7
  clear hb x0 x1 x2 x3 x4 x5 x6 x7
  go_wp2_with fail
  refine (KD.out _).mono ?_
  rintro _ _ ⟨rfl, rfl⟩
  go_wp2_with fail
  refine (KL.out _ HB.out).mono ?_
  rintro _ _ ⟨rfl, rfl⟩
  go_wp2_with fail
  refine (KT.out _ HB.out).mono ?_
  rintro _ w2 ⟨rfl, v, hk2, ho2, hs2⟩
  have HS2 := Lib.hid ((Below.sv HB.out hB).trans hs2)
  have HK2 := Lib.hid hk2
  have HO2 := Lib.hid ho2
  have hB2 : B ≤ w2.heap.size := Nat.le_trans hB HS2.out.size
  have hg2 : In.Glob w2 := glob_sv HGL.out HS2.out hg3 (by omega)
  have KG := Lib.hid (In.c9 n hn w2 hg2)
  rw [HGET.out] at KG
  clear hk2 ho2 hs2 hg2 x8
  go_wp2_with fail
  refine KG.out.mono ?_
  rintro _ w3 ⟨rfl, hb3⟩
  have HB3 := Lib.hid hb3
  have hl2 := Blk.lt HK2.out
  have HK3 : Hid (Wk w3 g (k.tc v)) := Lib.hid (Blk.below HK2.out hb3 hl2)
  have HO3 : Hid (w3.ownsRow B 59 3 v (m + 1) (xs ++ [.int .i64 1, .int .u32 (q.a : Int), .int .i64 4])) := Lib.hid (HO2.out.kept (row := none) ⟨hb3.os, hb3.tape, hb3.output, hb3.size, fun k' hk _ => hb3.block k' hk⟩ (by cases hv : v.ownBlock <;> simp))
  have HS3 := Lib.hid (HS2.out.trans (Below.sv hb3 hB2))
  clear hb3
  unfold In.ieV In.Ins.val In.insV
  go_wp2_with (refine wpList_store_sub rfl 53 (.tmp 45) (.tmp 42) rfl g 303 (toI i).L.toArray rfl rfl 81 (k.tc v).L.toArray HK3.out info53s (by have := (k.tc v).len; simp; omega) (ins_all (toI i)) ?_)
  have hput : putA (k.tc v).L.toArray 303 (toI i).L.toArray.toList = ((k.tc v).ins (toI i)).L.toArray := HI.out v
  rw [hput]
  have HK4 := Lib.hid (blk_row HK3.out ((k.tc v).ins (toI i)).L.toArray)
  have hO4 := only_row w3 g ((k.tc v).ins (toI i)).L.toArray
  have HS4 := Lib.hid (HS3.out.trans (hO4.sv (Nat.le_trans hB2 HB3.out.size)))
  have HO4 : Hid ((w3.setRow g ((k.tc v).ins (toI i)).L.toArray).ownsRow B 59 3 v (m + 1) (xs ++ [.int .i64 1, .int .u32 (q.a : Int), .int .i64 4])) := Lib.hid (HO3.out.kept (row := some g) ⟨hO4.1 0 (Nat.zero_le _) (Nat.zero_le _) |>.os, hO4.1 0 (Nat.zero_le _) (Nat.zero_le _) |>.tape, hO4.1 0 (Nat.zero_le _) (Nat.zero_le _) |>.output, hO4.size, fun k' hk h' => hO4.2 k' (fun e => h' (by rw [e])) hk⟩ (Or.inr (fun e => by have := (HO3.out.lt g e).1; omega)))
  clear hput hO4
  generalize (w3.setRow g ((k.tc v).ins (toI i)).L.toArray) = W4 at *
  go_wp2_with fail
  go_end0
  exact ⟨rfl, v, HK4.out, HO4.out, HS4.out⟩
end Go.Proofs.YtnkoknfihhdelaaGreatDoor
namespace Go.Proofs.YtnkoknfihhdelaaGreatDoor
open Go.ChangeShapes Go.WideShapes Go.ChangeAt Go.RowKit
set_option linter.unusedVariables false
set_option maxRecDepth 100000
theorem fld2 (v0 v2 v3 v4 v5 v6 : Value) (n : Int) (W : World) : (Instr.field 29 (.agg #[v0, .int .u32 n, v2, v3, v4, v5, v6]) 1).run Tryz.prog W = .ok (.int .u32 n) W := by kernel_rfl
def numQ (n : Nat) : Cq := ⟨false, n, 0, 0, 0, 0, 0⟩
set_option maxHeartbeats 1000000 in
/-- number -/
theorem c96 (g : Nat) (k : WK) (o r n v : Nat) (e : Int) (q : Cq) (w : World) (h : Wk w g k) (ho : k.i.o = o) (hr : k.i.r1 = r) (hr16 : r < 16) (hq : k.A.c r = q)
    (KA : ∀ w, Calls Tryz.prog 139 #[.int .u8 (o : Int), .int .u32 (q.a : Int), .int .u32 (n : Int)] w fun en w' => en = .returned (.tuple #[.int .u32 (v : Int), .int .i64 e]) ∧ w = w') :
    Calls Tryz.prog 96 #[.pointer (some ⟨g, 0, none⟩), .int .u32 (n : Int)] w fun en w' => en = .returned (numQ v).v ∧ Below w.heap.size w w' := by
  have x : w.cell? ⟨g, 303, none⟩ = some (.int .u8 (o : Int)) := by rw [← ho]; exact h.cellT 0 303 rfl
  have hl := Blk.lt h
  have K136 : Hid (∀ w1, Below w.heap.size w w1 → Calls Tryz.prog 136 #[.pointer (some ⟨g, 0, none⟩)] w1 fun e w' => e = .returned q.v ∧ Below w1.heap.size w1 w') := Lib.hid (fun w1 hb => c136 g k w1 (Blk.below h hb hl) r q hr hq hr16)
  have KA := Lib.hid KA
  have KI := Lib.hid (Ca.c15n v)
  have hfd : ∀ W, (Instr.field 29 (.agg #[.bool q.g, .int .u32 (q.a : Int), .int .u8 (q.p : Int), .int .u8 (q.y : Int), .int .u8 (q.e : Int), .int .u16 (q.b : Int), .int .u16 (q.t : Int)]) 1).run Tryz.prog W = .ok (.int .u32 (q.a : Int)) W := fun W => fld2 _ _ _ _ _ _ _ W
  clear h ho hr hq hr16
  go_enter Tryz.func96, Tryz.ntmps96
  go_wp2_with fail
  have hR : Blk (w.alloc (.cells nCap 29)) w.heap.size 29 nCap := Blk.new w 29 nCap
  have hO : Below w.heap.size w (w.alloc (.cells nCap 29)) := (Below.refl _ _).alloc (Nat.le_refl _) _
  have hx : (w.alloc (.cells nCap 29)).cell? ⟨g, 303, none⟩ = some (.int .u8 (o : Int)) := (hO.cell (p := ⟨g, 303, none⟩) hl).trans x
  have HR := Lib.hid hR
  have HO := Lib.hid hO
  have HX := Lib.hid x
  have hlW := hR.lt
  have hgW : g < (w.alloc (.cells nCap 29)).heap.size := Nat.lt_of_lt_of_le hl hO.size
  clear hR hO x
  generalize w.alloc (.cells nCap 29) = W at *
  have KB : Hid (∀ w1, Below W.heap.size W w1 → Calls Tryz.prog 136 #[.pointer (some ⟨g, 0, none⟩)] w1 fun e w' => e = .returned (.agg #[.bool q.g, .int .u32 (q.a : Int), .int .u8 (q.p : Int), .int .u8 (q.y : Int), .int .u8 (q.e : Int), .int .u16 (q.b : Int), .int .u16 (q.t : Int)]) ∧ Below W.heap.size W w') := Lib.hid (fun w1 hb => (K136.out w1 (HO.out.trans (hb.mono HO.out.size))).mono fun e w' ⟨h1, h2⟩ => ⟨h1, hb.trans (h2.mono hb.size)⟩)
  clear K136
  go_region_held3 (fun w' => w'.cell? ⟨g, 303, none⟩ = some (.int .u8 (o : Int)) ∧ Below W.heap.size W w')
    (first | assumption | exact ⟨hx, Below.refl _ _⟩ | (refine ⟨?_, ?_⟩; exact hx; exact Below.refl _ _) | (refine ⟨?_, ?_⟩ <;> first | assumption | exact (Below.refl _ _).drew))
    (first | (go_at_call 136; (with_reducible refine (KB.out _ (by first | assumption | exact Below.refl _ _ | exact (Below.refl _ _).drew)).mono ?_); rintro _ w1 ⟨rfl, hb1⟩; have hx1 := (hb1.cell (p := ⟨g, 303, none⟩) hgW).trans hx) | (go_at_call 139; (with_reducible refine (KA.out _).mono ?_); rintro _ _ ⟨rfl, rfl⟩))
  all_goals
    have HB1 := Lib.hid hb1
    have HR1 : Hid (Blk w1 w.heap.size 29 nCap) := Lib.hid (HR.out.below hb1 hlW)
    clear hx hb1 hx1
    go_wp2_with fail
    refine (KI.out _).mono ?_
    rintro _ w2 ⟨rfl, hb2⟩
    have hR2 : Blk w2 w.heap.size 29 nCap := HR1.out.below hb2 HR1.out.lt
    have HB2 : Hid (Below w.heap.size w w2) := Lib.hid ((HO.out.trans (HB1.out.mono HO.out.size)).trans (hb2.mono (HO.out.trans (HB1.out.mono HO.out.size)).size))
    have y0 := hR2.cell 0
    have y1 := hR2.cell 1
    have y2 := hR2.cell 2
    have y3 := hR2.cell 3
    have y4 := hR2.cell 4
    have y5 := hR2.cell 5
    have y6 := hR2.cell 6
    simp only [nCap, List.getElem?_toArray, List.getElem?_cons_zero, List.getElem?_cons_succ] at y0 y1 y2 y3 y4 y5 y6
    have f0 := hR2.frozen 0
    have f1 := hR2.frozen 1
    have f2 := hR2.frozen 2
    have f3 := hR2.frozen 3
    have f4 := hR2.frozen 4
    have f5 := hR2.frozen 5
    have f6 := hR2.frozen 6
    have zl := hR2.lt
    clear hb2 hR2
    go_wp2_with fail
    refine bodyPost_ret (v := .agg #[.bool false, .int .u32 (v : Int), .int .u8 0, .int .u8 0, .int .u8 0, .int .u16 0, .int .u16 0]) (by simp [results, Tryz.results96, go_sem, y0, y1, y2, y3, y4, y5, y6]) rfl ⟨rfl, ?_⟩
    exact (((((((HB2.out).setCell (Nat.le_refl _) _).setCell (Nat.le_refl _) _).setCell (Nat.le_refl _) _).setCell (Nat.le_refl _) _).setCell (Nat.le_refl _) _).setCell (Nat.le_refl _) _).setCell (Nat.le_refl _) _
set_option maxHeartbeats 1000000 in
/-- do, of an operator with a number of its own -/
theorem c61_imm (g : Nat) (k : WK) (o r rd v : Nat) (e : Int) (n : Nat) (q : Cq) (w : World) (h : Wk w g k) (ho : k.i.o = o) (ho1 : 21 ≤ o) (ho2 : o ≤ 29) (hr : k.i.r1 = r) (hr16 : r < 16) (hd : k.i.rd = rd) (hd16 : rd < 16) (hq : k.A.c r = q) (hn : k.i.im % 4294967296 = (n : Int))
    (KA : ∀ w, Calls Tryz.prog 139 #[.int .u8 (o : Int), .int .u32 (q.a : Int), .int .u32 (n : Int)] w fun en w' => en = .returned (.tuple #[.int .u32 (v : Int), .int .i64 e]) ∧ w = w') :
    Calls Tryz.prog 61 #[.pointer (some ⟨g, 0, none⟩)] w fun en w' => en = .returned (.tuple #[]) ∧ Wk w' g (k.putN rd (numQ v)) ∧ Only g w w' := by
  have x : w.cell? ⟨g, 303, none⟩ = some (.int .u8 (o : Int)) := by rw [← ho]; exact h.cellT 0 303 rfl
  have K97 := Lib.hid (c97 g k w h)
  rw [hn] at K97
  have K96 := Lib.hid (c96 g k o r n v e q w h ho hr hr16 hq KA)
  have HW := Lib.hid h
  have hl := Blk.lt h
  have K95 : Hid (∀ w1, Wk w1 g k → Calls Tryz.prog 95 #[.pointer (some ⟨g, 0, none⟩), (numQ v).v] w1 fun e w' => e = .returned (.tuple #[]) ∧ Wk w' g (k.putN rd (numQ v)) ∧ Only g w1 w') := Lib.hid (fun w1 h1 => c95 g k (numQ v) w1 h1 rd hd hd16)
  have b1 : ((o : Int) == 67) = false := by rw [beq_eq_false_iff_ne]; omega
  have b2 : decide ((o : Int) ≤ 10) = false := decide_eq_false (by omega)
  have b3 : decide ((o : Int) ≤ 16) = false := decide_eq_false (by omega)
  have b4 : decide ((o : Int) ≤ 20) = false := decide_eq_false (by omega)
  have b5 : decide ((o : Int) ≤ 29) = true := decide_eq_true (by omega)
  clear h ho hr hd hq hn KA ho1 ho2
  go_enter Tryz.func61, Tryz.ntmps61
  go_wp2_with fail
  refine K97.out.mono ?_
  rintro _ _ ⟨rfl, rfl⟩
  go_wp2_with fail
  refine K96.out.mono ?_
  rintro _ w1 ⟨rfl, hb1⟩
  have HB1 := Lib.hid hb1
  have K95' := Lib.hid (K95.out w1 (Blk.below HW.out hb1 hl))
  clear hb1 x
  go_wp2_with fail
  refine K95'.out.mono ?_
  rintro _ w2 ⟨rfl, hk2, ho2⟩
  have HK2 := Lib.hid hk2
  have HO2 := Lib.hid (((Only.refl g w).below HB1.out).trans ho2)
  clear hk2 ho2
  go_wp2_with fail
  go_end0
  exact ⟨rfl, HK2.out, HO2.out⟩
end Go.Proofs.YtnkoknfihhdelaaGreatDoor
