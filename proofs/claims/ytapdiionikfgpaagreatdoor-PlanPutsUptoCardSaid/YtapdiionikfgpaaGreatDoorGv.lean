import Derived.Test.YtapdiionikfgpaaGreatDoorRiz
import Derived.BigQuiet
namespace Go.Proofs.YtapdiionikfgpaaGreatDoor
open Go.ChangeShapes Go.WideShapes Go.ChangeAt Go.RowKit
set_option linter.unusedVariables false
set_option linter.unusedSimpArgs false
/-- the reference's lines so far -/
def WQ (w : World) (wb B : Nat) (V : Value) (LS : List (List ByteArray)) : Prop := Bx w wb #[V] 106 ∧ Li.RdOut B V (LS.map (fun l => (0, l))) w ∧ wb < B
theorem WQ.below {w w' : World} {wb B : Nat} {V : Value} {LS : List (List ByteArray)} (h : WQ w wb B V LS) (hb : Below w.heap.size w w') : WQ w' wb B V LS := ⟨h.1.below hb, rdo_kept h.2.1 hb, h.2.2⟩
theorem Fk.allocQ {wb : Nat} {a b : World} (h : Fk wb a b) (hr : ∃ B V LS, WQ b wb B V LS) (o : Obj) : Fk wb a (b.alloc o) := h.trans (Fk.of ((Below.refl _ _).alloc (Nat.le_refl _) _) (by obtain ⟨B, V, LS, hr⟩ := hr; exact Nat.le_of_lt hr.1.lt))
/-- what the reference's text answers -/
def Tq (P : PlI) (W : World) (e : Ending) (w' : World) : Prop := ∃ A n c B, e = .returned (.slice A n c) ∧ Li.RdOut B (.slice A n c) ((txt P).map (fun l => (0, l))) w' ∧ Below W.heap.size W w'
/-- how far a list's lines are said -/
def RQ (wb B : Nat) (W0 : World) (n : Nat) (lsf : Nat → List (List ByteArray)) (i : Value) (wr : World) : Prop := ∃ k : Nat, k ≤ n ∧ i = .int .i64 (k : Int) ∧ Fk wb W0 wr ∧ ∃ V, WQ wr wb B V (lsf k)
set_option maxRecDepth 100000 in
set_option maxHeartbeats 4000000 in
/-- a line of 2 words more -/
theorem r64 (a0 a1 : ByteArray) (w : World) (wb B : Nat) (V : Value) (LS : List (List ByteArray)) (h : WQ w wb B V LS) (hB : B ≤ w.heap.size) (hl : LS.length ≤ 1073741824) :
    Calls Tryz.prog 64 #[.pointer (some ⟨wb, 0, none⟩), .string a0, .string a1] w fun e w' => e = .returned (.tuple #[]) ∧ (∃ V', WQ w' wb B V' (LS ++ [[a0, a1]])) ∧ Fk wb w w' := by
  obtain ⟨hbx, ⟨D, hD, hrow, hws⟩, hwB⟩ := h
  have hDl : D.length = LS.length := by have := congrArg List.length hD; simpa using this
  obtain ⟨AV, cV, hV, -⟩ := own_slice hrow
  subst hV
  obtain ⟨i0, hi0, hz0, hz1, hz2⟩ := info57
  have HI0 := Lib.hid hi0
  have HZ0 := Lib.hid hz0
  have HZ1 := Lib.hid hz1
  have HZ2 := Lib.hid hz2
  have HNL : Hid (D.length + 1 ≤ maxLen) := Lib.hid (by unfold maxLen; omega)
  have HNB : Hid ((D.length + 1) * 32 ≤ 140737488355328) := Lib.hid (by omega)
  have HB1 : Hid (Below w.heap.size w (w.alloc (.cells #[.string a0, .string a1] 9))) := Lib.hid ((Below.refl _ _).alloc (Nat.le_refl _) _)
  have HBA : Hid (Below w.heap.size w ((w.alloc (.cells #[.string a0, .string a1] 9)).alloc (.cells #[.int .i64 0, .slice (some ⟨w.heap.size, 0, none⟩) 2 2] 57))) := Lib.hid (HB1.out.alloc HB1.out.size _)
  have HED : Hid (((w.alloc (.cells #[.string a0, .string a1] 9)).alloc (.cells #[.int .i64 0, .slice (some ⟨w.heap.size, 0, none⟩) 2 2] 57)).ownsRow B 57 2 (.slice AV D.length cV) D.length (D.flatMap fun x => [.int .i64 (x.1 : Int), x.2.1])) := Lib.hid (hrow.kept (grown_of_below HBA.out none) (none_or _))
  have HBS : Hid (B ≤ ((w.alloc (.cells #[.string a0, .string a1] 9)).alloc (.cells #[.int .i64 0, .slice (some ⟨w.heap.size, 0, none⟩) 2 2] 57)).heap.size) := Lib.hid (Nat.le_trans hB HBA.out.size)
  have hs1 : (w.alloc (.cells #[.string a0, .string a1] 9)).heap.size = w.heap.size + 1 := by simp
  have HNW : Hid (∀ j u, ([.int .i64 0, .slice (some ⟨w.heap.size, 0, none⟩) 2 2] : List Value)[j]? = some u → ((w.alloc (.cells #[.string a0, .string a1] 9)).alloc (.cells #[.int .i64 0, .slice (some ⟨w.heap.size, 0, none⟩) 2 2] 57)).cell? ((⟨w.heap.size + 1, 0, none⟩ : Addr).add j) = some u) := Lib.hid (by
    have := World.news_of_block (heap_alloc_new (w.alloc (.cells #[.string a0, .string a1] 9)) (.cells #[.int .i64 0, .slice (some ⟨w.heap.size, 0, none⟩) 2 2] 57))
    rw [hs1] at this
    exact this)
  have HOC : Hid (∀ u ∈ ([.int .i64 0, .slice (some ⟨w.heap.size, 0, none⟩) 2 2] : List Value), u.oneCell' = true) := Lib.hid (by intro u hu; simp at hu; rcases hu with rfl | rfl <;> rfl)
  have HBXA : Hid (Bx ((w.alloc (.cells #[.string a0, .string a1] 9)).alloc (.cells #[.int .i64 0, .slice (some ⟨w.heap.size, 0, none⟩) 2 2] 57)) wb #[.slice AV D.length cV] 106) := Lib.hid (hbx.below HBA.out)
  have HWS : Hid (∀ x ∈ D, ((w.alloc (.cells #[.string a0, .string a1] 9)).alloc (.cells #[.int .i64 0, .slice (some ⟨w.heap.size, 0, none⟩) 2 2] 57)).ownsRow B 9 1 x.2.1 x.2.2.length (x.2.2.map Value.string)) := Lib.hid (fun x hx => (hws x hx).kept (grown_of_below HBA.out none) (none_or _))
  have HW1 : Hid (((w.alloc (.cells #[.string a0, .string a1] 9)).alloc (.cells #[.int .i64 0, .slice (some ⟨w.heap.size, 0, none⟩) 2 2] 57)).ownsRow B 9 1 (.slice (some ⟨w.heap.size, 0, none⟩) 2 2) 2 ([a0, a1].map .string)) := Lib.hid ((own_words w B [a0, a1] hB (by simp)).kept (grown_of_below ((Below.refl _ _).alloc (Nat.le_refl _) _) none) (none_or _))
  have HD := Lib.hid hD
  have HWB := Lib.hid hwB
  have HBX := Lib.hid hbx
  have HLT : Hid (wb < w.heap.size) := Lib.hid hbx.lt
  have p0 := hbx.cell 0
  have a00 := HBXA.out.cell 0
  simp at p0 a00
  clear hi0 hz0 hz1 hz2 hbx hD hrow hws hB hl hDl hs1
  go_enter Tryz.func64, Tryz.ntmps64
  go_wp2_with (at_builtin; refine wpList_append_lies _ (by rfl) _ _ 37 (by rfl) B 57 i0 (.agg #[.int .i64 0, .slice none 0 0]) 2 32 Tryz.underlying37 HI0.out HZ0.out HZ1.out HZ2.out rfl (by decide) (.slice AV D.length cV) D.length _ (by rfl) HED.out ⟨w.heap.size + 1, 0, none⟩ 1 1 [.int .i64 0, .slice (some ⟨w.heap.size, 0, none⟩) 2 2] (by rfl) rfl HNW.out HOC.out (by decide) HNL.out HNB.out HBS.out _ rfl ?_; intro g5 c5 w8 hown5 hgrow5 hat5 hlt5; have HBX8 : Bx w8 wb #[.slice AV D.length cV] 106 := HBXA.out.grown hgrow5 (own_ne HED.out HBXA.out (by decide)); have y0 := HBX8.cell 0; have z0 := HBX8.frz 0; simp at y0)
  go_end0
  have hrow8 : w8.ownsRow B 57 2 (.slice (some ⟨g5, 0, none⟩) (D.length + 1) c5) (D ++ [((0, .slice (some ⟨w.heap.size, 0, none⟩) 2 2, [a0, a1]) : Nat × Value × List ByteArray)]).length ((D ++ [((0, .slice (some ⟨w.heap.size, 0, none⟩) 2 2, [a0, a1]) : Nat × Value × List ByteArray)]).flatMap fun x => [.int .i64 (x.1 : Int), x.2.1]) := by
    simpa using hown5
  have hg5B : wb < g5 := by
    rcases hat5 with e | e
    · have := (HED.out.lt g5 e).1
      have := HWB.out
      omega
    · have := HLT.out
      simp at e
      omega
  refine ⟨rfl, ⟨_, by simpa using HBX8.set 0 (.slice (some ⟨g5, 0, none⟩) (D.length + 1) c5), ⟨D ++ [((0, .slice (some ⟨w.heap.size, 0, none⟩) 2 2, [a0, a1]) : Nat × Value × List ByteArray)], by simp [HD.out], hrow8.kept (grown_set wb 0 _) (Or.inr (by simp [Value.ownBlock]; omega)), fun x hx => ?_⟩, HWB.out⟩, ⟨?_, fun j cs t fr h1 h2 h3 => ?_⟩⟩
  · have hk : ((w.alloc (.cells #[.string a0, .string a1] 9)).alloc (.cells #[.int .i64 0, .slice (some ⟨w.heap.size, 0, none⟩) 2 2] 57)).ownsRow B 9 1 x.2.1 x.2.2.length (x.2.2.map Value.string) := by
      rcases List.mem_append.1 hx with hx | hx
      · exact HWS.out x hx
      · rw [List.mem_singleton.1 hx]; exact HW1.out
    have h8 := hk.kept hgrow5 (own_apart hk HED.out (by decide))
    exact h8.kept (grown_set wb 0 _) (own_off h8 HWB.out)
  · refine (Below.setCell ?_ (by simp) _)
    have h1 : Below wb w ((w.alloc (.cells #[.string a0, .string a1] 9)).alloc (.cells #[.int .i64 0, .slice (some ⟨w.heap.size, 0, none⟩) 2 2] 57)) := HBA.out.mono (Nat.le_of_lt HLT.out)
    exact h1.grown hgrow5 (by have := HBXA.out.lt; omega) (fun k hk => by have := (HED.out.lt k hk).1; have := HWB.out; omega)
  · rw [Below.heap_setCell _ _ _ _ (by show j ≠ wb; omega)]
    have h4 : ((w.alloc (.cells #[.string a0, .string a1] 9)).alloc (.cells #[.int .i64 0, .slice (some ⟨w.heap.size, 0, none⟩) 2 2] 57)).heap[j]? = some (.cells cs t fr) := by rw [HBA.out.block j (heap_lt h3)]; exact h3
    rw [hgrow5.block j (heap_lt h4) (own_ne HED.out h4 h2)]
    exact h4
set_option maxRecDepth 100000 in
set_option maxHeartbeats 4000000 in
/-- a line of 3 words more -/
theorem r65 (a0 a1 a2 : ByteArray) (w : World) (wb B : Nat) (V : Value) (LS : List (List ByteArray)) (h : WQ w wb B V LS) (hB : B ≤ w.heap.size) (hl : LS.length ≤ 1073741824) :
    Calls Tryz.prog 65 #[.pointer (some ⟨wb, 0, none⟩), .string a0, .string a1, .string a2] w fun e w' => e = .returned (.tuple #[]) ∧ (∃ V', WQ w' wb B V' (LS ++ [[a0, a1, a2]])) ∧ Fk wb w w' := by
  obtain ⟨hbx, ⟨D, hD, hrow, hws⟩, hwB⟩ := h
  have hDl : D.length = LS.length := by have := congrArg List.length hD; simpa using this
  obtain ⟨AV, cV, hV, -⟩ := own_slice hrow
  subst hV
  obtain ⟨i0, hi0, hz0, hz1, hz2⟩ := info57
  have HI0 := Lib.hid hi0
  have HZ0 := Lib.hid hz0
  have HZ1 := Lib.hid hz1
  have HZ2 := Lib.hid hz2
  have HNL : Hid (D.length + 1 ≤ maxLen) := Lib.hid (by unfold maxLen; omega)
  have HNB : Hid ((D.length + 1) * 32 ≤ 140737488355328) := Lib.hid (by omega)
  have HB1 : Hid (Below w.heap.size w (w.alloc (.cells #[.string a0, .string a1, .string a2] 9))) := Lib.hid ((Below.refl _ _).alloc (Nat.le_refl _) _)
  have HBA : Hid (Below w.heap.size w ((w.alloc (.cells #[.string a0, .string a1, .string a2] 9)).alloc (.cells #[.int .i64 0, .slice (some ⟨w.heap.size, 0, none⟩) 3 3] 57))) := Lib.hid (HB1.out.alloc HB1.out.size _)
  have HED : Hid (((w.alloc (.cells #[.string a0, .string a1, .string a2] 9)).alloc (.cells #[.int .i64 0, .slice (some ⟨w.heap.size, 0, none⟩) 3 3] 57)).ownsRow B 57 2 (.slice AV D.length cV) D.length (D.flatMap fun x => [.int .i64 (x.1 : Int), x.2.1])) := Lib.hid (hrow.kept (grown_of_below HBA.out none) (none_or _))
  have HBS : Hid (B ≤ ((w.alloc (.cells #[.string a0, .string a1, .string a2] 9)).alloc (.cells #[.int .i64 0, .slice (some ⟨w.heap.size, 0, none⟩) 3 3] 57)).heap.size) := Lib.hid (Nat.le_trans hB HBA.out.size)
  have hs1 : (w.alloc (.cells #[.string a0, .string a1, .string a2] 9)).heap.size = w.heap.size + 1 := by simp
  have HNW : Hid (∀ j u, ([.int .i64 0, .slice (some ⟨w.heap.size, 0, none⟩) 3 3] : List Value)[j]? = some u → ((w.alloc (.cells #[.string a0, .string a1, .string a2] 9)).alloc (.cells #[.int .i64 0, .slice (some ⟨w.heap.size, 0, none⟩) 3 3] 57)).cell? ((⟨w.heap.size + 1, 0, none⟩ : Addr).add j) = some u) := Lib.hid (by
    have := World.news_of_block (heap_alloc_new (w.alloc (.cells #[.string a0, .string a1, .string a2] 9)) (.cells #[.int .i64 0, .slice (some ⟨w.heap.size, 0, none⟩) 3 3] 57))
    rw [hs1] at this
    exact this)
  have HOC : Hid (∀ u ∈ ([.int .i64 0, .slice (some ⟨w.heap.size, 0, none⟩) 3 3] : List Value), u.oneCell' = true) := Lib.hid (by intro u hu; simp at hu; rcases hu with rfl | rfl <;> rfl)
  have HBXA : Hid (Bx ((w.alloc (.cells #[.string a0, .string a1, .string a2] 9)).alloc (.cells #[.int .i64 0, .slice (some ⟨w.heap.size, 0, none⟩) 3 3] 57)) wb #[.slice AV D.length cV] 106) := Lib.hid (hbx.below HBA.out)
  have HWS : Hid (∀ x ∈ D, ((w.alloc (.cells #[.string a0, .string a1, .string a2] 9)).alloc (.cells #[.int .i64 0, .slice (some ⟨w.heap.size, 0, none⟩) 3 3] 57)).ownsRow B 9 1 x.2.1 x.2.2.length (x.2.2.map Value.string)) := Lib.hid (fun x hx => (hws x hx).kept (grown_of_below HBA.out none) (none_or _))
  have HW1 : Hid (((w.alloc (.cells #[.string a0, .string a1, .string a2] 9)).alloc (.cells #[.int .i64 0, .slice (some ⟨w.heap.size, 0, none⟩) 3 3] 57)).ownsRow B 9 1 (.slice (some ⟨w.heap.size, 0, none⟩) 3 3) 3 ([a0, a1, a2].map .string)) := Lib.hid ((own_words w B [a0, a1, a2] hB (by simp)).kept (grown_of_below ((Below.refl _ _).alloc (Nat.le_refl _) _) none) (none_or _))
  have HD := Lib.hid hD
  have HWB := Lib.hid hwB
  have HBX := Lib.hid hbx
  have HLT : Hid (wb < w.heap.size) := Lib.hid hbx.lt
  have p0 := hbx.cell 0
  have a00 := HBXA.out.cell 0
  simp at p0 a00
  clear hi0 hz0 hz1 hz2 hbx hD hrow hws hB hl hDl hs1
  go_enter Tryz.func65, Tryz.ntmps65
  go_wp2_with (at_builtin; refine wpList_append_lies _ (by rfl) _ _ 37 (by rfl) B 57 i0 (.agg #[.int .i64 0, .slice none 0 0]) 2 32 Tryz.underlying37 HI0.out HZ0.out HZ1.out HZ2.out rfl (by decide) (.slice AV D.length cV) D.length _ (by rfl) HED.out ⟨w.heap.size + 1, 0, none⟩ 1 1 [.int .i64 0, .slice (some ⟨w.heap.size, 0, none⟩) 3 3] (by rfl) rfl HNW.out HOC.out (by decide) HNL.out HNB.out HBS.out _ rfl ?_; intro g5 c5 w8 hown5 hgrow5 hat5 hlt5; have HBX8 : Bx w8 wb #[.slice AV D.length cV] 106 := HBXA.out.grown hgrow5 (own_ne HED.out HBXA.out (by decide)); have y0 := HBX8.cell 0; have z0 := HBX8.frz 0; simp at y0)
  go_end0
  have hrow8 : w8.ownsRow B 57 2 (.slice (some ⟨g5, 0, none⟩) (D.length + 1) c5) (D ++ [((0, .slice (some ⟨w.heap.size, 0, none⟩) 3 3, [a0, a1, a2]) : Nat × Value × List ByteArray)]).length ((D ++ [((0, .slice (some ⟨w.heap.size, 0, none⟩) 3 3, [a0, a1, a2]) : Nat × Value × List ByteArray)]).flatMap fun x => [.int .i64 (x.1 : Int), x.2.1]) := by
    simpa using hown5
  have hg5B : wb < g5 := by
    rcases hat5 with e | e
    · have := (HED.out.lt g5 e).1
      have := HWB.out
      omega
    · have := HLT.out
      simp at e
      omega
  refine ⟨rfl, ⟨_, by simpa using HBX8.set 0 (.slice (some ⟨g5, 0, none⟩) (D.length + 1) c5), ⟨D ++ [((0, .slice (some ⟨w.heap.size, 0, none⟩) 3 3, [a0, a1, a2]) : Nat × Value × List ByteArray)], by simp [HD.out], hrow8.kept (grown_set wb 0 _) (Or.inr (by simp [Value.ownBlock]; omega)), fun x hx => ?_⟩, HWB.out⟩, ⟨?_, fun j cs t fr h1 h2 h3 => ?_⟩⟩
  · have hk : ((w.alloc (.cells #[.string a0, .string a1, .string a2] 9)).alloc (.cells #[.int .i64 0, .slice (some ⟨w.heap.size, 0, none⟩) 3 3] 57)).ownsRow B 9 1 x.2.1 x.2.2.length (x.2.2.map Value.string) := by
      rcases List.mem_append.1 hx with hx | hx
      · exact HWS.out x hx
      · rw [List.mem_singleton.1 hx]; exact HW1.out
    have h8 := hk.kept hgrow5 (own_apart hk HED.out (by decide))
    exact h8.kept (grown_set wb 0 _) (own_off h8 HWB.out)
  · refine (Below.setCell ?_ (by simp) _)
    have h1 : Below wb w ((w.alloc (.cells #[.string a0, .string a1, .string a2] 9)).alloc (.cells #[.int .i64 0, .slice (some ⟨w.heap.size, 0, none⟩) 3 3] 57)) := HBA.out.mono (Nat.le_of_lt HLT.out)
    exact h1.grown hgrow5 (by have := HBXA.out.lt; omega) (fun k hk => by have := (HED.out.lt k hk).1; have := HWB.out; omega)
  · rw [Below.heap_setCell _ _ _ _ (by show j ≠ wb; omega)]
    have h4 : ((w.alloc (.cells #[.string a0, .string a1, .string a2] 9)).alloc (.cells #[.int .i64 0, .slice (some ⟨w.heap.size, 0, none⟩) 3 3] 57)).heap[j]? = some (.cells cs t fr) := by rw [HBA.out.block j (heap_lt h3)]; exact h3
    rw [hgrow5.block j (heap_lt h4) (own_ne HED.out h4 h2)]
    exact h4
set_option maxRecDepth 100000 in
set_option maxHeartbeats 4000000 in
/-- a line of 4 words more -/
theorem r67 (a0 a1 a2 a3 : ByteArray) (w : World) (wb B : Nat) (V : Value) (LS : List (List ByteArray)) (h : WQ w wb B V LS) (hB : B ≤ w.heap.size) (hl : LS.length ≤ 1073741824) :
    Calls Tryz.prog 67 #[.pointer (some ⟨wb, 0, none⟩), .string a0, .string a1, .string a2, .string a3] w fun e w' => e = .returned (.tuple #[]) ∧ (∃ V', WQ w' wb B V' (LS ++ [[a0, a1, a2, a3]])) ∧ Fk wb w w' := by
  obtain ⟨hbx, ⟨D, hD, hrow, hws⟩, hwB⟩ := h
  have hDl : D.length = LS.length := by have := congrArg List.length hD; simpa using this
  obtain ⟨AV, cV, hV, -⟩ := own_slice hrow
  subst hV
  obtain ⟨i0, hi0, hz0, hz1, hz2⟩ := info57
  have HI0 := Lib.hid hi0
  have HZ0 := Lib.hid hz0
  have HZ1 := Lib.hid hz1
  have HZ2 := Lib.hid hz2
  have HNL : Hid (D.length + 1 ≤ maxLen) := Lib.hid (by unfold maxLen; omega)
  have HNB : Hid ((D.length + 1) * 32 ≤ 140737488355328) := Lib.hid (by omega)
  have HB1 : Hid (Below w.heap.size w (w.alloc (.cells #[.string a0, .string a1, .string a2, .string a3] 9))) := Lib.hid ((Below.refl _ _).alloc (Nat.le_refl _) _)
  have HBA : Hid (Below w.heap.size w ((w.alloc (.cells #[.string a0, .string a1, .string a2, .string a3] 9)).alloc (.cells #[.int .i64 0, .slice (some ⟨w.heap.size, 0, none⟩) 4 4] 57))) := Lib.hid (HB1.out.alloc HB1.out.size _)
  have HED : Hid (((w.alloc (.cells #[.string a0, .string a1, .string a2, .string a3] 9)).alloc (.cells #[.int .i64 0, .slice (some ⟨w.heap.size, 0, none⟩) 4 4] 57)).ownsRow B 57 2 (.slice AV D.length cV) D.length (D.flatMap fun x => [.int .i64 (x.1 : Int), x.2.1])) := Lib.hid (hrow.kept (grown_of_below HBA.out none) (none_or _))
  have HBS : Hid (B ≤ ((w.alloc (.cells #[.string a0, .string a1, .string a2, .string a3] 9)).alloc (.cells #[.int .i64 0, .slice (some ⟨w.heap.size, 0, none⟩) 4 4] 57)).heap.size) := Lib.hid (Nat.le_trans hB HBA.out.size)
  have hs1 : (w.alloc (.cells #[.string a0, .string a1, .string a2, .string a3] 9)).heap.size = w.heap.size + 1 := by simp
  have HNW : Hid (∀ j u, ([.int .i64 0, .slice (some ⟨w.heap.size, 0, none⟩) 4 4] : List Value)[j]? = some u → ((w.alloc (.cells #[.string a0, .string a1, .string a2, .string a3] 9)).alloc (.cells #[.int .i64 0, .slice (some ⟨w.heap.size, 0, none⟩) 4 4] 57)).cell? ((⟨w.heap.size + 1, 0, none⟩ : Addr).add j) = some u) := Lib.hid (by
    have := World.news_of_block (heap_alloc_new (w.alloc (.cells #[.string a0, .string a1, .string a2, .string a3] 9)) (.cells #[.int .i64 0, .slice (some ⟨w.heap.size, 0, none⟩) 4 4] 57))
    rw [hs1] at this
    exact this)
  have HOC : Hid (∀ u ∈ ([.int .i64 0, .slice (some ⟨w.heap.size, 0, none⟩) 4 4] : List Value), u.oneCell' = true) := Lib.hid (by intro u hu; simp at hu; rcases hu with rfl | rfl <;> rfl)
  have HBXA : Hid (Bx ((w.alloc (.cells #[.string a0, .string a1, .string a2, .string a3] 9)).alloc (.cells #[.int .i64 0, .slice (some ⟨w.heap.size, 0, none⟩) 4 4] 57)) wb #[.slice AV D.length cV] 106) := Lib.hid (hbx.below HBA.out)
  have HWS : Hid (∀ x ∈ D, ((w.alloc (.cells #[.string a0, .string a1, .string a2, .string a3] 9)).alloc (.cells #[.int .i64 0, .slice (some ⟨w.heap.size, 0, none⟩) 4 4] 57)).ownsRow B 9 1 x.2.1 x.2.2.length (x.2.2.map Value.string)) := Lib.hid (fun x hx => (hws x hx).kept (grown_of_below HBA.out none) (none_or _))
  have HW1 : Hid (((w.alloc (.cells #[.string a0, .string a1, .string a2, .string a3] 9)).alloc (.cells #[.int .i64 0, .slice (some ⟨w.heap.size, 0, none⟩) 4 4] 57)).ownsRow B 9 1 (.slice (some ⟨w.heap.size, 0, none⟩) 4 4) 4 ([a0, a1, a2, a3].map .string)) := Lib.hid ((own_words w B [a0, a1, a2, a3] hB (by simp)).kept (grown_of_below ((Below.refl _ _).alloc (Nat.le_refl _) _) none) (none_or _))
  have HD := Lib.hid hD
  have HWB := Lib.hid hwB
  have HBX := Lib.hid hbx
  have HLT : Hid (wb < w.heap.size) := Lib.hid hbx.lt
  have p0 := hbx.cell 0
  have a00 := HBXA.out.cell 0
  simp at p0 a00
  clear hi0 hz0 hz1 hz2 hbx hD hrow hws hB hl hDl hs1
  go_enter Tryz.func67, Tryz.ntmps67
  go_wp2_with (at_builtin; refine wpList_append_lies _ (by rfl) _ _ 37 (by rfl) B 57 i0 (.agg #[.int .i64 0, .slice none 0 0]) 2 32 Tryz.underlying37 HI0.out HZ0.out HZ1.out HZ2.out rfl (by decide) (.slice AV D.length cV) D.length _ (by rfl) HED.out ⟨w.heap.size + 1, 0, none⟩ 1 1 [.int .i64 0, .slice (some ⟨w.heap.size, 0, none⟩) 4 4] (by rfl) rfl HNW.out HOC.out (by decide) HNL.out HNB.out HBS.out _ rfl ?_; intro g5 c5 w8 hown5 hgrow5 hat5 hlt5; have HBX8 : Bx w8 wb #[.slice AV D.length cV] 106 := HBXA.out.grown hgrow5 (own_ne HED.out HBXA.out (by decide)); have y0 := HBX8.cell 0; have z0 := HBX8.frz 0; simp at y0)
  go_end0
  have hrow8 : w8.ownsRow B 57 2 (.slice (some ⟨g5, 0, none⟩) (D.length + 1) c5) (D ++ [((0, .slice (some ⟨w.heap.size, 0, none⟩) 4 4, [a0, a1, a2, a3]) : Nat × Value × List ByteArray)]).length ((D ++ [((0, .slice (some ⟨w.heap.size, 0, none⟩) 4 4, [a0, a1, a2, a3]) : Nat × Value × List ByteArray)]).flatMap fun x => [.int .i64 (x.1 : Int), x.2.1]) := by
    simpa using hown5
  have hg5B : wb < g5 := by
    rcases hat5 with e | e
    · have := (HED.out.lt g5 e).1
      have := HWB.out
      omega
    · have := HLT.out
      simp at e
      omega
  refine ⟨rfl, ⟨_, by simpa using HBX8.set 0 (.slice (some ⟨g5, 0, none⟩) (D.length + 1) c5), ⟨D ++ [((0, .slice (some ⟨w.heap.size, 0, none⟩) 4 4, [a0, a1, a2, a3]) : Nat × Value × List ByteArray)], by simp [HD.out], hrow8.kept (grown_set wb 0 _) (Or.inr (by simp [Value.ownBlock]; omega)), fun x hx => ?_⟩, HWB.out⟩, ⟨?_, fun j cs t fr h1 h2 h3 => ?_⟩⟩
  · have hk : ((w.alloc (.cells #[.string a0, .string a1, .string a2, .string a3] 9)).alloc (.cells #[.int .i64 0, .slice (some ⟨w.heap.size, 0, none⟩) 4 4] 57)).ownsRow B 9 1 x.2.1 x.2.2.length (x.2.2.map Value.string) := by
      rcases List.mem_append.1 hx with hx | hx
      · exact HWS.out x hx
      · rw [List.mem_singleton.1 hx]; exact HW1.out
    have h8 := hk.kept hgrow5 (own_apart hk HED.out (by decide))
    exact h8.kept (grown_set wb 0 _) (own_off h8 HWB.out)
  · refine (Below.setCell ?_ (by simp) _)
    have h1 : Below wb w ((w.alloc (.cells #[.string a0, .string a1, .string a2, .string a3] 9)).alloc (.cells #[.int .i64 0, .slice (some ⟨w.heap.size, 0, none⟩) 4 4] 57)) := HBA.out.mono (Nat.le_of_lt HLT.out)
    exact h1.grown hgrow5 (by have := HBXA.out.lt; omega) (fun k hk => by have := (HED.out.lt k hk).1; have := HWB.out; omega)
  · rw [Below.heap_setCell _ _ _ _ (by show j ≠ wb; omega)]
    have h4 : ((w.alloc (.cells #[.string a0, .string a1, .string a2, .string a3] 9)).alloc (.cells #[.int .i64 0, .slice (some ⟨w.heap.size, 0, none⟩) 4 4] 57)).heap[j]? = some (.cells cs t fr) := by rw [HBA.out.block j (heap_lt h3)]; exact h3
    rw [hgrow5.block j (heap_lt h4) (own_ne HED.out h4 h2)]
    exact h4
set_option maxRecDepth 100000 in
set_option maxHeartbeats 4000000 in
/-- a line of 5 words more -/
theorem r66 (a0 a1 a2 a3 a4 : ByteArray) (w : World) (wb B : Nat) (V : Value) (LS : List (List ByteArray)) (h : WQ w wb B V LS) (hB : B ≤ w.heap.size) (hl : LS.length ≤ 1073741824) :
    Calls Tryz.prog 66 #[.pointer (some ⟨wb, 0, none⟩), .string a0, .string a1, .string a2, .string a3, .string a4] w fun e w' => e = .returned (.tuple #[]) ∧ (∃ V', WQ w' wb B V' (LS ++ [[a0, a1, a2, a3, a4]])) ∧ Fk wb w w' := by
  obtain ⟨hbx, ⟨D, hD, hrow, hws⟩, hwB⟩ := h
  have hDl : D.length = LS.length := by have := congrArg List.length hD; simpa using this
  obtain ⟨AV, cV, hV, -⟩ := own_slice hrow
  subst hV
  obtain ⟨i0, hi0, hz0, hz1, hz2⟩ := info57
  have HI0 := Lib.hid hi0
  have HZ0 := Lib.hid hz0
  have HZ1 := Lib.hid hz1
  have HZ2 := Lib.hid hz2
  have HNL : Hid (D.length + 1 ≤ maxLen) := Lib.hid (by unfold maxLen; omega)
  have HNB : Hid ((D.length + 1) * 32 ≤ 140737488355328) := Lib.hid (by omega)
  have HB1 : Hid (Below w.heap.size w (w.alloc (.cells #[.string a0, .string a1, .string a2, .string a3, .string a4] 9))) := Lib.hid ((Below.refl _ _).alloc (Nat.le_refl _) _)
  have HBA : Hid (Below w.heap.size w ((w.alloc (.cells #[.string a0, .string a1, .string a2, .string a3, .string a4] 9)).alloc (.cells #[.int .i64 0, .slice (some ⟨w.heap.size, 0, none⟩) 5 5] 57))) := Lib.hid (HB1.out.alloc HB1.out.size _)
  have HED : Hid (((w.alloc (.cells #[.string a0, .string a1, .string a2, .string a3, .string a4] 9)).alloc (.cells #[.int .i64 0, .slice (some ⟨w.heap.size, 0, none⟩) 5 5] 57)).ownsRow B 57 2 (.slice AV D.length cV) D.length (D.flatMap fun x => [.int .i64 (x.1 : Int), x.2.1])) := Lib.hid (hrow.kept (grown_of_below HBA.out none) (none_or _))
  have HBS : Hid (B ≤ ((w.alloc (.cells #[.string a0, .string a1, .string a2, .string a3, .string a4] 9)).alloc (.cells #[.int .i64 0, .slice (some ⟨w.heap.size, 0, none⟩) 5 5] 57)).heap.size) := Lib.hid (Nat.le_trans hB HBA.out.size)
  have hs1 : (w.alloc (.cells #[.string a0, .string a1, .string a2, .string a3, .string a4] 9)).heap.size = w.heap.size + 1 := by simp
  have HNW : Hid (∀ j u, ([.int .i64 0, .slice (some ⟨w.heap.size, 0, none⟩) 5 5] : List Value)[j]? = some u → ((w.alloc (.cells #[.string a0, .string a1, .string a2, .string a3, .string a4] 9)).alloc (.cells #[.int .i64 0, .slice (some ⟨w.heap.size, 0, none⟩) 5 5] 57)).cell? ((⟨w.heap.size + 1, 0, none⟩ : Addr).add j) = some u) := Lib.hid (by
    have := World.news_of_block (heap_alloc_new (w.alloc (.cells #[.string a0, .string a1, .string a2, .string a3, .string a4] 9)) (.cells #[.int .i64 0, .slice (some ⟨w.heap.size, 0, none⟩) 5 5] 57))
    rw [hs1] at this
    exact this)
  have HOC : Hid (∀ u ∈ ([.int .i64 0, .slice (some ⟨w.heap.size, 0, none⟩) 5 5] : List Value), u.oneCell' = true) := Lib.hid (by intro u hu; simp at hu; rcases hu with rfl | rfl <;> rfl)
  have HBXA : Hid (Bx ((w.alloc (.cells #[.string a0, .string a1, .string a2, .string a3, .string a4] 9)).alloc (.cells #[.int .i64 0, .slice (some ⟨w.heap.size, 0, none⟩) 5 5] 57)) wb #[.slice AV D.length cV] 106) := Lib.hid (hbx.below HBA.out)
  have HWS : Hid (∀ x ∈ D, ((w.alloc (.cells #[.string a0, .string a1, .string a2, .string a3, .string a4] 9)).alloc (.cells #[.int .i64 0, .slice (some ⟨w.heap.size, 0, none⟩) 5 5] 57)).ownsRow B 9 1 x.2.1 x.2.2.length (x.2.2.map Value.string)) := Lib.hid (fun x hx => (hws x hx).kept (grown_of_below HBA.out none) (none_or _))
  have HW1 : Hid (((w.alloc (.cells #[.string a0, .string a1, .string a2, .string a3, .string a4] 9)).alloc (.cells #[.int .i64 0, .slice (some ⟨w.heap.size, 0, none⟩) 5 5] 57)).ownsRow B 9 1 (.slice (some ⟨w.heap.size, 0, none⟩) 5 5) 5 ([a0, a1, a2, a3, a4].map .string)) := Lib.hid ((own_words w B [a0, a1, a2, a3, a4] hB (by simp)).kept (grown_of_below ((Below.refl _ _).alloc (Nat.le_refl _) _) none) (none_or _))
  have HD := Lib.hid hD
  have HWB := Lib.hid hwB
  have HBX := Lib.hid hbx
  have HLT : Hid (wb < w.heap.size) := Lib.hid hbx.lt
  have p0 := hbx.cell 0
  have a00 := HBXA.out.cell 0
  simp at p0 a00
  clear hi0 hz0 hz1 hz2 hbx hD hrow hws hB hl hDl hs1
  go_enter Tryz.func66, Tryz.ntmps66
  go_wp2_with (at_builtin; refine wpList_append_lies _ (by rfl) _ _ 37 (by rfl) B 57 i0 (.agg #[.int .i64 0, .slice none 0 0]) 2 32 Tryz.underlying37 HI0.out HZ0.out HZ1.out HZ2.out rfl (by decide) (.slice AV D.length cV) D.length _ (by rfl) HED.out ⟨w.heap.size + 1, 0, none⟩ 1 1 [.int .i64 0, .slice (some ⟨w.heap.size, 0, none⟩) 5 5] (by rfl) rfl HNW.out HOC.out (by decide) HNL.out HNB.out HBS.out _ rfl ?_; intro g5 c5 w8 hown5 hgrow5 hat5 hlt5; have HBX8 : Bx w8 wb #[.slice AV D.length cV] 106 := HBXA.out.grown hgrow5 (own_ne HED.out HBXA.out (by decide)); have y0 := HBX8.cell 0; have z0 := HBX8.frz 0; simp at y0)
  go_end0
  have hrow8 : w8.ownsRow B 57 2 (.slice (some ⟨g5, 0, none⟩) (D.length + 1) c5) (D ++ [((0, .slice (some ⟨w.heap.size, 0, none⟩) 5 5, [a0, a1, a2, a3, a4]) : Nat × Value × List ByteArray)]).length ((D ++ [((0, .slice (some ⟨w.heap.size, 0, none⟩) 5 5, [a0, a1, a2, a3, a4]) : Nat × Value × List ByteArray)]).flatMap fun x => [.int .i64 (x.1 : Int), x.2.1]) := by
    simpa using hown5
  have hg5B : wb < g5 := by
    rcases hat5 with e | e
    · have := (HED.out.lt g5 e).1
      have := HWB.out
      omega
    · have := HLT.out
      simp at e
      omega
  refine ⟨rfl, ⟨_, by simpa using HBX8.set 0 (.slice (some ⟨g5, 0, none⟩) (D.length + 1) c5), ⟨D ++ [((0, .slice (some ⟨w.heap.size, 0, none⟩) 5 5, [a0, a1, a2, a3, a4]) : Nat × Value × List ByteArray)], by simp [HD.out], hrow8.kept (grown_set wb 0 _) (Or.inr (by simp [Value.ownBlock]; omega)), fun x hx => ?_⟩, HWB.out⟩, ⟨?_, fun j cs t fr h1 h2 h3 => ?_⟩⟩
  · have hk : ((w.alloc (.cells #[.string a0, .string a1, .string a2, .string a3, .string a4] 9)).alloc (.cells #[.int .i64 0, .slice (some ⟨w.heap.size, 0, none⟩) 5 5] 57)).ownsRow B 9 1 x.2.1 x.2.2.length (x.2.2.map Value.string) := by
      rcases List.mem_append.1 hx with hx | hx
      · exact HWS.out x hx
      · rw [List.mem_singleton.1 hx]; exact HW1.out
    have h8 := hk.kept hgrow5 (own_apart hk HED.out (by decide))
    exact h8.kept (grown_set wb 0 _) (own_off h8 HWB.out)
  · refine (Below.setCell ?_ (by simp) _)
    have h1 : Below wb w ((w.alloc (.cells #[.string a0, .string a1, .string a2, .string a3, .string a4] 9)).alloc (.cells #[.int .i64 0, .slice (some ⟨w.heap.size, 0, none⟩) 5 5] 57)) := HBA.out.mono (Nat.le_of_lt HLT.out)
    exact h1.grown hgrow5 (by have := HBXA.out.lt; omega) (fun k hk => by have := (HED.out.lt k hk).1; have := HWB.out; omega)
  · rw [Below.heap_setCell _ _ _ _ (by show j ≠ wb; omega)]
    have h4 : ((w.alloc (.cells #[.string a0, .string a1, .string a2, .string a3, .string a4] 9)).alloc (.cells #[.int .i64 0, .slice (some ⟨w.heap.size, 0, none⟩) 5 5] 57)).heap[j]? = some (.cells cs t fr) := by rw [HBA.out.block j (heap_lt h3)]; exact h3
    rw [hgrow5.block j (heap_lt h4) (own_ne HED.out h4 h2)]
    exact h4
set_option maxRecDepth 100000 in
set_option maxHeartbeats 4000000 in
/-- name -/
theorem r68 (SV CV : Value) (P : PlI) (D : List (Sv × CoI)) (i : Int) (w : World) (h : PlL w SV CV P D) (hb : D.length ≤ 1048576) :
    Calls Tryz.prog 68 #[plV SV CV P, .int .i64 i] w fun e w' => e = .returned (.string ((nmC P.cs i).getD ⟨#[]⟩)) ∧ Below w.heap.size w w' := by
  have hdl : D.length = P.cs.length := by rw [← h.2.2.1]; simp
  have hmc : P.cs = D.map (·.2) := h.2.2.1.symm
  obtain ⟨AS, sc, hsv, -⟩ := h.1
  obtain ⟨AC, cc, hcv, gc⟩ := h.2.1
  subst hsv hcv
  unfold plV
  have HB : Hid (Below w.heap.size w (w.alloc (.cells #[.int .i64 P.st, .int .i64 P.tr, .slice AS P.ss.length sc, .slice AC D.length cc, .int .i64 P.s0, .string P.mn] 25))) := Lib.hid ((Below.refl _ _).alloc (Nat.le_refl _) _)
  have HX := Lib.hid (bx_alloc' w #[.int .i64 P.st, .int .i64 P.tr, .slice AS P.ss.length sc, .slice AC D.length cc, .int .i64 P.s0, .string P.mn] 25)
  have t3 := HX.out.cell 3
  simp at t3
  by_cases hin : 0 ≤ i ∧ i < (D.length : Int)
  · obtain ⟨k, rfl⟩ : ∃ k : Nat, i = (k : Int) := ⟨i.toNat, by omega⟩
    have hk : k < D.length := by omega
    obtain ⟨x, hx⟩ : ∃ x, D[k]? = some x := ⟨_, List.getElem?_eq_getElem hk⟩
    have HN : Hid (nmC P.cs (k : Int) = some x.2.nm) := Lib.hid (by unfold nmC; rw [if_pos (by omega), hmc]; simp [hx])
    obtain ⟨b, o, rfl, hb', hc⟩ := gc (by omega)
    have p0 : (w.alloc (.cells #[.int .i64 P.st, .int .i64 P.tr, .slice AS P.ss.length sc, .slice (some ⟨b, o, none⟩) D.length cc, .int .i64 P.s0, .string P.mn] 25)).cell? ⟨b, o + k * 6, none⟩ = some (.string x.2.nm) := (HB.out.cell (p := ⟨b, o + k * 6, none⟩) hb').trans (hc k x hx 0 _ rfl)
    have e1 : decide ((k : Int) < 0) = false := by simp
    have e2 : decide ((D.length : Int) ≤ (k : Int)) = false := by simp; omega
    have e3 : decide (D.length ≤ k) = false := by simp; omega
    have hkn : (k : Int) < (D.length : Int) := by omega
    have hkw : IntKind.i64.wrap (k : Int) = (k : Int) := by rw [IntKind.wrap_i64]; omega
    clear h hin hc hb' hx hk hdl hmc gc
    go_enter Tryz.func68, Tryz.ntmps68
    go_wp2_with fail
    go_ret
    exact ⟨by rw [HN.out]; rfl, HB.out⟩
  · have HN : Hid (nmC P.cs i = none) := Lib.hid (by
      unfold nmC
      by_cases h0 : 0 ≤ i
      · rw [if_pos h0, hmc, List.getElem?_eq_none (by simp; omega)]; rfl
      · rw [if_neg h0])
    by_cases h0 : i < 0
    · have e1 : decide (i < 0) = true := by simp; omega
      clear h hin h0 gc hdl hmc
      go_enter Tryz.func68, Tryz.ntmps68
      go_wp2_with fail
      go_ret
      exact ⟨by rw [HN.out]; rfl, HB.out⟩
    · have e1 : decide (i < 0) = false := by simp; omega
      have e2 : decide ((D.length : Int) ≤ i) = true := by simp; omega
      clear h hin h0 gc hdl hmc
      go_enter Tryz.func68, Tryz.ntmps68
      go_wp2_with fail
      go_ret
      exact ⟨by rw [HN.out]; rfl, HB.out⟩
end Go.Proofs.YtapdiionikfgpaaGreatDoor
namespace Go.Proofs.YtapdiionikfgpaaGreatDoor
open Go.ChangeShapes Go.WideShapes Go.ChangeAt Go.RowKit
set_option linter.unusedVariables false
set_option linter.unusedSimpArgs false
set_option maxRecDepth 100000 in
set_option maxHeartbeats 16000000 in
/-- the reference's text -/
theorem r31 (SV CV : Value) (P : PlI) (D : List (Sv × CoI)) (w : World) (h : PlL w SV CV P D) (hb : BdP P) (hr : RgP P) (hG : Gt w) (hN : (txt P).length ≤ 1073741824) :
    Calls Tryz.prog 31 #[plV SV CV P] w fun e w' => Tq P w e w' := by
  have hdl : D.length = P.cs.length := by rw [← h.2.2.1]; simp
  have HDL := Lib.hid hdl
  have HD := Lib.hid h.2.2.1
  have HPL0 := Lib.hid h
  have HRG := Lib.hid hr
  have HBP := Lib.hid hb
  have HG0 := Lib.hid hG
  have HIS : Hid (∀ x ∈ D, IsS x.1.f ∧ IsS x.1.e ∧ IsS x.1.i ∧ IsS x.1.d ∧ IsS x.1.g) := Lib.hid (fun x hx => by have c1 := h.2.2.2 x hx; exact ⟨isS_ly c1.1, isS_ly c1.2.1, isS_ly c1.2.2.1, isS_ly c1.2.2.2.1, isS_ly c1.2.2.2.2⟩)
  have HMEM : Hid (∀ x ∈ D, x.2 ∈ P.cs) := Lib.hid (fun x hx => by rw [← h.2.2.1]; exact List.mem_map.2 ⟨x, hx, rfl⟩)
  have HTX : Hid (txt P = ([[kStack, tnI P.st], [kTrusted, tnI P.tr]] ++ P.ss.map shaL ++ D.flatMap (fun x => coLs P.ss x.2) ++ D.flatMap (fun x => x.2.is.map (impL P.cs x.2.nm))) ++ [[kStart, (nmC P.cs P.s0).getD ⟨#[]⟩, P.mn]]) := Lib.hid (by
    unfold txt
    rw [← h.2.2.1, fm_map, fm_map]
    simp)
  have HN0 : Hid (2 + P.ss.length + (D.flatMap (fun x => coLs P.ss x.2)).length + (D.flatMap (fun x => x.2.is.map (impL P.cs x.2.nm))).length + 1 ≤ 1073741824) := Lib.hid (by have := congrArg List.length HTX.out; simp at this; simp; omega)
  obtain ⟨AS, sc, hsv, -⟩ := h.1
  obtain ⟨AC, cc, hcv, -⟩ := h.2.1
  subst hsv hcv
  unfold plV
  obtain ⟨wb, hwb⟩ : ∃ wb, w.heap.size + 1 = wb := ⟨_, rfl⟩
  obtain ⟨B, hBB⟩ : ∃ B, wb + 1 = B := ⟨_, rfl⟩
  have HWB := Lib.hid hwb
  have HBB := Lib.hid hBB
  obtain ⟨W0, hW0⟩ : ∃ W0, (w.alloc (.cells #[.int .i64 P.st, .int .i64 P.tr, .slice AS P.ss.length sc, .slice AC D.length cc, .int .i64 P.s0, .string P.mn] 25)).alloc (.cells #[.slice none 0 0] 106) = W0 := ⟨_, rfl⟩
  have HBA : Hid (Below w.heap.size w W0) := Lib.hid (by rw [← hW0]; exact ((Below.refl _ _).alloc (Nat.le_refl _) _).alloc (by simp) _)
  have HPB : Hid (Bx W0 w.heap.size #[.int .i64 P.st, .int .i64 P.tr, .slice AS P.ss.length sc, .slice AC D.length cc, .int .i64 P.s0, .string P.mn] 25) := Lib.hid (by rw [← hW0]; exact (bx_alloc' w _ _).below ((Below.refl _ _).alloc (Nat.le_refl _) _))
  have HW0R : Hid (WQ W0 wb B (.slice none 0 0) []) := Lib.hid (by
    refine ⟨?_, ?_, by omega⟩
    · rw [← hW0, ← hwb]
      have := bx_alloc' (w.alloc (.cells #[.int .i64 P.st, .int .i64 P.tr, .slice AS P.ss.length sc, .slice AC D.length cc, .int .i64 P.s0, .string P.mn] 25)) #[.slice none 0 0] 106
      rw [show (w.alloc (.cells #[.int .i64 P.st, .int .i64 P.tr, .slice AS P.ss.length sc, .slice AC D.length cc, .int .i64 P.s0, .string P.mn] 25)).heap.size = w.heap.size + 1 from by simp] at this
      exact this
    · exact Li.rd_nil _ _)
  have HU : Hid (∀ W, Fk wb W0 W → Bx W w.heap.size #[.int .i64 P.st, .int .i64 P.tr, .slice AS P.ss.length sc, .slice AC D.length cc, .int .i64 P.s0, .string P.mn] 25 ∧ Below w.heap.size w W ∧ wb < W.heap.size ∧ B ≤ W.heap.size) := Lib.hid (fun W hW => by
    have h1 := HW0R.out.1.lt
    refine ⟨(hW.1.block w.heap.size (by omega)).trans HPB.out, HBA.out.trans (hW.1.mono (by omega)), Nat.lt_of_lt_of_le h1 hW.1.size, ?_⟩
    have := hW.1.size
    omega)
  have HPL : Hid (∀ W, Fk wb W0 W → PlL W (.slice AS P.ss.length sc) (.slice AC D.length cc) P D) := Lib.hid (fun W hW => h.below (HU.out W hW).2.1)
  have HGT : Hid (∀ W, Fk wb W0 W → Gt W) := Lib.hid (fun W hW => hG.below (HU.out W hW).2.1)
  have HF0 : Hid (Fk wb W0 W0) := Lib.hid (Fk.refl _ _)
  have y0 := HPB.out.cell 0
  simp at y0
  have HIT1 := Lib.hid (n56 P.st hr.1 W0 (hG.below HBA.out))
  have hs01 : (w.alloc (.cells #[.int .i64 P.st, .int .i64 P.tr, .slice AS P.ss.length sc, .slice AC D.length cc, .int .i64 P.s0, .string P.mn] 25)).heap.size = wb := by rw [← hwb]; simp
  clear h hb hr hG hN hdl
  go_enter Tryz.func31, Tryz.ntmps31
  go_wp2_with fail
  with_reducible refine HIT1.out.mono ?_
  rintro _ w1 ⟨rfl, hb1⟩
  have HF1 : Hid (Fk wb W0 w1) := Lib.hid (Fk.of hb1 (Nat.le_of_lt (HU.out _ HF0.out).2.2.1))
  have HR1 : Hid (WQ w1 wb B (.slice none 0 0) []) := Lib.hid (HW0R.out.below hb1)
  have HSY1 := Lib.hid (r64 kStack (tnI P.st) w1 wb B _ [] HR1.out (HU.out _ HF1.out).2.2.2 (by simp))
  clear hb1 HIT1 y0
  go_wp2_with fail
  refine HSY1.out.mono ?_
  rintro _ w2 ⟨rfl, ⟨V2, hv2⟩, hf2⟩
  have HF2 : Hid (Fk wb W0 w2) := Lib.hid (HF1.out.trans hf2)
  have HR2 : Hid (WQ w2 wb B V2 [[kStack, tnI P.st]]) := Lib.hid hv2
  have y1 := (HU.out _ HF2.out).1.cell 1
  simp at y1
  have HIT2 := Lib.hid (n56 P.tr HRG.out.2.1 w2 (HGT.out _ HF2.out))
  clear hv2 hf2 HSY1
  go_wp2_with fail
  with_reducible refine HIT2.out.mono ?_
  rintro _ w3 ⟨rfl, hb3⟩
  have HF3 : Hid (Fk wb W0 w3) := Lib.hid (HF2.out.trans (Fk.of hb3 (Nat.le_of_lt (HU.out _ HF2.out).2.2.1)))
  have HR3 : Hid (WQ w3 wb B V2 [[kStack, tnI P.st]]) := Lib.hid (HR2.out.below hb3)
  have HSY2 := Lib.hid (r64 kTrusted (tnI P.tr) w3 wb B _ _ HR3.out (HU.out _ HF3.out).2.2.2 (by simp))
  clear hb3 HIT2 y1
  go_wp2_with fail
  refine HSY2.out.mono ?_
  rintro _ w4 ⟨rfl, ⟨V4, hv4⟩, hf4⟩
  have HF4 : Hid (Fk wb W0 w4) := Lib.hid (HF3.out.trans hf4)
  have HR4 : Hid (WQ w4 wb B V4 [[kStack, tnI P.st], [kTrusted, tnI P.tr]]) := Lib.hid hv4
  clear hv4 hf4 HSY2
  go_wp2_with fail
  go_loopw [4] (fun i wr => RQ wb B W0 P.ss.length (fun k => [[kStack, tnI P.st], [kTrusted, tnI P.tr]] ++ (P.ss.take k).map shaL) i wr) (fun i _ => P.ss.length - (intOf i).toNat)
  case atStart => exact ⟨0, Nat.zero_le _, rfl, HF4.out, V4, by simpa using HR4.out⟩
  case round =>
    obtain ⟨k, hk, rfl, hfk, V5, hwr⟩ := hrel
    have HFA := Lib.hid hfk
    have HWA : Hid (WQ wr wb B V5 ([[kStack, tnI P.st], [kTrusted, tnI P.tr]] ++ (P.ss.take k).map shaL)) := Lib.hid hwr
    obtain ⟨hp, hbw, hwbr, hbr⟩ := HU.out wr hfk
    have y2 := hp.cell 2
    simp at y2
    clear hfk hwr hp hbw hwbr hbr
    by_cases hlt : k < P.ss.length
    · obtain ⟨x, hx⟩ : ∃ x, P.ss[k]? = some x := ⟨_, List.getElem?_eq_getElem hlt⟩
      obtain ⟨b, o, he, hb, hcc⟩ := (HPL0.out.1.at').2 (by omega)
      subst he
      have HS : Hid (∀ W, Fk wb wr W → W.cell? ⟨w.heap.size, 2, none⟩ = some (.slice (some ⟨b, o, none⟩) P.ss.length sc) ∧ W.cell? ⟨b, o + k * 2, none⟩ = some (.string x.1) ∧ W.cell? ⟨b, o + k * 2 + 1, none⟩ = some (.int .i64 x.2)) := Lib.hid (fun W hW => by
        obtain ⟨h1, h2, -⟩ := HU.out W (HFA.out.trans hW)
        exact ⟨by simpa using h1.cell 2, (h2.cell hb).trans (hcc k x hx 0 _ rfl), (h2.cell hb).trans (hcc k x hx 1 _ rfl)⟩)
      have hkn : (k : Int) < (P.ss.length : Int) := by omega
      have hkb : k ≤ 1048576 := by have := HBP.out.1; omega
      have hkw : IntKind.i64.wrap (k : Int) = (k : Int) := by rw [IntKind.wrap_i64]; omega
      have HLL : Hid (([[kStack, tnI P.st], [kTrusted, tnI P.tr]] ++ (P.ss.take k).map shaL).length ≤ 1073741824) := Lib.hid (by simp; have := HN0.out; omega)
      have HLS : Hid ([[kStack, tnI P.st], [kTrusted, tnI P.tr]] ++ (P.ss.take (k + 1)).map shaL = ([[kStack, tnI P.st], [kTrusted, tnI P.tr]] ++ (P.ss.take k).map shaL) ++ [shaL x]) := Lib.hid (ls_step shaL _ hx)
      have HXR := Lib.hid (HRG.out.2.2.1 x (List.mem_of_getElem? hx))
      have HLT := Lib.hid hlt
      clear hx hcc hb hlt
      go_upto_region 7 with fail
      have HWL : Hid (wb < wr.heap.size) := Lib.hid HWA.out.1.lt
      have HBA2 : Hid (B ≤ wr.heap.size) := Lib.hid (HU.out _ HFA.out).2.2.2
      have HFd : Hid (Fk wb wr wr.drew) := Lib.hid (Fk.of (Below.refl _ _).drew (Nat.le_of_lt HWL.out))
      have HWd : Hid (WQ wr.drew wb B V5 ([[kStack, tnI P.st], [kTrusted, tnI P.tr]] ++ (P.ss.take k).map shaL)) := Lib.hid (HWA.out.below (Below.refl _ _).drew)
      have HI := Lib.hid (HS.out _ HFd.out)
      have HCL0 : Hid (∀ W, Fk wb wr W → WQ W wb B V5 ([[kStack, tnI P.st], [kTrusted, tnI P.tr]] ++ (P.ss.take k).map shaL) → Calls Tryz.prog 56 #[.int .i64 x.2] W fun e w' => e = .returned (.string (tnI x.2)) ∧ Fk wb wr w' ∧ WQ w' wb B V5 ([[kStack, tnI P.st], [kTrusted, tnI P.tr]] ++ (P.ss.take k).map shaL)) := Lib.hid (fun W hW hR => by
        refine (n56 x.2 HXR.out W (HGT.out W (HFA.out.trans hW))).mono ?_
        rintro e w' ⟨h1, h2⟩
        exact ⟨h1, hW.trans (Fk.of h2 (Nat.le_of_lt hR.1.lt)), hR.below h2⟩)
      have HSAY : Hid (∀ W, Fk wb wr W → WQ W wb B V5 ([[kStack, tnI P.st], [kTrusted, tnI P.tr]] ++ (P.ss.take k).map shaL) → Calls Tryz.prog 65 #[.pointer (some ⟨wb, 0, none⟩), .string ⟨#[115, 104, 97, 114, 101]⟩, .string x.1, .string (tnI x.2)] W fun e w' => e = .returned (.tuple #[]) ∧ (∃ V', WQ w' wb B V' (([[kStack, tnI P.st], [kTrusted, tnI P.tr]] ++ (P.ss.take k).map shaL) ++ [shaL x])) ∧ Fk wb wr w') := Lib.hid (fun W hW hR => by
        refine (r65 kShare x.1 (tnI x.2) W wb B V5 ([[kStack, tnI P.st], [kTrusted, tnI P.tr]] ++ (P.ss.take k).map shaL) hR (Nat.le_trans HBA2.out hW.1.size) HLL.out).mono ?_
        rintro e w' ⟨h1, h2, h3⟩
        exact ⟨h1, h2, hW.trans h3⟩)
      go_region_held3 (fun W => W.cell? ⟨w.heap.size, 2, none⟩ = some (.slice (some ⟨b, o, none⟩) P.ss.length sc) ∧ W.cell? ⟨b, o + k * 2, none⟩ = some (.string x.1) ∧ W.cell? ⟨b, o + k * 2 + 1, none⟩ = some (.int .i64 x.2))
        (first | assumption | exact HI.out | (with_reducible exact HS.out _ (by assumption)) | (exact HS.out _ (Fk.allocQ hq6 ⟨_, _, _, hr6⟩ _)))
        (first
          | (go_at_call 56; (first | (with_reducible refine (HCL0.out _ HFd.out HWd.out).mono ?_)); rintro _ w6 ⟨rfl, hq6, hr6⟩)
          | (go_at_call 65; (with_reducible refine (HSAY.out _ hq6 hr6).mono ?_); rintro _ wz ⟨rfl, hwz, hfz⟩))
      all_goals
        have HFZ : Hid (Fk wb W0 wz) := Lib.hid (HFA.out.trans hfz)
        have HWZ := Lib.hid hwz
        clear hwz hfz HSAY HCL0 y2
        go_wp2_with fail
        go_roundw
        case rel => exact ⟨k + 1, HLT.out, by go_num, HFZ.out, by
          obtain ⟨V', hv⟩ := HWZ.out
          refine ⟨V', ?_⟩
          show WQ _ wb B V' ([[kStack, tnI P.st], [kTrusted, tnI P.tr]] ++ (P.ss.take (k + 1)).map shaL)
          rw [HLS.out]
          exact hv⟩
        case measure => simp [intOf]; have := HLT.out; omega
    · obtain rfl : k = P.ss.length := by omega
      have HRA : Hid (WQ wr wb B V5 ([[kStack, tnI P.st], [kTrusted, tnI P.tr]] ++ P.ss.map shaL)) := Lib.hid (by have := HWA.out; rw [List.take_length] at this; exact this)
      have HFA0 := Lib.hid HFA.out
      clear hk hlt HFA HWA
      go_wp2_with fail
      clear y2
      generalize wr = wa at *
      go_loopw [5, 6, 7, 8, 9, 10, 11] (fun i _ _ _ _ _ _ wr => RQ wb B W0 D.length (fun k => ([[kStack, tnI P.st], [kTrusted, tnI P.tr]] ++ P.ss.map shaL) ++ (D.take k).flatMap (fun x => coLs P.ss x.2)) i wr) (fun i _ _ _ _ _ _ _ => D.length - (intOf i).toNat)
      case atStart => exact ⟨0, Nat.zero_le _, rfl, HFA0.out, V5, by simpa using HRA.out⟩
      case round =>
        obtain ⟨k, hk, rfl, hfk, V6, hwr⟩ := hrel
        have HFK := Lib.hid hfk
        have HWR : Hid (WQ wr wb B V6 (([[kStack, tnI P.st], [kTrusted, tnI P.tr]] ++ P.ss.map shaL) ++ (D.take k).flatMap (fun x => coLs P.ss x.2))) := Lib.hid hwr
        obtain ⟨hp, hbw, hwbr, hbr⟩ := HU.out wr hfk
        have HWBR := Lib.hid hwbr
        have HBR := Lib.hid hbr
        have y3 := hp.cell 3
        simp at y3
        clear hfk hwr hp hbw hwbr hbr
        by_cases hlt : k < D.length
        · skip
          obtain ⟨x, hx⟩ : ∃ x, D[k]? = some x := ⟨_, List.getElem?_eq_getElem hlt⟩
          obtain ⟨b, o, he, hb, hcc⟩ := (HPL0.out.2.1.at').2 (by omega)
          have HCX : Hid (CoL w x) := Lib.hid (HPL0.out.2.2.2 x (List.mem_of_getElem? hx))
          have HBX := Lib.hid (HBP.out.2.2 _ (HMEM.out x (List.mem_of_getElem? hx)))
          have HXR := Lib.hid (HRG.out.2.2.2 _ (HMEM.out x (List.mem_of_getElem? hx)))
          obtain ⟨⟨F1, n1, c1, g1⟩, ⟨F2, n2, c2, g2⟩, ⟨F3, n3, c3, g3⟩, ⟨F4, n4, c4, g4⟩, ⟨F5, n5, c5, g5⟩⟩ := HIS.out x (List.mem_of_getElem? hx)
          obtain ⟨⟨xf, xe, xi, xd, xg⟩, xc⟩ := x
          simp only at g1 g2 g3 g4 g5 HBX HXR
          subst g1 g2 g3 g4 g5
          subst he
          have HPW := Lib.hid (HU.out _ HFK.out).2.1
          have q0 : wr.cell? ⟨b, o + k * 6, none⟩ = some (.string xc.nm) := (HPW.out.cell hb).trans (hcc k _ hx 0 _ rfl)
          have q1 : wr.cell? ⟨b, o + k * 6 + 1, none⟩ = some (.slice F1 n1 c1) := (HPW.out.cell hb).trans (hcc k _ hx 1 _ rfl)
          have q2 : wr.cell? ⟨b, o + k * 6 + 2, none⟩ = some (.slice F2 n2 c2) := (HPW.out.cell hb).trans (hcc k _ hx 2 _ rfl)
          have q3 : wr.cell? ⟨b, o + k * 6 + 3, none⟩ = some (.slice F3 n3 c3) := (HPW.out.cell hb).trans (hcc k _ hx 3 _ rfl)
          have q4 : wr.cell? ⟨b, o + k * 6 + 4, none⟩ = some (.slice F4 n4 c4) := (HPW.out.cell hb).trans (hcc k _ hx 4 _ rfl)
          have q5 : wr.cell? ⟨b, o + k * 6 + 5, none⟩ = some (.slice F5 n5 c5) := (HPW.out.cell hb).trans (hcc k _ hx 5 _ rfl)
          have hkn : (k : Int) < (D.length : Int) := by omega
          have hkb : k ≤ 1048576 := by have := HBP.out.2.1; have := HDL.out; omega
          have hkw : IntKind.i64.wrap (k : Int) = (k : Int) := by rw [IntKind.wrap_i64]; omega
          have HX := Lib.hid hx
          have HLT := Lib.hid hlt
          obtain rfl : n1 = xc.fs.length := HCX.out.1.at'.1
          obtain rfl : n2 = xc.es.length := HCX.out.2.1.at'.1
          obtain rfl : n3 = xc.is.length := HCX.out.2.2.1.at'.1
          obtain rfl : n4 = xc.ds.length := HCX.out.2.2.2.1.at'.1
          obtain rfl : n5 = xc.gs.length := HCX.out.2.2.2.2.at'.1
          have HLS : Hid (([[kStack, tnI P.st], [kTrusted, tnI P.tr]] ++ P.ss.map shaL) ++ (D.take (k + 1)).flatMap (fun x => coLs P.ss x.2) = (([[kStack, tnI P.st], [kTrusted, tnI P.tr]] ++ P.ss.map shaL) ++ (D.take k).flatMap (fun x => coLs P.ss x.2)) ++ coLs P.ss xc) := Lib.hid (fm_step (fun x => coLs P.ss x.2) _ hx)
          have HLN : Hid ((([[kStack, tnI P.st], [kTrusted, tnI P.tr]] ++ P.ss.map shaL) ++ (D.take k).flatMap (fun x => coLs P.ss x.2)).length + (1 + xc.fs.length + xc.es.length + xc.ds.length + xc.gs.length) ≤ 1073741824) := Lib.hid (by
            have h1 := fm_len (fun x : Sv × CoI => coLs P.ss x.2) hx
            have h2 : (coLs P.ss xc).length = 1 + xc.fs.length + xc.es.length + xc.ds.length + xc.gs.length := by unfold coLs; simp; omega
            simp only [h2] at h1
            simp only [List.length_append, List.length_map, List.length_cons, List.length_nil]
            have := HN0.out
            omega)
          clear hx hcc hb hlt
          go_wp2_with fail
          obtain ⟨wA, hwA⟩ : ∃ wA, wr.alloc (.cells #[.string xc.nm, .slice F1 xc.fs.length c1, .slice F2 xc.es.length c2, .slice F3 xc.is.length c3, .slice F4 xc.ds.length c4, .slice F5 xc.gs.length c5] 48) = wA := ⟨_, rfl⟩
          have HAB : Hid (Below wr.heap.size wr wA) := Lib.hid (by rw [← hwA]; exact (Below.refl _ _).alloc (Nat.le_refl _) _)
          have HXB : Hid (Bx wA wr.heap.size #[.string xc.nm, .slice F1 xc.fs.length c1, .slice F2 xc.es.length c2, .slice F3 xc.is.length c3, .slice F4 xc.ds.length c4, .slice F5 xc.gs.length c5] 48) := Lib.hid (by rw [← hwA]; exact bx_alloc' _ _ _)
          have HFW : Hid (Fk wb W0 wA) := Lib.hid (HFK.out.trans (Fk.of HAB.out (Nat.le_of_lt HWBR.out)))
          have HWA0 : Hid (WQ wA wb B V6 (([[kStack, tnI P.st], [kTrusted, tnI P.tr]] ++ P.ss.map shaL) ++ (D.take k).flatMap (fun x => coLs P.ss x.2))) := Lib.hid (HWR.out.below HAB.out)
          rw [hwA]
          clear hwA q0 q1 q2 q3 q4 q5
          obtain ⟨cb, hcb⟩ : ∃ cb, wr.heap.size = cb := ⟨_, rfl⟩
          rw [hcb] at HXB HWBR ⊢
          clear hcb HAB
          have HCB : Hid (∀ W, Fk wb wA W → Bx W cb #[.string xc.nm, .slice F1 xc.fs.length c1, .slice F2 xc.es.length c2, .slice F3 xc.is.length c3, .slice F4 xc.ds.length c4, .slice F5 xc.gs.length c5] 48) := Lib.hid (fun W hW => hW.bx HXB.out HWBR.out (by decide))
          have HSAY := Lib.hid (r64 kComp xc.nm wA wb B V6 (([[kStack, tnI P.st], [kTrusted, tnI P.tr]] ++ P.ss.map shaL) ++ (D.take k).flatMap (fun x => coLs P.ss x.2)) HWA0.out (HU.out _ HFW.out).2.2.2 (by have := HLN.out; omega))
          have s0 := HXB.out.cell 0
          simp at s0
          go_wp2_with fail
          refine HSAY.out.mono ?_
          rintro _ v0 ⟨rfl, ⟨U0, hu0⟩, hf0⟩
          have HR0 : Hid (WQ v0 wb B U0 ((([[kStack, tnI P.st], [kTrusted, tnI P.tr]] ++ P.ss.map shaL) ++ (D.take k).flatMap (fun x => coLs P.ss x.2)) ++ [[kComp, xc.nm]])) := Lib.hid hu0
          have HG0' : Hid (Fk wb wA v0) := Lib.hid hf0
          clear hu0 hf0 HSAY s0
          go_wp2_with fail
          go_loopw [7] (fun i wq => RQ wb B wA xc.fs.length (fun m => ((([[kStack, tnI P.st], [kTrusted, tnI P.tr]] ++ P.ss.map shaL) ++ (D.take k).flatMap (fun x => coLs P.ss x.2)) ++ [[kComp, xc.nm]]) ++ (xc.fs.take m).map (fileL xc.nm)) i wq) (fun i _ => xc.fs.length - (intOf i).toNat)
          case atStart => exact ⟨0, Nat.zero_le _, rfl, HG0'.out, U0, by simpa using HR0.out⟩
          case round =>
            obtain ⟨m, hm, rfl, hfk, U1, hwq⟩ := hrel
            have HFK2 := Lib.hid hfk
            have HFA : Hid (Fk wb W0 wr) := Lib.hid (HFW.out.trans hfk)
            have HWA : Hid (WQ wr wb B U1 (((([[kStack, tnI P.st], [kTrusted, tnI P.tr]] ++ P.ss.map shaL) ++ (D.take k).flatMap (fun x => coLs P.ss x.2)) ++ [[kComp, xc.nm]]) ++ (xc.fs.take m).map (fileL xc.nm))) := Lib.hid hwq
            have y4 := (HCB.out _ hfk).cell 1
            simp at y4
            clear hfk hwq
            by_cases hlt : m < xc.fs.length
            · obtain ⟨x, hy⟩ : ∃ x, xc.fs[m]? = some x := ⟨_, List.getElem?_eq_getElem hlt⟩
              obtain ⟨b4, o4, he4, hb4, hc4⟩ := (HCX.out.1.at').2 (show 0 < xc.fs.length by omega)
              replace he4 : F1 = some ⟨b4, o4, none⟩ := he4
              subst he4
              have HS : Hid (∀ W, Fk wb wr W → W.cell? ⟨cb, 0, none⟩ = some (.string xc.nm) ∧ W.cell? ⟨cb, 1, none⟩ = some (.slice (some ⟨b4, o4, none⟩) xc.fs.length c1) ∧ W.cell? ⟨b4, o4 + m * 2, none⟩ = some (.string x.1) ∧ W.cell? ⟨b4, o4 + m * 2 + 1, none⟩ = some (.bool x.2)) := Lib.hid (fun W hW => by
                obtain ⟨h0, h2, -⟩ := HU.out W (HFA.out.trans hW)
                have h1 := HCB.out W (HFK2.out.trans hW)
                exact ⟨by simpa using h1.cell 0, by simpa using h1.cell 1, (h2.cell hb4).trans (hc4 m x hy 0 _ rfl), (h2.cell hb4).trans (hc4 m x hy 1 _ rfl)⟩)
              have hmn : (m : Int) < (xc.fs.length : Int) := by omega
              have hmb : m ≤ 1048576 := by have := HBX.out.1; omega
              have hmw : IntKind.i64.wrap (m : Int) = (m : Int) := by rw [IntKind.wrap_i64]; omega
              have HLL : Hid ((((([[kStack, tnI P.st], [kTrusted, tnI P.tr]] ++ P.ss.map shaL) ++ (D.take k).flatMap (fun x => coLs P.ss x.2)) ++ [[kComp, xc.nm]]) ++ (xc.fs.take m).map (fileL xc.nm)).length ≤ 1073741824) := Lib.hid (by have h1 := HLN.out; simp only [List.length_append, List.length_map, List.length_cons, List.length_nil, List.length_take] at h1 ⊢; omega)
              have HLS4 : Hid (((([[kStack, tnI P.st], [kTrusted, tnI P.tr]] ++ P.ss.map shaL) ++ (D.take k).flatMap (fun x => coLs P.ss x.2)) ++ [[kComp, xc.nm]]) ++ (xc.fs.take (m + 1)).map (fileL xc.nm) = (((([[kStack, tnI P.st], [kTrusted, tnI P.tr]] ++ P.ss.map shaL) ++ (D.take k).flatMap (fun x => coLs P.ss x.2)) ++ [[kComp, xc.nm]]) ++ (xc.fs.take m).map (fileL xc.nm)) ++ [(fileL xc.nm) x]) := Lib.hid (ls_step (fileL xc.nm) _ hy)
              have HLT4 := Lib.hid hlt
              have HI0 := HS.out _ (Fk.refl _ _)
              obtain ⟨q0, q1, q2, q3⟩ := HI0
              clear hy hc4 hb4 hlt
              obtain ⟨x1, xb⟩ := x
              cases xb
              · simp only at q0 q1 q2 q3 HS HLS4
                go_upto_region 18 with fail
                have HWL : Hid (wb < wr.heap.size) := Lib.hid HWA.out.1.lt
                have HBA2 : Hid (B ≤ wr.heap.size) := Lib.hid (HU.out _ HFA.out).2.2.2
                have HFd : Hid (Fk wb wr wr.drew) := Lib.hid (Fk.of (Below.refl _ _).drew (Nat.le_of_lt HWL.out))
                have HWd : Hid (WQ wr.drew wb B U1 (((([[kStack, tnI P.st], [kTrusted, tnI P.tr]] ++ P.ss.map shaL) ++ (D.take k).flatMap (fun x => coLs P.ss x.2)) ++ [[kComp, xc.nm]]) ++ (xc.fs.take m).map (fileL xc.nm))) := Lib.hid (HWA.out.below (Below.refl _ _).drew)
                have HI := Lib.hid (HS.out _ HFd.out)
                have HSAY : Hid (∀ W, Fk wb wr W → WQ W wb B U1 (((([[kStack, tnI P.st], [kTrusted, tnI P.tr]] ++ P.ss.map shaL) ++ (D.take k).flatMap (fun x => coLs P.ss x.2)) ++ [[kComp, xc.nm]]) ++ (xc.fs.take m).map (fileL xc.nm)) → Calls Tryz.prog 65 #[.pointer (some ⟨wb, 0, none⟩), .string ⟨#[111, 98, 106, 101, 99, 116]⟩, .string xc.nm, .string x1] W fun e w' => e = .returned (.tuple #[]) ∧ (∃ V', WQ w' wb B V' ((((([[kStack, tnI P.st], [kTrusted, tnI P.tr]] ++ P.ss.map shaL) ++ (D.take k).flatMap (fun x => coLs P.ss x.2)) ++ [[kComp, xc.nm]]) ++ (xc.fs.take m).map (fileL xc.nm)) ++ [(fileL xc.nm) (x1, false)])) ∧ Fk wb wr w') := Lib.hid (fun W hW hR => by
                  refine (r65 kObject xc.nm x1 W wb B U1 (((([[kStack, tnI P.st], [kTrusted, tnI P.tr]] ++ P.ss.map shaL) ++ (D.take k).flatMap (fun x => coLs P.ss x.2)) ++ [[kComp, xc.nm]]) ++ (xc.fs.take m).map (fileL xc.nm)) hR (Nat.le_trans HBA2.out hW.1.size) HLL.out).mono ?_
                  rintro e w' ⟨h1, h2, h3⟩
                  exact ⟨h1, h2, hW.trans h3⟩)
                go_region_held3 (fun W => W.cell? ⟨cb, 0, none⟩ = some (.string xc.nm) ∧ W.cell? ⟨cb, 1, none⟩ = some (.slice (some ⟨b4, o4, none⟩) xc.fs.length c1) ∧ W.cell? ⟨b4, o4 + m * 2, none⟩ = some (.string x1) ∧ W.cell? ⟨b4, o4 + m * 2 + 1, none⟩ = some (.bool false))
                  (first | assumption | exact HI.out | (with_reducible exact HS.out _ (by assumption)) | (exact HS.out _ (Fk.allocQ hq6 ⟨_, _, _, hr6⟩ _)))
                  (first
                    | (go_at_call 65; (with_reducible refine (HSAY.out _ HFd.out HWd.out).mono ?_); rintro _ wz ⟨rfl, hwz, hfz⟩))
                all_goals
                  clear q0 q1 q2 q3 y4
                  have HFZ : Hid (Fk wb wA wz) := Lib.hid (HFK2.out.trans hfz)
                  have HWZ := Lib.hid hwz
                  clear hwz hfz HSAY
                  go_wp2_with fail
                  go_roundw
                  case rel => exact ⟨m + 1, HLT4.out, by go_num, HFZ.out, by
                    obtain ⟨V', hv⟩ := HWZ.out
                    refine ⟨V', ?_⟩
                    show WQ _ wb B V' (((([[kStack, tnI P.st], [kTrusted, tnI P.tr]] ++ P.ss.map shaL) ++ (D.take k).flatMap (fun x => coLs P.ss x.2)) ++ [[kComp, xc.nm]]) ++ (xc.fs.take (m + 1)).map (fileL xc.nm))
                    rw [HLS4.out]
                    exact hv⟩
                  case measure => simp [intOf]; have := HLT4.out; omega
              · simp only at q0 q1 q2 q3 HS HLS4
                go_upto_region 17 with fail
                have HWL : Hid (wb < wr.heap.size) := Lib.hid HWA.out.1.lt
                have HBA2 : Hid (B ≤ wr.heap.size) := Lib.hid (HU.out _ HFA.out).2.2.2
                have HFd : Hid (Fk wb wr wr.drew) := Lib.hid (Fk.of (Below.refl _ _).drew (Nat.le_of_lt HWL.out))
                have HWd : Hid (WQ wr.drew wb B U1 (((([[kStack, tnI P.st], [kTrusted, tnI P.tr]] ++ P.ss.map shaL) ++ (D.take k).flatMap (fun x => coLs P.ss x.2)) ++ [[kComp, xc.nm]]) ++ (xc.fs.take m).map (fileL xc.nm))) := Lib.hid (HWA.out.below (Below.refl _ _).drew)
                have HI := Lib.hid (HS.out _ HFd.out)
                have HSAY : Hid (∀ W, Fk wb wr W → WQ W wb B U1 (((([[kStack, tnI P.st], [kTrusted, tnI P.tr]] ++ P.ss.map shaL) ++ (D.take k).flatMap (fun x => coLs P.ss x.2)) ++ [[kComp, xc.nm]]) ++ (xc.fs.take m).map (fileL xc.nm)) → Calls Tryz.prog 65 #[.pointer (some ⟨wb, 0, none⟩), .string ⟨#[97, 114, 99, 104, 105, 118, 101]⟩, .string xc.nm, .string x1] W fun e w' => e = .returned (.tuple #[]) ∧ (∃ V', WQ w' wb B V' ((((([[kStack, tnI P.st], [kTrusted, tnI P.tr]] ++ P.ss.map shaL) ++ (D.take k).flatMap (fun x => coLs P.ss x.2)) ++ [[kComp, xc.nm]]) ++ (xc.fs.take m).map (fileL xc.nm)) ++ [(fileL xc.nm) (x1, true)])) ∧ Fk wb wr w') := Lib.hid (fun W hW hR => by
                  refine (r65 kArchive xc.nm x1 W wb B U1 (((([[kStack, tnI P.st], [kTrusted, tnI P.tr]] ++ P.ss.map shaL) ++ (D.take k).flatMap (fun x => coLs P.ss x.2)) ++ [[kComp, xc.nm]]) ++ (xc.fs.take m).map (fileL xc.nm)) hR (Nat.le_trans HBA2.out hW.1.size) HLL.out).mono ?_
                  rintro e w' ⟨h1, h2, h3⟩
                  exact ⟨h1, h2, hW.trans h3⟩)
                go_region_held3 (fun W => W.cell? ⟨cb, 0, none⟩ = some (.string xc.nm) ∧ W.cell? ⟨cb, 1, none⟩ = some (.slice (some ⟨b4, o4, none⟩) xc.fs.length c1) ∧ W.cell? ⟨b4, o4 + m * 2, none⟩ = some (.string x1) ∧ W.cell? ⟨b4, o4 + m * 2 + 1, none⟩ = some (.bool true))
                  (first | assumption | exact HI.out | (with_reducible exact HS.out _ (by assumption)) | (exact HS.out _ (Fk.allocQ hq6 ⟨_, _, _, hr6⟩ _)))
                  (first
                    | (go_at_call 65; (with_reducible refine (HSAY.out _ HFd.out HWd.out).mono ?_); rintro _ wz ⟨rfl, hwz, hfz⟩))
                all_goals
                  clear q0 q1 q2 q3 y4
                  have HFZ : Hid (Fk wb wA wz) := Lib.hid (HFK2.out.trans hfz)
                  have HWZ := Lib.hid hwz
                  clear hwz hfz HSAY
                  go_wp2_with fail
                  go_roundw
                  case rel => exact ⟨m + 1, HLT4.out, by go_num, HFZ.out, by
                    obtain ⟨V', hv⟩ := HWZ.out
                    refine ⟨V', ?_⟩
                    show WQ _ wb B V' (((([[kStack, tnI P.st], [kTrusted, tnI P.tr]] ++ P.ss.map shaL) ++ (D.take k).flatMap (fun x => coLs P.ss x.2)) ++ [[kComp, xc.nm]]) ++ (xc.fs.take (m + 1)).map (fileL xc.nm))
                    rw [HLS4.out]
                    exact hv⟩
                  case measure => simp [intOf]; have := HLT4.out; omega
            · obtain rfl : m = xc.fs.length := by omega
              have HR1 : Hid (WQ wr wb B U1 (((([[kStack, tnI P.st], [kTrusted, tnI P.tr]] ++ P.ss.map shaL) ++ (D.take k).flatMap (fun x => coLs P.ss x.2)) ++ [[kComp, xc.nm]]) ++ xc.fs.map (fileL xc.nm))) := Lib.hid (by have := HWA.out; rw [List.take_length] at this; exact this)
              have HG1' := Lib.hid HFK2.out
              clear hm hlt HFK2 HWA HFA
              go_wp2_with fail
              clear y4
              generalize wr = v1 at *
              go_loopw [8] (fun i wq => RQ wb B wA xc.es.length (fun m => (((([[kStack, tnI P.st], [kTrusted, tnI P.tr]] ++ P.ss.map shaL) ++ (D.take k).flatMap (fun x => coLs P.ss x.2)) ++ [[kComp, xc.nm]]) ++ xc.fs.map (fileL xc.nm)) ++ (xc.es.take m).map (expL xc.nm)) i wq) (fun i _ => xc.es.length - (intOf i).toNat)
              case atStart => exact ⟨0, Nat.zero_le _, rfl, HG1'.out, U1, by simpa using HR1.out⟩
              case round =>
                obtain ⟨m, hm, rfl, hfk, U2, hwq⟩ := hrel
                have HFK2 := Lib.hid hfk
                have HFA : Hid (Fk wb W0 wr) := Lib.hid (HFW.out.trans hfk)
                have HWA : Hid (WQ wr wb B U2 ((((([[kStack, tnI P.st], [kTrusted, tnI P.tr]] ++ P.ss.map shaL) ++ (D.take k).flatMap (fun x => coLs P.ss x.2)) ++ [[kComp, xc.nm]]) ++ xc.fs.map (fileL xc.nm)) ++ (xc.es.take m).map (expL xc.nm))) := Lib.hid hwq
                have y4 := (HCB.out _ hfk).cell 2
                simp at y4
                clear hfk hwq
                by_cases hlt : m < xc.es.length
                · obtain ⟨x, hy⟩ : ∃ x, xc.es[m]? = some x := ⟨_, List.getElem?_eq_getElem hlt⟩
                  obtain ⟨b4, o4, he4, hb4, hc4⟩ := (HCX.out.2.1.at').2 (show 0 < xc.es.length by omega)
                  replace he4 : F2 = some ⟨b4, o4, none⟩ := he4
                  subst he4
                  have HS : Hid (∀ W, Fk wb wr W → W.cell? ⟨cb, 0, none⟩ = some (.string xc.nm) ∧ W.cell? ⟨cb, 2, none⟩ = some (.slice (some ⟨b4, o4, none⟩) xc.es.length c2) ∧ W.cell? ⟨b4, o4 + m * 3, none⟩ = some (.string x.1) ∧ W.cell? ⟨b4, o4 + m * 3 + 1, none⟩ = some (.int .i64 x.2.1) ∧ W.cell? ⟨b4, o4 + m * 3 + 2, none⟩ = some (.int .i64 x.2.2)) := Lib.hid (fun W hW => by
                    obtain ⟨h0, h2, -⟩ := HU.out W (HFA.out.trans hW)
                    have h1 := HCB.out W (HFK2.out.trans hW)
                    exact ⟨by simpa using h1.cell 0, by simpa using h1.cell 2, (h2.cell hb4).trans (hc4 m x hy 0 _ rfl), (h2.cell hb4).trans (hc4 m x hy 1 _ rfl), (h2.cell hb4).trans (hc4 m x hy 2 _ rfl)⟩)
                  have hmn : (m : Int) < (xc.es.length : Int) := by omega
                  have hmb : m ≤ 1048576 := by have := HBX.out.2.1; omega
                  have hmw : IntKind.i64.wrap (m : Int) = (m : Int) := by rw [IntKind.wrap_i64]; omega
                  have HLL : Hid (((((([[kStack, tnI P.st], [kTrusted, tnI P.tr]] ++ P.ss.map shaL) ++ (D.take k).flatMap (fun x => coLs P.ss x.2)) ++ [[kComp, xc.nm]]) ++ xc.fs.map (fileL xc.nm)) ++ (xc.es.take m).map (expL xc.nm)).length ≤ 1073741824) := Lib.hid (by have h1 := HLN.out; simp only [List.length_append, List.length_map, List.length_cons, List.length_nil, List.length_take] at h1 ⊢; omega)
                  have HLS4 : Hid ((((([[kStack, tnI P.st], [kTrusted, tnI P.tr]] ++ P.ss.map shaL) ++ (D.take k).flatMap (fun x => coLs P.ss x.2)) ++ [[kComp, xc.nm]]) ++ xc.fs.map (fileL xc.nm)) ++ (xc.es.take (m + 1)).map (expL xc.nm) = ((((([[kStack, tnI P.st], [kTrusted, tnI P.tr]] ++ P.ss.map shaL) ++ (D.take k).flatMap (fun x => coLs P.ss x.2)) ++ [[kComp, xc.nm]]) ++ xc.fs.map (fileL xc.nm)) ++ (xc.es.take m).map (expL xc.nm)) ++ [(expL xc.nm) x]) := Lib.hid (ls_step (expL xc.nm) _ hy)
                  have HLT4 := Lib.hid hlt
                  have HXE := Lib.hid (HXR.out.1 x (List.mem_of_getElem? hy))
                  have HI0 := HS.out _ (Fk.refl _ _)
                  obtain ⟨q0, q1, q2, q3, q4⟩ := HI0
                  clear hy hc4 hb4 hlt
                  go_upto_region 22 with fail
                  have HWL : Hid (wb < wr.heap.size) := Lib.hid HWA.out.1.lt
                  have HBA2 : Hid (B ≤ wr.heap.size) := Lib.hid (HU.out _ HFA.out).2.2.2
                  have HFd : Hid (Fk wb wr wr.drew) := Lib.hid (Fk.of (Below.refl _ _).drew (Nat.le_of_lt HWL.out))
                  have HWd : Hid (WQ wr.drew wb B U2 ((((([[kStack, tnI P.st], [kTrusted, tnI P.tr]] ++ P.ss.map shaL) ++ (D.take k).flatMap (fun x => coLs P.ss x.2)) ++ [[kComp, xc.nm]]) ++ xc.fs.map (fileL xc.nm)) ++ (xc.es.take m).map (expL xc.nm))) := Lib.hid (HWA.out.below (Below.refl _ _).drew)
                  have HI := Lib.hid (HS.out _ HFd.out)
                  have HCL0 : Hid (∀ W, Fk wb wr W → WQ W wb B U2 ((((([[kStack, tnI P.st], [kTrusted, tnI P.tr]] ++ P.ss.map shaL) ++ (D.take k).flatMap (fun x => coLs P.ss x.2)) ++ [[kComp, xc.nm]]) ++ xc.fs.map (fileL xc.nm)) ++ (xc.es.take m).map (expL xc.nm)) → Calls Tryz.prog 56 #[.int .i64 x.2.1] W fun e w' => e = .returned (.string (tnI x.2.1)) ∧ Fk wb wr w' ∧ WQ w' wb B U2 ((((([[kStack, tnI P.st], [kTrusted, tnI P.tr]] ++ P.ss.map shaL) ++ (D.take k).flatMap (fun x => coLs P.ss x.2)) ++ [[kComp, xc.nm]]) ++ xc.fs.map (fileL xc.nm)) ++ (xc.es.take m).map (expL xc.nm))) := Lib.hid (fun W hW hR => by
                    refine (n56 x.2.1 HXE.out.1 W (HGT.out W (HFA.out.trans hW))).mono ?_
                    rintro e w' ⟨h1, h2⟩
                    exact ⟨h1, hW.trans (Fk.of h2 (Nat.le_of_lt hR.1.lt)), hR.below h2⟩)
                  have HCL1 : Hid (∀ W, Fk wb wr W → WQ W wb B U2 ((((([[kStack, tnI P.st], [kTrusted, tnI P.tr]] ++ P.ss.map shaL) ++ (D.take k).flatMap (fun x => coLs P.ss x.2)) ++ [[kComp, xc.nm]]) ++ xc.fs.map (fileL xc.nm)) ++ (xc.es.take m).map (expL xc.nm)) → Calls Tryz.prog 56 #[.int .i64 x.2.2] W fun e w' => e = .returned (.string (tnI x.2.2)) ∧ Fk wb wr w' ∧ WQ w' wb B U2 ((((([[kStack, tnI P.st], [kTrusted, tnI P.tr]] ++ P.ss.map shaL) ++ (D.take k).flatMap (fun x => coLs P.ss x.2)) ++ [[kComp, xc.nm]]) ++ xc.fs.map (fileL xc.nm)) ++ (xc.es.take m).map (expL xc.nm))) := Lib.hid (fun W hW hR => by
                    refine (n56 x.2.2 HXE.out.2 W (HGT.out W (HFA.out.trans hW))).mono ?_
                    rintro e w' ⟨h1, h2⟩
                    exact ⟨h1, hW.trans (Fk.of h2 (Nat.le_of_lt hR.1.lt)), hR.below h2⟩)
                  have HSAY : Hid (∀ W, Fk wb wr W → WQ W wb B U2 ((((([[kStack, tnI P.st], [kTrusted, tnI P.tr]] ++ P.ss.map shaL) ++ (D.take k).flatMap (fun x => coLs P.ss x.2)) ++ [[kComp, xc.nm]]) ++ xc.fs.map (fileL xc.nm)) ++ (xc.es.take m).map (expL xc.nm)) → Calls Tryz.prog 66 #[.pointer (some ⟨wb, 0, none⟩), .string ⟨#[101, 120, 112, 111, 114, 116]⟩, .string xc.nm, .string x.1, .string (tnI x.2.1), .string (tnI x.2.2)] W fun e w' => e = .returned (.tuple #[]) ∧ (∃ V', WQ w' wb B V' (((((([[kStack, tnI P.st], [kTrusted, tnI P.tr]] ++ P.ss.map shaL) ++ (D.take k).flatMap (fun x => coLs P.ss x.2)) ++ [[kComp, xc.nm]]) ++ xc.fs.map (fileL xc.nm)) ++ (xc.es.take m).map (expL xc.nm)) ++ [(expL xc.nm) x])) ∧ Fk wb wr w') := Lib.hid (fun W hW hR => by
                    refine (r66 kExport xc.nm x.1 (tnI x.2.1) (tnI x.2.2) W wb B U2 ((((([[kStack, tnI P.st], [kTrusted, tnI P.tr]] ++ P.ss.map shaL) ++ (D.take k).flatMap (fun x => coLs P.ss x.2)) ++ [[kComp, xc.nm]]) ++ xc.fs.map (fileL xc.nm)) ++ (xc.es.take m).map (expL xc.nm)) hR (Nat.le_trans HBA2.out hW.1.size) HLL.out).mono ?_
                    rintro e w' ⟨h1, h2, h3⟩
                    exact ⟨h1, h2, hW.trans h3⟩)
                  go_region_held3 (fun W => W.cell? ⟨cb, 0, none⟩ = some (.string xc.nm) ∧ W.cell? ⟨cb, 2, none⟩ = some (.slice (some ⟨b4, o4, none⟩) xc.es.length c2) ∧ W.cell? ⟨b4, o4 + m * 3, none⟩ = some (.string x.1) ∧ W.cell? ⟨b4, o4 + m * 3 + 1, none⟩ = some (.int .i64 x.2.1) ∧ W.cell? ⟨b4, o4 + m * 3 + 2, none⟩ = some (.int .i64 x.2.2))
                    (first | assumption | exact HI.out | (with_reducible exact HS.out _ (by assumption)) | (exact HS.out _ (Fk.allocQ hq6 ⟨_, _, _, hr6⟩ _)))
                    (first
                      | (go_at_call 56; (first | (with_reducible refine (HCL0.out _ hq6 hr6).mono ?_) | (with_reducible refine (HCL1.out _ hq6 hr6).mono ?_) | (with_reducible refine (HCL0.out _ HFd.out HWd.out).mono ?_) | (with_reducible refine (HCL1.out _ HFd.out HWd.out).mono ?_)); rintro _ w6 ⟨rfl, hq6, hr6⟩)
                      | (go_at_call 66; (with_reducible refine (HSAY.out _ hq6 hr6).mono ?_); rintro _ wz ⟨rfl, hwz, hfz⟩))
                  all_goals
                    clear q0 q1 q2 q3 q4 y4 HCL0 HCL1
                    have HFZ : Hid (Fk wb wA wz) := Lib.hid (HFK2.out.trans hfz)
                    have HWZ := Lib.hid hwz
                    clear hwz hfz HSAY
                    go_wp2_with fail
                    go_roundw
                    case rel => exact ⟨m + 1, HLT4.out, by go_num, HFZ.out, by
                      obtain ⟨V', hv⟩ := HWZ.out
                      refine ⟨V', ?_⟩
                      show WQ _ wb B V' ((((([[kStack, tnI P.st], [kTrusted, tnI P.tr]] ++ P.ss.map shaL) ++ (D.take k).flatMap (fun x => coLs P.ss x.2)) ++ [[kComp, xc.nm]]) ++ xc.fs.map (fileL xc.nm)) ++ (xc.es.take (m + 1)).map (expL xc.nm))
                      rw [HLS4.out]
                      exact hv⟩
                    case measure => simp [intOf]; have := HLT4.out; omega
                · obtain rfl : m = xc.es.length := by omega
                  have HR2 : Hid (WQ wr wb B U2 ((((([[kStack, tnI P.st], [kTrusted, tnI P.tr]] ++ P.ss.map shaL) ++ (D.take k).flatMap (fun x => coLs P.ss x.2)) ++ [[kComp, xc.nm]]) ++ xc.fs.map (fileL xc.nm)) ++ xc.es.map (expL xc.nm))) := Lib.hid (by have := HWA.out; rw [List.take_length] at this; exact this)
                  have HG2' := Lib.hid HFK2.out
                  clear hm hlt HFK2 HWA HFA
                  go_wp2_with fail
                  clear y4
                  generalize wr = v2 at *
                  go_loopw [9] (fun i wq => RQ wb B wA xc.ds.length (fun m => ((((([[kStack, tnI P.st], [kTrusted, tnI P.tr]] ++ P.ss.map shaL) ++ (D.take k).flatMap (fun x => coLs P.ss x.2)) ++ [[kComp, xc.nm]]) ++ xc.fs.map (fileL xc.nm)) ++ xc.es.map (expL xc.nm)) ++ (xc.ds.take m).map (devL xc.nm)) i wq) (fun i _ => xc.ds.length - (intOf i).toNat)
                  case atStart => exact ⟨0, Nat.zero_le _, rfl, HG2'.out, U2, by simpa using HR2.out⟩
                  case round =>
                    obtain ⟨m, hm, rfl, hfk, U3, hwq⟩ := hrel
                    have HFK2 := Lib.hid hfk
                    have HFA : Hid (Fk wb W0 wr) := Lib.hid (HFW.out.trans hfk)
                    have HWA : Hid (WQ wr wb B U3 (((((([[kStack, tnI P.st], [kTrusted, tnI P.tr]] ++ P.ss.map shaL) ++ (D.take k).flatMap (fun x => coLs P.ss x.2)) ++ [[kComp, xc.nm]]) ++ xc.fs.map (fileL xc.nm)) ++ xc.es.map (expL xc.nm)) ++ (xc.ds.take m).map (devL xc.nm))) := Lib.hid hwq
                    have y4 := (HCB.out _ hfk).cell 4
                    simp at y4
                    clear hfk hwq
                    by_cases hlt : m < xc.ds.length
                    · obtain ⟨x, hy⟩ : ∃ x, xc.ds[m]? = some x := ⟨_, List.getElem?_eq_getElem hlt⟩
                      obtain ⟨b4, o4, he4, hb4, hc4⟩ := (HCX.out.2.2.2.1.at').2 (show 0 < xc.ds.length by omega)
                      replace he4 : F4 = some ⟨b4, o4, none⟩ := he4
                      subst he4
                      have HS : Hid (∀ W, Fk wb wr W → W.cell? ⟨cb, 0, none⟩ = some (.string xc.nm) ∧ W.cell? ⟨cb, 4, none⟩ = some (.slice (some ⟨b4, o4, none⟩) xc.ds.length c4) ∧ W.cell? ⟨b4, o4 + m * 3, none⟩ = some (.string x.1) ∧ W.cell? ⟨b4, o4 + m * 3 + 1, none⟩ = some (.int .u32 x.2.1) ∧ W.cell? ⟨b4, o4 + m * 3 + 2, none⟩ = some (.int .u32 x.2.2)) := Lib.hid (fun W hW => by
                        obtain ⟨h0, h2, -⟩ := HU.out W (HFA.out.trans hW)
                        have h1 := HCB.out W (HFK2.out.trans hW)
                        exact ⟨by simpa using h1.cell 0, by simpa using h1.cell 4, (h2.cell hb4).trans (hc4 m x hy 0 _ rfl), (h2.cell hb4).trans (hc4 m x hy 1 _ rfl), (h2.cell hb4).trans (hc4 m x hy 2 _ rfl)⟩)
                      have hmn : (m : Int) < (xc.ds.length : Int) := by omega
                      have hmb : m ≤ 1048576 := by have := HBX.out.2.2.2.1; omega
                      have hmw : IntKind.i64.wrap (m : Int) = (m : Int) := by rw [IntKind.wrap_i64]; omega
                      have HLL : Hid ((((((([[kStack, tnI P.st], [kTrusted, tnI P.tr]] ++ P.ss.map shaL) ++ (D.take k).flatMap (fun x => coLs P.ss x.2)) ++ [[kComp, xc.nm]]) ++ xc.fs.map (fileL xc.nm)) ++ xc.es.map (expL xc.nm)) ++ (xc.ds.take m).map (devL xc.nm)).length ≤ 1073741824) := Lib.hid (by have h1 := HLN.out; simp only [List.length_append, List.length_map, List.length_cons, List.length_nil, List.length_take] at h1 ⊢; omega)
                      have HLS4 : Hid (((((([[kStack, tnI P.st], [kTrusted, tnI P.tr]] ++ P.ss.map shaL) ++ (D.take k).flatMap (fun x => coLs P.ss x.2)) ++ [[kComp, xc.nm]]) ++ xc.fs.map (fileL xc.nm)) ++ xc.es.map (expL xc.nm)) ++ (xc.ds.take (m + 1)).map (devL xc.nm) = (((((([[kStack, tnI P.st], [kTrusted, tnI P.tr]] ++ P.ss.map shaL) ++ (D.take k).flatMap (fun x => coLs P.ss x.2)) ++ [[kComp, xc.nm]]) ++ xc.fs.map (fileL xc.nm)) ++ xc.es.map (expL xc.nm)) ++ (xc.ds.take m).map (devL xc.nm)) ++ [(devL xc.nm) x]) := Lib.hid (ls_step (devL xc.nm) _ hy)
                      have HLT4 := Lib.hid hlt
                      have HXE := Lib.hid (HXR.out.2 x (List.mem_of_getElem? hy))
                      have HI0 := HS.out _ (Fk.refl _ _)
                      obtain ⟨q0, q1, q2, q3, q4⟩ := HI0
                      clear hy hc4 hb4 hlt
                      go_upto_region 26 with fail
                      have hcv1 : IntKind.i64.wrap x.2.1 = x.2.1 := by rw [IntKind.wrap_i64]; have := HXE.out.1; omega
                      have hcv2 : IntKind.i64.wrap x.2.2 = x.2.2 := by rw [IntKind.wrap_i64]; have := HXE.out.2; omega
                      have HWL : Hid (wb < wr.heap.size) := Lib.hid HWA.out.1.lt
                      have HBA2 : Hid (B ≤ wr.heap.size) := Lib.hid (HU.out _ HFA.out).2.2.2
                      have HFd : Hid (Fk wb wr wr.drew) := Lib.hid (Fk.of (Below.refl _ _).drew (Nat.le_of_lt HWL.out))
                      have HWd : Hid (WQ wr.drew wb B U3 (((((([[kStack, tnI P.st], [kTrusted, tnI P.tr]] ++ P.ss.map shaL) ++ (D.take k).flatMap (fun x => coLs P.ss x.2)) ++ [[kComp, xc.nm]]) ++ xc.fs.map (fileL xc.nm)) ++ xc.es.map (expL xc.nm)) ++ (xc.ds.take m).map (devL xc.nm))) := Lib.hid (HWA.out.below (Below.refl _ _).drew)
                      have HI := Lib.hid (HS.out _ HFd.out)
                      have HCL0 : Hid (∀ W, Fk wb wr W → WQ W wb B U3 (((((([[kStack, tnI P.st], [kTrusted, tnI P.tr]] ++ P.ss.map shaL) ++ (D.take k).flatMap (fun x => coLs P.ss x.2)) ++ [[kComp, xc.nm]]) ++ xc.fs.map (fileL xc.nm)) ++ xc.es.map (expL xc.nm)) ++ (xc.ds.take m).map (devL xc.nm)) → Calls Tryz.prog 56 #[.int .i64 x.2.1] W fun e w' => e = .returned (.string (tnI x.2.1)) ∧ Fk wb wr w' ∧ WQ w' wb B U3 (((((([[kStack, tnI P.st], [kTrusted, tnI P.tr]] ++ P.ss.map shaL) ++ (D.take k).flatMap (fun x => coLs P.ss x.2)) ++ [[kComp, xc.nm]]) ++ xc.fs.map (fileL xc.nm)) ++ xc.es.map (expL xc.nm)) ++ (xc.ds.take m).map (devL xc.nm))) := Lib.hid (fun W hW hR => by
                        refine (n56 x.2.1 (by have := HXE.out.1; exact ⟨by omega, by omega⟩) W (HGT.out W (HFA.out.trans hW))).mono ?_
                        rintro e w' ⟨h1, h2⟩
                        exact ⟨h1, hW.trans (Fk.of h2 (Nat.le_of_lt hR.1.lt)), hR.below h2⟩)
                      have HCL1 : Hid (∀ W, Fk wb wr W → WQ W wb B U3 (((((([[kStack, tnI P.st], [kTrusted, tnI P.tr]] ++ P.ss.map shaL) ++ (D.take k).flatMap (fun x => coLs P.ss x.2)) ++ [[kComp, xc.nm]]) ++ xc.fs.map (fileL xc.nm)) ++ xc.es.map (expL xc.nm)) ++ (xc.ds.take m).map (devL xc.nm)) → Calls Tryz.prog 56 #[.int .i64 x.2.2] W fun e w' => e = .returned (.string (tnI x.2.2)) ∧ Fk wb wr w' ∧ WQ w' wb B U3 (((((([[kStack, tnI P.st], [kTrusted, tnI P.tr]] ++ P.ss.map shaL) ++ (D.take k).flatMap (fun x => coLs P.ss x.2)) ++ [[kComp, xc.nm]]) ++ xc.fs.map (fileL xc.nm)) ++ xc.es.map (expL xc.nm)) ++ (xc.ds.take m).map (devL xc.nm))) := Lib.hid (fun W hW hR => by
                        refine (n56 x.2.2 (by have := HXE.out.2; exact ⟨by omega, by omega⟩) W (HGT.out W (HFA.out.trans hW))).mono ?_
                        rintro e w' ⟨h1, h2⟩
                        exact ⟨h1, hW.trans (Fk.of h2 (Nat.le_of_lt hR.1.lt)), hR.below h2⟩)
                      have HSAY : Hid (∀ W, Fk wb wr W → WQ W wb B U3 (((((([[kStack, tnI P.st], [kTrusted, tnI P.tr]] ++ P.ss.map shaL) ++ (D.take k).flatMap (fun x => coLs P.ss x.2)) ++ [[kComp, xc.nm]]) ++ xc.fs.map (fileL xc.nm)) ++ xc.es.map (expL xc.nm)) ++ (xc.ds.take m).map (devL xc.nm)) → Calls Tryz.prog 66 #[.pointer (some ⟨wb, 0, none⟩), .string ⟨#[100, 101, 118, 105, 99, 101]⟩, .string xc.nm, .string x.1, .string (tnI x.2.1), .string (tnI x.2.2)] W fun e w' => e = .returned (.tuple #[]) ∧ (∃ V', WQ w' wb B V' ((((((([[kStack, tnI P.st], [kTrusted, tnI P.tr]] ++ P.ss.map shaL) ++ (D.take k).flatMap (fun x => coLs P.ss x.2)) ++ [[kComp, xc.nm]]) ++ xc.fs.map (fileL xc.nm)) ++ xc.es.map (expL xc.nm)) ++ (xc.ds.take m).map (devL xc.nm)) ++ [(devL xc.nm) x])) ∧ Fk wb wr w') := Lib.hid (fun W hW hR => by
                        refine (r66 kDevice xc.nm x.1 (tnI x.2.1) (tnI x.2.2) W wb B U3 (((((([[kStack, tnI P.st], [kTrusted, tnI P.tr]] ++ P.ss.map shaL) ++ (D.take k).flatMap (fun x => coLs P.ss x.2)) ++ [[kComp, xc.nm]]) ++ xc.fs.map (fileL xc.nm)) ++ xc.es.map (expL xc.nm)) ++ (xc.ds.take m).map (devL xc.nm)) hR (Nat.le_trans HBA2.out hW.1.size) HLL.out).mono ?_
                        rintro e w' ⟨h1, h2, h3⟩
                        exact ⟨h1, h2, hW.trans h3⟩)
                      go_region_held3 (fun W => W.cell? ⟨cb, 0, none⟩ = some (.string xc.nm) ∧ W.cell? ⟨cb, 4, none⟩ = some (.slice (some ⟨b4, o4, none⟩) xc.ds.length c4) ∧ W.cell? ⟨b4, o4 + m * 3, none⟩ = some (.string x.1) ∧ W.cell? ⟨b4, o4 + m * 3 + 1, none⟩ = some (.int .u32 x.2.1) ∧ W.cell? ⟨b4, o4 + m * 3 + 2, none⟩ = some (.int .u32 x.2.2))
                        (first | assumption | exact HI.out | (with_reducible exact HS.out _ (by assumption)) | (exact HS.out _ (Fk.allocQ hq6 ⟨_, _, _, hr6⟩ _)))
                        (first
                          | (go_at_call 56; (first | (with_reducible refine (HCL0.out _ hq6 hr6).mono ?_) | (with_reducible refine (HCL1.out _ hq6 hr6).mono ?_) | (with_reducible refine (HCL0.out _ HFd.out HWd.out).mono ?_) | (with_reducible refine (HCL1.out _ HFd.out HWd.out).mono ?_)); rintro _ w6 ⟨rfl, hq6, hr6⟩)
                          | (go_at_call 66; (with_reducible refine (HSAY.out _ hq6 hr6).mono ?_); rintro _ wz ⟨rfl, hwz, hfz⟩))
                      all_goals
                        clear q0 q1 q2 q3 q4 y4 HCL0 HCL1 hcv1 hcv2
                        have HFZ : Hid (Fk wb wA wz) := Lib.hid (HFK2.out.trans hfz)
                        have HWZ := Lib.hid hwz
                        clear hwz hfz HSAY
                        go_wp2_with fail
                        go_roundw
                        case rel => exact ⟨m + 1, HLT4.out, by go_num, HFZ.out, by
                          obtain ⟨V', hv⟩ := HWZ.out
                          refine ⟨V', ?_⟩
                          show WQ _ wb B V' (((((([[kStack, tnI P.st], [kTrusted, tnI P.tr]] ++ P.ss.map shaL) ++ (D.take k).flatMap (fun x => coLs P.ss x.2)) ++ [[kComp, xc.nm]]) ++ xc.fs.map (fileL xc.nm)) ++ xc.es.map (expL xc.nm)) ++ (xc.ds.take (m + 1)).map (devL xc.nm))
                          rw [HLS4.out]
                          exact hv⟩
                        case measure => simp [intOf]; have := HLT4.out; omega
                    · obtain rfl : m = xc.ds.length := by omega
                      have HR3 : Hid (WQ wr wb B U3 (((((([[kStack, tnI P.st], [kTrusted, tnI P.tr]] ++ P.ss.map shaL) ++ (D.take k).flatMap (fun x => coLs P.ss x.2)) ++ [[kComp, xc.nm]]) ++ xc.fs.map (fileL xc.nm)) ++ xc.es.map (expL xc.nm)) ++ xc.ds.map (devL xc.nm))) := Lib.hid (by have := HWA.out; rw [List.take_length] at this; exact this)
                      have HG3' := Lib.hid HFK2.out
                      clear hm hlt HFK2 HWA HFA
                      go_wp2_with fail
                      clear y4
                      generalize wr = v3 at *
                      go_loopw [10, 11] (fun i _ wq => RQ wb B wA xc.gs.length (fun m => (((((([[kStack, tnI P.st], [kTrusted, tnI P.tr]] ++ P.ss.map shaL) ++ (D.take k).flatMap (fun x => coLs P.ss x.2)) ++ [[kComp, xc.nm]]) ++ xc.fs.map (fileL xc.nm)) ++ xc.es.map (expL xc.nm)) ++ xc.ds.map (devL xc.nm)) ++ (xc.gs.take m).map (givL P.ss xc.nm)) i wq) (fun i _ _ => xc.gs.length - (intOf i).toNat)
                      case atStart => exact ⟨0, Nat.zero_le _, rfl, HG3'.out, U3, by simpa using HR3.out⟩
                      case round =>
                        obtain ⟨m, hm, rfl, hfk, U4, hwq⟩ := hrel
                        have HFK2 := Lib.hid hfk
                        have HFA : Hid (Fk wb W0 wr) := Lib.hid (HFW.out.trans hfk)
                        have HWA : Hid (WQ wr wb B U4 ((((((([[kStack, tnI P.st], [kTrusted, tnI P.tr]] ++ P.ss.map shaL) ++ (D.take k).flatMap (fun x => coLs P.ss x.2)) ++ [[kComp, xc.nm]]) ++ xc.fs.map (fileL xc.nm)) ++ xc.es.map (expL xc.nm)) ++ xc.ds.map (devL xc.nm)) ++ (xc.gs.take m).map (givL P.ss xc.nm))) := Lib.hid hwq
                        have y4 := (HCB.out _ hfk).cell 5
                        simp at y4
                        clear hfk hwq
                        by_cases hlt : m < xc.gs.length
                        · obtain ⟨x, hy⟩ : ∃ x, xc.gs[m]? = some x := ⟨_, List.getElem?_eq_getElem hlt⟩
                          obtain ⟨b4, o4, he4, hb4, hc4⟩ := (HCX.out.2.2.2.2.at').2 (show 0 < xc.gs.length by omega)
                          replace he4 : F5 = some ⟨b4, o4, none⟩ := he4
                          subst he4
                          have HS : Hid (∀ W, Fk wb wr W → W.cell? ⟨cb, 0, none⟩ = some (.string xc.nm) ∧ W.cell? ⟨cb, 5, none⟩ = some (.slice (some ⟨b4, o4, none⟩) xc.gs.length c5) ∧ W.cell? ⟨b4, o4 + m * 2, none⟩ = some (.int .i64 x.1) ∧ W.cell? ⟨b4, o4 + m * 2 + 1, none⟩ = some (.bool x.2) ∧ W.cell? ⟨w.heap.size, 2, none⟩ = some (.slice AS P.ss.length sc)) := Lib.hid (fun W hW => by
                            obtain ⟨h0, h2, -⟩ := HU.out W (HFA.out.trans hW)
                            have h1 := HCB.out W (HFK2.out.trans hW)
                            exact ⟨by simpa using h1.cell 0, by simpa using h1.cell 5, (h2.cell hb4).trans (hc4 m x hy 0 _ rfl), (h2.cell hb4).trans (hc4 m x hy 1 _ rfl), by simpa using h0.cell 2⟩)
                          have hmn : (m : Int) < (xc.gs.length : Int) := by omega
                          have hmb : m ≤ 1048576 := by have := HBX.out.2.2.2.2; omega
                          have hmw : IntKind.i64.wrap (m : Int) = (m : Int) := by rw [IntKind.wrap_i64]; omega
                          have HLL : Hid (((((((([[kStack, tnI P.st], [kTrusted, tnI P.tr]] ++ P.ss.map shaL) ++ (D.take k).flatMap (fun x => coLs P.ss x.2)) ++ [[kComp, xc.nm]]) ++ xc.fs.map (fileL xc.nm)) ++ xc.es.map (expL xc.nm)) ++ xc.ds.map (devL xc.nm)) ++ (xc.gs.take m).map (givL P.ss xc.nm)).length ≤ 1073741824) := Lib.hid (by have h1 := HLN.out; simp only [List.length_append, List.length_map, List.length_cons, List.length_nil, List.length_take] at h1 ⊢; omega)
                          have HLS4 : Hid ((((((([[kStack, tnI P.st], [kTrusted, tnI P.tr]] ++ P.ss.map shaL) ++ (D.take k).flatMap (fun x => coLs P.ss x.2)) ++ [[kComp, xc.nm]]) ++ xc.fs.map (fileL xc.nm)) ++ xc.es.map (expL xc.nm)) ++ xc.ds.map (devL xc.nm)) ++ (xc.gs.take (m + 1)).map (givL P.ss xc.nm) = ((((((([[kStack, tnI P.st], [kTrusted, tnI P.tr]] ++ P.ss.map shaL) ++ (D.take k).flatMap (fun x => coLs P.ss x.2)) ++ [[kComp, xc.nm]]) ++ xc.fs.map (fileL xc.nm)) ++ xc.es.map (expL xc.nm)) ++ xc.ds.map (devL xc.nm)) ++ (xc.gs.take m).map (givL P.ss xc.nm)) ++ [(givL P.ss xc.nm) x]) := Lib.hid (ls_step (givL P.ss xc.nm) _ hy)
                          have HLT4 := Lib.hid hlt
                          have HI0 := HS.out _ (Fk.refl _ _)
                          obtain ⟨q0, q1, q2, q3, q4⟩ := HI0
                          clear hy hc4 hb4 hlt
                          obtain ⟨xi, xb⟩ := x
                          simp only at q2 q3
                          have HWLT : Hid (wb < wr.heap.size) := Lib.hid HWA.out.1.lt
                          by_cases hin : 0 ≤ xi ∧ xi < (P.ss.length : Int)
                          · obtain ⟨j, rfl⟩ : ∃ j : Nat, xi = (j : Int) := ⟨xi.toNat, by omega⟩
                            have hj : j < P.ss.length := by omega
                            obtain ⟨y, hyy⟩ : ∃ y, P.ss[j]? = some y := ⟨_, List.getElem?_eq_getElem hj⟩
                            have HNM : Hid (nmS P.ss (j : Int) = some y.1) := Lib.hid (by unfold nmS; rw [if_pos (by omega)]; simp [hyy])
                            obtain ⟨b5, o5, he5, hb5, hc5⟩ := (HPL0.out.1.at').2 (by omega)
                            subst he5
                            have q5 : wr.cell? ⟨b5, o5 + j * 2, none⟩ = some (.string y.1) := ((HU.out _ HFA.out).2.1.cell hb5).trans (hc5 j y hyy 0 _ rfl)
                            have hjn : (j : Int) < (P.ss.length : Int) := by omega
                            have hj0 : (0 : Int) ≤ (j : Int) := by omega
                            have hjw : IntKind.i64.wrap (j : Int) = (j : Int) := by have := HBP.out.1; rw [IntKind.wrap_i64]; omega
                            have e1 : decide ((0 : Int) ≤ (j : Int)) = true := by simp
                            have e2 : decide ((j : Int) < (P.ss.length : Int)) = true := by simp; omega
                            clear hin hj hyy hc5 hb5
                            go_wp2_with fail
                            go_quiet (fail)
                            go_wp2_with fail
                            go_quiet (fail)
                            cases xb
                            · have HLX : Hid ((givL P.ss xc.nm) ((j : Int), false) = [kGive, xc.nm, y.1, kR]) := Lib.hid (by unfold givL; rw [HNM.out]; simp)
                              have HSAY : Hid (∀ W, Fk wb wr W → WQ W wb B U4 ((((((([[kStack, tnI P.st], [kTrusted, tnI P.tr]] ++ P.ss.map shaL) ++ (D.take k).flatMap (fun x => coLs P.ss x.2)) ++ [[kComp, xc.nm]]) ++ xc.fs.map (fileL xc.nm)) ++ xc.es.map (expL xc.nm)) ++ xc.ds.map (devL xc.nm)) ++ (xc.gs.take m).map (givL P.ss xc.nm)) → Calls Tryz.prog 67 #[.pointer (some ⟨wb, 0, none⟩), .string ⟨#[103, 105, 118, 101]⟩, .string xc.nm, .string y.1, .string ⟨#[114]⟩] W fun e w' => e = .returned (.tuple #[]) ∧ (∃ V', WQ w' wb B V' (((((((([[kStack, tnI P.st], [kTrusted, tnI P.tr]] ++ P.ss.map shaL) ++ (D.take k).flatMap (fun x => coLs P.ss x.2)) ++ [[kComp, xc.nm]]) ++ xc.fs.map (fileL xc.nm)) ++ xc.es.map (expL xc.nm)) ++ xc.ds.map (devL xc.nm)) ++ (xc.gs.take m).map (givL P.ss xc.nm)) ++ [(givL P.ss xc.nm) ((j : Int), false)])) ∧ Fk wb wr w') := Lib.hid (fun W hW hR => by
                                rw [HLX.out]
                                refine (r67 kGive xc.nm y.1 kR W wb B U4 ((((((([[kStack, tnI P.st], [kTrusted, tnI P.tr]] ++ P.ss.map shaL) ++ (D.take k).flatMap (fun x => coLs P.ss x.2)) ++ [[kComp, xc.nm]]) ++ xc.fs.map (fileL xc.nm)) ++ xc.es.map (expL xc.nm)) ++ xc.ds.map (devL xc.nm)) ++ (xc.gs.take m).map (givL P.ss xc.nm)) hR (HU.out _ (HFA.out.trans hW)).2.2.2 HLL.out).mono ?_
                                rintro e w' ⟨h1, h2, h3⟩
                                exact ⟨h1, h2, hW.trans h3⟩)
                              go_wp2_with fail
                              refine (HSAY.out _ (Fk.of (below_drewN (Below.refl _ _) _) (Nat.le_of_lt HWLT.out)) (HWA.out.below (below_drewN (Below.refl _ _) _))).mono ?_
                              rintro _ wz ⟨rfl, hwz, hfz⟩
                              clear q0 q1 q2 q3 q4 q5 y4
                              have HFZ : Hid (Fk wb wA wz) := Lib.hid (HFK2.out.trans hfz)
                              have HWZ := Lib.hid hwz
                              clear hwz hfz HSAY
                              go_wp2_with fail
                              go_roundw
                              case rel => exact ⟨m + 1, HLT4.out, by go_num, HFZ.out, by
                                obtain ⟨V', hv⟩ := HWZ.out
                                refine ⟨V', ?_⟩
                                show WQ _ wb B V' ((((((([[kStack, tnI P.st], [kTrusted, tnI P.tr]] ++ P.ss.map shaL) ++ (D.take k).flatMap (fun x => coLs P.ss x.2)) ++ [[kComp, xc.nm]]) ++ xc.fs.map (fileL xc.nm)) ++ xc.es.map (expL xc.nm)) ++ xc.ds.map (devL xc.nm)) ++ (xc.gs.take (m + 1)).map (givL P.ss xc.nm))
                                rw [HLS4.out]
                                exact hv⟩
                              case measure => simp [intOf]; have := HLT4.out; omega
                            · have HLX : Hid ((givL P.ss xc.nm) ((j : Int), true) = [kGive, xc.nm, y.1, kRw]) := Lib.hid (by unfold givL; rw [HNM.out]; simp)
                              have HSAY : Hid (∀ W, Fk wb wr W → WQ W wb B U4 ((((((([[kStack, tnI P.st], [kTrusted, tnI P.tr]] ++ P.ss.map shaL) ++ (D.take k).flatMap (fun x => coLs P.ss x.2)) ++ [[kComp, xc.nm]]) ++ xc.fs.map (fileL xc.nm)) ++ xc.es.map (expL xc.nm)) ++ xc.ds.map (devL xc.nm)) ++ (xc.gs.take m).map (givL P.ss xc.nm)) → Calls Tryz.prog 67 #[.pointer (some ⟨wb, 0, none⟩), .string ⟨#[103, 105, 118, 101]⟩, .string xc.nm, .string y.1, .string ⟨#[114, 119]⟩] W fun e w' => e = .returned (.tuple #[]) ∧ (∃ V', WQ w' wb B V' (((((((([[kStack, tnI P.st], [kTrusted, tnI P.tr]] ++ P.ss.map shaL) ++ (D.take k).flatMap (fun x => coLs P.ss x.2)) ++ [[kComp, xc.nm]]) ++ xc.fs.map (fileL xc.nm)) ++ xc.es.map (expL xc.nm)) ++ xc.ds.map (devL xc.nm)) ++ (xc.gs.take m).map (givL P.ss xc.nm)) ++ [(givL P.ss xc.nm) ((j : Int), true)])) ∧ Fk wb wr w') := Lib.hid (fun W hW hR => by
                                rw [HLX.out]
                                refine (r67 kGive xc.nm y.1 kRw W wb B U4 ((((((([[kStack, tnI P.st], [kTrusted, tnI P.tr]] ++ P.ss.map shaL) ++ (D.take k).flatMap (fun x => coLs P.ss x.2)) ++ [[kComp, xc.nm]]) ++ xc.fs.map (fileL xc.nm)) ++ xc.es.map (expL xc.nm)) ++ xc.ds.map (devL xc.nm)) ++ (xc.gs.take m).map (givL P.ss xc.nm)) hR (HU.out _ (HFA.out.trans hW)).2.2.2 HLL.out).mono ?_
                                rintro e w' ⟨h1, h2, h3⟩
                                exact ⟨h1, h2, hW.trans h3⟩)
                              go_wp2_with fail
                              refine (HSAY.out _ (Fk.of (below_drewN (Below.refl _ _) _) (Nat.le_of_lt HWLT.out)) (HWA.out.below (below_drewN (Below.refl _ _) _))).mono ?_
                              rintro _ wz ⟨rfl, hwz, hfz⟩
                              clear q0 q1 q2 q3 q4 q5 y4
                              have HFZ : Hid (Fk wb wA wz) := Lib.hid (HFK2.out.trans hfz)
                              have HWZ := Lib.hid hwz
                              clear hwz hfz HSAY
                              go_wp2_with fail
                              go_roundw
                              case rel => exact ⟨m + 1, HLT4.out, by go_num, HFZ.out, by
                                obtain ⟨V', hv⟩ := HWZ.out
                                refine ⟨V', ?_⟩
                                show WQ _ wb B V' ((((((([[kStack, tnI P.st], [kTrusted, tnI P.tr]] ++ P.ss.map shaL) ++ (D.take k).flatMap (fun x => coLs P.ss x.2)) ++ [[kComp, xc.nm]]) ++ xc.fs.map (fileL xc.nm)) ++ xc.es.map (expL xc.nm)) ++ xc.ds.map (devL xc.nm)) ++ (xc.gs.take (m + 1)).map (givL P.ss xc.nm))
                                rw [HLS4.out]
                                exact hv⟩
                              case measure => simp [intOf]; have := HLT4.out; omega
                          · have HNM : Hid (nmS P.ss xi = none) := Lib.hid (by
                              unfold nmS
                              by_cases h0 : 0 ≤ xi
                              · rw [if_pos h0, List.getElem?_eq_none (by omega)]; rfl
                              · rw [if_neg h0])
                            have HOUT : Hid (¬ (0 ≤ xi ∧ xi < (P.ss.length : Int))) := Lib.hid hin
                            clear hin
                            have HEND : ∀ (ww : World), Below wr.heap.size wr ww → True := fun _ _ => trivial
                            by_cases h0 : 0 ≤ xi
                            · skip
                              have e1 : decide ((0 : Int) ≤ xi) = true := by simp; omega
                              have e2 : decide (xi < (P.ss.length : Int)) = false := by have := HOUT.out; simp; omega
                              go_wp2_with fail
                              go_quiet (fail)
                              cases xb
                              · have HLX : Hid ((givL P.ss xc.nm) (xi, false) = [kGive, xc.nm, ⟨#[]⟩, kR]) := Lib.hid (by unfold givL; rw [HNM.out]; simp)
                                have HSAY : Hid (∀ W, Fk wb wr W → WQ W wb B U4 ((((((([[kStack, tnI P.st], [kTrusted, tnI P.tr]] ++ P.ss.map shaL) ++ (D.take k).flatMap (fun x => coLs P.ss x.2)) ++ [[kComp, xc.nm]]) ++ xc.fs.map (fileL xc.nm)) ++ xc.es.map (expL xc.nm)) ++ xc.ds.map (devL xc.nm)) ++ (xc.gs.take m).map (givL P.ss xc.nm)) → Calls Tryz.prog 67 #[.pointer (some ⟨wb, 0, none⟩), .string ⟨#[103, 105, 118, 101]⟩, .string xc.nm, .string ⟨#[]⟩, .string ⟨#[114]⟩] W fun e w' => e = .returned (.tuple #[]) ∧ (∃ V', WQ w' wb B V' (((((((([[kStack, tnI P.st], [kTrusted, tnI P.tr]] ++ P.ss.map shaL) ++ (D.take k).flatMap (fun x => coLs P.ss x.2)) ++ [[kComp, xc.nm]]) ++ xc.fs.map (fileL xc.nm)) ++ xc.es.map (expL xc.nm)) ++ xc.ds.map (devL xc.nm)) ++ (xc.gs.take m).map (givL P.ss xc.nm)) ++ [(givL P.ss xc.nm) (xi, false)])) ∧ Fk wb wr w') := Lib.hid (fun W hW hR => by
                                  rw [HLX.out]
                                  refine (r67 kGive xc.nm ⟨#[]⟩ kR W wb B U4 ((((((([[kStack, tnI P.st], [kTrusted, tnI P.tr]] ++ P.ss.map shaL) ++ (D.take k).flatMap (fun x => coLs P.ss x.2)) ++ [[kComp, xc.nm]]) ++ xc.fs.map (fileL xc.nm)) ++ xc.es.map (expL xc.nm)) ++ xc.ds.map (devL xc.nm)) ++ (xc.gs.take m).map (givL P.ss xc.nm)) hR (HU.out _ (HFA.out.trans hW)).2.2.2 HLL.out).mono ?_
                                  rintro e w' ⟨h1, h2, h3⟩
                                  exact ⟨h1, h2, hW.trans h3⟩)
                                go_wp2_with fail
                                refine (HSAY.out _ (Fk.of (below_drewN (Below.refl _ _) _) (Nat.le_of_lt HWLT.out)) (HWA.out.below (below_drewN (Below.refl _ _) _))).mono ?_
                                rintro _ wz ⟨rfl, hwz, hfz⟩
                                clear q0 q1 q2 q3 q4 y4 h0
                                have HFZ : Hid (Fk wb wA wz) := Lib.hid (HFK2.out.trans hfz)
                                have HWZ := Lib.hid hwz
                                clear hwz hfz HSAY
                                go_wp2_with fail
                                go_roundw
                                case rel => exact ⟨m + 1, HLT4.out, by go_num, HFZ.out, by
                                  obtain ⟨V', hv⟩ := HWZ.out
                                  refine ⟨V', ?_⟩
                                  show WQ _ wb B V' ((((((([[kStack, tnI P.st], [kTrusted, tnI P.tr]] ++ P.ss.map shaL) ++ (D.take k).flatMap (fun x => coLs P.ss x.2)) ++ [[kComp, xc.nm]]) ++ xc.fs.map (fileL xc.nm)) ++ xc.es.map (expL xc.nm)) ++ xc.ds.map (devL xc.nm)) ++ (xc.gs.take (m + 1)).map (givL P.ss xc.nm))
                                  rw [HLS4.out]
                                  exact hv⟩
                                case measure => simp [intOf]; have := HLT4.out; omega
                              · have HLX : Hid ((givL P.ss xc.nm) (xi, true) = [kGive, xc.nm, ⟨#[]⟩, kRw]) := Lib.hid (by unfold givL; rw [HNM.out]; simp)
                                have HSAY : Hid (∀ W, Fk wb wr W → WQ W wb B U4 ((((((([[kStack, tnI P.st], [kTrusted, tnI P.tr]] ++ P.ss.map shaL) ++ (D.take k).flatMap (fun x => coLs P.ss x.2)) ++ [[kComp, xc.nm]]) ++ xc.fs.map (fileL xc.nm)) ++ xc.es.map (expL xc.nm)) ++ xc.ds.map (devL xc.nm)) ++ (xc.gs.take m).map (givL P.ss xc.nm)) → Calls Tryz.prog 67 #[.pointer (some ⟨wb, 0, none⟩), .string ⟨#[103, 105, 118, 101]⟩, .string xc.nm, .string ⟨#[]⟩, .string ⟨#[114, 119]⟩] W fun e w' => e = .returned (.tuple #[]) ∧ (∃ V', WQ w' wb B V' (((((((([[kStack, tnI P.st], [kTrusted, tnI P.tr]] ++ P.ss.map shaL) ++ (D.take k).flatMap (fun x => coLs P.ss x.2)) ++ [[kComp, xc.nm]]) ++ xc.fs.map (fileL xc.nm)) ++ xc.es.map (expL xc.nm)) ++ xc.ds.map (devL xc.nm)) ++ (xc.gs.take m).map (givL P.ss xc.nm)) ++ [(givL P.ss xc.nm) (xi, true)])) ∧ Fk wb wr w') := Lib.hid (fun W hW hR => by
                                  rw [HLX.out]
                                  refine (r67 kGive xc.nm ⟨#[]⟩ kRw W wb B U4 ((((((([[kStack, tnI P.st], [kTrusted, tnI P.tr]] ++ P.ss.map shaL) ++ (D.take k).flatMap (fun x => coLs P.ss x.2)) ++ [[kComp, xc.nm]]) ++ xc.fs.map (fileL xc.nm)) ++ xc.es.map (expL xc.nm)) ++ xc.ds.map (devL xc.nm)) ++ (xc.gs.take m).map (givL P.ss xc.nm)) hR (HU.out _ (HFA.out.trans hW)).2.2.2 HLL.out).mono ?_
                                  rintro e w' ⟨h1, h2, h3⟩
                                  exact ⟨h1, h2, hW.trans h3⟩)
                                go_wp2_with fail
                                refine (HSAY.out _ (Fk.of (below_drewN (Below.refl _ _) _) (Nat.le_of_lt HWLT.out)) (HWA.out.below (below_drewN (Below.refl _ _) _))).mono ?_
                                rintro _ wz ⟨rfl, hwz, hfz⟩
                                clear q0 q1 q2 q3 q4 y4 h0
                                have HFZ : Hid (Fk wb wA wz) := Lib.hid (HFK2.out.trans hfz)
                                have HWZ := Lib.hid hwz
                                clear hwz hfz HSAY
                                go_wp2_with fail
                                go_roundw
                                case rel => exact ⟨m + 1, HLT4.out, by go_num, HFZ.out, by
                                  obtain ⟨V', hv⟩ := HWZ.out
                                  refine ⟨V', ?_⟩
                                  show WQ _ wb B V' ((((((([[kStack, tnI P.st], [kTrusted, tnI P.tr]] ++ P.ss.map shaL) ++ (D.take k).flatMap (fun x => coLs P.ss x.2)) ++ [[kComp, xc.nm]]) ++ xc.fs.map (fileL xc.nm)) ++ xc.es.map (expL xc.nm)) ++ xc.ds.map (devL xc.nm)) ++ (xc.gs.take (m + 1)).map (givL P.ss xc.nm))
                                  rw [HLS4.out]
                                  exact hv⟩
                                case measure => simp [intOf]; have := HLT4.out; omega
                            · skip
                              have e1 : decide ((0 : Int) ≤ xi) = false := by simp; omega
                              go_wp2_with fail
                              go_quiet (fail)
                              cases xb
                              · have HLX : Hid ((givL P.ss xc.nm) (xi, false) = [kGive, xc.nm, ⟨#[]⟩, kR]) := Lib.hid (by unfold givL; rw [HNM.out]; simp)
                                have HSAY : Hid (∀ W, Fk wb wr W → WQ W wb B U4 ((((((([[kStack, tnI P.st], [kTrusted, tnI P.tr]] ++ P.ss.map shaL) ++ (D.take k).flatMap (fun x => coLs P.ss x.2)) ++ [[kComp, xc.nm]]) ++ xc.fs.map (fileL xc.nm)) ++ xc.es.map (expL xc.nm)) ++ xc.ds.map (devL xc.nm)) ++ (xc.gs.take m).map (givL P.ss xc.nm)) → Calls Tryz.prog 67 #[.pointer (some ⟨wb, 0, none⟩), .string ⟨#[103, 105, 118, 101]⟩, .string xc.nm, .string ⟨#[]⟩, .string ⟨#[114]⟩] W fun e w' => e = .returned (.tuple #[]) ∧ (∃ V', WQ w' wb B V' (((((((([[kStack, tnI P.st], [kTrusted, tnI P.tr]] ++ P.ss.map shaL) ++ (D.take k).flatMap (fun x => coLs P.ss x.2)) ++ [[kComp, xc.nm]]) ++ xc.fs.map (fileL xc.nm)) ++ xc.es.map (expL xc.nm)) ++ xc.ds.map (devL xc.nm)) ++ (xc.gs.take m).map (givL P.ss xc.nm)) ++ [(givL P.ss xc.nm) (xi, false)])) ∧ Fk wb wr w') := Lib.hid (fun W hW hR => by
                                  rw [HLX.out]
                                  refine (r67 kGive xc.nm ⟨#[]⟩ kR W wb B U4 ((((((([[kStack, tnI P.st], [kTrusted, tnI P.tr]] ++ P.ss.map shaL) ++ (D.take k).flatMap (fun x => coLs P.ss x.2)) ++ [[kComp, xc.nm]]) ++ xc.fs.map (fileL xc.nm)) ++ xc.es.map (expL xc.nm)) ++ xc.ds.map (devL xc.nm)) ++ (xc.gs.take m).map (givL P.ss xc.nm)) hR (HU.out _ (HFA.out.trans hW)).2.2.2 HLL.out).mono ?_
                                  rintro e w' ⟨h1, h2, h3⟩
                                  exact ⟨h1, h2, hW.trans h3⟩)
                                go_wp2_with fail
                                refine (HSAY.out _ (Fk.of (below_drewN (Below.refl _ _) _) (Nat.le_of_lt HWLT.out)) (HWA.out.below (below_drewN (Below.refl _ _) _))).mono ?_
                                rintro _ wz ⟨rfl, hwz, hfz⟩
                                clear q0 q1 q2 q3 q4 y4 h0
                                have HFZ : Hid (Fk wb wA wz) := Lib.hid (HFK2.out.trans hfz)
                                have HWZ := Lib.hid hwz
                                clear hwz hfz HSAY
                                go_wp2_with fail
                                go_roundw
                                case rel => exact ⟨m + 1, HLT4.out, by go_num, HFZ.out, by
                                  obtain ⟨V', hv⟩ := HWZ.out
                                  refine ⟨V', ?_⟩
                                  show WQ _ wb B V' ((((((([[kStack, tnI P.st], [kTrusted, tnI P.tr]] ++ P.ss.map shaL) ++ (D.take k).flatMap (fun x => coLs P.ss x.2)) ++ [[kComp, xc.nm]]) ++ xc.fs.map (fileL xc.nm)) ++ xc.es.map (expL xc.nm)) ++ xc.ds.map (devL xc.nm)) ++ (xc.gs.take (m + 1)).map (givL P.ss xc.nm))
                                  rw [HLS4.out]
                                  exact hv⟩
                                case measure => simp [intOf]; have := HLT4.out; omega
                              · have HLX : Hid ((givL P.ss xc.nm) (xi, true) = [kGive, xc.nm, ⟨#[]⟩, kRw]) := Lib.hid (by unfold givL; rw [HNM.out]; simp)
                                have HSAY : Hid (∀ W, Fk wb wr W → WQ W wb B U4 ((((((([[kStack, tnI P.st], [kTrusted, tnI P.tr]] ++ P.ss.map shaL) ++ (D.take k).flatMap (fun x => coLs P.ss x.2)) ++ [[kComp, xc.nm]]) ++ xc.fs.map (fileL xc.nm)) ++ xc.es.map (expL xc.nm)) ++ xc.ds.map (devL xc.nm)) ++ (xc.gs.take m).map (givL P.ss xc.nm)) → Calls Tryz.prog 67 #[.pointer (some ⟨wb, 0, none⟩), .string ⟨#[103, 105, 118, 101]⟩, .string xc.nm, .string ⟨#[]⟩, .string ⟨#[114, 119]⟩] W fun e w' => e = .returned (.tuple #[]) ∧ (∃ V', WQ w' wb B V' (((((((([[kStack, tnI P.st], [kTrusted, tnI P.tr]] ++ P.ss.map shaL) ++ (D.take k).flatMap (fun x => coLs P.ss x.2)) ++ [[kComp, xc.nm]]) ++ xc.fs.map (fileL xc.nm)) ++ xc.es.map (expL xc.nm)) ++ xc.ds.map (devL xc.nm)) ++ (xc.gs.take m).map (givL P.ss xc.nm)) ++ [(givL P.ss xc.nm) (xi, true)])) ∧ Fk wb wr w') := Lib.hid (fun W hW hR => by
                                  rw [HLX.out]
                                  refine (r67 kGive xc.nm ⟨#[]⟩ kRw W wb B U4 ((((((([[kStack, tnI P.st], [kTrusted, tnI P.tr]] ++ P.ss.map shaL) ++ (D.take k).flatMap (fun x => coLs P.ss x.2)) ++ [[kComp, xc.nm]]) ++ xc.fs.map (fileL xc.nm)) ++ xc.es.map (expL xc.nm)) ++ xc.ds.map (devL xc.nm)) ++ (xc.gs.take m).map (givL P.ss xc.nm)) hR (HU.out _ (HFA.out.trans hW)).2.2.2 HLL.out).mono ?_
                                  rintro e w' ⟨h1, h2, h3⟩
                                  exact ⟨h1, h2, hW.trans h3⟩)
                                go_wp2_with fail
                                refine (HSAY.out _ (Fk.of (below_drewN (Below.refl _ _) _) (Nat.le_of_lt HWLT.out)) (HWA.out.below (below_drewN (Below.refl _ _) _))).mono ?_
                                rintro _ wz ⟨rfl, hwz, hfz⟩
                                clear q0 q1 q2 q3 q4 y4 h0
                                have HFZ : Hid (Fk wb wA wz) := Lib.hid (HFK2.out.trans hfz)
                                have HWZ := Lib.hid hwz
                                clear hwz hfz HSAY
                                go_wp2_with fail
                                go_roundw
                                case rel => exact ⟨m + 1, HLT4.out, by go_num, HFZ.out, by
                                  obtain ⟨V', hv⟩ := HWZ.out
                                  refine ⟨V', ?_⟩
                                  show WQ _ wb B V' ((((((([[kStack, tnI P.st], [kTrusted, tnI P.tr]] ++ P.ss.map shaL) ++ (D.take k).flatMap (fun x => coLs P.ss x.2)) ++ [[kComp, xc.nm]]) ++ xc.fs.map (fileL xc.nm)) ++ xc.es.map (expL xc.nm)) ++ xc.ds.map (devL xc.nm)) ++ (xc.gs.take (m + 1)).map (givL P.ss xc.nm))
                                  rw [HLS4.out]
                                  exact hv⟩
                                case measure => simp [intOf]; have := HLT4.out; omega
                        · obtain rfl : m = xc.gs.length := by omega
                          have HR4 : Hid (WQ wr wb B U4 ((((((([[kStack, tnI P.st], [kTrusted, tnI P.tr]] ++ P.ss.map shaL) ++ (D.take k).flatMap (fun x => coLs P.ss x.2)) ++ [[kComp, xc.nm]]) ++ xc.fs.map (fileL xc.nm)) ++ xc.es.map (expL xc.nm)) ++ xc.ds.map (devL xc.nm)) ++ xc.gs.map (givL P.ss xc.nm))) := Lib.hid (by have := HWA.out; rw [List.take_length] at this; exact this)
                          have HG4' := Lib.hid HFK2.out
                          clear hm hlt HFK2 HWA HFA
                          go_wp2_with fail
                          clear y4
                          go_roundw
                          case rel => exact ⟨k + 1, HLT.out, by go_num, HFW.out.trans HG4'.out, U4, by
                            show WQ _ wb B U4 (([[kStack, tnI P.st], [kTrusted, tnI P.tr]] ++ P.ss.map shaL) ++ (D.take (k + 1)).flatMap (fun x => coLs P.ss x.2))
                            rw [HLS.out]
                            have := HR4.out
                            have h2 : coLs P.ss xc = [kComp, xc.nm] :: (xc.fs.map (fileL xc.nm) ++ xc.es.map (expL xc.nm) ++ xc.ds.map (devL xc.nm) ++ xc.gs.map (givL P.ss xc.nm)) := rfl
                            rw [h2]
                            simpa using this⟩
                          case measure => simp [intOf]; have := HLT.out; omega
        · obtain rfl : k = D.length := by omega
          have HRB : Hid (WQ wr wb B V6 (([[kStack, tnI P.st], [kTrusted, tnI P.tr]] ++ P.ss.map shaL) ++ D.flatMap (fun x => coLs P.ss x.2))) := Lib.hid (by have := HWR.out; rw [List.take_length] at this; exact this)
          have HFB0 := Lib.hid HFK.out
          clear hk hlt HFK HWR
          go_wp2_with fail
          clear y3
          generalize wr = wc at *
          go_loopw [12, 13, 14] (fun i _ _ wr => RQ wb B W0 D.length (fun k => (([[kStack, tnI P.st], [kTrusted, tnI P.tr]] ++ P.ss.map shaL) ++ D.flatMap (fun x => coLs P.ss x.2)) ++ (D.take k).flatMap (fun x => x.2.is.map (impL P.cs x.2.nm))) i wr) (fun i _ _ _ => D.length - (intOf i).toNat)
          case atStart => exact ⟨0, Nat.zero_le _, rfl, HFB0.out, V6, by simpa using HRB.out⟩
          case round =>
            obtain ⟨k, hk, rfl, hfk, V7, hwr⟩ := hrel
            have HFK := Lib.hid hfk
            have HWR : Hid (WQ wr wb B V7 ((([[kStack, tnI P.st], [kTrusted, tnI P.tr]] ++ P.ss.map shaL) ++ D.flatMap (fun x => coLs P.ss x.2)) ++ (D.take k).flatMap (fun x => x.2.is.map (impL P.cs x.2.nm)))) := Lib.hid hwr
            obtain ⟨hp, hbw, hwbr, hbr⟩ := HU.out wr hfk
            have HWBR := Lib.hid hwbr
            have y3 := hp.cell 3
            simp at y3
            clear hfk hwr hp hbw hwbr hbr
            by_cases hlt : k < D.length
            · skip
              obtain ⟨x, hx⟩ : ∃ x, D[k]? = some x := ⟨_, List.getElem?_eq_getElem hlt⟩
              obtain ⟨b, o, he, hb, hcc⟩ := (HPL0.out.2.1.at').2 (by omega)
              have HCX : Hid (CoL w x) := Lib.hid (HPL0.out.2.2.2 x (List.mem_of_getElem? hx))
              have HBX := Lib.hid (HBP.out.2.2 _ (HMEM.out x (List.mem_of_getElem? hx)))
              have HXR := Lib.hid (HRG.out.2.2.2 _ (HMEM.out x (List.mem_of_getElem? hx)))
              obtain ⟨⟨F1, n1, c1, g1⟩, ⟨F2, n2, c2, g2⟩, ⟨F3, n3, c3, g3⟩, ⟨F4, n4, c4, g4⟩, ⟨F5, n5, c5, g5⟩⟩ := HIS.out x (List.mem_of_getElem? hx)
              obtain ⟨⟨xf, xe, xi, xd, xg⟩, xc⟩ := x
              simp only at g1 g2 g3 g4 g5 HBX HXR
              subst g1 g2 g3 g4 g5
              subst he
              have HPW := Lib.hid (HU.out _ HFK.out).2.1
              have q0 : wr.cell? ⟨b, o + k * 6, none⟩ = some (.string xc.nm) := (HPW.out.cell hb).trans (hcc k _ hx 0 _ rfl)
              have q1 : wr.cell? ⟨b, o + k * 6 + 1, none⟩ = some (.slice F1 n1 c1) := (HPW.out.cell hb).trans (hcc k _ hx 1 _ rfl)
              have q2 : wr.cell? ⟨b, o + k * 6 + 2, none⟩ = some (.slice F2 n2 c2) := (HPW.out.cell hb).trans (hcc k _ hx 2 _ rfl)
              have q3 : wr.cell? ⟨b, o + k * 6 + 3, none⟩ = some (.slice F3 n3 c3) := (HPW.out.cell hb).trans (hcc k _ hx 3 _ rfl)
              have q4 : wr.cell? ⟨b, o + k * 6 + 4, none⟩ = some (.slice F4 n4 c4) := (HPW.out.cell hb).trans (hcc k _ hx 4 _ rfl)
              have q5 : wr.cell? ⟨b, o + k * 6 + 5, none⟩ = some (.slice F5 n5 c5) := (HPW.out.cell hb).trans (hcc k _ hx 5 _ rfl)
              have hkn : (k : Int) < (D.length : Int) := by omega
              have hkb : k ≤ 1048576 := by have := HBP.out.2.1; have := HDL.out; omega
              have hkw : IntKind.i64.wrap (k : Int) = (k : Int) := by rw [IntKind.wrap_i64]; omega
              have HX := Lib.hid hx
              have HLT := Lib.hid hlt
              have hly := HCX.out.2.2.1
              obtain rfl : n3 = xc.is.length := hly.at'.1
              have HLY : Hid (Ly w (.slice F3 xc.is.length c3) 2 iIs xc.is) := Lib.hid HCX.out.2.2.1
              have HNB : Hid (∀ W, Below w.heap.size w W → W.cell? ⟨b, o + k * 6, none⟩ = some (.string xc.nm)) := Lib.hid (fun W hW => (hW.cell hb).trans (hcc k _ hx 0 _ rfl))
              have HLS : Hid ((([[kStack, tnI P.st], [kTrusted, tnI P.tr]] ++ P.ss.map shaL) ++ D.flatMap (fun x => coLs P.ss x.2)) ++ (D.take (k + 1)).flatMap (fun x => x.2.is.map (impL P.cs x.2.nm)) = ((([[kStack, tnI P.st], [kTrusted, tnI P.tr]] ++ P.ss.map shaL) ++ D.flatMap (fun x => coLs P.ss x.2)) ++ (D.take k).flatMap (fun x => x.2.is.map (impL P.cs x.2.nm))) ++ xc.is.map (impL P.cs xc.nm)) := Lib.hid (fm_step (fun x : Sv × CoI => x.2.is.map (impL P.cs x.2.nm)) _ hx)
              have HL3 : Hid (((([[kStack, tnI P.st], [kTrusted, tnI P.tr]] ++ P.ss.map shaL) ++ D.flatMap (fun x => coLs P.ss x.2)) ++ (D.take k).flatMap (fun x => x.2.is.map (impL P.cs x.2.nm))).length + xc.is.length ≤ 1073741824) := Lib.hid (by
                have h1 := fm_len (fun x : Sv × CoI => x.2.is.map (impL P.cs x.2.nm)) hx
                simp only [List.length_append, List.length_map, List.length_cons, List.length_nil] at h1 ⊢
                have := HN0.out
                omega)
              clear hx hcc hb hlt hly
              go_wp2_with fail
              clear q0 q1 q2 q3 q4 q5 y3
              generalize wr = wo at *
              go_loopw [14] (fun i wq => RQ wb B wo xc.is.length (fun m => ((([[kStack, tnI P.st], [kTrusted, tnI P.tr]] ++ P.ss.map shaL) ++ D.flatMap (fun x => coLs P.ss x.2)) ++ (D.take k).flatMap (fun x => x.2.is.map (impL P.cs x.2.nm))) ++ (xc.is.take m).map (impL P.cs xc.nm)) i wq) (fun i _ => xc.is.length - (intOf i).toNat)
              case atStart => exact ⟨0, Nat.zero_le _, rfl, Fk.refl _ _, V7, by simpa using HWR.out⟩
              case round =>
                obtain ⟨m, hm, rfl, hfk, V8, hwr⟩ := hrel
                have HFK2 := Lib.hid hfk
                have HFA : Hid (Fk wb W0 wr) := Lib.hid (HFK.out.trans hfk)
                have HWA : Hid (WQ wr wb B V8 (((([[kStack, tnI P.st], [kTrusted, tnI P.tr]] ++ P.ss.map shaL) ++ D.flatMap (fun x => coLs P.ss x.2)) ++ (D.take k).flatMap (fun x => x.2.is.map (impL P.cs x.2.nm))) ++ (xc.is.take m).map (impL P.cs xc.nm))) := Lib.hid hwr
                clear hfk hwr
                by_cases hlt : m < xc.is.length
                · obtain ⟨y, hy⟩ : ∃ y, xc.is[m]? = some y := ⟨_, List.getElem?_eq_getElem hlt⟩
                  obtain ⟨b4, o4, he4, hb4, hc4⟩ := (HLY.out.at').2 (by omega)
                  subst he4
                  have HS : Hid (∀ W, Fk wb wr W → W.cell? ⟨w.heap.size, 0, none⟩ = some (.int .i64 P.st) ∧ W.cell? ⟨w.heap.size, 1, none⟩ = some (.int .i64 P.tr) ∧ W.cell? ⟨w.heap.size, 2, none⟩ = some (.slice AS P.ss.length sc) ∧ W.cell? ⟨w.heap.size, 3, none⟩ = some (.slice (some ⟨b, o, none⟩) D.length cc) ∧ W.cell? ⟨w.heap.size, 4, none⟩ = some (.int .i64 P.s0) ∧ W.cell? ⟨w.heap.size, 5, none⟩ = some (.string P.mn) ∧ W.cell? ⟨b, o + k * 6, none⟩ = some (.string xc.nm) ∧ W.cell? ⟨b4, o4 + m * 2, none⟩ = some (.int .i64 y.1) ∧ W.cell? ⟨b4, o4 + m * 2 + 1, none⟩ = some (.string y.2)) := Lib.hid (fun W hW => by
                    obtain ⟨h0, h2, -⟩ := HU.out W (HFA.out.trans hW)
                    exact ⟨by simpa using h0.cell 0, by simpa using h0.cell 1, by simpa using h0.cell 2, by simpa using h0.cell 3, by simpa using h0.cell 4, by simpa using h0.cell 5, HNB.out W h2, (h2.cell hb4).trans (hc4 m y hy 0 _ rfl), (h2.cell hb4).trans (hc4 m y hy 1 _ rfl)⟩)
                  have hmn : (m : Int) < (xc.is.length : Int) := by omega
                  have hmb : m ≤ 1048576 := by have := HBX.out.2.2.1; omega
                  have hmw : IntKind.i64.wrap (m : Int) = (m : Int) := by rw [IntKind.wrap_i64]; omega
                  have HLL : Hid ((((([[kStack, tnI P.st], [kTrusted, tnI P.tr]] ++ P.ss.map shaL) ++ D.flatMap (fun x => coLs P.ss x.2)) ++ (D.take k).flatMap (fun x => x.2.is.map (impL P.cs x.2.nm))) ++ (xc.is.take m).map (impL P.cs xc.nm)).length ≤ 1073741824) := Lib.hid (by
                    have h1 := ls_len xc.is m (impL P.cs xc.nm) ((([[kStack, tnI P.st], [kTrusted, tnI P.tr]] ++ P.ss.map shaL) ++ D.flatMap (fun x => coLs P.ss x.2)) ++ (D.take k).flatMap (fun x => x.2.is.map (impL P.cs x.2.nm)))
                    have := HL3.out
                    omega)
                  have HLS4 : Hid (((([[kStack, tnI P.st], [kTrusted, tnI P.tr]] ++ P.ss.map shaL) ++ D.flatMap (fun x => coLs P.ss x.2)) ++ (D.take k).flatMap (fun x => x.2.is.map (impL P.cs x.2.nm))) ++ (xc.is.take (m + 1)).map (impL P.cs xc.nm) = (((([[kStack, tnI P.st], [kTrusted, tnI P.tr]] ++ P.ss.map shaL) ++ D.flatMap (fun x => coLs P.ss x.2)) ++ (D.take k).flatMap (fun x => x.2.is.map (impL P.cs x.2.nm))) ++ (xc.is.take m).map (impL P.cs xc.nm)) ++ [impL P.cs xc.nm y]) := Lib.hid (ls_step (impL P.cs xc.nm) _ hy)
                  have HLT4 := Lib.hid hlt
                  clear hy hc4 hb4 hlt
                  go_upto_region 43 with fail
                  have HWL : Hid (wb < wr.heap.size) := Lib.hid HWA.out.1.lt
                  have HBA2 : Hid (B ≤ wr.heap.size) := Lib.hid (HU.out _ HFA.out).2.2.2
                  have HFd : Hid (Fk wb wr wr.drew) := Lib.hid (Fk.of (Below.refl _ _).drew (Nat.le_of_lt HWL.out))
                  have HWd : Hid (WQ wr.drew wb B V8 (((([[kStack, tnI P.st], [kTrusted, tnI P.tr]] ++ P.ss.map shaL) ++ D.flatMap (fun x => coLs P.ss x.2)) ++ (D.take k).flatMap (fun x => x.2.is.map (impL P.cs x.2.nm))) ++ (xc.is.take m).map (impL P.cs xc.nm))) := Lib.hid (HWA.out.below (Below.refl _ _).drew)
                  have HI := Lib.hid (HS.out _ HFd.out)
                  have HCL0 : Hid (∀ W, Fk wb wr W → WQ W wb B V8 (((([[kStack, tnI P.st], [kTrusted, tnI P.tr]] ++ P.ss.map shaL) ++ D.flatMap (fun x => coLs P.ss x.2)) ++ (D.take k).flatMap (fun x => x.2.is.map (impL P.cs x.2.nm))) ++ (xc.is.take m).map (impL P.cs xc.nm)) → Calls Tryz.prog 68 #[.agg #[.int .i64 P.st, .int .i64 P.tr, .slice AS P.ss.length sc, .slice (some ⟨b, o, none⟩) D.length cc, .int .i64 P.s0, .string P.mn], .int .i64 y.1] W fun e w' => e = .returned (.string ((nmC P.cs y.1).getD ⟨#[]⟩)) ∧ Fk wb wr w' ∧ WQ w' wb B V8 (((([[kStack, tnI P.st], [kTrusted, tnI P.tr]] ++ P.ss.map shaL) ++ D.flatMap (fun x => coLs P.ss x.2)) ++ (D.take k).flatMap (fun x => x.2.is.map (impL P.cs x.2.nm))) ++ (xc.is.take m).map (impL P.cs xc.nm))) := Lib.hid (fun W hW hR => by
                    refine (r68 (.slice AS P.ss.length sc) (.slice (some ⟨b, o, none⟩) D.length cc) P D y.1 W (HPL.out W (HFA.out.trans hW)) (by have := HBP.out.2.1; have := HDL.out; omega)).mono ?_
                    rintro e w' ⟨h1, h2⟩
                    exact ⟨h1, hW.trans (Fk.of h2 (Nat.le_of_lt hR.1.lt)), hR.below h2⟩)
                  have HSAY : Hid (∀ W, Fk wb wr W → WQ W wb B V8 (((([[kStack, tnI P.st], [kTrusted, tnI P.tr]] ++ P.ss.map shaL) ++ D.flatMap (fun x => coLs P.ss x.2)) ++ (D.take k).flatMap (fun x => x.2.is.map (impL P.cs x.2.nm))) ++ (xc.is.take m).map (impL P.cs xc.nm)) → Calls Tryz.prog 67 #[.pointer (some ⟨wb, 0, none⟩), .string ⟨#[105, 109, 112, 111, 114, 116]⟩, .string xc.nm, .string ((nmC P.cs y.1).getD ⟨#[]⟩), .string y.2] W fun e w' => e = .returned (.tuple #[]) ∧ (∃ V', WQ w' wb B V' ((((([[kStack, tnI P.st], [kTrusted, tnI P.tr]] ++ P.ss.map shaL) ++ D.flatMap (fun x => coLs P.ss x.2)) ++ (D.take k).flatMap (fun x => x.2.is.map (impL P.cs x.2.nm))) ++ (xc.is.take m).map (impL P.cs xc.nm)) ++ [impL P.cs xc.nm y])) ∧ Fk wb wr w') := Lib.hid (fun W hW hR => by
                    refine (r67 kImport xc.nm ((nmC P.cs y.1).getD ⟨#[]⟩) y.2 W wb B V8 (((([[kStack, tnI P.st], [kTrusted, tnI P.tr]] ++ P.ss.map shaL) ++ D.flatMap (fun x => coLs P.ss x.2)) ++ (D.take k).flatMap (fun x => x.2.is.map (impL P.cs x.2.nm))) ++ (xc.is.take m).map (impL P.cs xc.nm)) hR (Nat.le_trans HBA2.out hW.1.size) HLL.out).mono ?_
                    rintro e w' ⟨h1, h2, h3⟩
                    exact ⟨h1, h2, hW.trans h3⟩)
                  go_region_held3 (fun W => W.cell? ⟨w.heap.size, 0, none⟩ = some (.int .i64 P.st) ∧ W.cell? ⟨w.heap.size, 1, none⟩ = some (.int .i64 P.tr) ∧ W.cell? ⟨w.heap.size, 2, none⟩ = some (.slice AS P.ss.length sc) ∧ W.cell? ⟨w.heap.size, 3, none⟩ = some (.slice (some ⟨b, o, none⟩) D.length cc) ∧ W.cell? ⟨w.heap.size, 4, none⟩ = some (.int .i64 P.s0) ∧ W.cell? ⟨w.heap.size, 5, none⟩ = some (.string P.mn) ∧ W.cell? ⟨b, o + k * 6, none⟩ = some (.string xc.nm) ∧ W.cell? ⟨b4, o4 + m * 2, none⟩ = some (.int .i64 y.1) ∧ W.cell? ⟨b4, o4 + m * 2 + 1, none⟩ = some (.string y.2))
                    (first | assumption | exact HI.out | (with_reducible exact HS.out _ (by assumption)) | (exact HS.out _ (Fk.allocQ hq6 ⟨_, _, _, hr6⟩ _)))
                    (first
                      | (go_at_call 68; (first | (with_reducible refine (HCL0.out _ HFd.out HWd.out).mono ?_)); rintro _ w6 ⟨rfl, hq6, hr6⟩)
                      | (go_at_call 67; (with_reducible refine (HSAY.out _ hq6 hr6).mono ?_); rintro _ wz ⟨rfl, hwz, hfz⟩))
                  all_goals
                    have HFZ : Hid (Fk wb wo wz) := Lib.hid (HFK2.out.trans hfz)
                    have HWZ := Lib.hid hwz
                    clear hwz hfz HSAY HCL0
                    go_wp2_with fail
                    go_roundw
                    case rel => exact ⟨m + 1, HLT4.out, by go_num, HFZ.out, by
                      obtain ⟨V', hv⟩ := HWZ.out
                      refine ⟨V', ?_⟩
                      show WQ _ wb B V' (((([[kStack, tnI P.st], [kTrusted, tnI P.tr]] ++ P.ss.map shaL) ++ D.flatMap (fun x => coLs P.ss x.2)) ++ (D.take k).flatMap (fun x => x.2.is.map (impL P.cs x.2.nm))) ++ (xc.is.take (m + 1)).map (impL P.cs xc.nm))
                      rw [HLS4.out]
                      exact hv⟩
                    case measure => simp [intOf]; have := HLT4.out; omega
                · obtain rfl : m = xc.is.length := by omega
                  have HRC : Hid (WQ wr wb B V8 (((([[kStack, tnI P.st], [kTrusted, tnI P.tr]] ++ P.ss.map shaL) ++ D.flatMap (fun x => coLs P.ss x.2)) ++ (D.take k).flatMap (fun x => x.2.is.map (impL P.cs x.2.nm))) ++ xc.is.map (impL P.cs xc.nm))) := Lib.hid (by have := HWA.out; rw [List.take_length] at this; exact this)
                  clear hm hlt HWA
                  go_wp2_with fail
                  go_roundw
                  case rel => exact ⟨k + 1, HLT.out, by go_num, HFA.out, V8, by
                    show WQ _ wb B V8 ((([[kStack, tnI P.st], [kTrusted, tnI P.tr]] ++ P.ss.map shaL) ++ D.flatMap (fun x => coLs P.ss x.2)) ++ (D.take (k + 1)).flatMap (fun x => x.2.is.map (impL P.cs x.2.nm)))
                    rw [HLS.out]
                    exact HRC.out⟩
                  case measure => simp [intOf]; have := HLT.out; omega
            · obtain rfl : k = D.length := by omega
              have HWA : Hid (WQ wr wb B V7 ((([[kStack, tnI P.st], [kTrusted, tnI P.tr]] ++ P.ss.map shaL) ++ D.flatMap (fun x => coLs P.ss x.2)) ++ D.flatMap (fun x => x.2.is.map (impL P.cs x.2.nm)))) := Lib.hid (by have := HWR.out; rw [List.take_length] at this; exact this)
              have HFA := Lib.hid HFK.out
              have HLL : Hid (((([[kStack, tnI P.st], [kTrusted, tnI P.tr]] ++ P.ss.map shaL) ++ D.flatMap (fun x => coLs P.ss x.2)) ++ D.flatMap (fun x => x.2.is.map (impL P.cs x.2.nm))).length ≤ 1073741824) := Lib.hid (by simp only [List.length_append, List.length_map, List.length_cons, List.length_nil]; have := HN0.out; omega)
              clear hk hlt HFK HWR
              go_upto_region 44 with fail
              clear y3
              have HS : Hid (∀ W, Fk wb wr W → W.cell? ⟨w.heap.size, 0, none⟩ = some (.int .i64 P.st) ∧ W.cell? ⟨w.heap.size, 1, none⟩ = some (.int .i64 P.tr) ∧ W.cell? ⟨w.heap.size, 2, none⟩ = some (.slice AS P.ss.length sc) ∧ W.cell? ⟨w.heap.size, 3, none⟩ = some (.slice AC D.length cc) ∧ W.cell? ⟨w.heap.size, 4, none⟩ = some (.int .i64 P.s0) ∧ W.cell? ⟨w.heap.size, 5, none⟩ = some (.string P.mn)) := Lib.hid (fun W hW => by
                obtain ⟨h0, -, -⟩ := HU.out W (HFA.out.trans hW)
                exact ⟨by simpa using h0.cell 0, by simpa using h0.cell 1, by simpa using h0.cell 2, by simpa using h0.cell 3, by simpa using h0.cell 4, by simpa using h0.cell 5⟩)
              have HWL : Hid (wb < wr.heap.size) := Lib.hid HWA.out.1.lt
              have HBA2 : Hid (B ≤ wr.heap.size) := Lib.hid (HU.out _ HFA.out).2.2.2
              have HFd : Hid (Fk wb wr wr.drew) := Lib.hid (Fk.of (Below.refl _ _).drew (Nat.le_of_lt HWL.out))
              have HWd : Hid (WQ wr.drew wb B V7 ((([[kStack, tnI P.st], [kTrusted, tnI P.tr]] ++ P.ss.map shaL) ++ D.flatMap (fun x => coLs P.ss x.2)) ++ D.flatMap (fun x => x.2.is.map (impL P.cs x.2.nm)))) := Lib.hid (HWA.out.below (Below.refl _ _).drew)
              have HI := Lib.hid (HS.out _ HFd.out)
              have HCL0 : Hid (∀ W, Fk wb wr W → WQ W wb B V7 ((([[kStack, tnI P.st], [kTrusted, tnI P.tr]] ++ P.ss.map shaL) ++ D.flatMap (fun x => coLs P.ss x.2)) ++ D.flatMap (fun x => x.2.is.map (impL P.cs x.2.nm))) → Calls Tryz.prog 68 #[.agg #[.int .i64 P.st, .int .i64 P.tr, .slice AS P.ss.length sc, .slice AC D.length cc, .int .i64 P.s0, .string P.mn], .int .i64 P.s0] W fun e w' => e = .returned (.string ((nmC P.cs P.s0).getD ⟨#[]⟩)) ∧ Fk wb wr w' ∧ WQ w' wb B V7 ((([[kStack, tnI P.st], [kTrusted, tnI P.tr]] ++ P.ss.map shaL) ++ D.flatMap (fun x => coLs P.ss x.2)) ++ D.flatMap (fun x => x.2.is.map (impL P.cs x.2.nm)))) := Lib.hid (fun W hW hR => by
                refine (r68 (.slice AS P.ss.length sc) (.slice AC D.length cc) P D P.s0 W (HPL.out W (HFA.out.trans hW)) (by have := HBP.out.2.1; have := HDL.out; omega)).mono ?_
                rintro e w' ⟨h1, h2⟩
                exact ⟨h1, hW.trans (Fk.of h2 (Nat.le_of_lt hR.1.lt)), hR.below h2⟩)
              have HSAY : Hid (∀ W, Fk wb wr W → WQ W wb B V7 ((([[kStack, tnI P.st], [kTrusted, tnI P.tr]] ++ P.ss.map shaL) ++ D.flatMap (fun x => coLs P.ss x.2)) ++ D.flatMap (fun x => x.2.is.map (impL P.cs x.2.nm))) → Calls Tryz.prog 65 #[.pointer (some ⟨wb, 0, none⟩), .string ⟨#[115, 116, 97, 114, 116]⟩, .string ((nmC P.cs P.s0).getD ⟨#[]⟩), .string P.mn] W fun e w' => e = .returned (.tuple #[]) ∧ (∃ V', WQ w' wb B V' (((([[kStack, tnI P.st], [kTrusted, tnI P.tr]] ++ P.ss.map shaL) ++ D.flatMap (fun x => coLs P.ss x.2)) ++ D.flatMap (fun x => x.2.is.map (impL P.cs x.2.nm))) ++ [[kStart, (nmC P.cs P.s0).getD ⟨#[]⟩, P.mn]])) ∧ Fk wb wr w') := Lib.hid (fun W hW hR => by
                refine (r65 kStart ((nmC P.cs P.s0).getD ⟨#[]⟩) P.mn W wb B V7 ((([[kStack, tnI P.st], [kTrusted, tnI P.tr]] ++ P.ss.map shaL) ++ D.flatMap (fun x => coLs P.ss x.2)) ++ D.flatMap (fun x => x.2.is.map (impL P.cs x.2.nm))) hR (Nat.le_trans HBA2.out hW.1.size) HLL.out).mono ?_
                rintro e w' ⟨h1, h2, h3⟩
                exact ⟨h1, h2, hW.trans h3⟩)
              go_region_held3 (fun W => W.cell? ⟨w.heap.size, 0, none⟩ = some (.int .i64 P.st) ∧ W.cell? ⟨w.heap.size, 1, none⟩ = some (.int .i64 P.tr) ∧ W.cell? ⟨w.heap.size, 2, none⟩ = some (.slice AS P.ss.length sc) ∧ W.cell? ⟨w.heap.size, 3, none⟩ = some (.slice AC D.length cc) ∧ W.cell? ⟨w.heap.size, 4, none⟩ = some (.int .i64 P.s0) ∧ W.cell? ⟨w.heap.size, 5, none⟩ = some (.string P.mn))
                (first | assumption | exact HI.out | (with_reducible exact HS.out _ (by assumption)) | (exact HS.out _ (Fk.allocQ hq6 ⟨_, _, _, hr6⟩ _)))
                (first
                  | (go_at_call 68; (first | (with_reducible refine (HCL0.out _ HFd.out HWd.out).mono ?_)); rintro _ w6 ⟨rfl, hq6, hr6⟩)
                  | (go_at_call 65; (with_reducible refine (HSAY.out _ hq6 hr6).mono ?_); rintro _ wz ⟨rfl, hwz, hfz⟩))
              all_goals
                have HFZ : Hid (Fk wb W0 wz) := Lib.hid (HFA.out.trans hfz)
                have HWZ : Hid (∃ V', WQ wz wb B V' (txt P)) := Lib.hid (by rw [HTX.out]; exact hwz)
                clear hwz hfz HSAY HCL0
                obtain ⟨V9, h9⟩ := HWZ.out
                have H9 := Lib.hid h9
                obtain ⟨A9, n9, c9, rfl⟩ : ∃ A n c, V9 = .slice A n c := by
                  obtain ⟨D9, d1, d2, d3⟩ := h9.2.1
                  obtain ⟨A9, c9, e9, _⟩ := own_slice d2
                  exact ⟨A9, _, c9, e9⟩
                have v0 := h9.1.cell 0
                simp at v0
                clear h9
                have HWZB := Lib.hid (HU.out _ HFZ.out).2.1
                go_wp2_with fail
                go_ret
                exact ⟨A9, n9, c9, B, rfl, H9.out.2.1, HWZB.out⟩
end Go.Proofs.YtapdiionikfgpaaGreatDoor
