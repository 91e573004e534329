import Derived.Test.YtmanoheofloimaaGreatDoorRez
namespace Go.Proofs.YtmanoheofloimaaGreatDoor
open Go.ChangeShapes Go.WideShapes Go.ChangeAt Go.RowKit
set_option linter.unusedVariables false
set_option maxRecDepth 100000
section
variable {P : Program}
theorem wpList_load_sub {ops : Array Oper} {rest : List Oper} {o : Oper} {a : Act} {w : World} {Q : Exit → Act → World → Prop} (hgd : o.guard = none) (ty : TypeId) (x : Operand) (ho : o.op = .load ty x)
    (g off : Nat) (hx : a.eval x = .pointer (some ⟨g, off, none⟩)) (t : TypeId) (cs : Array Value) (l : List Value) (fr : Nat × Nat) (d : TypeDesc) (hg : w.heap[g]? = some (.cells cs t fr)) (hl : ∀ j v, l[j]? = some v → cs[off + j]? = some v)
    (hu : P.underlying ty = some d) (hd : (match d with | .struct _ | .array _ _ => true | _ => false) = true) (hi : (P.info? ty).map (·.size) = some l.length)
    (h : wpList P ops Q rest (a.put o.dst (.agg l.toArray)) w) : wpList P ops Q (o :: rest) a w :=
  wpList_plain hgd fun _ hK => wp_load_sub ty x ho g off hx t cs l fr d hg hl hu hd hi (hK _ _ h)
end
/-- a machine -/
def mc (m : Option Addr) (s : St) (n : Nat) : List Value := .pointer m :: (s.L ++ [.int .i64 (n : Int)])
theorem mc_len (m : Option Addr) (s : St) (n : Nat) : (mc m s n).toArray.size = 153 := by unfold mc; simp [s.len]
theorem bMc (p : Option Addr) : Tryz.prog.built 36 [(0, .pointer p), (1, .agg st0.L.toArray)] = some (mc p st0 0).toArray := by kernel_rfl
theorem bMc0 : Tryz.prog.built 36 [] = some (mc none st0 0).toArray := by kernel_rfl
theorem zMc (W : World) : (zeroValue 36).run Tryz.prog W = .ok (.agg (mc none st0 0).toArray) W := by kernel_rfl
theorem im_3 (b : Value) : ∀ j v, st0.L[j]? = some v → (im b).toArray[3 + j]? = some v := fun j v h => by
  have hj : j < st0.L.length := (List.getElem?_eq_some_iff.1 h).1
  unfold im
  rw [List.getElem?_toArray, List.getElem?_append_right (by simp), List.getElem?_append_left (by simpa using hj)]
  simpa using h
theorem mc_1 (m : Option Addr) (s : St) (n : Nat) : ∀ j v, s.L[j]? = some v → (mc m s n).toArray[1 + j]? = some v := fun j v h => by
  have hj : j < s.L.length := (List.getElem?_eq_some_iff.1 h).1
  unfold mc
  rw [List.getElem?_toArray, Nat.add_comm, List.getElem?_cons_succ, List.getElem?_append_left hj]
  exact h
theorem mc_0 (m : Option Addr) (s : St) (n : Nat) : (mc m s n).toArray[0]? = some (.pointer m) := rfl
theorem new0 (w : World) : Calls Tryz.prog 14 #[.agg (im (.slice none 0 0)).toArray] w fun e w' => e = .returned (.tuple #[.pointer none, .int .i64 5]) ∧ Below w.heap.size w w' := by
  have KL := Lib.hid load0
  have hn := im_len (.slice none 0 0)
  obtain ⟨IA, hIA⟩ : ∃ IA, (im (.slice none 0 0)).toArray = IA := ⟨_, rfl⟩
  rw [hIA] at KL hn ⊢
  have HI : Hid ((Tryz.prog.info? 69).map (·.size) = some IA.size) := Lib.hid (by rw [hn]; exact infoIm)
  have HBL := Lib.hid (Blk.new w 69 IA)
  clear hIA hn
  go_enter Tryz.func14, Tryz.ntmps14
  go_wp2_with (refine wpList_load_row rfl 69 (.tmp 1) rfl w.heap.size rfl 69 IA (0, 0) _ HBL.out Tryz.underlying69 rfl HI.out ?_)
  refine (KL.out _).mono ?_
  rintro _ w2 ⟨rfl, hb2⟩
  have HB2 := Lib.hid hb2
  clear hb2
  go_wp2_with fail
  go_ret2
  exact ⟨rfl, ((Below.refl _ _).alloc (Nat.le_refl _) _).trans (HB2.out.mono (by simp))⟩
theorem newI (w : World) (Bs : Nat) (hl : Bs < w.heap.size) (hB : ∀ k, k < 65280 → w.cell? ⟨Bs, k, none⟩ = some (.int .u8 0)) :
    Calls Tryz.prog 14 #[.agg (im (.slice (some ⟨Bs, 0, none⟩) 65280 65280)).toArray] w fun e w' => ∃ b x, e = .returned (.tuple #[.pointer (some ⟨x, 0, none⟩), .int .i64 0]) ∧ Mem w' b (fun _ => 0) (fun _ => false) ∧ Below w.heap.size w w' ∧ w.heap.size ≤ b ∧ w.heap.size ≤ x ∧ b ≠ x ∧ Blk w' x 36 (mc (some ⟨b, 0, none⟩) st0 0).toArray := by
  have KL := Lib.hid (loadI (w.alloc (.cells (im (.slice (some ⟨Bs, 0, none⟩) 65280 65280)).toArray 69)) Bs (by rw [World.size_alloc]; omega) (fun k hk => by rw [cell_same (Below.heap_alloc w _ Bs hl)]; exact hB k hk))
  have hn := im_len (.slice (some ⟨Bs, 0, none⟩) 65280 65280)
  have h3 := im_3 (.slice (some ⟨Bs, 0, none⟩) 65280 65280)
  obtain ⟨IA, hIA⟩ : ∃ IA, (im (.slice (some ⟨Bs, 0, none⟩) 65280 65280)).toArray = IA := ⟨_, rfl⟩
  rw [hIA] at KL hn h3 ⊢
  have HI : Hid ((Tryz.prog.info? 69).map (·.size) = some IA.size) := Lib.hid (by rw [hn]; exact infoIm)
  have HBL := Lib.hid (Blk.new w 69 IA)
  have H3 := Lib.hid h3
  have HIS : Hid ((Tryz.prog.info? 34).map (·.size) = some st0.L.length) := Lib.hid (by rw [st0.len]; exact info32s)
  clear hIA hn h3 hB
  go_enter Tryz.func14, Tryz.ntmps14
  go_wp2_with (refine wpList_load_row rfl 69 (.tmp 1) rfl w.heap.size rfl 69 IA (0, 0) _ HBL.out Tryz.underlying69 rfl HI.out ?_)
  refine KL.out.mono ?_
  rintro _ w2 ⟨b, rfl, hM2, hb2, hb⟩
  rw [World.size_alloc] at hb2 hb
  have HB2 := Lib.hid hb2; have HM2 := Lib.hid hM2; have HBB := Lib.hid hb
  have HI2 := Lib.hid (HBL.out.below hb2 (Nat.lt_succ_self _))
  have hbM := bMc (some ⟨b, 0, none⟩)
  obtain ⟨MA, hMA⟩ : ∃ MA, (mc (some ⟨b, 0, none⟩) st0 0).toArray = MA := ⟨_, rfl⟩
  rw [hMA] at hbM
  have HMA := Lib.hid hMA
  have HMB := Lib.hid hbM
  obtain ⟨S0, hS0⟩ : ∃ S0, st0.L = S0 := ⟨_, rfl⟩
  rw [hS0] at HMB H3 HIS
  clear hb2 hM2 hb KL hbM hMA
  go_wp2_with first
    | (refine wpList_load_sub rfl 34 (.tmp 15) rfl w.heap.size 3 rfl 69 IA S0 (0, 0) _ HI2.out H3.out Tryz.underlying34 rfl HIS.out ?_)
    | (refine wpList_buildE rfl 36 [(0, .tmp 14), (1, .tmp 16)] rfl MA ((congrArg (Tryz.prog.built 36) (by rfl)).trans HMB.out) ?_)
  go_ret2
  refine ⟨b, w2.heap.size, by simp, HM2.out.below ((Below.refl _ _).alloc (Nat.le_refl _) _) HM2.out.lt, ?_, by have := HBB.out; omega, ?_, by have := HM2.out.lt; omega, by rw [HMA.out]; exact Blk.new _ _ _⟩
  · exact (((Below.refl _ w).alloc (Nat.le_refl _) _).trans (HB2.out.mono (Nat.le_succ _))).alloc (by have := HB2.out.size; simp at this; omega) _
  · have := HB2.out.size; simp at this; omega
end Go.Proofs.YtmanoheofloimaaGreatDoor
