import Derived.Test.YtgmifaadlaigdaaGreatDoorOj
namespace Go.Proofs.YtgmifaadlaigdaaGreatDoor
open Go.ChangeShapes Go.WideShapes Go.ChangeAt Go.RowKit
set_option linter.unusedVariables false
theorem ow_made (w : World) (s : ByteArray) (hs : s.size ≤ 16777216) : Ow (Lib.bytesWorld w 5 s) w.heap.size (.slice (some ⟨w.heap.size, 0, none⟩) s.size (grownCap w s.size 0 5)) s.size (Lib.strCells s) := by
  have hge := grownCap_ge w s.size 0 5
  have hsz : (Lib.bytesCells w 5 s).size = grownCap w s.size 0 5 := by
    have h1 : s.data.size = s.size := rfl
    simp only [Lib.bytesCells, Array.size_append, Array.size_map, Array.size_replicate, h1]
    omega
  refine ⟨Lib.strCells_length s, .inr ⟨w.heap.size, _, _, _, rfl, Nat.le_refl _, Lib.bytesWorld_at_new w 5 s, .inr (by rw [hsz]; exact Nat.le_refl _), hge, grownCap_le_maxLen w s.size 0 5 (by unfold maxLen; omega), hsz, ?_⟩⟩
  simp only [Lib.bytesCells, Array.toList_append, Array.toList_map]
  have h2 : (List.map (fun b => Value.int .u8 (b.toNat : Int)) s.data.toList).length = s.size := by rw [List.length_map]; rfl
  rw [← h2, List.take_left]
  rfl
theorem ow_bs {w : World} {B : Nat} {v : Value} {s : ByteArray} (h : Ow w B v s.size (Lib.strCells s)) (h0 : 0 < s.size) : ∃ b c, v = .slice (some ⟨b, 0, none⟩) s.size c ∧ s.size ≤ c ∧ B ≤ b ∧ Bs w b 0 s.size (bb s) := by
  rcases h.2 with ⟨rfl, hz⟩ | ⟨g, cap, cur, fz, rfl, hb, hg, _, hc, _⟩
  · omega
  · refine ⟨g, cap, rfl, hc, hb, (h.lt g rfl).2, fun k hk => ⟨bb_lt s k, ?_⟩⟩
    rw [Nat.zero_add]
    refine h.cells (g := g) rfl k _ ?_
    rw [bb_eq s k hk]
    simp only [Lib.strCells, List.getElem?_map, bb_list s k hk]
    rfl
theorem ow_shape {w : World} {B n : Nat} {v : Value} {xs : List Value} (h : Ow w B v n xs) : ∃ A c, v = .slice A n c := by
  rcases h.2 with ⟨rfl, rfl⟩ | ⟨g, cap, cur, fz, hv, _⟩
  · exact ⟨none, 0, rfl⟩
  · exact ⟨_, _, hv⟩
theorem ow_cat {w : World} {B : Nat} {v : Value} {s t : ByteArray} (h : Ow w B v (s.size + t.size) (Lib.strCells s ++ Lib.strCells t)) : Ow w B v (s ++ t).size (Lib.strCells (s ++ t)) := by
  rw [ByteArray.size_append, cells_add]; exact h
theorem ow_grown {B : Nat} {w0 w w' : World} {v : Value} {n : Nat} {xs : List Value} (h : Below B w0 w) (ho : Ow w B v n xs) (hg : w.grownBy w' v.ownBlock) (hB : B ≤ w.heap.size) : Below B w0 w' :=
  h.grown hg hB (fun k hk => (ho.lt k hk).1)
theorem bz_one (w : World) (v : Nat) (hv : v < 256) : Bz (w.alloc (.cells #[.int .u8 (v : Int)] 5)) (some ⟨w.heap.size, 0, none⟩) 1 (fun _ => v) := fun _ =>
  ⟨_, 0, rfl, by simp, fun k hk => ⟨hv, by
    obtain rfl : k = 0 := by omega
    exact World.cell?_alloc_at _ _ _ _ (by simp)⟩⟩
/-- append of bytes: what was written, and what is -/
theorem app_bs {w w0 : World} {ops : Array Oper} {rest : List Oper} {o : Oper} {a : Act} {Q : Exit → Act → World → Prop} (hgd : o.guard = none) (s x : Operand)
    (ho : o.op = .call { callee := .builtin .append, args := #[s, x], argTypes := #[24, 24] }) (hty : o.type = 24)
    (B : Nat) (v : Value) (t : ByteArray) (hs : a.eval s = v) (hown : Ow w B v t.size (Lib.strCells t)) (hB0 : Below B w0 w)
    (A : Option Addr) (m c : Nat) (g : Nat → Nat) (hx : a.eval x = .slice A m c) (hA0 : A = none → c = 0) (hR : Bz w A m g) (hm0 : A = none → m = 0) (hb : t.size + m ≤ 140737488355328) (hB : B ≤ w.heap.size) (r : ByteArray) (hr : r = t ++ strN g m)
    (h : ∀ A' c' w', Ow w' B (.slice A' r.size c') r.size (Lib.strCells r) → Below B w0 w' → wpList Tryz.prog ops Q rest (a.put o.dst (.slice A' r.size c')) w') : wpList Tryz.prog ops Q (o :: rest) a w := by
  subst hr
  refine app_b hgd s x ho hty B v t.size (Lib.strCells t) hs hown A m c g hx hA0 hR hm0 hb hB fun v' w' h1 h2 => ?_
  have h3 : Ow w' B v' (t ++ strN g m).size (Lib.strCells (t ++ strN g m)) := ow_cat (by rw [strN_size]; exact h1)
  obtain ⟨A', c', rfl⟩ := ow_shape h3
  exact h A' c' w' h3 (ow_grown hB0 hown h2 hB)
/-- append of a text -/
theorem app_ts {w w0 : World} {ops : Array Oper} {rest : List Oper} {o : Oper} {a : Act} {Q : Exit → Act → World → Prop} (hgd : o.guard = none) (sl x : Operand)
    (ho : o.op = .call { callee := .builtin .append, args := #[sl, x], argTypes := #[24, 9] }) (hty : o.type = 24)
    (B : Nat) (v : Value) (t : ByteArray) (hs : a.eval sl = v) (hown : Ow w B v t.size (Lib.strCells t)) (hB0 : Below B w0 w) (s : ByteArray) (hx : a.eval x = .string s) (hb : t.size + s.size ≤ 140737488355328) (hB : B ≤ w.heap.size) (r : ByteArray) (hr : r = t ++ s)
    (h : ∀ A' c' w', Ow w' B (.slice A' r.size c') r.size (Lib.strCells r) → Below B w0 w' → wpList Tryz.prog ops Q rest (a.put o.dst (.slice A' r.size c')) w') : wpList Tryz.prog ops Q (o :: rest) a w := by
  subst hr
  refine app_t hgd sl x ho hty B v t.size (Lib.strCells t) hs hown s hx hb hB fun v' w' h1 h2 => ?_
  have h3 : Ow w' B v' (t ++ s).size (Lib.strCells (t ++ s)) := ow_cat h1
  obtain ⟨A', c', rfl⟩ := ow_shape h3
  exact h A' c' w' h3 (ow_grown hB0 hown h2 hB)
/-- append of a text, as one step of a region that draws -/
theorem step_ts {w w0 : World} {ops : Array Oper} {o : Oper} {a : Act} {K : Act → World → Prop} {Q : Exit → Act → World → Prop} {E : Prop} (hgd : o.guard = none) (sl x : Operand)
    (ho : o.op = .call { callee := .builtin .append, args := #[sl, x], argTypes := #[24, 9] }) (hty : o.type = 24)
    (B : Nat) (v : Value) (t : ByteArray) (hs : a.eval sl = v) (hown : Ow w B v t.size (Lib.strCells t)) (hB0 : Below B w0 w) (s : ByteArray) (hx : a.eval x = .string s) (hb : t.size + s.size ≤ 140737488355328) (hB : B ≤ w.heap.size) (r : ByteArray) (hr : r = t ++ s)
    (h : ∀ A' c' w', Ow w' B (.slice A' r.size c') r.size (Lib.strCells r) → Below B w0 w' → K (a.put o.dst (.slice A' r.size c')) w') :
    if Region.wanted o (yielded ops a.tmps) = true then Oper.wp Tryz.prog o a w K Q else E := by
  subst hr
  have hw : Region.wanted o (yielded ops a.tmps) = true := by simp [Region.wanted, hgd]
  rw [if_pos hw]
  obtain ⟨v', w', hr, h2, h3⟩ := ow_string w B v t.size (Lib.strCells t) hown s hb hB
  have h4 := ow_cat h2
  obtain ⟨A', c', rfl⟩ := ow_shape h4
  unfold Oper.wp execOp
  simp only [ho, hty, resolve, invoke, builtin, Sem.run_bind, Sem.run_pure, Result.andThen_ok, List.map_toArray, List.map_cons, List.map_nil, hs, hx, hr]
  exact h A' c' w' h4 (ow_grown hB0 hown h3 hB)
theorem ow_mono {w : World} {B B' n : Nat} {v : Value} {xs : List Value} (hB : B ≤ B') (h : Ow w B' v n xs) : Ow w B v n xs := by
  refine ⟨h.1, ?_⟩
  rcases h.2 with hn | ⟨g, cap, cur, fz, hv, hb, rest⟩
  · exact .inl hn
  · exact .inr ⟨g, cap, cur, fz, hv, Nat.le_trans hB hb, rest⟩
theorem ba_eq {s t : ByteArray} (h : s.data.toList = t.data.toList) : s = t := by
  have h1 := congrArg List.toArray h
  simp only [Array.toArray_toList] at h1
  exact ByteArray.ext h1
theorem strN_bb (s : ByteArray) : strN (bb s) s.size = s := by
  apply ba_eq
  apply List.ext_getElem?
  intro k
  by_cases hk : k < s.size
  · rw [bb_list s k hk]
    have : (strN (bb s) s.size).data.toList = (List.range s.size).map fun k => UInt8.ofNat (bb s k) := rfl
    rw [this]
    simp only [List.getElem?_map, List.getElem?_range hk, Option.map_some]
    rw [bb_eq s k hk]
    simp
  · have h1 : (strN (bb s) s.size).data.toList.length = s.size := strN_size _ _
    have h2 : s.data.toList.length = s.size := Array.length_toList
    rw [List.getElem?_eq_none (by rw [h1]; omega), List.getElem?_eq_none (by rw [h2]; omega)]
theorem four_cells (n : Nat) (hn : n < 4294967296) : fourA n = (Lib.strCells (fourB n)).toArray := by
  have e1 : n / 16777216 < 256 := by omega
  have e2 : n / 65536 % 256 < 256 := by omega
  have e3 : n / 256 % 256 < 256 := by omega
  have e4 : n % 256 < 256 := by omega
  have k : ∀ m, m < 256 → (UInt8.ofNat m).toNat = m := fun m hm => by rw [UInt8.toNat_ofNat']; omega
  simp [fourA, fourB, Lib.strCells, k _ e1]
theorem four_own (w : World) (n : Nat) (hn : n < 4294967296) : (w.alloc (.cells (fourA n) 5)).ownsRow w.heap.size 5 1 (.slice (some ⟨w.heap.size, 0, none⟩) 4 4) 4 (Lib.strCells (fourB n)) := by
  refine ⟨by rw [Lib.strCells_length]; rfl, .inr ⟨w.heap.size, 4, fourA n, rfl, Nat.le_refl _, heap_alloc_new w _, Nat.le_refl _, by unfold maxLen; decide, rfl, ?_⟩⟩
  rw [four_cells n hn]
  have : (Lib.strCells (fourB n)).length = 4 := by rw [Lib.strCells_length]; rfl
  simp [← this]
theorem ow_four (w : World) (n : Nat) (hn : n < 4294967296) : Ow (w.alloc (.cells (fourA n) 5)) w.heap.size (.slice (some ⟨w.heap.size, 0, none⟩) 4 4) (fourB n).size (Lib.strCells (fourB n)) := Ow.of (four_own w n hn)
theorem ow_bz {w : World} {B : Nat} {A : Option Addr} {c : Nat} {s : ByteArray} (h : Ow w B (.slice A s.size c) s.size (Lib.strCells s)) : Bz w A s.size (bb s) ∧ (A = none → c = 0) ∧ (A = none → s.size = 0) := by
  rcases h.2 with ⟨hv, hz⟩ | ⟨g, cap, cur, fz, hv, hb, hg, _, hc, _⟩
  · injection hv with e1 e2 e3
    exact ⟨fun h0 => by omega, fun _ => e3, fun _ => hz⟩
  · injection hv with e1 e2 e3
    refine ⟨fun h0 => ?_, (fun e => by rw [e1] at e; cases e), (fun e => by rw [e1] at e; cases e)⟩
    obtain ⟨b, c', hv2, _, _, hbs⟩ := ow_bs h h0
    injection hv2 with f1 f2 f3
    exact ⟨b, 0, f1, hbs⟩
theorem bz_four (w : World) (n : Nat) (hn : n < 4294967296) : Bz (w.alloc (.cells (fourA n) 5)) (some ⟨w.heap.size, 0, none⟩) 4 (bb (fourB n)) := (ow_bz (ow_four w n hn)).1
end Go.Proofs.YtgmifaadlaigdaaGreatDoor
