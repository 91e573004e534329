import Derived.Test.YtapdiionikfgpaaGreatDoorQbz
import Derived.Test.YtapdiionikfgpaaGreatDoorQcz
namespace Go.Proofs.YtapdiionikfgpaaGreatDoor
open Go.ChangeShapes Go.WideShapes Go.ChangeAt Go.RowKit
set_option linter.unusedVariables false
set_option linter.unusedSimpArgs false
/-- how the program's reader stands -/
def RD (W : World) (B tb : Nat) (SV CV : Value) (p : Pm) (D : List (Sv × Co)) : Prop :=
  Bx W tb #[.int .i64 (p.st : Int), .int .i64 (p.tr : Int), SV, CV, .int .i64 (p.s0 : Int), .string p.mn] 52 ∧ PlIn W B SV CV p.ss D ∧ D.map (·.2) = p.cs ∧ tb < B ∧ p.cs.length ≤ 12 ∧ p.ss.length ≤ 8
theorem RD.below {W W' : World} {B tb : Nat} {SV CV : Value} {p : Pm} {D : List (Sv × Co)} (h : RD W B tb SV CV p D) (hb : Below W.heap.size W W') : RD W' B tb SV CV p D := ⟨h.1.below hb, h.2.1.below hb, h.2.2⟩
theorem RD.len {W : World} {B tb : Nat} {SV CV : Value} {p : Pm} {D : List (Sv × Co)} (h : RD W B tb SV CV p D) : D.length = p.cs.length := by rw [← h.2.2.1]; simp
/-- what a line answers, and leaves -/
def Lq (tb B : Nat) (o : Nat × Pm) (w : World) (e : Ending) (w' : World) : Prop := e = .returned (.int .i64 (o.1 : Int)) ∧ Below tb w w' ∧ (o.1 ≠ 0 → Below w.heap.size w w') ∧ (∀ j, tb < j → j < B → w'.heap[j]? = w.heap[j]?) ∧ (o.1 = 0 → ∃ SV CV D, RD w' B tb SV CV o.2 D)
theorem lq_err {tb B k : Nat} {q p : Pm} {o : Nat × Pm} {w w' : World} (ho : o = (k + 1, q)) (hb : Below w.heap.size w w') (ht : tb < w.heap.size) (hB : B ≤ w.heap.size) : Lq tb B o w (.returned (.int .i64 ((k + 1 : Nat) : Int))) w' := by
  subst ho
  exact ⟨rfl, hb.mono (Nat.le_of_lt ht), fun _ => hb, fun j _ h2 => hb.block j (by omega), fun h => by cases h⟩
theorem fnd_map {α β : Type} (g : β → α) (p : α → Bool) : ∀ L : List β, fnd p (L.map g) = fnd (fun y => p (g y)) L
  | [] => rfl
  | x :: L => by rw [List.map_cons, fnd, fnd, fnd_map g p L]
theorem plin_isS {W : World} {B : Nat} {SV CV : Value} {ss : List (ByteArray × Nat)} {D : List (Sv × Co)} (h : PlIn W B SV CV ss D) : ∀ x ∈ D, IsS x.1.f ∧ IsS x.1.e ∧ IsS x.1.i ∧ IsS x.1.d ∧ IsS x.1.g := by
  intro x hx
  obtain ⟨i, hi, e⟩ := List.getElem_of_mem hx
  have hX := h.2.2.1 i x (by rw [List.getElem?_eq_getElem hi, e])
  have sl : ∀ {E sz n : Nat} {v : Value} {xs : List Value}, W.ownsRow B E sz v n xs → IsS v := fun ho => by
    obtain ⟨A, c, e, _⟩ := own_slice ho
    exact ⟨A, _, c, e⟩
  exact ⟨sl hX.1, sl hX.2.1, sl hX.2.2.1, sl hX.2.2.2.1, sl hX.2.2.2.2⟩
/-- the cell of a compartment's list, whatever is appended to a row of another type -/
theorem cell_of_list {w W W' : World} {B : Nat} {SV : Value} {ss : List (ByteArray × Nat)} {D : List (Sv × Co)} {g c k j : Nat} {x : Sv × Co} {e sz n : Nat} {v : Value} {xs : List Value}
    (h : PlIn w B SV (.slice (some ⟨g, 0, none⟩) D.length c) ss D) (hx : D[k]? = some x) (ho : w.ownsRow B e sz v n xs) (he : e ≠ 48) (hj : j < 6) (hv : (cCo x)[j]? = some v) (hb : Below w.heap.size w W) (hg : W.grownBy W' v.ownBlock) :
    W'.cell? ⟨g, k * 6 + j, none⟩ = some v ∧ W'.frozen? ⟨g, k * 6 + j, none⟩ = false := by
  have hk : k < D.length := (List.getElem?_eq_some_iff.1 hx).1
  have hC := h.2.1.kept (grown_of_below hb none) (none_or _)
  have hO := ho.kept (grown_of_below hb none) (none_or _)
  have hr := hC.kept hg (own_apart hC hO (Ne.symm he))
  refine ⟨?_, hr.frozenAt _⟩
  rw [hr.cellAt _ (by omega), flat_at cCo 6 len_cCo D k j x hx hj, hv]
theorem cell_of_top {w W W' : World} {B tb j : Nat} {cs : Array Value} {e sz n : Nat} {v : Value} {xs : List Value} (h : Bx w tb cs 52) (ho : w.ownsRow B e sz v n xs) (he : e ≠ 52) (hv : cs[j]? = some v) (hb : Below w.heap.size w W) (hg : W.grownBy W' v.ownBlock) :
    W'.cell? ⟨tb, j, none⟩ = some v ∧ W'.frozen? ⟨tb, j, none⟩ = false := by
  have hB := h.below hb
  have hO := ho.kept (grown_of_below hb none) (none_or _)
  have hB' := hB.grown hg (own_ne hO hB (Ne.symm he))
  exact ⟨(hB'.cell j).trans hv, hB'.frz j⟩
theorem app_od_f {WA W' w : World} {B tb i g c g5 n5 c5 : Nat} {SV : Value} {p : Pm} {D : List (Sv × Co)} {x : Sv × Co} {y} (h : RD WA B tb SV (.slice (some ⟨g, 0, none⟩) D.length c) p D) (hb0 : Below w.heap.size w WA) (htw : tb < w.heap.size) (hBw : B ≤ w.heap.size) (hx : D[i]? = some x)
    (ho : W'.ownsRow B 88 2 (.slice (some ⟨g5, 0, none⟩) n5 c5) (x.2.fs.length + 1) (x.2.fs.flatMap cFs ++ cFs y)) (hg : WA.grownBy W' x.1.f.ownBlock) (hat : x.1.f.ownBlock = some g5 ∨ g5 = WA.heap.size) :
    Lq tb B (0, upd p i { x.2 with fs := x.2.fs ++ [y] }) w (.returned (.int .i64 ((0 : Nat) : Int))) (W'.setCell ⟨g, i * 6 + 1, none⟩ (.slice (some ⟨g5, 0, none⟩) n5 c5)) := by
  have hb := hb0.mono (Nat.le_of_lt htw)
  obtain ⟨hx0, hp, hd, ht, hc, hss⟩ := h
  have hX := (hp.2.2.1 i x hx).1
  have hgB : B ≤ g := (hp.2.1.lt g rfl).1
  have hxb := hx0.grown hg (own_ne hX hx0 (by decide))
  refine ⟨rfl, (hb.grown hg (Nat.le_of_lt hx0.lt) (fun k hk => by have := (hX.lt k hk).1; omega)).setCell (by show tb ≤ g; omega) _, fun h => absurd rfl h, fun j h1 h2 => ?_, fun _ => ⟨SV, _, _, ?_, hp.app_f hx rfl ho hg (by rcases hat with e | e; exact Or.inl e; exact Or.inr (by rw [← e]; rfl)), ?_, ht, ?_, hss⟩⟩
  · rw [Below.heap_setCell _ _ _ _ (by show j ≠ g; omega), hg.block j (by have := hb0.size; omega) (fun e => by have := (hX.lt j e.symm).1; omega), hb0.block j (by omega)]
  · exact hxb.grown (grown_set g _ _) (by simp; omega)
  · rw [List.map_set, hd]; rfl
  · show (p.cs.set i _).length ≤ 12
    rw [List.length_set]; exact hc
theorem app_od_e {WA W' w : World} {B tb i g c g5 n5 c5 : Nat} {SV : Value} {p : Pm} {D : List (Sv × Co)} {x : Sv × Co} {y} (h : RD WA B tb SV (.slice (some ⟨g, 0, none⟩) D.length c) p D) (hb0 : Below w.heap.size w WA) (htw : tb < w.heap.size) (hBw : B ≤ w.heap.size) (hx : D[i]? = some x)
    (ho : W'.ownsRow B 50 3 (.slice (some ⟨g5, 0, none⟩) n5 c5) (x.2.es.length + 1) (x.2.es.flatMap cEs ++ cEs y)) (hg : WA.grownBy W' x.1.e.ownBlock) (hat : x.1.e.ownBlock = some g5 ∨ g5 = WA.heap.size) :
    Lq tb B (0, upd p i { x.2 with es := x.2.es ++ [y] }) w (.returned (.int .i64 ((0 : Nat) : Int))) (W'.setCell ⟨g, i * 6 + 2, none⟩ (.slice (some ⟨g5, 0, none⟩) n5 c5)) := by
  have hb := hb0.mono (Nat.le_of_lt htw)
  obtain ⟨hx0, hp, hd, ht, hc, hss⟩ := h
  have hX := (hp.2.2.1 i x hx).2.1
  have hgB : B ≤ g := (hp.2.1.lt g rfl).1
  have hxb := hx0.grown hg (own_ne hX hx0 (by decide))
  refine ⟨rfl, (hb.grown hg (Nat.le_of_lt hx0.lt) (fun k hk => by have := (hX.lt k hk).1; omega)).setCell (by show tb ≤ g; omega) _, fun h => absurd rfl h, fun j h1 h2 => ?_, fun _ => ⟨SV, _, _, ?_, hp.app_e hx rfl ho hg (by rcases hat with e | e; exact Or.inl e; exact Or.inr (by rw [← e]; rfl)), ?_, ht, ?_, hss⟩⟩
  · rw [Below.heap_setCell _ _ _ _ (by show j ≠ g; omega), hg.block j (by have := hb0.size; omega) (fun e => by have := (hX.lt j e.symm).1; omega), hb0.block j (by omega)]
  · exact hxb.grown (grown_set g _ _) (by simp; omega)
  · rw [List.map_set, hd]; rfl
  · show (p.cs.set i _).length ≤ 12
    rw [List.length_set]; exact hc
theorem app_od_i {WA W' w : World} {B tb i g c g5 n5 c5 : Nat} {SV : Value} {p : Pm} {D : List (Sv × Co)} {x : Sv × Co} {y} (h : RD WA B tb SV (.slice (some ⟨g, 0, none⟩) D.length c) p D) (hb0 : Below w.heap.size w WA) (htw : tb < w.heap.size) (hBw : B ≤ w.heap.size) (hx : D[i]? = some x)
    (ho : W'.ownsRow B 79 2 (.slice (some ⟨g5, 0, none⟩) n5 c5) (x.2.is.length + 1) (x.2.is.flatMap cIs ++ cIs y)) (hg : WA.grownBy W' x.1.i.ownBlock) (hat : x.1.i.ownBlock = some g5 ∨ g5 = WA.heap.size) :
    Lq tb B (0, upd p i { x.2 with is := x.2.is ++ [y] }) w (.returned (.int .i64 ((0 : Nat) : Int))) (W'.setCell ⟨g, i * 6 + 3, none⟩ (.slice (some ⟨g5, 0, none⟩) n5 c5)) := by
  have hb := hb0.mono (Nat.le_of_lt htw)
  obtain ⟨hx0, hp, hd, ht, hc, hss⟩ := h
  have hX := (hp.2.2.1 i x hx).2.2.1
  have hgB : B ≤ g := (hp.2.1.lt g rfl).1
  have hxb := hx0.grown hg (own_ne hX hx0 (by decide))
  refine ⟨rfl, (hb.grown hg (Nat.le_of_lt hx0.lt) (fun k hk => by have := (hX.lt k hk).1; omega)).setCell (by show tb ≤ g; omega) _, fun h => absurd rfl h, fun j h1 h2 => ?_, fun _ => ⟨SV, _, _, ?_, hp.app_i hx rfl ho hg (by rcases hat with e | e; exact Or.inl e; exact Or.inr (by rw [← e]; rfl)), ?_, ht, ?_, hss⟩⟩
  · rw [Below.heap_setCell _ _ _ _ (by show j ≠ g; omega), hg.block j (by have := hb0.size; omega) (fun e => by have := (hX.lt j e.symm).1; omega), hb0.block j (by omega)]
  · exact hxb.grown (grown_set g _ _) (by simp; omega)
  · rw [List.map_set, hd]; rfl
  · show (p.cs.set i _).length ≤ 12
    rw [List.length_set]; exact hc
theorem app_od_d {WA W' w : World} {B tb i g c g5 n5 c5 : Nat} {SV : Value} {p : Pm} {D : List (Sv × Co)} {x : Sv × Co} {y} (h : RD WA B tb SV (.slice (some ⟨g, 0, none⟩) D.length c) p D) (hb0 : Below w.heap.size w WA) (htw : tb < w.heap.size) (hBw : B ≤ w.heap.size) (hx : D[i]? = some x)
    (ho : W'.ownsRow B 90 3 (.slice (some ⟨g5, 0, none⟩) n5 c5) (x.2.ds.length + 1) (x.2.ds.flatMap cDs ++ cDs y)) (hg : WA.grownBy W' x.1.d.ownBlock) (hat : x.1.d.ownBlock = some g5 ∨ g5 = WA.heap.size) :
    Lq tb B (0, upd p i { x.2 with ds := x.2.ds ++ [y] }) w (.returned (.int .i64 ((0 : Nat) : Int))) (W'.setCell ⟨g, i * 6 + 4, none⟩ (.slice (some ⟨g5, 0, none⟩) n5 c5)) := by
  have hb := hb0.mono (Nat.le_of_lt htw)
  obtain ⟨hx0, hp, hd, ht, hc, hss⟩ := h
  have hX := (hp.2.2.1 i x hx).2.2.2.1
  have hgB : B ≤ g := (hp.2.1.lt g rfl).1
  have hxb := hx0.grown hg (own_ne hX hx0 (by decide))
  refine ⟨rfl, (hb.grown hg (Nat.le_of_lt hx0.lt) (fun k hk => by have := (hX.lt k hk).1; omega)).setCell (by show tb ≤ g; omega) _, fun h => absurd rfl h, fun j h1 h2 => ?_, fun _ => ⟨SV, _, _, ?_, hp.app_d hx rfl ho hg (by rcases hat with e | e; exact Or.inl e; exact Or.inr (by rw [← e]; rfl)), ?_, ht, ?_, hss⟩⟩
  · rw [Below.heap_setCell _ _ _ _ (by show j ≠ g; omega), hg.block j (by have := hb0.size; omega) (fun e => by have := (hX.lt j e.symm).1; omega), hb0.block j (by omega)]
  · exact hxb.grown (grown_set g _ _) (by simp; omega)
  · rw [List.map_set, hd]; rfl
  · show (p.cs.set i _).length ≤ 12
    rw [List.length_set]; exact hc
theorem app_od_g {WA W' w : World} {B tb i g c g5 n5 c5 : Nat} {SV : Value} {p : Pm} {D : List (Sv × Co)} {x : Sv × Co} {y} (h : RD WA B tb SV (.slice (some ⟨g, 0, none⟩) D.length c) p D) (hb0 : Below w.heap.size w WA) (htw : tb < w.heap.size) (hBw : B ≤ w.heap.size) (hx : D[i]? = some x)
    (ho : W'.ownsRow B 92 2 (.slice (some ⟨g5, 0, none⟩) n5 c5) (x.2.gs.length + 1) (x.2.gs.flatMap cGs ++ cGs y)) (hg : WA.grownBy W' x.1.g.ownBlock) (hat : x.1.g.ownBlock = some g5 ∨ g5 = WA.heap.size) :
    Lq tb B (0, upd p i { x.2 with gs := x.2.gs ++ [y] }) w (.returned (.int .i64 ((0 : Nat) : Int))) (W'.setCell ⟨g, i * 6 + 5, none⟩ (.slice (some ⟨g5, 0, none⟩) n5 c5)) := by
  have hb := hb0.mono (Nat.le_of_lt htw)
  obtain ⟨hx0, hp, hd, ht, hc, hss⟩ := h
  have hX := (hp.2.2.1 i x hx).2.2.2.2
  have hgB : B ≤ g := (hp.2.1.lt g rfl).1
  have hxb := hx0.grown hg (own_ne hX hx0 (by decide))
  refine ⟨rfl, (hb.grown hg (Nat.le_of_lt hx0.lt) (fun k hk => by have := (hX.lt k hk).1; omega)).setCell (by show tb ≤ g; omega) _, fun h => absurd rfl h, fun j h1 h2 => ?_, fun _ => ⟨SV, _, _, ?_, hp.app_g hx rfl ho hg (by rcases hat with e | e; exact Or.inl e; exact Or.inr (by rw [← e]; rfl)), ?_, ht, ?_, hss⟩⟩
  · rw [Below.heap_setCell _ _ _ _ (by show j ≠ g; omega), hg.block j (by have := hb0.size; omega) (fun e => by have := (hX.lt j e.symm).1; omega), hb0.block j (by omega)]
  · exact hxb.grown (grown_set g _ _) (by simp; omega)
  · rw [List.map_set, hd]; rfl
  · show (p.cs.set i _).length ≤ 12
    rw [List.length_set]; exact hc
theorem comp_od {WA W' w : World} {B tb : Nat} {SV V' CV : Value} {p : Pm} {D : List (Sv × Co)} {a : ByteArray} (h : RD WA B tb SV CV p D) (hb0 : Below w.heap.size w WA) (htw : tb < w.heap.size) (hBw : B ≤ w.heap.size)
    (ho : W'.ownsRow B 48 6 V' (D.length + 1) (D.flatMap cCo ++ cCo (Sv.nil, Co.new a))) (hg : WA.grownBy W' CV.ownBlock) (hl : D.length ≤ 11) :
    Lq tb B (0, { p with cs := p.cs ++ [Co.new a] }) w (.returned (.int .i64 ((0 : Nat) : Int))) (W'.setCell ⟨tb, 3, none⟩ V') := by
  have hle := h.len
  have hb := hb0.mono (Nat.le_of_lt htw)
  obtain ⟨hx, hp, hd, ht, hc, hss⟩ := h
  refine ⟨rfl, (hb.grown hg (Nat.le_of_lt hx.lt) (fun k hk => by have := (hp.2.1.lt k hk).1; omega)).setCell (by simp) _, fun h => absurd rfl h, fun j h1 h2 => by rw [Below.heap_setCell _ _ _ _ (by show j ≠ tb; omega), hg.block j (by have := hb0.size; omega) (fun e => by have := (hp.2.1.lt j e.symm).1; omega), hb0.block j (by omega)], fun _ => ⟨SV, V', D ++ [(Sv.nil, Co.new a)], ?_⟩⟩
  have hx' := (hx.grown hg (own_ne hp.2.1 hx (by decide))).set 3 V'
  refine ⟨by simpa using hx', (hp.comp ho hg).off (grown_set tb 3 _) ht, by simp [hd], ht, by simp only [List.length_append, List.length_singleton]; omega, hss⟩
theorem share_od {WA W' w : World} {B tb : Nat} {SV V' CV : Value} {p : Pm} {D : List (Sv × Co)} {y : ByteArray × Nat} (h : RD WA B tb SV CV p D) (hb0 : Below w.heap.size w WA) (htw : tb < w.heap.size) (hBw : B ≤ w.heap.size)
    (ho : W'.ownsRow B 68 2 V' (p.ss.length + 1) (p.ss.flatMap cSs ++ cSs y)) (hg : WA.grownBy W' SV.ownBlock) (hl : p.ss.length ≤ 7) :
    Lq tb B (0, { p with ss := p.ss ++ [y] }) w (.returned (.int .i64 ((0 : Nat) : Int))) (W'.setCell ⟨tb, 2, none⟩ V') := by
  have hb := hb0.mono (Nat.le_of_lt htw)
  obtain ⟨hx, hp, hd, ht, hc, hss⟩ := h
  refine ⟨rfl, (hb.grown hg (Nat.le_of_lt hx.lt) (fun k hk => by have := (hp.1.lt k hk).1; omega)).setCell (by simp) _, fun h => absurd rfl h, fun j h1 h2 => by rw [Below.heap_setCell _ _ _ _ (by show j ≠ tb; omega), hg.block j (by have := hb0.size; omega) (fun e => by have := (hp.1.lt j e.symm).1; omega), hb0.block j (by omega)], fun _ => ⟨V', CV, D, ?_⟩⟩
  have hx' := (hx.grown hg (own_ne hp.1 hx (by decide))).set 2 V'
  refine ⟨by simpa using hx', (hp.share ho hg).off (grown_set tb 2 _) ht, hd, ht, hc, by simp only [List.length_append, List.length_singleton]; omega⟩
theorem addp_f {w0 w w' : World} {B tb k g c : Nat} {SV : Value} {p : Pm} {D : List (Sv × Co)} {x : Sv × Co} {y : ByteArray × Bool} {q : ByteArray × Bool → Bool} {e : Ending} (h : RD w B tb SV (.slice (some ⟨g, 0, none⟩) D.length c) p D) (hb : Below w0.heap.size w0 w) (htw : tb < w0.heap.size) (hBw : B ≤ w0.heap.size) (hx : D[k]? = some x)
    (ha : AddP w B 88 2 x.1.f x.2.fs.length (x.2.fs.flatMap cFs) (cFs y) g (k * 6 + 1) (fnd q x.2.fs).isSome (decide (16 ≤ x.2.fs.length)) e w') :
    Lq tb B (addV x.2.fs y q 16 (fun l => upd p k { x.2 with fs := l }) p) w0 e w' := by
  unfold addV
  rcases ha with ⟨h1, rfl, hb1⟩ | ⟨h1, h2, rfl, hb1⟩ | ⟨h1, h2, rfl, W, W', g5, n5, c5, hbW, ho, hg, hat, rfl⟩
  · rw [if_pos h1]
    exact lq_err (k := 6) (p := p) rfl (hb.trans (hb1.mono hb.size)) htw hBw
  · rw [if_neg (by rw [h1]; simp), if_pos (of_decide_eq_true h2)]
    exact lq_err (k := 2) (p := p) rfl (hb.trans (hb1.mono hb.size)) htw hBw
  · rw [if_neg (by rw [h1]; simp), if_neg (of_decide_eq_false h2)]
    exact app_od_f (h.below hbW) (hb.trans (hbW.mono hb.size)) htw hBw hx ho hg hat
theorem addp_e {w0 w w' : World} {B tb k g c : Nat} {SV : Value} {p : Pm} {D : List (Sv × Co)} {x : Sv × Co} {y : ByteArray × Nat × Nat} {q : ByteArray × Nat × Nat → Bool} {e : Ending} (h : RD w B tb SV (.slice (some ⟨g, 0, none⟩) D.length c) p D) (hb : Below w0.heap.size w0 w) (htw : tb < w0.heap.size) (hBw : B ≤ w0.heap.size) (hx : D[k]? = some x)
    (ha : AddP w B 50 3 x.1.e x.2.es.length (x.2.es.flatMap cEs) (cEs y) g (k * 6 + 2) (fnd q x.2.es).isSome (decide (16 ≤ x.2.es.length)) e w') :
    Lq tb B (addV x.2.es y q 16 (fun l => upd p k { x.2 with es := l }) p) w0 e w' := by
  unfold addV
  rcases ha with ⟨h1, rfl, hb1⟩ | ⟨h1, h2, rfl, hb1⟩ | ⟨h1, h2, rfl, W, W', g5, n5, c5, hbW, ho, hg, hat, rfl⟩
  · rw [if_pos h1]
    exact lq_err (k := 6) (p := p) rfl (hb.trans (hb1.mono hb.size)) htw hBw
  · rw [if_neg (by rw [h1]; simp), if_pos (of_decide_eq_true h2)]
    exact lq_err (k := 2) (p := p) rfl (hb.trans (hb1.mono hb.size)) htw hBw
  · rw [if_neg (by rw [h1]; simp), if_neg (of_decide_eq_false h2)]
    exact app_od_e (h.below hbW) (hb.trans (hbW.mono hb.size)) htw hBw hx ho hg hat
theorem addp_i {w0 w w' : World} {B tb k g c : Nat} {SV : Value} {p : Pm} {D : List (Sv × Co)} {x : Sv × Co} {y : Nat × ByteArray} {q : Nat × ByteArray → Bool} {e : Ending} (h : RD w B tb SV (.slice (some ⟨g, 0, none⟩) D.length c) p D) (hb : Below w0.heap.size w0 w) (htw : tb < w0.heap.size) (hBw : B ≤ w0.heap.size) (hx : D[k]? = some x)
    (ha : AddP w B 79 2 x.1.i x.2.is.length (x.2.is.flatMap cIs) (cIs y) g (k * 6 + 3) (fnd q x.2.is).isSome (decide (16 ≤ x.2.is.length)) e w') :
    Lq tb B (addV x.2.is y q 16 (fun l => upd p k { x.2 with is := l }) p) w0 e w' := by
  unfold addV
  rcases ha with ⟨h1, rfl, hb1⟩ | ⟨h1, h2, rfl, hb1⟩ | ⟨h1, h2, rfl, W, W', g5, n5, c5, hbW, ho, hg, hat, rfl⟩
  · rw [if_pos h1]
    exact lq_err (k := 6) (p := p) rfl (hb.trans (hb1.mono hb.size)) htw hBw
  · rw [if_neg (by rw [h1]; simp), if_pos (of_decide_eq_true h2)]
    exact lq_err (k := 2) (p := p) rfl (hb.trans (hb1.mono hb.size)) htw hBw
  · rw [if_neg (by rw [h1]; simp), if_neg (of_decide_eq_false h2)]
    exact app_od_i (h.below hbW) (hb.trans (hbW.mono hb.size)) htw hBw hx ho hg hat
theorem addp_d {w0 w w' : World} {B tb k g c : Nat} {SV : Value} {p : Pm} {D : List (Sv × Co)} {x : Sv × Co} {y : ByteArray × Nat × Nat} {q : ByteArray × Nat × Nat → Bool} {e : Ending} (h : RD w B tb SV (.slice (some ⟨g, 0, none⟩) D.length c) p D) (hb : Below w0.heap.size w0 w) (htw : tb < w0.heap.size) (hBw : B ≤ w0.heap.size) (hx : D[k]? = some x)
    (ha : AddP w B 90 3 x.1.d x.2.ds.length (x.2.ds.flatMap cDs) (cDs y) g (k * 6 + 4) (fnd q x.2.ds).isSome (decide (16 ≤ x.2.ds.length)) e w') :
    Lq tb B (addV x.2.ds y q 16 (fun l => upd p k { x.2 with ds := l }) p) w0 e w' := by
  unfold addV
  rcases ha with ⟨h1, rfl, hb1⟩ | ⟨h1, h2, rfl, hb1⟩ | ⟨h1, h2, rfl, W, W', g5, n5, c5, hbW, ho, hg, hat, rfl⟩
  · rw [if_pos h1]
    exact lq_err (k := 6) (p := p) rfl (hb.trans (hb1.mono hb.size)) htw hBw
  · rw [if_neg (by rw [h1]; simp), if_pos (of_decide_eq_true h2)]
    exact lq_err (k := 2) (p := p) rfl (hb.trans (hb1.mono hb.size)) htw hBw
  · rw [if_neg (by rw [h1]; simp), if_neg (of_decide_eq_false h2)]
    exact app_od_d (h.below hbW) (hb.trans (hbW.mono hb.size)) htw hBw hx ho hg hat
theorem addp_g {w0 w w' : World} {B tb k g c : Nat} {SV : Value} {p : Pm} {D : List (Sv × Co)} {x : Sv × Co} {y : Nat × Bool} {q : Nat × Bool → Bool} {e : Ending} (h : RD w B tb SV (.slice (some ⟨g, 0, none⟩) D.length c) p D) (hb : Below w0.heap.size w0 w) (htw : tb < w0.heap.size) (hBw : B ≤ w0.heap.size) (hx : D[k]? = some x)
    (ha : AddP w B 92 2 x.1.g x.2.gs.length (x.2.gs.flatMap cGs) (cGs y) g (k * 6 + 5) (fnd q x.2.gs).isSome (decide (16 ≤ x.2.gs.length)) e w') :
    Lq tb B (addV x.2.gs y q 16 (fun l => upd p k { x.2 with gs := l }) p) w0 e w' := by
  unfold addV
  rcases ha with ⟨h1, rfl, hb1⟩ | ⟨h1, h2, rfl, hb1⟩ | ⟨h1, h2, rfl, W, W', g5, n5, c5, hbW, ho, hg, hat, rfl⟩
  · rw [if_pos h1]
    exact lq_err (k := 6) (p := p) rfl (hb.trans (hb1.mono hb.size)) htw hBw
  · rw [if_neg (by rw [h1]; simp), if_pos (of_decide_eq_true h2)]
    exact lq_err (k := 2) (p := p) rfl (hb.trans (hb1.mono hb.size)) htw hBw
  · rw [if_neg (by rw [h1]; simp), if_neg (of_decide_eq_false h2)]
    exact app_od_g (h.below hbW) (hb.trans (hbW.mono hb.size)) htw hBw hx ho hg hat
theorem addp_comp {w0 w w' : World} {B tb : Nat} {SV CV : Value} {p : Pm} {D : List (Sv × Co)} {a : ByteArray} {e : Ending} (h : RD w B tb SV CV p D) (hb : Below w0.heap.size w0 w) (htw : tb < w0.heap.size) (hBw : B ≤ w0.heap.size)
    (ha : AddP w B 48 6 CV D.length (D.flatMap cCo) (cCo (Sv.nil, Co.new a)) tb 3 (fnd (byName a) p.cs).isSome (decide (12 ≤ D.length)) e w') :
    Lq tb B (addV p.cs (Co.new a) (byName a) 12 (fun l => { p with cs := l }) p) w0 e w' := by
  have hlen := h.len
  unfold addV
  rw [← hlen]
  rcases ha with ⟨h1, rfl, hb1⟩ | ⟨h1, h2, rfl, hb1⟩ | ⟨h1, h2, rfl, W, W', g5, n5, c5, hbW, ho, hg, hat, rfl⟩
  · rw [if_pos h1]
    exact lq_err (k := 6) (p := p) rfl (hb.trans (hb1.mono hb.size)) htw hBw
  · rw [if_neg (by rw [h1]; simp), if_pos (of_decide_eq_true h2)]
    exact lq_err (k := 2) (p := p) rfl (hb.trans (hb1.mono hb.size)) htw hBw
  · rw [if_neg (by rw [h1]; simp), if_neg (of_decide_eq_false h2)]
    exact comp_od (h.below hbW) (hb.trans (hbW.mono hb.size)) htw hBw ho hg (by have := of_decide_eq_false h2; omega)
theorem addp_share {w0 w w' : World} {B tb : Nat} {SV CV : Value} {p : Pm} {D : List (Sv × Co)} {y : ByteArray × Nat} {q : ByteArray × Nat → Bool} {e : Ending} (h : RD w B tb SV CV p D) (hb : Below w0.heap.size w0 w) (htw : tb < w0.heap.size) (hBw : B ≤ w0.heap.size)
    (ha : AddP w B 68 2 SV p.ss.length (p.ss.flatMap cSs) (cSs y) tb 2 (fnd q p.ss).isSome (decide (8 ≤ p.ss.length)) e w') :
    Lq tb B (addV p.ss y q 8 (fun l => { p with ss := l }) p) w0 e w' := by
  unfold addV
  rcases ha with ⟨h1, rfl, hb1⟩ | ⟨h1, h2, rfl, hb1⟩ | ⟨h1, h2, rfl, W, W', g5, n5, c5, hbW, ho, hg, hat, rfl⟩
  · rw [if_pos h1]
    exact lq_err (k := 6) (p := p) rfl (hb.trans (hb1.mono hb.size)) htw hBw
  · rw [if_neg (by rw [h1]; simp), if_pos (of_decide_eq_true h2)]
    exact lq_err (k := 2) (p := p) rfl (hb.trans (hb1.mono hb.size)) htw hBw
  · rw [if_neg (by rw [h1]; simp), if_neg (of_decide_eq_false h2)]
    exact share_od (h.below hbW) (hb.trans (hbW.mono hb.size)) htw hBw ho hg (by have := of_decide_eq_false h2; omega)
end Go.Proofs.YtapdiionikfgpaaGreatDoor
