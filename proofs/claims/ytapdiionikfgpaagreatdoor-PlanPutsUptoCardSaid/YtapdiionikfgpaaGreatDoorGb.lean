import Derived.Test.YtapdiionikfgpaaGreatDoorGa
import Derived.Laws.OwnMore
import Derived.Deep.AppendLies
import Derived.OwnWalk
import Derived.LoopTactic
import Derived.BigQuiet
import Derived.Deep.Draws
import Derived.Deep.RegionHeld3
import Derived.Deep.Cut
import Derived.Deep.CutRange
namespace Go.Proofs.YtapdiionikfgpaaGreatDoor
open Go.ChangeShapes Go.WideShapes Go.ChangeAt Go.RowKit
set_option linter.unusedVariables false
def cFs (x : ByteArray × Bool) : List Value := [.string x.1, .bool x.2]
def cEs (x : ByteArray × Nat × Nat) : List Value := [.string x.1, .int .i64 (x.2.1 : Int), .int .i64 (x.2.2 : Int)]
def cIs (x : Nat × ByteArray) : List Value := [.int .i64 (x.1 : Int), .string x.2]
def cDs (x : ByteArray × Nat × Nat) : List Value := [.string x.1, .int .u32 (x.2.1 : Int), .int .u32 (x.2.2 : Int)]
def cGs (x : Nat × Bool) : List Value := [.int .i64 (x.1 : Int), .bool x.2]
def cSs (x : ByteArray × Nat) : List Value := [.string x.1, .int .i64 (x.2 : Int)]
/-- the values of a compartment's five lists -/
structure Sv where
  f : Value
  e : Value
  i : Value
  d : Value
  g : Value
def Sv.nil : Sv := ⟨.slice none 0 0, .slice none 0 0, .slice none 0 0, .slice none 0 0, .slice none 0 0⟩
def cCo (x : Sv × Co) : List Value := [.string x.2.nm, x.1.f, x.1.e, x.1.i, x.1.d, x.1.g]
/-- its lists stand there -/
def CoIn (W : World) (B : Nat) (x : Sv × Co) : Prop := W.ownsRow B 88 2 x.1.f x.2.fs.length (x.2.fs.flatMap cFs) ∧ W.ownsRow B 50 3 x.1.e x.2.es.length (x.2.es.flatMap cEs) ∧ W.ownsRow B 79 2 x.1.i x.2.is.length (x.2.is.flatMap cIs) ∧ W.ownsRow B 90 3 x.1.d x.2.ds.length (x.2.ds.flatMap cDs) ∧ W.ownsRow B 92 2 x.1.g x.2.gs.length (x.2.gs.flatMap cGs)
/-- no two share a row -/
def Ap (x y : Sv) : Prop := (x.f.ownBlock = none ∨ x.f.ownBlock ≠ y.f.ownBlock) ∧ (x.e.ownBlock = none ∨ x.e.ownBlock ≠ y.e.ownBlock) ∧ (x.i.ownBlock = none ∨ x.i.ownBlock ≠ y.i.ownBlock) ∧ (x.d.ownBlock = none ∨ x.d.ownBlock ≠ y.d.ownBlock) ∧ (x.g.ownBlock = none ∨ x.g.ownBlock ≠ y.g.ownBlock)
def Sep (D : List (Sv × Co)) : Prop := ∀ (i j : Nat) (x y : Sv × Co), i < j → D[i]? = some x → D[j]? = some y → Ap x.1 y.1
/-- a plan's lists stand there -/
def PlIn (W : World) (B : Nat) (SV CV : Value) (ss : List (ByteArray × Nat)) (D : List (Sv × Co)) : Prop :=
  W.ownsRow B 68 2 SV ss.length (ss.flatMap cSs) ∧ W.ownsRow B 48 6 CV D.length (D.flatMap cCo) ∧ (∀ (i : Nat) (x : Sv × Co), D[i]? = some x → CoIn W B x) ∧ Sep D

theorem flat_at {α β : Type} (f : α → List β) (sz : Nat) (hf : ∀ x, (f x).length = sz) : ∀ (L : List α) (k j : Nat) (x : α), L[k]? = some x → j < sz → (L.flatMap f)[k * sz + j]? = (f x)[j]?
  | [], k, j, x, h, _ => by simp at h
  | a :: L, 0, j, x, h, hj => by
    simp at h
    subst h
    rw [List.flatMap_cons, List.getElem?_append_left (by rw [hf]; omega)]
    simp
  | a :: L, k + 1, j, x, h, hj => by
    rw [List.flatMap_cons, List.getElem?_append_right (by rw [hf, Nat.add_mul]; omega), hf, show (k + 1) * sz + j - sz = k * sz + j by rw [Nat.add_mul]; omega]
    exact flat_at f sz hf L k j x (by simpa using h) hj
theorem flat_len {α β : Type} (f : α → List β) (sz : Nat) (hf : ∀ x, (f x).length = sz) (L : List α) : (L.flatMap f).length = L.length * sz := by
  induction L with
  | nil => simp
  | cons a L ih => rw [List.flatMap_cons, List.length_append, ih, hf, List.length_cons, Nat.add_mul]; omega
theorem flat_set {α β : Type} (f : α → List β) (sz : Nat) (hf : ∀ x, (f x).length = sz) : ∀ (L : List α) (k j : Nat) (x y : α) (v : β), L[k]? = some x → j < sz → f y = (f x).set j v → (L.flatMap f).set (k * sz + j) v = (L.set k y).flatMap f
  | [], k, j, x, y, v, h, _, _ => by simp at h
  | a :: L, 0, j, x, y, v, h, hj, hy => by
    simp at h
    subst h
    rw [List.flatMap_cons, List.set_cons_zero, List.flatMap_cons, List.set_append_left _ _ (by rw [hf]; omega), hy]
    simp
  | a :: L, k + 1, j, x, y, v, h, hj, hy => by
    rw [List.flatMap_cons, List.set_cons_succ, List.flatMap_cons, List.set_append_right _ _ (by rw [hf, Nat.add_mul]; omega), hf, show (k + 1) * sz + j - sz = k * sz + j by rw [Nat.add_mul]; omega]
    rw [flat_set f sz hf L k j x y v (by simpa using h) hj hy]
/-- a block known whole -/
def Bx (W : World) (b : Nat) (cs : Array Value) (t : Nat) : Prop := W.heap[b]? = some (.cells cs t (0, 0))
theorem heap_lt {w : World} {b : Nat} {o : Obj} (h : w.heap[b]? = some o) : b < w.heap.size := by
  rcases Nat.lt_or_ge b w.heap.size with hlt | hge
  · exact hlt
  · rw [Array.getElem?_eq_none hge] at h; cases h
theorem Bx.lt {W : World} {b t : Nat} {cs : Array Value} (h : Bx W b cs t) : b < W.heap.size := heap_lt h
theorem Bx.grown {W W' : World} {b t : Nat} {cs : Array Value} {r : Option Nat} (h : Bx W b cs t) (hg : W.grownBy W' r) (hne : some b ≠ r) : Bx W' b cs t := (hg.block b (heap_lt h) hne).trans h
theorem Bx.below {W W' : World} {b t : Nat} {cs : Array Value} (h : Bx W b cs t) (hb : Below W.heap.size W W') : Bx W' b cs t := (hb.block b (heap_lt h)).trans h
theorem Bx.cell {W : World} {b t : Nat} {cs : Array Value} (h : Bx W b cs t) (j : Nat) : W.cell? ⟨b, j, none⟩ = cs[j]? := cell_of_row _ _ _ _ _ _ h
theorem Bx.frz {W : World} {b t : Nat} {cs : Array Value} (h : Bx W b cs t) (j : Nat) : W.frozen? ⟨b, j, none⟩ = false := frozen_of_row W b j cs t h
theorem Bx.set {W : World} {b t : Nat} {cs : Array Value} (h : Bx W b cs t) (j : Nat) (u : Value) : Bx (W.setCell ⟨b, j, none⟩ u) b (cs.setIfInBounds j u) t := heap_setCell_same W b j cs t u h
theorem grown_of_below {w w' : World} (hb : Below w.heap.size w w') (r : Option Nat) : w.grownBy w' r := ⟨hb.os, hb.tape, hb.output, hb.size, fun k hk _ => hb.block k hk⟩
theorem grown_set {W : World} (b j : Nat) (u : Value) : W.grownBy (W.setCell ⟨b, j, none⟩ u) (some b) := ⟨rfl, rfl, rfl, by simp, fun k _ hk => Below.heap_setCell _ _ _ _ (by intro e; exact hk (by simp [e]))⟩
theorem own_ne {w : World} {B e size n b t : Nat} {v : Value} {xs : List Value} {cs : Array Value} {fr : Nat × Nat} (ho : w.ownsRow B e size v n xs) (hb : w.heap[b]? = some (.cells cs t fr)) (hne : t ≠ e) : some b ≠ v.ownBlock := by
  rcases ho.2 with ⟨rfl, _⟩ | ⟨g, cap, cur, rfl, _, hg, _⟩
  · simp [Value.ownBlock]
  · intro h
    have : b = g := by simpa [Value.ownBlock] using h
    subst this
    rw [hg] at hb
    cases hb
    exact hne rfl
/-- two rows of unlike types are apart -/
theorem own_apart {w : World} {B B' e e' z z' n n' : Nat} {v v' : Value} {xs xs' : List Value} (h : w.ownsRow B e z v n xs) (h' : w.ownsRow B' e' z' v' n' xs') (hne : e ≠ e') : v.ownBlock = none ∨ v.ownBlock ≠ v'.ownBlock := by
  rcases h.2 with ⟨rfl, _⟩ | ⟨g, cap, cur, rfl, _, hg, _⟩
  · exact Or.inl rfl
  · exact Or.inr (own_ne h' hg hne)
theorem own_old {w : World} {B e z n : Nat} {v : Value} {xs : List Value} (h : w.ownsRow B e z v n xs) : v.ownBlock = none ∨ ∃ g, v.ownBlock = some g ∧ g < w.heap.size ∧ B ≤ g := by
  rcases h.2 with ⟨rfl, _⟩ | ⟨g, cap, cur, rfl, hb, hg, _⟩
  · exact Or.inl rfl
  · exact Or.inr ⟨g, rfl, heap_lt hg, hb⟩
theorem own_slice {w : World} {B e size n : Nat} {v : Value} {xs : List Value} (h : w.ownsRow B e size v n xs) : ∃ A c, v = .slice A n c ∧ n ≤ c := by
  obtain ⟨h1, h2⟩ := h
  rcases h2 with ⟨h2, h3⟩ | ⟨g, cap, cur, a, b, c, d, e⟩
  · subst h3; exact ⟨none, 0, h2, Nat.le_refl _⟩
  · exact ⟨_, cap, a, d⟩
/-- a row's elements -/
theorem own_at {α : Type} {w : World} {B e sz : Nat} {v : Value} {L : List α} {f : α → List Value} (hf : ∀ x, (f x).length = sz) (h : w.ownsRow B e sz v L.length (L.flatMap f)) (hn : 0 < L.length) :
    ∃ g c, v = .slice (some ⟨g, 0, none⟩) L.length c ∧ g < w.heap.size ∧ B ≤ g ∧ ∀ k x, L[k]? = some x → ∀ j, j < sz → w.cell? ⟨g, k * sz + j, none⟩ = (f x)[j]? := by
  obtain ⟨g, c, hv, hb, hg⟩ := h.form hn
  subst hv
  refine ⟨g, c, rfl, hg, hb, fun k x hx j hj => ?_⟩
  have hk : k < L.length := (List.getElem?_eq_some_iff.1 hx).1
  have h1 : (k + 1) * sz ≤ L.length * sz := Nat.mul_le_mul_right _ hk
  rw [h.cellAt (k * sz + j) (by rw [Nat.add_mul] at h1; omega), flat_at f sz hf L k j x hx hj]
theorem len_cFs (x) : (cFs x).length = 2 := rfl
theorem len_cEs (x) : (cEs x).length = 3 := rfl
theorem len_cIs (x) : (cIs x).length = 2 := rfl
theorem len_cDs (x) : (cDs x).length = 3 := rfl
theorem len_cGs (x) : (cGs x).length = 2 := rfl
theorem len_cSs (x) : (cSs x).length = 2 := rfl
theorem len_cCo (x) : (cCo x).length = 6 := rfl
theorem CoIn.grown {W W' : World} {B : Nat} {x : Sv × Co} {r : Option Nat} (h : CoIn W B x) (hgr : W.grownBy W' r) (hf : x.1.f.ownBlock = none ∨ x.1.f.ownBlock ≠ r) (he : x.1.e.ownBlock = none ∨ x.1.e.ownBlock ≠ r) (hi : x.1.i.ownBlock = none ∨ x.1.i.ownBlock ≠ r) (hd : x.1.d.ownBlock = none ∨ x.1.d.ownBlock ≠ r) (hg : x.1.g.ownBlock = none ∨ x.1.g.ownBlock ≠ r) : CoIn W' B x :=
  ⟨h.1.kept hgr hf, h.2.1.kept hgr he, h.2.2.1.kept hgr hi, h.2.2.2.1.kept hgr hd, h.2.2.2.2.kept hgr hg⟩
theorem none_or (o : Option Nat) : o = none ∨ o ≠ none := by cases o <;> simp
theorem PlIn.below {W W' : World} {B : Nat} {SV CV : Value} {ss : List (ByteArray × Nat)} {D : List (Sv × Co)} (h : PlIn W B SV CV ss D) (hb : Below W.heap.size W W') : PlIn W' B SV CV ss D := by
  have hg := grown_of_below hb none
  exact ⟨h.1.kept hg (none_or _), h.2.1.kept hg (none_or _), fun i x hx => (h.2.2.1 i x hx).grown hg (none_or _) (none_or _) (none_or _) (none_or _) (none_or _), h.2.2.2⟩
end Go.Proofs.YtapdiionikfgpaaGreatDoor
namespace Go.Proofs.YtapdiionikfgpaaGreatDoor
open Go.ChangeShapes Go.WideShapes Go.ChangeAt Go.RowKit
set_option linter.unusedVariables false
theorem own_fresh {w : World} {B e z n : Nat} {v v' : Value} {xs : List Value} (h : w.ownsRow B e z v n xs) (hv : v'.ownBlock = some w.heap.size) : (v.ownBlock = none ∨ v.ownBlock ≠ v'.ownBlock) ∧ (v'.ownBlock = none ∨ v'.ownBlock ≠ v.ownBlock) := by
  rcases own_old h with h1 | ⟨g, h1, h2, _⟩
  · exact ⟨Or.inl h1, Or.inr (by rw [hv, h1]; simp)⟩
  · exact ⟨Or.inr (by rw [h1, hv]; simp; omega), Or.inr (by rw [h1, hv]; simp; omega)⟩
theorem ne_sym {a b : Option Nat} (h : a = none ∨ a ≠ b) : b = none ∨ b ≠ a := by
  rcases h with h | h
  · cases b with
    | none => exact Or.inl rfl
    | some x => exact Or.inr (by rw [h]; simp)
  · exact Or.inr (Ne.symm h)
theorem own_row {w : World} {B e z n : Nat} {v : Value} {xs : List Value} {g c m : Nat} (hv : v = .slice (some ⟨g, 0, none⟩) m c) : v.ownBlock = some g := by rw [hv]; rfl
theorem PlIn.app_f {W W' : World} {B i g c : Nat} {SV CV v' : Value} {ss : List (ByteArray × Nat)} {D : List (Sv × Co)} {x : Sv × Co} {y} (h : PlIn W B SV CV ss D) (hx : D[i]? = some x) (hcv : CV = .slice (some ⟨g, 0, none⟩) D.length c)
    (ho : W'.ownsRow B 88 2 v' (x.2.fs.length + 1) (x.2.fs.flatMap cFs ++ cFs y)) (hg : W.grownBy W' x.1.f.ownBlock) (hat : x.1.f.ownBlock = v'.ownBlock ∨ v'.ownBlock = some W.heap.size) :
    PlIn (W'.setCell ⟨g, i * 6 + 1, none⟩ v') B SV CV ss (D.set i (({ x.1 with f := v' }, { x.2 with fs := x.2.fs ++ [y] }) : Sv × Co)) := by
  obtain ⟨hS, hC, hL, hSep⟩ := h
  have hX := hL i x hx
  have hX0 := hX.1
  have hcb : CV.ownBlock = some g := by rw [hcv]; rfl
  have hC' := hC.kept hg (own_apart hC hX0 (by decide))
  have hset := grown_set (W := W') g (i * 6 + 1) v'
  have far : ∀ {e zz n : Nat} {v : Value} {xs : List Value}, W'.ownsRow B e zz v n xs → e ≠ 48 → (W'.setCell ⟨g, i * 6 + 1, none⟩ v').ownsRow B e zz v n xs := fun hr he => hr.kept hset (by rw [← hcb]; exact own_apart hr hC' he)
  have hi : i < D.length := (List.getElem?_eq_some_iff.1 hx).1
  refine ⟨far (hS.kept hg (own_apart hS hX0 (by decide))) (by decide), ?_, fun m z hz => ?_, fun a b p q hab hp hq => ?_⟩
  · rw [hcv] at hC'
    have h1 := (hC'.stored (i * 6 + 1) v').1
    rw [flat_set cCo 6 len_cCo D i 1 x (({ x.1 with f := v' }, { x.2 with fs := x.2.fs ++ [y] }) : Sv × Co) v' hx (by decide) rfl] at h1
    rw [List.length_set, hcv]
    exact h1
  · by_cases hm : m = i
    · subst hm
      rw [List.getElem?_set_self hi] at hz
      cases hz
      exact ⟨far (by simpa using ho) (by decide), far (hX.2.1.kept hg (own_apart hX.2.1 hX0 (by decide))) (by decide), far (hX.2.2.1.kept hg (own_apart hX.2.2.1 hX0 (by decide))) (by decide), far (hX.2.2.2.1.kept hg (own_apart hX.2.2.2.1 hX0 (by decide))) (by decide), far (hX.2.2.2.2.kept hg (own_apart hX.2.2.2.2 hX0 (by decide))) (by decide)⟩
    · rw [List.getElem?_set_ne (fun e => hm e.symm)] at hz
      have hZ := hL m z hz
      have hne : z.1.f.ownBlock = none ∨ z.1.f.ownBlock ≠ x.1.f.ownBlock := by
        rcases Nat.lt_or_ge m i with hlt | hge
        · exact (hSep m i z x hlt hz hx).1
        · exact ne_sym (hSep i m x z (by omega) hx hz).1
      exact ⟨far (hZ.1.kept hg hne) (by decide), far (hZ.2.1.kept hg (own_apart hZ.2.1 hX0 (by decide))) (by decide), far (hZ.2.2.1.kept hg (own_apart hZ.2.2.1 hX0 (by decide))) (by decide), far (hZ.2.2.2.1.kept hg (own_apart hZ.2.2.2.1 hX0 (by decide))) (by decide), far (hZ.2.2.2.2.kept hg (own_apart hZ.2.2.2.2 hX0 (by decide))) (by decide)⟩
  · by_cases ha : a = i
    · subst ha
      rw [List.getElem?_set_self hi] at hp
      rw [List.getElem?_set_ne (by omega)] at hq
      cases hp
      have h1 := hSep a b x q hab hx hq
      have h2 : v'.ownBlock = none ∨ v'.ownBlock ≠ q.1.f.ownBlock := by
        rcases hat with e | e
        · rw [← e]; exact h1.1
        · exact (own_fresh (hL b q hq).1 e).2
      exact ⟨h2, h1.2.1, h1.2.2.1, h1.2.2.2.1, h1.2.2.2.2⟩
    · rw [List.getElem?_set_ne (fun e => ha e.symm)] at hp
      by_cases hb : b = i
      · subst hb
        rw [List.getElem?_set_self hi] at hq
        cases hq
        have h1 := hSep a b p x hab hp hx
        have h2 : p.1.f.ownBlock = none ∨ p.1.f.ownBlock ≠ v'.ownBlock := by
          rcases hat with e | e
          · rw [← e]; exact h1.1
          · exact (own_fresh (hL a p hp).1 e).1
        exact ⟨h2, h1.2.1, h1.2.2.1, h1.2.2.2.1, h1.2.2.2.2⟩
      · rw [List.getElem?_set_ne (fun e => hb e.symm)] at hq
        exact hSep a b p q hab hp hq
theorem PlIn.app_e {W W' : World} {B i g c : Nat} {SV CV v' : Value} {ss : List (ByteArray × Nat)} {D : List (Sv × Co)} {x : Sv × Co} {y} (h : PlIn W B SV CV ss D) (hx : D[i]? = some x) (hcv : CV = .slice (some ⟨g, 0, none⟩) D.length c)
    (ho : W'.ownsRow B 50 3 v' (x.2.es.length + 1) (x.2.es.flatMap cEs ++ cEs y)) (hg : W.grownBy W' x.1.e.ownBlock) (hat : x.1.e.ownBlock = v'.ownBlock ∨ v'.ownBlock = some W.heap.size) :
    PlIn (W'.setCell ⟨g, i * 6 + 2, none⟩ v') B SV CV ss (D.set i (({ x.1 with e := v' }, { x.2 with es := x.2.es ++ [y] }) : Sv × Co)) := by
  obtain ⟨hS, hC, hL, hSep⟩ := h
  have hX := hL i x hx
  have hX0 := hX.2.1
  have hcb : CV.ownBlock = some g := by rw [hcv]; rfl
  have hC' := hC.kept hg (own_apart hC hX0 (by decide))
  have hset := grown_set (W := W') g (i * 6 + 2) v'
  have far : ∀ {e zz n : Nat} {v : Value} {xs : List Value}, W'.ownsRow B e zz v n xs → e ≠ 48 → (W'.setCell ⟨g, i * 6 + 2, none⟩ v').ownsRow B e zz v n xs := fun hr he => hr.kept hset (by rw [← hcb]; exact own_apart hr hC' he)
  have hi : i < D.length := (List.getElem?_eq_some_iff.1 hx).1
  refine ⟨far (hS.kept hg (own_apart hS hX0 (by decide))) (by decide), ?_, fun m z hz => ?_, fun a b p q hab hp hq => ?_⟩
  · rw [hcv] at hC'
    have h1 := (hC'.stored (i * 6 + 2) v').1
    rw [flat_set cCo 6 len_cCo D i 2 x (({ x.1 with e := v' }, { x.2 with es := x.2.es ++ [y] }) : Sv × Co) v' hx (by decide) rfl] at h1
    rw [List.length_set, hcv]
    exact h1
  · by_cases hm : m = i
    · subst hm
      rw [List.getElem?_set_self hi] at hz
      cases hz
      exact ⟨far (hX.1.kept hg (own_apart hX.1 hX0 (by decide))) (by decide), far (by simpa using ho) (by decide), far (hX.2.2.1.kept hg (own_apart hX.2.2.1 hX0 (by decide))) (by decide), far (hX.2.2.2.1.kept hg (own_apart hX.2.2.2.1 hX0 (by decide))) (by decide), far (hX.2.2.2.2.kept hg (own_apart hX.2.2.2.2 hX0 (by decide))) (by decide)⟩
    · rw [List.getElem?_set_ne (fun e => hm e.symm)] at hz
      have hZ := hL m z hz
      have hne : z.1.e.ownBlock = none ∨ z.1.e.ownBlock ≠ x.1.e.ownBlock := by
        rcases Nat.lt_or_ge m i with hlt | hge
        · exact (hSep m i z x hlt hz hx).2.1
        · exact ne_sym (hSep i m x z (by omega) hx hz).2.1
      exact ⟨far (hZ.1.kept hg (own_apart hZ.1 hX0 (by decide))) (by decide), far (hZ.2.1.kept hg hne) (by decide), far (hZ.2.2.1.kept hg (own_apart hZ.2.2.1 hX0 (by decide))) (by decide), far (hZ.2.2.2.1.kept hg (own_apart hZ.2.2.2.1 hX0 (by decide))) (by decide), far (hZ.2.2.2.2.kept hg (own_apart hZ.2.2.2.2 hX0 (by decide))) (by decide)⟩
  · by_cases ha : a = i
    · subst ha
      rw [List.getElem?_set_self hi] at hp
      rw [List.getElem?_set_ne (by omega)] at hq
      cases hp
      have h1 := hSep a b x q hab hx hq
      have h2 : v'.ownBlock = none ∨ v'.ownBlock ≠ q.1.e.ownBlock := by
        rcases hat with e | e
        · rw [← e]; exact h1.2.1
        · exact (own_fresh (hL b q hq).2.1 e).2
      exact ⟨h1.1, h2, h1.2.2.1, h1.2.2.2.1, h1.2.2.2.2⟩
    · rw [List.getElem?_set_ne (fun e => ha e.symm)] at hp
      by_cases hb : b = i
      · subst hb
        rw [List.getElem?_set_self hi] at hq
        cases hq
        have h1 := hSep a b p x hab hp hx
        have h2 : p.1.e.ownBlock = none ∨ p.1.e.ownBlock ≠ v'.ownBlock := by
          rcases hat with e | e
          · rw [← e]; exact h1.2.1
          · exact (own_fresh (hL a p hp).2.1 e).1
        exact ⟨h1.1, h2, h1.2.2.1, h1.2.2.2.1, h1.2.2.2.2⟩
      · rw [List.getElem?_set_ne (fun e => hb e.symm)] at hq
        exact hSep a b p q hab hp hq
theorem PlIn.app_i {W W' : World} {B i g c : Nat} {SV CV v' : Value} {ss : List (ByteArray × Nat)} {D : List (Sv × Co)} {x : Sv × Co} {y} (h : PlIn W B SV CV ss D) (hx : D[i]? = some x) (hcv : CV = .slice (some ⟨g, 0, none⟩) D.length c)
    (ho : W'.ownsRow B 79 2 v' (x.2.is.length + 1) (x.2.is.flatMap cIs ++ cIs y)) (hg : W.grownBy W' x.1.i.ownBlock) (hat : x.1.i.ownBlock = v'.ownBlock ∨ v'.ownBlock = some W.heap.size) :
    PlIn (W'.setCell ⟨g, i * 6 + 3, none⟩ v') B SV CV ss (D.set i (({ x.1 with i := v' }, { x.2 with is := x.2.is ++ [y] }) : Sv × Co)) := by
  obtain ⟨hS, hC, hL, hSep⟩ := h
  have hX := hL i x hx
  have hX0 := hX.2.2.1
  have hcb : CV.ownBlock = some g := by rw [hcv]; rfl
  have hC' := hC.kept hg (own_apart hC hX0 (by decide))
  have hset := grown_set (W := W') g (i * 6 + 3) v'
  have far : ∀ {e zz n : Nat} {v : Value} {xs : List Value}, W'.ownsRow B e zz v n xs → e ≠ 48 → (W'.setCell ⟨g, i * 6 + 3, none⟩ v').ownsRow B e zz v n xs := fun hr he => hr.kept hset (by rw [← hcb]; exact own_apart hr hC' he)
  have hi : i < D.length := (List.getElem?_eq_some_iff.1 hx).1
  refine ⟨far (hS.kept hg (own_apart hS hX0 (by decide))) (by decide), ?_, fun m z hz => ?_, fun a b p q hab hp hq => ?_⟩
  · rw [hcv] at hC'
    have h1 := (hC'.stored (i * 6 + 3) v').1
    rw [flat_set cCo 6 len_cCo D i 3 x (({ x.1 with i := v' }, { x.2 with is := x.2.is ++ [y] }) : Sv × Co) v' hx (by decide) rfl] at h1
    rw [List.length_set, hcv]
    exact h1
  · by_cases hm : m = i
    · subst hm
      rw [List.getElem?_set_self hi] at hz
      cases hz
      exact ⟨far (hX.1.kept hg (own_apart hX.1 hX0 (by decide))) (by decide), far (hX.2.1.kept hg (own_apart hX.2.1 hX0 (by decide))) (by decide), far (by simpa using ho) (by decide), far (hX.2.2.2.1.kept hg (own_apart hX.2.2.2.1 hX0 (by decide))) (by decide), far (hX.2.2.2.2.kept hg (own_apart hX.2.2.2.2 hX0 (by decide))) (by decide)⟩
    · rw [List.getElem?_set_ne (fun e => hm e.symm)] at hz
      have hZ := hL m z hz
      have hne : z.1.i.ownBlock = none ∨ z.1.i.ownBlock ≠ x.1.i.ownBlock := by
        rcases Nat.lt_or_ge m i with hlt | hge
        · exact (hSep m i z x hlt hz hx).2.2.1
        · exact ne_sym (hSep i m x z (by omega) hx hz).2.2.1
      exact ⟨far (hZ.1.kept hg (own_apart hZ.1 hX0 (by decide))) (by decide), far (hZ.2.1.kept hg (own_apart hZ.2.1 hX0 (by decide))) (by decide), far (hZ.2.2.1.kept hg hne) (by decide), far (hZ.2.2.2.1.kept hg (own_apart hZ.2.2.2.1 hX0 (by decide))) (by decide), far (hZ.2.2.2.2.kept hg (own_apart hZ.2.2.2.2 hX0 (by decide))) (by decide)⟩
  · by_cases ha : a = i
    · subst ha
      rw [List.getElem?_set_self hi] at hp
      rw [List.getElem?_set_ne (by omega)] at hq
      cases hp
      have h1 := hSep a b x q hab hx hq
      have h2 : v'.ownBlock = none ∨ v'.ownBlock ≠ q.1.i.ownBlock := by
        rcases hat with e | e
        · rw [← e]; exact h1.2.2.1
        · exact (own_fresh (hL b q hq).2.2.1 e).2
      exact ⟨h1.1, h1.2.1, h2, h1.2.2.2.1, h1.2.2.2.2⟩
    · rw [List.getElem?_set_ne (fun e => ha e.symm)] at hp
      by_cases hb : b = i
      · subst hb
        rw [List.getElem?_set_self hi] at hq
        cases hq
        have h1 := hSep a b p x hab hp hx
        have h2 : p.1.i.ownBlock = none ∨ p.1.i.ownBlock ≠ v'.ownBlock := by
          rcases hat with e | e
          · rw [← e]; exact h1.2.2.1
          · exact (own_fresh (hL a p hp).2.2.1 e).1
        exact ⟨h1.1, h1.2.1, h2, h1.2.2.2.1, h1.2.2.2.2⟩
      · rw [List.getElem?_set_ne (fun e => hb e.symm)] at hq
        exact hSep a b p q hab hp hq
theorem PlIn.app_d {W W' : World} {B i g c : Nat} {SV CV v' : Value} {ss : List (ByteArray × Nat)} {D : List (Sv × Co)} {x : Sv × Co} {y} (h : PlIn W B SV CV ss D) (hx : D[i]? = some x) (hcv : CV = .slice (some ⟨g, 0, none⟩) D.length c)
    (ho : W'.ownsRow B 90 3 v' (x.2.ds.length + 1) (x.2.ds.flatMap cDs ++ cDs y)) (hg : W.grownBy W' x.1.d.ownBlock) (hat : x.1.d.ownBlock = v'.ownBlock ∨ v'.ownBlock = some W.heap.size) :
    PlIn (W'.setCell ⟨g, i * 6 + 4, none⟩ v') B SV CV ss (D.set i (({ x.1 with d := v' }, { x.2 with ds := x.2.ds ++ [y] }) : Sv × Co)) := by
  obtain ⟨hS, hC, hL, hSep⟩ := h
  have hX := hL i x hx
  have hX0 := hX.2.2.2.1
  have hcb : CV.ownBlock = some g := by rw [hcv]; rfl
  have hC' := hC.kept hg (own_apart hC hX0 (by decide))
  have hset := grown_set (W := W') g (i * 6 + 4) v'
  have far : ∀ {e zz n : Nat} {v : Value} {xs : List Value}, W'.ownsRow B e zz v n xs → e ≠ 48 → (W'.setCell ⟨g, i * 6 + 4, none⟩ v').ownsRow B e zz v n xs := fun hr he => hr.kept hset (by rw [← hcb]; exact own_apart hr hC' he)
  have hi : i < D.length := (List.getElem?_eq_some_iff.1 hx).1
  refine ⟨far (hS.kept hg (own_apart hS hX0 (by decide))) (by decide), ?_, fun m z hz => ?_, fun a b p q hab hp hq => ?_⟩
  · rw [hcv] at hC'
    have h1 := (hC'.stored (i * 6 + 4) v').1
    rw [flat_set cCo 6 len_cCo D i 4 x (({ x.1 with d := v' }, { x.2 with ds := x.2.ds ++ [y] }) : Sv × Co) v' hx (by decide) rfl] at h1
    rw [List.length_set, hcv]
    exact h1
  · by_cases hm : m = i
    · subst hm
      rw [List.getElem?_set_self hi] at hz
      cases hz
      exact ⟨far (hX.1.kept hg (own_apart hX.1 hX0 (by decide))) (by decide), far (hX.2.1.kept hg (own_apart hX.2.1 hX0 (by decide))) (by decide), far (hX.2.2.1.kept hg (own_apart hX.2.2.1 hX0 (by decide))) (by decide), far (by simpa using ho) (by decide), far (hX.2.2.2.2.kept hg (own_apart hX.2.2.2.2 hX0 (by decide))) (by decide)⟩
    · rw [List.getElem?_set_ne (fun e => hm e.symm)] at hz
      have hZ := hL m z hz
      have hne : z.1.d.ownBlock = none ∨ z.1.d.ownBlock ≠ x.1.d.ownBlock := by
        rcases Nat.lt_or_ge m i with hlt | hge
        · exact (hSep m i z x hlt hz hx).2.2.2.1
        · exact ne_sym (hSep i m x z (by omega) hx hz).2.2.2.1
      exact ⟨far (hZ.1.kept hg (own_apart hZ.1 hX0 (by decide))) (by decide), far (hZ.2.1.kept hg (own_apart hZ.2.1 hX0 (by decide))) (by decide), far (hZ.2.2.1.kept hg (own_apart hZ.2.2.1 hX0 (by decide))) (by decide), far (hZ.2.2.2.1.kept hg hne) (by decide), far (hZ.2.2.2.2.kept hg (own_apart hZ.2.2.2.2 hX0 (by decide))) (by decide)⟩
  · by_cases ha : a = i
    · subst ha
      rw [List.getElem?_set_self hi] at hp
      rw [List.getElem?_set_ne (by omega)] at hq
      cases hp
      have h1 := hSep a b x q hab hx hq
      have h2 : v'.ownBlock = none ∨ v'.ownBlock ≠ q.1.d.ownBlock := by
        rcases hat with e | e
        · rw [← e]; exact h1.2.2.2.1
        · exact (own_fresh (hL b q hq).2.2.2.1 e).2
      exact ⟨h1.1, h1.2.1, h1.2.2.1, h2, h1.2.2.2.2⟩
    · rw [List.getElem?_set_ne (fun e => ha e.symm)] at hp
      by_cases hb : b = i
      · subst hb
        rw [List.getElem?_set_self hi] at hq
        cases hq
        have h1 := hSep a b p x hab hp hx
        have h2 : p.1.d.ownBlock = none ∨ p.1.d.ownBlock ≠ v'.ownBlock := by
          rcases hat with e | e
          · rw [← e]; exact h1.2.2.2.1
          · exact (own_fresh (hL a p hp).2.2.2.1 e).1
        exact ⟨h1.1, h1.2.1, h1.2.2.1, h2, h1.2.2.2.2⟩
      · rw [List.getElem?_set_ne (fun e => hb e.symm)] at hq
        exact hSep a b p q hab hp hq
theorem PlIn.app_g {W W' : World} {B i g c : Nat} {SV CV v' : Value} {ss : List (ByteArray × Nat)} {D : List (Sv × Co)} {x : Sv × Co} {y} (h : PlIn W B SV CV ss D) (hx : D[i]? = some x) (hcv : CV = .slice (some ⟨g, 0, none⟩) D.length c)
    (ho : W'.ownsRow B 92 2 v' (x.2.gs.length + 1) (x.2.gs.flatMap cGs ++ cGs y)) (hg : W.grownBy W' x.1.g.ownBlock) (hat : x.1.g.ownBlock = v'.ownBlock ∨ v'.ownBlock = some W.heap.size) :
    PlIn (W'.setCell ⟨g, i * 6 + 5, none⟩ v') B SV CV ss (D.set i (({ x.1 with g := v' }, { x.2 with gs := x.2.gs ++ [y] }) : Sv × Co)) := by
  obtain ⟨hS, hC, hL, hSep⟩ := h
  have hX := hL i x hx
  have hX0 := hX.2.2.2.2
  have hcb : CV.ownBlock = some g := by rw [hcv]; rfl
  have hC' := hC.kept hg (own_apart hC hX0 (by decide))
  have hset := grown_set (W := W') g (i * 6 + 5) v'
  have far : ∀ {e zz n : Nat} {v : Value} {xs : List Value}, W'.ownsRow B e zz v n xs → e ≠ 48 → (W'.setCell ⟨g, i * 6 + 5, none⟩ v').ownsRow B e zz v n xs := fun hr he => hr.kept hset (by rw [← hcb]; exact own_apart hr hC' he)
  have hi : i < D.length := (List.getElem?_eq_some_iff.1 hx).1
  refine ⟨far (hS.kept hg (own_apart hS hX0 (by decide))) (by decide), ?_, fun m z hz => ?_, fun a b p q hab hp hq => ?_⟩
  · rw [hcv] at hC'
    have h1 := (hC'.stored (i * 6 + 5) v').1
    rw [flat_set cCo 6 len_cCo D i 5 x (({ x.1 with g := v' }, { x.2 with gs := x.2.gs ++ [y] }) : Sv × Co) v' hx (by decide) rfl] at h1
    rw [List.length_set, hcv]
    exact h1
  · by_cases hm : m = i
    · subst hm
      rw [List.getElem?_set_self hi] at hz
      cases hz
      exact ⟨far (hX.1.kept hg (own_apart hX.1 hX0 (by decide))) (by decide), far (hX.2.1.kept hg (own_apart hX.2.1 hX0 (by decide))) (by decide), far (hX.2.2.1.kept hg (own_apart hX.2.2.1 hX0 (by decide))) (by decide), far (hX.2.2.2.1.kept hg (own_apart hX.2.2.2.1 hX0 (by decide))) (by decide), far (by simpa using ho) (by decide)⟩
    · rw [List.getElem?_set_ne (fun e => hm e.symm)] at hz
      have hZ := hL m z hz
      have hne : z.1.g.ownBlock = none ∨ z.1.g.ownBlock ≠ x.1.g.ownBlock := by
        rcases Nat.lt_or_ge m i with hlt | hge
        · exact (hSep m i z x hlt hz hx).2.2.2.2
        · exact ne_sym (hSep i m x z (by omega) hx hz).2.2.2.2
      exact ⟨far (hZ.1.kept hg (own_apart hZ.1 hX0 (by decide))) (by decide), far (hZ.2.1.kept hg (own_apart hZ.2.1 hX0 (by decide))) (by decide), far (hZ.2.2.1.kept hg (own_apart hZ.2.2.1 hX0 (by decide))) (by decide), far (hZ.2.2.2.1.kept hg (own_apart hZ.2.2.2.1 hX0 (by decide))) (by decide), far (hZ.2.2.2.2.kept hg hne) (by decide)⟩
  · by_cases ha : a = i
    · subst ha
      rw [List.getElem?_set_self hi] at hp
      rw [List.getElem?_set_ne (by omega)] at hq
      cases hp
      have h1 := hSep a b x q hab hx hq
      have h2 : v'.ownBlock = none ∨ v'.ownBlock ≠ q.1.g.ownBlock := by
        rcases hat with e | e
        · rw [← e]; exact h1.2.2.2.2
        · exact (own_fresh (hL b q hq).2.2.2.2 e).2
      exact ⟨h1.1, h1.2.1, h1.2.2.1, h1.2.2.2.1, h2⟩
    · rw [List.getElem?_set_ne (fun e => ha e.symm)] at hp
      by_cases hb : b = i
      · subst hb
        rw [List.getElem?_set_self hi] at hq
        cases hq
        have h1 := hSep a b p x hab hp hx
        have h2 : p.1.g.ownBlock = none ∨ p.1.g.ownBlock ≠ v'.ownBlock := by
          rcases hat with e | e
          · rw [← e]; exact h1.2.2.2.2
          · exact (own_fresh (hL a p hp).2.2.2.2 e).1
        exact ⟨h1.1, h1.2.1, h1.2.2.1, h1.2.2.2.1, h2⟩
      · rw [List.getElem?_set_ne (fun e => hb e.symm)] at hq
        exact hSep a b p q hab hp hq
theorem PlIn.share {W W' : World} {B : Nat} {SV CV v' : Value} {ss : List (ByteArray × Nat)} {D : List (Sv × Co)} {y : ByteArray × Nat} (h : PlIn W B SV CV ss D)
    (ho : W'.ownsRow B 68 2 v' (ss.length + 1) (ss.flatMap cSs ++ cSs y)) (hg : W.grownBy W' SV.ownBlock) : PlIn W' B v' CV (ss ++ [y]) D := by
  obtain ⟨hS, hC, hL, hSep⟩ := h
  refine ⟨by simpa using ho, hC.kept hg (own_apart hC hS (by decide)), fun m z hz => ?_, hSep⟩
  have hZ := hL m z hz
  exact ⟨hZ.1.kept hg (own_apart hZ.1 hS (by decide)), hZ.2.1.kept hg (own_apart hZ.2.1 hS (by decide)), hZ.2.2.1.kept hg (own_apart hZ.2.2.1 hS (by decide)), hZ.2.2.2.1.kept hg (own_apart hZ.2.2.2.1 hS (by decide)), hZ.2.2.2.2.kept hg (own_apart hZ.2.2.2.2 hS (by decide))⟩
theorem nil_in (W : World) (B : Nat) (s : ByteArray) : CoIn W B (Sv.nil, Co.new s) := ⟨World.ownsRow_nil _ _ _ _, World.ownsRow_nil _ _ _ _, World.ownsRow_nil _ _ _ _, World.ownsRow_nil _ _ _ _, World.ownsRow_nil _ _ _ _⟩
theorem PlIn.comp {W W' : World} {B : Nat} {SV CV v' : Value} {ss : List (ByteArray × Nat)} {D : List (Sv × Co)} {s : ByteArray} (h : PlIn W B SV CV ss D)
    (ho : W'.ownsRow B 48 6 v' (D.length + 1) (D.flatMap cCo ++ cCo (Sv.nil, Co.new s))) (hg : W.grownBy W' CV.ownBlock) : PlIn W' B SV v' ss (D ++ [(Sv.nil, Co.new s)]) := by
  obtain ⟨hS, hC, hL, hSep⟩ := h
  refine ⟨hS.kept hg (own_apart hS hC (by decide)), by simpa using ho, fun m z hz => ?_, fun a b p q hab hp hq => ?_⟩
  · rcases Nat.lt_or_ge m D.length with hlt | hge
    · rw [List.getElem?_append_left hlt] at hz
      have hZ := hL m z hz
      exact ⟨hZ.1.kept hg (own_apart hZ.1 hC (by decide)), hZ.2.1.kept hg (own_apart hZ.2.1 hC (by decide)), hZ.2.2.1.kept hg (own_apart hZ.2.2.1 hC (by decide)), hZ.2.2.2.1.kept hg (own_apart hZ.2.2.2.1 hC (by decide)), hZ.2.2.2.2.kept hg (own_apart hZ.2.2.2.2 hC (by decide))⟩
    · rw [List.getElem?_append_right hge] at hz
      cases hmm : m - D.length with
      | zero => rw [hmm] at hz; cases hz; exact nil_in _ _ _
      | succ n => rw [hmm] at hz; simp at hz
  · have hb : b < D.length + 1 := by
      have := (List.getElem?_eq_some_iff.1 hq).1
      simpa using this
    rw [List.getElem?_append_left (by omega)] at hp
    rcases Nat.lt_or_ge b D.length with hlt | hge
    · rw [List.getElem?_append_left hlt] at hq
      exact hSep a b p q hab hp hq
    · obtain rfl : b = D.length := by omega
      have hq2 : (Sv.nil, Co.new s) = q := by simpa using hq
      subst hq2
      exact ⟨ne_sym (Or.inl rfl), ne_sym (Or.inl rfl), ne_sym (Or.inl rfl), ne_sym (Or.inl rfl), ne_sym (Or.inl rfl)⟩
end Go.Proofs.YtapdiionikfgpaaGreatDoor
namespace Go.Proofs.YtapdiionikfgpaaGreatDoor
open Go.ChangeShapes Go.WideShapes Go.ChangeAt Go.RowKit
open Li (bb refV finV noN badN numN hexP)
set_option linter.unusedVariables false
set_option linter.unusedSimpArgs false
/-- how the reference's reader stands -/
def RS (W : World) (B tb : Nat) (SV CV : Value) (p : Pm) (D : List (Sv × Co)) : Prop :=
  Bx W tb #[.int .i64 (p.st : Int), .int .i64 (p.tr : Int), SV, CV, .int .i64 (p.s0 : Int), .string p.mn, .bool (decide (p.st ≠ 0)), .bool (decide (p.tr ≠ 0)), .bool (decide (p.mn ≠ ⟨#[]⟩))] 65 ∧ PlIn W B SV CV p.ss D ∧ D.map (·.2) = p.cs ∧ tb < B ∧ p.cs.length ≤ 12 ∧ p.ss.length ≤ 8
theorem RS.below {W W' : World} {B tb : Nat} {SV CV : Value} {p : Pm} {D : List (Sv × Co)} (h : RS W B tb SV CV p D) (hb : Below W.heap.size W W') : RS W' B tb SV CV p D := ⟨h.1.below hb, h.2.1.below hb, h.2.2⟩
theorem RS.len {W : World} {B tb : Nat} {SV CV : Value} {p : Pm} {D : List (Sv × Co)} (h : RS W B tb SV CV p D) : D.length = p.cs.length := by rw [← h.2.2.1]; simp
/-- the first one's number, or -1 -/
def atI (o : Option Nat) : Int := match o with
  | some k => (k : Int)
  | none => -1
def FR (w : World) (n : Nat) (q : Nat → Bool) (i : Value) (wr : World) : Prop := wr = w ∧ ∃ k : Nat, k ≤ n ∧ i = .int .i64 (k : Int) ∧ ∀ j, j < k → q j = false
theorem bs_eq (s t : ByteArray) : (s.toList == t.toList) = decide (s = t) := by
  rw [ByteArray.toList_eq, ByteArray.toList_eq, Bool.eq_iff_iff]
  obtain ⟨⟨a⟩⟩ := s
  obtain ⟨⟨b⟩⟩ := t
  simp
set_option maxRecDepth 100000 in
set_option maxHeartbeats 4000000 in
/-- num -/
theorem r48 (s : ByteArray) (lo hi of : Nat) (hs : s.size ≤ 9223372036854775807) (hlo : lo ≤ 4294967295) (hhi : hi ≤ 4294967295) (hof : 0 < of) (hof2 : of ≤ 4294967295) (w : World) : Calls Tryz.prog 48 #[.string s, .int .u32 (lo : Int), .int .u32 (hi : Int), .int .u32 (of : Int)] w
    fun e w' => (∃ n : Nat, n ≤ 4294967295 ∧ (∀ m, numO s lo hi of = some m → n = m) ∧ e = .returned (.tuple #[.int .u32 (n : Int), .bool (numO s lo hi of).isSome])) ∧ Below w.heap.size w w' := by
  obtain ⟨h1, h2⟩ := refV_eq s
  have H := Lib.hid (Li.c11 s hs w)
  rw [h1] at H
  cases hv : valO s with
  | none =>
    rw [hv] at H
    simp only [Option.getD_none, Option.isSome_none] at H
    have HN : Hid (numO s lo hi of = none) := Lib.hid (numO_none hv)
    clear h1 h2 hv
    go_enter Tryz.func48, Tryz.ntmps48
    go_wp2_with fail
    with_reducible refine H.out.mono ?_
    rintro _ w5 ⟨rfl, rfl⟩
    go_wp2_with fail
    go_quiet (fail)
    go_wp2_with fail
    go_ret2
    exact ⟨⟨0, by omega, fun m hm => (by rw [HN.out] at hm; cases hm), by rw [HN.out]; rfl⟩, ⟨rfl, rfl, rfl, Nat.le_refl _, fun _ _ => rfl⟩⟩
  | some n =>
    rw [hv] at H
    simp only [Option.getD_some, Option.isSome_some] at H
    have hn : n ≤ 4294967295 := by have := h2 n hv; omega
    have HN : Hid (numO s lo hi of = if lo ≤ n ∧ n ≤ hi ∧ n % of = 0 then some n else none) := Lib.hid (numO_some hv)
    clear h1 h2 hv
    have HR : Hid (∀ b : Bool, (numO s lo hi of).isSome = b → (∃ n' : Nat, n' ≤ 4294967295 ∧ (∀ m, numO s lo hi of = some m → n' = m) ∧ Ending.returned (.tuple #[.int .u32 (n : Int), .bool b]) = Ending.returned (.tuple #[.int .u32 (n' : Int), .bool (numO s lo hi of).isSome]))) := Lib.hid (fun b hb => ⟨n, hn, fun m hm => (by
      rw [HN.out] at hm
      split at hm
      · cases hm; rfl
      · cases hm), by rw [hb]⟩)
    have hof0 : ((of : Int) == 0) = false := by simp; omega
    have hof1 : ¬ ((of : Int) = 0) := by omega
    by_cases hb : lo ≤ n ∧ n ≤ hi
    · have e1 : decide ((lo : Int) ≤ (n : Int)) = true := by simp; omega
      have e2 : decide ((n : Int) ≤ (hi : Int)) = true := by simp; omega
      have e3 : decide (lo ≤ n) = true := by simp; omega
      have e4 : decide (n ≤ hi) = true := by simp; omega
      by_cases hm : n % of = 0
      · have HB := Lib.hid (HR.out true (by rw [HN.out, if_pos ⟨hb.1, hb.2, hm⟩]; rfl))
        have hm' : (n : Int) % (of : Int) = 0 := by omega
        clear hb
        go_enter Tryz.func48, Tryz.ntmps48
        go_wp2_with fail
        with_reducible refine H.out.mono ?_
        rintro _ w5 ⟨rfl, rfl⟩
        go_wp2_with fail
        go_quiet (fail)
        go_wp2_with fail
        go_ret2
        exact ⟨HB.out, ⟨rfl, rfl, rfl, Nat.le_refl _, fun _ _ => rfl⟩⟩
      · have HB := Lib.hid (HR.out false (by rw [HN.out, if_neg (fun h => hm h.2.2)]; rfl))
        have hm' : ¬ ((n : Int) % (of : Int) = 0) := by omega
        have hm3 : ((n : Int) % (of : Int) == 0) = false := by simp; omega
        have hm2 : decide ((n : Int) % (of : Int) = 0) = false := decide_eq_false hm'
        clear hb
        go_enter Tryz.func48, Tryz.ntmps48
        go_wp2_with fail
        with_reducible refine H.out.mono ?_
        rintro _ w5 ⟨rfl, rfl⟩
        go_wp2_with fail
        go_quiet (fail)
        go_wp2_with fail
        go_ret2
        exact ⟨HB.out, ⟨rfl, rfl, rfl, Nat.le_refl _, fun _ _ => rfl⟩⟩
    · have HB := Lib.hid (HR.out false (by rw [HN.out, if_neg (fun h => hb ⟨h.1, h.2.1⟩)]; rfl))
      by_cases hl : lo ≤ n
      · have e1 : decide ((lo : Int) ≤ (n : Int)) = true := by simp; omega
        have e2 : decide ((n : Int) ≤ (hi : Int)) = false := by simp; omega
        have e3 : decide (lo ≤ n) = true := by simp; omega
        have e4 : decide (n ≤ hi) = false := by simp; omega
        clear hb hl
        go_enter Tryz.func48, Tryz.ntmps48
        go_wp2_with fail
        with_reducible refine H.out.mono ?_
        rintro _ w5 ⟨rfl, rfl⟩
        go_wp2_with fail
        go_quiet (fail)
        go_wp2_with fail
        go_ret2
        exact ⟨HB.out, ⟨rfl, rfl, rfl, Nat.le_refl _, fun _ _ => rfl⟩⟩
      · have e1 : decide ((lo : Int) ≤ (n : Int)) = false := by simp; omega
        have e3 : decide (lo ≤ n) = false := by simp; omega
        clear hb hl
        go_enter Tryz.func48, Tryz.ntmps48
        go_wp2_with fail
        with_reducible refine H.out.mono ?_
        rintro _ w5 ⟨rfl, rfl⟩
        go_wp2_with fail
        go_quiet (fail)
        go_wp2_with fail
        go_ret2
        exact ⟨HB.out, ⟨rfl, rfl, rfl, Nat.le_refl _, fun _ _ => rfl⟩⟩
theorem hitD {α β : Type} {g : β → α} {p : α → Bool} {D : List β} {k : Nat} {x : β} (hx : D[k]? = some x) (hp : p (g x) = true) (hm : ∀ j, j < k → (D[j]?).any (fun y => p (g y)) = false) : fnd p (D.map g) = some k := by
  obtain ⟨hk, hxe⟩ := List.getElem?_eq_some_iff.1 hx
  refine fnd_hit (by simpa using hk) (by rw [List.getElem_map, hxe]; exact hp) (fun j hj => ?_)
  have := hm j hj
  rw [List.getElem?_eq_getElem (by omega)] at this
  rw [List.getElem_map]
  exact this
theorem missD {α β : Type} {g : β → α} {p : α → Bool} {D : List β} (hm : ∀ j, j < D.length → (D[j]?).any (fun y => p (g y)) = false) : fnd p (D.map g) = none := by
  refine fnd_miss (fun j hj => ?_)
  have hj' : j < D.length := by simpa using hj
  have := hm j hj'
  rw [List.getElem?_eq_getElem hj'] at this
  rw [List.getElem_map]
  exact this
set_option maxHeartbeats 4000000 in
/-- the number of a compartment -/
theorem r50 (s : ByteArray) (w : World) (B tb : Nat) (SV CV : Value) (p : Pm) (D : List (Sv × Co)) (h : RS w B tb SV CV p D) : Calls Tryz.prog 50 #[.pointer (some ⟨tb, 0, none⟩), .string s] w fun e w' => e = .returned (.int .i64 (atI (fnd (byName s) p.cs))) ∧ w' = w := by
  have HCS := Lib.hid h.2.2.1
  have HROW := Lib.hid h.2.1.2.1
  have HLEN : Hid (D.length ≤ 12) := Lib.hid (by rw [h.len]; exact h.2.2.2.2.1)
  have p3 := h.1.cell 3
  obtain ⟨A, c, rfl, _⟩ := own_slice h.2.1.2.1
  simp at p3
  clear h
  have HHIT : Hid (∀ k x, D[k]? = some x → byName s x.2 = true → (∀ j, j < k → (D[j]?).any (fun y => byName s y.2) = false) → fnd (byName s) p.cs = some k) := Lib.hid (fun k x hx hp hm => by rw [← HCS.out]; exact hitD (g := fun y : Sv × Co => y.2) (p := byName s) hx hp hm)
  have HMISS : Hid ((∀ j, j < D.length → (D[j]?).any (fun y => byName s y.2) = false) → fnd (byName s) p.cs = none) := Lib.hid (fun hm => by rw [← HCS.out]; exact missD (g := fun y : Sv × Co => y.2) (p := byName s) hm)
  go_enter Tryz.func50, Tryz.ntmps50
  go_wp2_with fail
  go_loopw [5] (fun i wr => FR w D.length (fun j => (D[j]?).any (fun y => byName s y.2)) i wr) (fun i _ => D.length - (intOf i).toNat)
  case atStart => exact ⟨rfl, 0, Nat.zero_le _, rfl, fun j hj => absurd hj (by omega)⟩
  case round =>
    obtain ⟨hwr, k, hk, rfl, hm⟩ := hrel
    subst hwr
    have HM := Lib.hid hm
    clear hm
    by_cases hlt : k < D.length
    · obtain ⟨x, hx⟩ : ∃ x, D[k]? = some x := ⟨_, List.getElem?_eq_getElem hlt⟩
      obtain ⟨g, c', hce, hg, hB, hat⟩ := own_at len_cCo HROW.out (by omega)
      have q0 := hat k x hx 0 (by omega)
      simp only [Nat.add_zero] at q0
      change wr.cell? ⟨g, k * 6, none⟩ = some (.string x.2.nm) at q0
      have HCE := Lib.hid hce
      cases hce
      have hkn : (k : Int) < (D.length : Int) := by omega
      have hlen := HLEN.out
      have hkw : IntKind.i64.wrap (k : Int) = (k : Int) := by rw [IntKind.wrap_i64]; have := HLEN.out; omega
      have HLT := Lib.hid hlt
      have HX := Lib.hid hx
      clear hat hlt
      by_cases he : x.2.nm = s
      · have e1 : ((x.2.nm).toList == s.toList) = true := by rw [bs_eq]; exact decide_eq_true he
        have HR := Lib.hid (HHIT.out k x HX.out (decide_eq_true he) HM.out)
        clear he hx
        go_wp2_with fail
        go_ret
        exact ⟨by rw [HR.out]; rfl, rfl⟩
      · have e1 : ((x.2.nm).toList == s.toList) = false := by rw [bs_eq]; exact decide_eq_false he
        have HE := Lib.hid (decide_eq_false he)
        clear he hx
        go_wp2_with fail
        go_roundw
        case rel => exact ⟨rfl, k + 1, HLT.out, by go_num, fun j hj => by
          by_cases hjk : j = k
          · subst hjk
            show (D[j]?).any _ = false
            rw [HX.out]
            exact HE.out
          · exact HM.out j (by omega)⟩
        case measure => simp [intOf]; have := HLT.out; omega
    · have HR := Lib.hid (HMISS.out (fun j hj => HM.out j (by omega)))
      obtain rfl : k = D.length := by omega
      clear hlt
      go_wp2_with fail
      go_ret
      exact ⟨by rw [HR.out]; rfl, rfl⟩
set_option maxHeartbeats 4000000 in
/-- the number of a shared region -/
theorem r51 (s : ByteArray) (w : World) (B tb : Nat) (SV CV : Value) (p : Pm) (D : List (Sv × Co)) (h : RS w B tb SV CV p D) : Calls Tryz.prog 51 #[.pointer (some ⟨tb, 0, none⟩), .string s] w fun e w' => e = .returned (.int .i64 (atI (fnd (fun y => decide (y.1 = s)) p.ss))) ∧ w' = w := by
  have HROW := Lib.hid h.2.1.1
  have HLEN : Hid (p.ss.length ≤ 8) := Lib.hid h.2.2.2.2.2
  have p2 := h.1.cell 2
  obtain ⟨A, c, rfl, _⟩ := own_slice h.2.1.1
  simp at p2
  clear h
  have HHIT : Hid (∀ k x, p.ss[k]? = some x → decide (x.1 = s) = true → (∀ j, j < k → (p.ss[j]?).any (fun y => decide (y.1 = s)) = false) → fnd (fun y => decide (y.1 = s)) p.ss = some k) := Lib.hid (fun k x hx hp hm => by have := hitD (g := fun y : ByteArray × Nat => y) (p := fun y => decide (y.1 = s)) hx hp hm; simpa using this)
  have HMISS : Hid ((∀ j, j < p.ss.length → (p.ss[j]?).any (fun y => decide (y.1 = s)) = false) → fnd (fun y => decide (y.1 = s)) p.ss = none) := Lib.hid (fun hm => by have := missD (g := fun y : ByteArray × Nat => y) (p := fun y => decide (y.1 = s)) hm; simpa using this)
  go_enter Tryz.func51, Tryz.ntmps51
  go_wp2_with fail
  go_loopw [5] (fun i wr => FR w p.ss.length (fun j => (p.ss[j]?).any (fun y => decide (y.1 = s))) i wr) (fun i _ => p.ss.length - (intOf i).toNat)
  case atStart => exact ⟨rfl, 0, Nat.zero_le _, rfl, fun j hj => absurd hj (by omega)⟩
  case round =>
    obtain ⟨hwr, k, hk, rfl, hm⟩ := hrel
    subst hwr
    have HM := Lib.hid hm
    clear hm
    by_cases hlt : k < p.ss.length
    · obtain ⟨x, hx⟩ : ∃ x, p.ss[k]? = some x := ⟨_, List.getElem?_eq_getElem hlt⟩
      obtain ⟨g, c', hce, hg, hB, hat⟩ := own_at len_cSs HROW.out (by omega)
      have q0 := hat k x hx 0 (by omega)
      simp only [Nat.add_zero] at q0
      change wr.cell? ⟨g, k * 2, none⟩ = some (.string x.1) at q0
      have HCE := Lib.hid hce
      cases hce
      have hkn : (k : Int) < (p.ss.length : Int) := by omega
      have hlen := HLEN.out
      have hkw : IntKind.i64.wrap (k : Int) = (k : Int) := by rw [IntKind.wrap_i64]; have := HLEN.out; omega
      have HLT := Lib.hid hlt
      have HX := Lib.hid hx
      clear hat hlt
      by_cases he : x.1 = s
      · have e1 : ((x.1).toList == s.toList) = true := by rw [bs_eq]; exact decide_eq_true he
        have HR := Lib.hid (HHIT.out k x HX.out (decide_eq_true he) HM.out)
        clear he hx
        go_wp2_with fail
        go_ret
        exact ⟨by rw [HR.out]; rfl, rfl⟩
      · have e1 : ((x.1).toList == s.toList) = false := by rw [bs_eq]; exact decide_eq_false he
        have HE := Lib.hid (decide_eq_false he)
        clear he hx
        go_wp2_with fail
        go_roundw
        case rel => exact ⟨rfl, k + 1, HLT.out, by go_num, fun j hj => by
          by_cases hjk : j = k
          · subst hjk
            show (p.ss[j]?).any _ = false
            rw [HX.out]
            exact HE.out
          · exact HM.out j (by omega)⟩
        case measure => simp [intOf]; have := HLT.out; omega
    · have HR := Lib.hid (HMISS.out (fun j hj => HM.out j (by omega)))
      obtain rfl : k = p.ss.length := by omega
      clear hlt
      go_wp2_with fail
      go_ret
      exact ⟨by rw [HR.out]; rfl, rfl⟩
end Go.Proofs.YtapdiionikfgpaaGreatDoor
namespace Go.Proofs.YtapdiionikfgpaaGreatDoor
open Go.ChangeShapes Go.WideShapes Go.ChangeAt Go.RowKit
set_option linter.unusedVariables false
set_option linter.unusedSimpArgs false
set_option maxHeartbeats 4000000 in
/-- the number of an export -/
theorem r98x (s nm : ByteArray) (fv iv dv gv : Value) (A : Option Addr) (c : Nat) (w : World) (B : Nat) (x0 : Co) (hrow : w.ownsRow B 50 3 (.slice A x0.es.length c) x0.es.length (x0.es.flatMap cEs)) (hl : x0.es.length ≤ 16) : Calls Tryz.prog 98 #[.agg #[.string nm, fv, .slice A x0.es.length c, iv, dv, gv], .string s] w fun e w' => e = .returned (.int .i64 (atI (exported x0 s))) ∧ Below w.heap.size w w' := by
  have HROW : Hid ((w.alloc (.cells #[.string nm, fv, .slice A x0.es.length c, iv, dv, gv] 48)).ownsRow B 50 3 (.slice A x0.es.length c) x0.es.length (x0.es.flatMap cEs)) := Lib.hid (hrow.alloc _)
  have HLEN : Hid (x0.es.length ≤ 16) := Lib.hid hl
  have HBL : Hid (Below w.heap.size w (w.alloc (.cells #[.string nm, fv, .slice A x0.es.length c, iv, dv, gv] 48))) := Lib.hid ((Below.refl _ w).alloc (Nat.le_refl _) _)
  clear hrow hl
  have HHIT : Hid (∀ k x, x0.es[k]? = some x → decide (x.1 = s) = true → (∀ j, j < k → (x0.es[j]?).any (fun y => decide (y.1 = s)) = false) → exported x0 s = some k) := Lib.hid (fun k x hx hp hm => by have := hitD (g := fun y : ByteArray × Nat × Nat => y) (p := fun y => decide (y.1 = s)) hx hp hm; unfold exported; simpa using this)
  have HMISS : Hid ((∀ j, j < x0.es.length → (x0.es[j]?).any (fun y => decide (y.1 = s)) = false) → exported x0 s = none) := Lib.hid (fun hm => by have := missD (g := fun y : ByteArray × Nat × Nat => y) (p := fun y => decide (y.1 = s)) hm; unfold exported; simpa using this)
  go_enter Tryz.func98, Tryz.ntmps98
  go_wp2_with fail
  go_loopw [5] (fun i wr => FR (w.alloc (.cells #[.string nm, fv, .slice A x0.es.length c, iv, dv, gv] 48)) x0.es.length (fun j => (x0.es[j]?).any (fun y => decide (y.1 = s))) i wr) (fun i _ => x0.es.length - (intOf i).toNat)
  case atStart => exact ⟨rfl, 0, Nat.zero_le _, rfl, fun j hj => absurd hj (by omega)⟩
  case round =>
    obtain ⟨hwr, k, hk, rfl, hm⟩ := hrel
    subst hwr
    have HM := Lib.hid hm
    clear hm
    by_cases hlt : k < x0.es.length
    · obtain ⟨x, hx⟩ : ∃ x, x0.es[k]? = some x := ⟨_, List.getElem?_eq_getElem hlt⟩
      obtain ⟨g, c', hce, hg, hB, hat⟩ := own_at len_cEs HROW.out (by omega)
      have q0 := hat k x hx 0 (by omega)
      simp only [Nat.add_zero] at q0
      change (w.alloc (.cells #[.string nm, fv, .slice A x0.es.length c, iv, dv, gv] 48)).cell? ⟨g, k * 3, none⟩ = some (.string x.1) at q0
      have HCE := Lib.hid hce
      cases hce
      have hkn : (k : Int) < (x0.es.length : Int) := by omega
      have hlen := HLEN.out
      have hkw : IntKind.i64.wrap (k : Int) = (k : Int) := by rw [IntKind.wrap_i64]; have := HLEN.out; omega
      have HLT := Lib.hid hlt
      have HX := Lib.hid hx
      clear hat hlt
      by_cases he : x.1 = s
      · have e1 : ((x.1).toList == s.toList) = true := by rw [bs_eq]; exact decide_eq_true he
        have HR := Lib.hid (HHIT.out k x HX.out (decide_eq_true he) HM.out)
        clear he hx
        go_wp2_with fail
        go_ret
        exact ⟨by rw [HR.out]; rfl, HBL.out⟩
      · have e1 : ((x.1).toList == s.toList) = false := by rw [bs_eq]; exact decide_eq_false he
        have HE := Lib.hid (decide_eq_false he)
        clear he hx
        go_wp2_with fail
        go_roundw
        case rel => exact ⟨rfl, k + 1, HLT.out, by go_num, fun j hj => by
          by_cases hjk : j = k
          · subst hjk
            show (x0.es[j]?).any _ = false
            rw [HX.out]
            exact HE.out
          · exact HM.out j (by omega)⟩
        case measure => simp [intOf]; have := HLT.out; omega
    · have HR := Lib.hid (HMISS.out (fun j hj => HM.out j (by omega)))
      obtain rfl : k = x0.es.length := by omega
      clear hlt
      go_wp2_with fail
      go_ret
      exact ⟨by rw [HR.out]; rfl, HBL.out⟩
theorem r98 (s : ByteArray) (w : World) (B : Nat) (x : Sv × Co) (h : CoIn w B x) (hl : x.2.es.length ≤ 16) : Calls Tryz.prog 98 #[.agg #[.string x.2.nm, x.1.f, x.1.e, x.1.i, x.1.d, x.1.g], .string s] w fun e w' => e = .returned (.int .i64 (atI (exported x.2 s))) ∧ Below w.heap.size w w' := by
  obtain ⟨A, c, he, _⟩ := own_slice h.2.1
  have hr := h.2.1
  rw [he] at hr ⊢
  exact r98x s x.2.nm x.1.f x.1.i x.1.d x.1.g A c w B x.2 hr hl
/-- the number of an export of a compartment's number, or -1 -/
def expI (p : Pm) (c : Int) (s : ByteArray) : Int := if 0 ≤ c ∧ c < p.cs.length then (match p.cs[c.toNat]? with
  | none => -1
  | some x => atI (exported x s)) else -1
def Sm (p : Pm) : Prop := p.cs.length ≤ 12 ∧ p.ss.length ≤ 8 ∧ ∀ x ∈ p.cs, x.fs.length ≤ 16 ∧ x.es.length ≤ 16 ∧ x.is.length ≤ 16 ∧ x.ds.length ≤ 16 ∧ x.gs.length ≤ 16
set_option maxRecDepth 100000 in
set_option maxHeartbeats 4000000 in
theorem r54 (st tr : Int) (SV CV : Value) (s0 : Int) (mn : ByteArray) (c : Int) (s : ByteArray) (w : World) (B : Nat) (p : Pm) (D : List (Sv × Co)) (h : PlIn w B SV CV p.ss D) (hD : D.map (·.2) = p.cs) (hs : Sm p) :
    Calls Tryz.prog 54 #[.agg #[.int .i64 st, .int .i64 tr, SV, CV, .int .i64 s0, .string mn], .int .i64 c, .string s] w fun e w' => e = .returned (.int .i64 (expI p c s)) ∧ Below w.heap.size w w' := by
  have hlen : D.length = p.cs.length := by rw [← hD]; simp
  obtain ⟨A, cc, rfl, _⟩ := own_slice h.2.1
  have HB : Hid (Below w.heap.size w (w.alloc (.cells #[.int .i64 st, .int .i64 tr, SV, .slice A D.length cc, .int .i64 s0, .string mn] 25))) := Lib.hid ((Below.refl _ w).alloc (Nat.le_refl _) _)
  by_cases hin : 0 ≤ c ∧ c < p.cs.length
  · obtain ⟨k, rfl⟩ : ∃ k : Nat, c = (k : Int) := ⟨c.toNat, by omega⟩
    have hk : k < D.length := by omega
    obtain ⟨x, hx⟩ : ∃ x, D[k]? = some x := ⟨_, List.getElem?_eq_getElem hk⟩
    have hp := h.below HB.out
    obtain ⟨g, c', hce, hg, hB, hat⟩ := own_at len_cCo hp.2.1 (by omega)
    cases hce
    have q0 := hat k x hx 0 (by omega)
    have q1 := hat k x hx 1 (by omega)
    have q2 := hat k x hx 2 (by omega)
    have q3 := hat k x hx 3 (by omega)
    have q4 := hat k x hx 4 (by omega)
    have q5 := hat k x hx 5 (by omega)
    simp only [Nat.add_zero] at q0
    simp only [cCo] at q0 q1 q2 q3 q4 q5
    have hmem : x.2 ∈ p.cs := by rw [← hD]; exact List.mem_map.2 ⟨x, List.mem_of_getElem? hx, rfl⟩
    have HR : Hid (expI p (k : Int) s = atI (exported x.2 s)) := Lib.hid (by
      have hpk : p.cs[k]? = some x.2 := by rw [← hD, List.getElem?_map, hx]; rfl
      unfold expI
      rw [if_pos hin]
      simp only [Int.toNat_natCast, hpk])
    have HC := Lib.hid (r98 s _ B x (hp.2.2.1 k x hx) (hs.2.2 x.2 hmem).2.1)
    have e1 : decide ((k : Int) < 0) = false := by simp
    have e2 : decide ((D.length : Int) ≤ (k : Int)) = false := by simp; omega
    have e3 : decide (D.length ≤ k) = false := by simp; omega
    have hkn : (k : Int) < (D.length : Int) := by omega
    have hkw : IntKind.i64.wrap (k : Int) = (k : Int) := by rw [IntKind.wrap_i64]; have := hs.1; omega
    clear hat hp h hin hmem hx hk hs hD hlen
    go_enter Tryz.func54, Tryz.ntmps54
    go_wp2_with fail
    with_reducible refine HC.out.mono ?_
    rintro _ w5 ⟨rfl, hb5⟩
    have HB5 := Lib.hid (HB.out.trans (hb5.mono HB.out.size))
    go_wp2_with fail
    go_ret
    exact ⟨by rw [HR.out]; rfl, HB5.out⟩
  · have HR : Hid (expI p c s = -1) := Lib.hid (by unfold expI; rw [if_neg hin])
    by_cases h0 : c < 0
    · have e1 : decide (c < 0) = true := by simp; omega
      clear hin h0 hlen hD h hs
      go_enter Tryz.func54, Tryz.ntmps54
      go_wp2_with fail
      go_ret
      exact ⟨by rw [HR.out]; rfl, HB.out⟩
    · have e1 : decide (c < 0) = false := by simp; omega
      have e2 : decide ((D.length : Int) ≤ c) = true := by simp; omega
      clear hin h0 hlen hD h hs
      go_enter Tryz.func54, Tryz.ntmps54
      go_wp2_with fail
      go_ret
      exact ⟨by rw [HR.out]; rfl, HB.out⟩
end Go.Proofs.YtapdiionikfgpaaGreatDoor
namespace Go.Proofs.YtapdiionikfgpaaGreatDoor
open Go.ChangeShapes Go.WideShapes Go.ChangeAt Go.RowKit
set_option linter.unusedVariables false
set_option linter.unusedSimpArgs false
theorem atI_neg (o : Option Nat) : decide (atI o < 0) = !o.isSome := by 
  cases o with
  | none => rfl
  | some k => exact decide_eq_false (by show ¬ ((k : Int) < 0); omega)
theorem expI_neg (p : Pm) (k : Nat) (s : ByteArray) : decide (expI p (k : Int) s < 0) = !expB p k s := by
  unfold expI expB
  by_cases h : k < p.cs.length
  · rw [if_pos ⟨by omega, by omega⟩]
    simp only [Int.toNat_natCast, List.getElem?_eq_getElem h]
    exact atI_neg _
  · rw [if_neg (by omega)]
    have : p.cs[k]? = none := List.getElem?_eq_none (by omega)
    simp only [this]
    rfl
/-- all imports of a compartment are exported -/
def okC (p : Pm) (c : Co) : Bool := c.is.all fun x => expB p x.1 x.2
def RW (w : World) (p : Pm) (D : List (Sv × Co)) (i : Value) (wr : World) : Prop := ∃ k : Nat, k ≤ D.length ∧ i = .int .i64 (k : Int) ∧ Below w.heap.size w wr ∧ ∀ j x, j < k → D[j]? = some x → okC p x.2 = true
def RI (w : World) (p : Pm) (c : Co) (i : Value) (wr : World) : Prop := ∃ k : Nat, k ≤ c.is.length ∧ i = .int .i64 (k : Int) ∧ Below w.heap.size w wr ∧ ∀ j y, j < k → c.is[j]? = some y → expB p y.1 y.2 = true
theorem all_of {α : Type} {l : List α} {q : α → Bool} (h : ∀ (j : Nat) (x : α), j < l.length → l[j]? = some x → q x = true) : l.all q = true := by
  rw [List.all_eq_true]
  intro x hx
  obtain ⟨j, hj, e⟩ := List.getElem_of_mem hx
  exact h j x hj (by rw [List.getElem?_eq_getElem hj, e])
theorem not_all {α : Type} {l : List α} {q : α → Bool} {k : Nat} {x : α} (hx : l[k]? = some x) (hq : q x = false) : l.all q = false := by
  rw [List.all_eq_false]
  exact ⟨x, List.mem_of_getElem? hx, by simp [hq]⟩
theorem whole_no {p : Pm} (h : p.st = 0 ∨ p.tr = 0 ∨ p.mn = ⟨#[]⟩ ∨ (p.cs.all (okC p)) = false ∨ noArgs p = false) : wholeB p = false := by
  unfold wholeB
  rcases h with h | h | h | h | h
  · simp [h]
  · simp [h]
  · simp [h]
  · have : (p.cs.all fun c => c.is.all fun x => expB p x.1 x.2) = false := h
    rw [this]; simp
  · simp [h]
theorem whole_yes {p : Pm} (h1 : p.st ≠ 0) (h2 : p.tr ≠ 0) (h3 : p.mn ≠ ⟨#[]⟩) (h4 : p.cs.all (okC p) = true) : wholeB p = noArgs p := by
  have : (p.cs.all fun c => c.is.all fun x => expB p x.1 x.2) = true := h4
  unfold wholeB
  rw [this]
  simp [h1, h2, h3]
set_option maxRecDepth 100000 in
set_option maxHeartbeats 8000000 in
theorem r22 (w : World) (B tb : Nat) (SV CV : Value) (p : Pm) (D : List (Sv × Co)) (h : RS w B tb SV CV p D) (hs : Sm p) : Calls Tryz.prog 22 #[.pointer (some ⟨tb, 0, none⟩)] w fun e w' => e = .returned (.bool (wholeB p)) ∧ Below w.heap.size w w' := by
  have HRS : Hid (∀ W, Below w.heap.size w W → RS W B tb SV CV p D) := Lib.hid (fun W hW => h.below hW)
  have HD := Lib.hid h.2.2.1
  have HSM := Lib.hid hs
  have HLEN : Hid (D.length ≤ 12) := Lib.hid (by rw [h.len]; exact h.2.2.2.2.1)
  have f6 := h.1.cell 6
  have f7 := h.1.cell 7
  have f8 := h.1.cell 8
  have p3 := h.1.cell 3
  simp at f6 f7 f8 p3
  have HNO : Hid (p.st = 0 ∨ p.tr = 0 ∨ p.mn = ⟨#[]⟩ ∨ (p.cs.all (okC p)) = false ∨ noArgs p = false → wholeB p = false) := Lib.hid whole_no
  have HYES : Hid (p.st ≠ 0 → p.tr ≠ 0 → p.mn ≠ ⟨#[]⟩ → p.cs.all (okC p) = true → wholeB p = noArgs p) := Lib.hid whole_yes
  obtain ⟨A, cc, rfl, _⟩ := own_slice h.2.1.2.1
  by_cases h1 : p.st = 0
  · have HR := Lib.hid (HNO.out (Or.inl h1))
    have e1 : decide (p.st = 0) = true := decide_eq_true h1
    clear h hs h1 HRS HD HSM
    go_enter Tryz.func22, Tryz.ntmps22
    go_wp2_with fail
    go_ret
    exact ⟨by rw [HR.out]; rfl, Below.refl _ _⟩
  by_cases h2 : p.tr = 0
  · have HR := Lib.hid (HNO.out (Or.inr (Or.inl h2)))
    have e1 : decide (p.st = 0) = false := decide_eq_false h1
    have e2 : decide (p.tr = 0) = true := decide_eq_true h2
    clear h hs h1 h2 HRS HD HSM
    go_enter Tryz.func22, Tryz.ntmps22
    go_wp2_with fail
    go_ret
    exact ⟨by rw [HR.out]; rfl, Below.refl _ _⟩
  by_cases h3 : p.mn = ⟨#[]⟩
  · have HR := Lib.hid (HNO.out (Or.inr (Or.inr (Or.inl h3))))
    have e1 : decide (p.st = 0) = false := decide_eq_false h1
    have e2 : decide (p.tr = 0) = false := decide_eq_false h2
    have e3 : decide (p.mn = ⟨#[]⟩) = true := decide_eq_true h3
    clear h hs h1 h2 h3 HRS HD HSM
    go_enter Tryz.func22, Tryz.ntmps22
    go_wp2_with fail
    go_ret
    exact ⟨by rw [HR.out]; rfl, Below.refl _ _⟩
  have HY := Lib.hid (HYES.out h1 h2 h3)
  have e1 : decide (p.st = 0) = false := decide_eq_false h1
  have e2 : decide (p.tr = 0) = false := decide_eq_false h2
  have e3 : decide (p.mn = ⟨#[]⟩) = false := decide_eq_false h3
  clear h hs h1 h2 h3 HYES
  go_enter Tryz.func22, Tryz.ntmps22
  go_wp2_with fail
  clear f6 f7 f8 p3
  go_loopw [3, 4, 5] (fun i _ _ wr => RW w p D i wr) (fun i _ _ _ => D.length - (intOf i).toNat)
  case atStart => exact ⟨0, Nat.zero_le _, rfl, Below.refl _ _, fun j x hj => absurd hj (by omega)⟩
  case round =>
    obtain ⟨k, hk, rfl, hb, hok⟩ := hrel
    have HB := Lib.hid hb
    have HOK := Lib.hid hok
    have HRW := Lib.hid (HRS.out wr hb)
    have p3 := HRW.out.1.cell 3
    simp at p3
    have hlen := HLEN.out
    clear hb hok
    by_cases hlt : k < D.length
    · obtain ⟨x, hx⟩ : ∃ x, D[k]? = some x := ⟨_, List.getElem?_eq_getElem hlt⟩
      obtain ⟨g, c', hce, hg, hBg, hat⟩ := own_at len_cCo HRW.out.2.1.2.1 (by omega)
      cases hce
      have q3 := hat k x hx 3 (by omega)
      simp only [cCo] at q3
      have hro := (HRW.out.2.1.2.2.1 k x hx).2.2.1
      obtain ⟨AI, ci, hai, _⟩ := own_slice hro
      rw [hai] at hro
      change wr.cell? ⟨g, k * 6 + 3, none⟩ = some x.1.i at q3
      rw [hai] at q3
      have HRO : Hid (∀ W, Below wr.heap.size wr W → W.ownsRow B 79 2 (.slice AI x.2.is.length ci) x.2.is.length (x.2.is.flatMap cIs)) := Lib.hid (fun W hW => hro.kept (grown_of_below hW none) (none_or _))
      have HIL : Hid (x.2.is.length ≤ 16) := Lib.hid (HSM.out.2.2 x.2 (by rw [← HD.out]; exact List.mem_map.2 ⟨x, List.mem_of_getElem? hx, rfl⟩)).2.2.1
      have hkn : (k : Int) < (D.length : Int) := by omega
      have hkw : IntKind.i64.wrap (k : Int) = (k : Int) := by rw [IntKind.wrap_i64]; omega
      have HX := Lib.hid hx
      have HLT := Lib.hid hlt
      clear hat hro hai hx hlt
      go_wp2_with fail
      clear p3 q3
      generalize wr = W1 at *
      go_loopw [5] (fun i wq => RI W1 p x.2 i wq) (fun i _ => x.2.is.length - (intOf i).toNat)
      case atStart => exact ⟨0, Nat.zero_le _, rfl, Below.refl _ _, fun j y hj => absurd hj (by omega)⟩
      case round =>
        obtain ⟨m, hm, rfl, hb2, hok2⟩ := hrel
        have HB2 := Lib.hid hb2
        have HOK2 := Lib.hid hok2
        have HBW := Lib.hid (HB.out.trans (hb2.mono HB.out.size))
        have HRS2 := Lib.hid (HRS.out wr HBW.out)
        have hil := HIL.out
        clear hb2 hok2
        by_cases hl2 : m < x.2.is.length
        · obtain ⟨y, hy⟩ : ∃ y, x.2.is[m]? = some y := ⟨_, List.getElem?_eq_getElem hl2⟩
          obtain ⟨gi, ci', hce2, hgi, hBi, hati⟩ := own_at len_cIs (HRO.out wr HB2.out) (by omega)
          cases hce2
          have i0 := hati m y hy 0 (by omega)
          have i1 := hati m y hy 1 (by omega)
          simp only [Nat.add_zero] at i0
          have HLIM : Hid (∀ W, Below wr.heap.size wr W → W.cell? ⟨tb, 0, none⟩ = some (.int .i64 (p.st : Int)) ∧ W.cell? ⟨tb, 1, none⟩ = some (.int .i64 (p.tr : Int)) ∧ W.cell? ⟨tb, 2, none⟩ = some (SV) ∧ W.cell? ⟨tb, 3, none⟩ = some (.slice (some ⟨g, 0, none⟩) D.length cc) ∧ W.cell? ⟨tb, 4, none⟩ = some (.int .i64 (p.s0 : Int)) ∧ W.cell? ⟨tb, 5, none⟩ = some (.string p.mn) ∧ W.cell? ⟨gi, m * 2, none⟩ = some (.int .i64 (y.1 : Int)) ∧ W.cell? ⟨gi, m * 2 + 1, none⟩ = some (.string y.2)) := Lib.hid (fun W hW => by
            have hr := (HRS2.out.below hW).1
            refine ⟨hr.cell 0, hr.cell 1, hr.cell 2, hr.cell 3, hr.cell 4, hr.cell 5, ?_, ?_⟩
            · rw [hW.cell (p := ⟨gi, _, none⟩) hgi]; exact i0
            · rw [hW.cell (p := ⟨gi, _, none⟩) hgi]; exact i1)
          have HI : Hid (wr.drew.cell? ⟨tb, 0, none⟩ = some (.int .i64 (p.st : Int)) ∧ wr.drew.cell? ⟨tb, 1, none⟩ = some (.int .i64 (p.tr : Int)) ∧ wr.drew.cell? ⟨tb, 2, none⟩ = some (SV) ∧ wr.drew.cell? ⟨tb, 3, none⟩ = some (.slice (some ⟨g, 0, none⟩) D.length cc) ∧ wr.drew.cell? ⟨tb, 4, none⟩ = some (.int .i64 (p.s0 : Int)) ∧ wr.drew.cell? ⟨tb, 5, none⟩ = some (.string p.mn) ∧ wr.drew.cell? ⟨gi, m * 2, none⟩ = some (.int .i64 (y.1 : Int)) ∧ wr.drew.cell? ⟨gi, m * 2 + 1, none⟩ = some (.string y.2)) := Lib.hid (HLIM.out _ (Below.refl _ _).drew)
          have HC := Lib.hid (r54 (p.st : Int) (p.tr : Int) SV _ (p.s0 : Int) p.mn (y.1 : Int) y.2 wr.drew B p D (HRS2.out.below (Below.refl _ _).drew).2.1 HD.out HSM.out)
          have hmn : (m : Int) < (x.2.is.length : Int) := by omega
          have hmw : IntKind.i64.wrap (m : Int) = (m : Int) := by rw [IntKind.wrap_i64]; omega
          have HEX := Lib.hid (expI_neg p y.1 y.2)
          have HY2 := Lib.hid hy
          have HL2 := Lib.hid hl2
          generalize expI p (y.1 : Int) y.2 = ex at *
          clear hati hy hl2
          go_upto_region 10 with fail
          go_region_held3 (fun W => W.cell? ⟨tb, 0, none⟩ = some (.int .i64 (p.st : Int)) ∧ W.cell? ⟨tb, 1, none⟩ = some (.int .i64 (p.tr : Int)) ∧ W.cell? ⟨tb, 2, none⟩ = some (SV) ∧ W.cell? ⟨tb, 3, none⟩ = some (.slice (some ⟨g, 0, none⟩) D.length cc) ∧ W.cell? ⟨tb, 4, none⟩ = some (.int .i64 (p.s0 : Int)) ∧ W.cell? ⟨tb, 5, none⟩ = some (.string p.mn) ∧ W.cell? ⟨gi, m * 2, none⟩ = some (.int .i64 (y.1 : Int)) ∧ W.cell? ⟨gi, m * 2 + 1, none⟩ = some (.string y.2))
            (first | assumption | exact HI.out)
            (first | (go_at_call 54; (with_reducible refine HC.out.mono ?_); rintro _ w6 ⟨rfl, hb6⟩; have HB6 : Below wr.heap.size wr w6 := ((Below.refl _ _).drew).trans (hb6.mono (by simp)); have HS6 : w6.cell? ⟨tb, 0, none⟩ = some (.int .i64 (p.st : Int)) ∧ w6.cell? ⟨tb, 1, none⟩ = some (.int .i64 (p.tr : Int)) ∧ w6.cell? ⟨tb, 2, none⟩ = some (SV) ∧ w6.cell? ⟨tb, 3, none⟩ = some (.slice (some ⟨g, 0, none⟩) D.length cc) ∧ w6.cell? ⟨tb, 4, none⟩ = some (.int .i64 (p.s0 : Int)) ∧ w6.cell? ⟨tb, 5, none⟩ = some (.string p.mn) ∧ w6.cell? ⟨gi, m * 2, none⟩ = some (.int .i64 (y.1 : Int)) ∧ w6.cell? ⟨gi, m * 2 + 1, none⟩ = some (.string y.2) := HLIM.out w6 HB6))
          have HEXO := HEX.out
          have HB6h := Lib.hid HB6
          cases heb : expB p y.1 y.2
          · rw [heb] at HEXO
            have hdx : decide (ex < 0) = true := HEXO
            have HR := Lib.hid (HNO.out (Or.inr (Or.inr (Or.inr (Or.inl (by
              have hxc : okC p x.2 = false := not_all HY2.out heb
              rw [← HD.out]
              exact not_all (k := k) (x := x.2) (by rw [List.getElem?_map, HX.out]; rfl) hxc))))))
            rw [hdx]
            clear HEXO HS6 HI i0 i1 hb6 HB6 hdx
            go_wp2_with fail
            go_ret
            exact ⟨by rw [HR.out]; rfl, HBW.out.trans (HB6h.out.mono HBW.out.size)⟩
          · rw [heb] at HEXO
            have hdx : decide (ex < 0) = false := HEXO
            have HEB := Lib.hid heb
            rw [hdx]
            clear HEXO HS6 HI i0 i1 hb6 HB6 heb hdx
            go_wp2_with fail
            go_roundw
            case rel => exact ⟨m + 1, HL2.out, by go_num, HB2.out.trans (HB6h.out.mono HB2.out.size), fun j z hj hz => by
              by_cases hjm : j = m
              · subst hjm
                rw [HY2.out] at hz
                cases hz
                exact HEB.out
              · exact HOK2.out j z (by omega) hz⟩
            case measure => simp [intOf]; have := HL2.out; omega
        · have HXO : Hid (okC p x.2 = true) := Lib.hid (all_of (fun j z hj hz => HOK2.out j z (by omega) hz))
          obtain rfl : m = x.2.is.length := by omega
          clear hl2
          go_wp2_with fail
          go_roundw
          case rel => exact ⟨k + 1, HLT.out, by go_num, HBW.out, fun j z hj hz => by
            by_cases hjm : j = k
            · subst hjm
              rw [HX.out] at hz
              cases hz
              exact HXO.out
            · exact HOK.out j z (by omega) hz⟩
          case measure => simp [intOf]; have := HLT.out; omega
    · have HALL := Lib.hid (HY.out (by
        rw [← HD.out]
        refine all_of (fun j c hj hc => ?_)
        rw [List.getElem?_map] at hc
        cases hz : D[j]? with
        | none => rw [hz] at hc; cases hc
        | some z =>
          rw [hz] at hc
          cases hc
          exact HOK.out j z (by have := (List.getElem?_eq_some_iff.1 hz).1; omega) hz))
      obtain rfl : k = D.length := by omega
      clear hlt hk
      go_wp2_with fail
      clear p3
      generalize wr = W1 at *
      have HLIM : Hid (∀ W, Below W1.heap.size W1 W → W.cell? ⟨tb, 0, none⟩ = some (.int .i64 (p.st : Int)) ∧ W.cell? ⟨tb, 1, none⟩ = some (.int .i64 (p.tr : Int)) ∧ W.cell? ⟨tb, 2, none⟩ = some (SV) ∧ W.cell? ⟨tb, 3, none⟩ = some (.slice A D.length cc) ∧ W.cell? ⟨tb, 4, none⟩ = some (.int .i64 (p.s0 : Int)) ∧ W.cell? ⟨tb, 5, none⟩ = some (.string p.mn)) := Lib.hid (fun W hW => by
        have hr := (HRW.out.below hW).1
        exact ⟨hr.cell 0, hr.cell 1, hr.cell 2, hr.cell 3, hr.cell 4, hr.cell 5⟩)
      have HI : Hid (W1.drew.cell? ⟨tb, 0, none⟩ = some (.int .i64 (p.st : Int)) ∧ W1.drew.cell? ⟨tb, 1, none⟩ = some (.int .i64 (p.tr : Int)) ∧ W1.drew.cell? ⟨tb, 2, none⟩ = some (SV) ∧ W1.drew.cell? ⟨tb, 3, none⟩ = some (.slice A D.length cc) ∧ W1.drew.cell? ⟨tb, 4, none⟩ = some (.int .i64 (p.s0 : Int)) ∧ W1.drew.cell? ⟨tb, 5, none⟩ = some (.string p.mn)) := Lib.hid (HLIM.out _ (Below.refl _ _).drew)
      have HC := Lib.hid (r54 (p.st : Int) (p.tr : Int) SV _ (p.s0 : Int) p.mn (p.s0 : Int) p.mn W1.drew B p D (HRW.out.below (Below.refl _ _).drew).2.1 HD.out HSM.out)
      go_region_held3 (fun W => W.cell? ⟨tb, 0, none⟩ = some (.int .i64 (p.st : Int)) ∧ W.cell? ⟨tb, 1, none⟩ = some (.int .i64 (p.tr : Int)) ∧ W.cell? ⟨tb, 2, none⟩ = some (SV) ∧ W.cell? ⟨tb, 3, none⟩ = some (.slice A D.length cc) ∧ W.cell? ⟨tb, 4, none⟩ = some (.int .i64 (p.s0 : Int)) ∧ W.cell? ⟨tb, 5, none⟩ = some (.string p.mn))
        (first | assumption | exact HI.out)
        (first | (go_at_call 54; (with_reducible refine HC.out.mono ?_); rintro _ w6 ⟨rfl, hb6⟩; have HB6 : Below W1.heap.size W1 w6 := ((Below.refl _ _).drew).trans (hb6.mono (by simp)); have HS6 : w6.cell? ⟨tb, 0, none⟩ = some (.int .i64 (p.st : Int)) ∧ w6.cell? ⟨tb, 1, none⟩ = some (.int .i64 (p.tr : Int)) ∧ w6.cell? ⟨tb, 2, none⟩ = some (SV) ∧ w6.cell? ⟨tb, 3, none⟩ = some (.slice A D.length cc) ∧ w6.cell? ⟨tb, 4, none⟩ = some (.int .i64 (p.s0 : Int)) ∧ w6.cell? ⟨tb, 5, none⟩ = some (.string p.mn) := HLIM.out w6 HB6))
      have HR6 := Lib.hid (HRW.out.below HB6)
      have HB7 := Lib.hid (HB.out.trans (HB6.mono HB.out.size))
      clear HS6 hb6 HB6
      cases hc : p.cs[p.s0]? with
      | none =>
        have HN : Hid (wholeB p = false) := Lib.hid (by rw [HALL.out]; unfold noArgs; rw [hc])
        have HX : Hid (expI p (p.s0 : Int) p.mn = -1) := Lib.hid (by
          unfold expI
          simp only [Int.toNat_natCast, hc]
          split <;> rfl)
        rw [HX.out]
        clear hc HI HLIM HC
        go_wp2_with fail
        go_quiet (fail)
        go_wp2_with fail
        go_ret
        exact ⟨by rw [HN.out]; rfl, HB7.out.trans ⟨rfl, rfl, rfl, Nat.le_refl _, fun _ _ => rfl⟩⟩
      | some c =>
        have hlt0 : p.s0 < p.cs.length := (List.getElem?_eq_some_iff.1 hc).1
        have HX0 : Hid (expI p (p.s0 : Int) p.mn = atI (exported c p.mn)) := Lib.hid (by
          unfold expI
          simp only [Int.toNat_natCast, hc]
          rw [if_pos ⟨by omega, by omega⟩])
        cases he : exported c p.mn with
        | none =>
          have HN : Hid (wholeB p = false) := Lib.hid (by rw [HALL.out]; unfold noArgs; rw [hc]; simp only [he])
          have HX : Hid (expI p (p.s0 : Int) p.mn = -1) := Lib.hid (by rw [HX0.out, he]; rfl)
          rw [HX.out]
          clear hc he hlt0 HI HLIM HC HX0
          go_wp2_with fail
          go_quiet (fail)
          go_wp2_with fail
          go_ret
          exact ⟨by rw [HN.out]; rfl, HB7.out.trans ⟨rfl, rfl, rfl, Nat.le_refl _, fun _ _ => rfl⟩⟩
        | some i =>
          obtain ⟨hil, -, -⟩ := fnd_some he
          obtain ⟨y, hy⟩ : ∃ y, c.es[i]? = some y := ⟨_, List.getElem?_eq_getElem hil⟩
          have HN : Hid (wholeB p = decide (y.2.1 = 0)) := Lib.hid (by rw [HALL.out]; unfold noArgs; rw [hc]; simp only [he, hy])
          have HX : Hid (expI p (p.s0 : Int) p.mn = (i : Int)) := Lib.hid (by rw [HX0.out, he]; rfl)
          obtain ⟨x, hx, hxc⟩ : ∃ x, D[p.s0]? = some x ∧ x.2 = c := by
            have h9 := hc
            rw [← HD.out, List.getElem?_map] at h9
            cases hz : D[p.s0]? with
            | none => rw [hz] at h9; cases h9
            | some z => rw [hz] at h9; exact ⟨z, rfl, Option.some.inj h9⟩
          subst hxc
          have hs0 : p.s0 < D.length := (List.getElem?_eq_some_iff.1 hx).1
          obtain ⟨g, c', hce, hg, hBg, hat⟩ := own_at len_cCo HR6.out.2.1.2.1 (by omega)
          cases hce
          have q2 := hat p.s0 x hx 2 (by omega)
          change w6.cell? ⟨g, p.s0 * 6 + 2, none⟩ = some x.1.e at q2
          obtain ⟨ge, ce, hee, hge, hBe, hate⟩ := own_at len_cEs (HR6.out.2.1.2.2.1 p.s0 x hx).2.1 (by omega)
          have j1 := hate i y hy 1 (by omega)
          change w6.cell? ⟨ge, i * 3 + 1, none⟩ = some (.int .i64 (y.2.1 : Int)) at j1
          rw [hee] at q2
          have t3 := HR6.out.1.cell 3
          have t4 := HR6.out.1.cell 4
          simp at t3 t4
          have hle : x.2.es.length ≤ 16 := (HSM.out.2.2 x.2 (by rw [← HD.out]; exact List.mem_map.2 ⟨x, List.mem_of_getElem? hx, rfl⟩)).2.1
          have hsn : (p.s0 : Int) < (D.length : Int) := by omega
          have hsw : IntKind.i64.wrap (p.s0 : Int) = (p.s0 : Int) := by rw [IntKind.wrap_i64]; omega
          have hin : (i : Int) < (x.2.es.length : Int) := by omega
          have hiw : IntKind.i64.wrap (i : Int) = (i : Int) := by rw [IntKind.wrap_i64]; omega
          have hi0 : decide ((0 : Int) ≤ (i : Int)) = true := by simp
          rw [HX.out]
          clear hc he hlt0 HI HLIM HC HX0 hat hate hee hy hx hil HD HSM HY
          by_cases hz : y.2.1 = 0
          · have hz1 : ((y.2.1 : Int) == 0) = true := by simp; omega
            have HZ : Hid (wholeB p = true) := Lib.hid (by rw [HN.out]; exact decide_eq_true hz)
            clear hz
            go_wp2_with fail
            go_quiet (fail)
            go_wp2_with fail
            go_ret
            exact ⟨by rw [HZ.out]; rfl, HB7.out.trans ⟨rfl, rfl, rfl, Nat.le_refl _, fun _ _ => rfl⟩⟩
          · have hz1 : ((y.2.1 : Int) == 0) = false := by simp; omega
            have HZ : Hid (wholeB p = false) := Lib.hid (by rw [HN.out]; exact decide_eq_false hz)
            clear hz
            go_wp2_with fail
            go_quiet (fail)
            go_wp2_with fail
            go_ret
            exact ⟨by rw [HZ.out]; rfl, HB7.out.trans ⟨rfl, rfl, rfl, Nat.le_refl _, fun _ _ => rfl⟩⟩
end Go.Proofs.YtapdiionikfgpaaGreatDoor
