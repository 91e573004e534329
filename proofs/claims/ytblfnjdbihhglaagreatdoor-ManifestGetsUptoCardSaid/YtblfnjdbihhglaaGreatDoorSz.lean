import Derived.Test.YtblfnjdbihhglaaGreatDoorGz
import Derived.Test.YtblfnjdbihhglaaGreatDoorE
import Derived.Test.YtblfnjdbihhglaaGreatDoorLXfz
namespace Go.Proofs.YtblfnjdbihhglaaGreatDoor
open Go.ChangeShapes Go.WideShapes Go.ChangeAt Go.RowKit Go.MapKept
open Li (own_below own_base own_apart)
set_option linter.unusedVariables false
set_option linter.unusedSimpArgs false
/-- only the reader's own blocks have turned -/
structure Fr (r m : Nat) (V U : Value) (w w' : World) : Prop where
  os : w'.os = w.os
  tape : w'.tape = w.tape
  output : w'.output = w.output
  size : w.heap.size ≤ w'.heap.size
  block : ∀ k, k < w.heap.size → k ≠ r → k ≠ m → V.ownBlock ≠ some k → U.ownBlock ≠ some k → w'.heap[k]? = w.heap[k]?
def Ed.cs (x : Ed) : List Value := [.int .u8 (x.k : Int), .int .i64 x.fr, .int .i64 x.dt, .string x.nm, .int .u32 (x.wh : Int)]
theorem cs_len : ∀ (l : List Ed), (l.flatMap Ed.cs).length = l.length * 5
  | [] => rfl
  | x :: r => by
    rw [List.flatMap_cons, List.length_append, cs_len r, List.length_cons]
    show 5 + _ = _
    omega
/-- the reader -/
structure Rd (w : World) (B r m : Nat) (V U : Value) (cs : List ByteArray) (es : List Ed) : Prop where
  row : w.heap[r]? = some (.cells #[V, U, .map (some m)] 50 (0, 0))
  ns : w.ownsRow B 9 1 V cs.length (cs.map Value.string)
  ed : w.ownsRow B 42 5 U es.length (es.flatMap Ed.cs)
  nm : Nm w m cs
  rm : r ≠ m
  rB : r < B
  mB : m < B
  Bw : B ≤ w.heap.size
theorem Fr.refl (r m : Nat) (V U : Value) (w : World) : Fr r m V U w w := ⟨rfl, rfl, rfl, Nat.le_refl _, fun _ _ _ _ _ _ => rfl⟩
theorem Fr.of_below {r m : Nat} {V U : Value} {w w' : World} (h : Below w.heap.size w w') : Fr r m V U w w' := ⟨h.os, h.tape, h.output, h.size, fun k hk _ _ _ _ => h.block k hk⟩
theorem Fr.pre {r m : Nat} {V U : Value} {w W w' : World} (h : Below w.heap.size w W) (k : Fr r m V U W w') : Fr r m V U w w' :=
  ⟨k.os.trans h.os, k.tape.trans h.tape, k.output.trans h.output, Nat.le_trans h.size k.size, fun i hi a b c d => (k.block i (Nat.lt_of_lt_of_le hi h.size) a b c d).trans (h.block i hi)⟩
theorem Fr.post {r m : Nat} {V U : Value} {w W w' : World} (h : Fr r m V U w W) (k : Below w.heap.size W w') : Fr r m V U w w' :=
  ⟨k.os.trans h.os, k.tape.trans h.tape, k.output.trans h.output, Nat.le_trans h.size k.size, fun i hi a b c d => (k.block i hi).trans (h.block i hi a b c d)⟩
theorem Rd.below {w w' : World} {B r m : Nat} {V U : Value} {cs : List ByteArray} {es : List Ed} (h : Rd w B r m V U cs es) (hb : Below w.heap.size w w') : Rd w' B r m V U cs es :=
  ⟨(hb.block r (Nat.lt_of_lt_of_le h.rB h.Bw)).trans h.row, own_below h.ns hb, own_below h.ed hb, h.nm.below hb (Nat.lt_of_lt_of_le h.mB h.Bw), h.rm, h.rB, h.mB, Nat.le_trans h.Bw hb.size⟩
theorem Rd.V0 {w : World} {B r m : Nat} {V U : Value} {cs : List ByteArray} {es : List Ed} (h : Rd w B r m V U cs es) : w.cell? ⟨r, 0, none⟩ = some V := by
  rw [cell_of_row w r 0 _ _ _ h.row]; rfl
theorem Rd.U0 {w : World} {B r m : Nat} {V U : Value} {cs : List ByteArray} {es : List Ed} (h : Rd w B r m V U cs es) : w.cell? ⟨r, 1, none⟩ = some U := by
  rw [cell_of_row w r 1 _ _ _ h.row]; rfl
theorem Rd.m0 {w : World} {B r m : Nat} {V U : Value} {cs : List ByteArray} {es : List Ed} (h : Rd w B r m V U cs es) : w.cell? ⟨r, 2, none⟩ = some (.map (some m)) := by
  rw [cell_of_row w r 2 _ _ _ h.row]; rfl
theorem own_ne {w : World} {B e size n k : Nat} {v : Value} {xs : List Value} (h : w.ownsRow B e size v n xs) (hk : k < B) : v.ownBlock ≠ some k := fun e => by
  have := (h.lt k e).1; omega
/-- below the base, the reader's two blocks aside, all stands -/
theorem Fr.low {w w' : World} {B r m : Nat} {V U : Value} {cs : List ByteArray} {es : List Ed} (h : Rd w B r m V U cs es) (k : Fr r m V U w w') {i : Nat} (hi : i < B) (hr : i ≠ r) (hm : i ≠ m) : w'.heap[i]? = w.heap[i]? :=
  k.block i (Nat.lt_of_lt_of_le hi h.Bw) hr hm (own_ne h.ns hi) (own_ne h.ed hi)
theorem Fr.below {w w' : World} {B r m b : Nat} {V U : Value} {cs : List ByteArray} {es : List Ed} (h : Rd w B r m V U cs es) (k : Fr r m V U w w') (hr : b ≤ r) (hm : b ≤ m) : Below b w w' :=
  ⟨k.os, k.tape, k.output, k.size, fun i hi => k.low h (by have := h.rB; omega) (by omega) (by omega)⟩
theorem heap_setCell_at (W : World) (r j : Nat) (u : Value) {cs : Array Value} {T : TypeId} {fz : Nat × Nat} (h : W.heap[r]? = some (.cells cs T fz)) : (W.setCell ⟨r, j, none⟩ u).heap[r]? = some (.cells (cs.setIfInBounds j u) T fz) := by
  simp [World.setCell, Array.getElem?_modify, h]
theorem setCell_size (W : World) (a : Addr) (u : Value) : (W.setCell a u).heap.size = W.heap.size := by simp [World.setCell]
theorem own_set {w : World} {B e size n r j : Nat} {v u : Value} {xs : List Value} (h : w.ownsRow B e size v n xs) (hr : r < B) : (w.setCell ⟨r, j, none⟩ u).ownsRow B e size v n xs := ownsRow_setCell_below h hr u
/-- an edge more -/
theorem rd_push {W W' : World} {B r m : Nat} {V U U' : Value} {cs : List ByteArray} {es : List Ed} {y : Ed} (h : Rd W B r m V U cs es) (ho : W'.ownsRow B 42 5 U' (es.length + 1) (es.flatMap Ed.cs ++ y.cs)) (hg : W.grownBy W' U.ownBlock) :
    Rd (W'.setCell ⟨r, 1, none⟩ U') B r m V U' cs (es ++ [y]) ∧ Fr r m V U W (W'.setCell ⟨r, 1, none⟩ U') := by
  have hrw : r < W.heap.size := Nat.lt_of_lt_of_le h.rB h.Bw
  have hmw : m < W.heap.size := Nat.lt_of_lt_of_le h.mB h.Bw
  have hr' : W'.heap[r]? = some (.cells #[V, U, .map (some m)] 50 (0, 0)) := (hg.block r hrw (fun e => own_ne h.ed h.rB e.symm)).trans h.row
  refine ⟨⟨by rw [heap_setCell_at _ _ _ _ hr']; rfl, own_set (h.ns.kept hg (own_apart h.ns h.ed (by decide))) h.rB, ?_, ?_, h.rm, h.rB, h.mB, ?_⟩, ⟨hg.os, hg.tape, hg.output, by rw [setCell_size]; exact hg.size, fun k hk a b c d => ?_⟩⟩
  · rw [List.length_append, List.flatMap_append]
    simpa using own_set ho h.rB
  · show (W'.setCell _ _).heap[m]? = _
    rw [Below.heap_setCell _ _ _ _ (Ne.symm h.rm)]
    exact (hg.block m hmw (fun e => own_ne h.ed h.mB e.symm)).trans h.nm
  · rw [setCell_size]; exact Nat.le_trans h.Bw hg.size
  · rw [Below.heap_setCell _ _ _ _ a]
    exact hg.block k hk (fun e => d e.symm)
/-- a name more -/
theorem rd_name {W W0 W' : World} {B r m : Nat} {V U V' : Value} {cs : List ByteArray} {es : List Ed} {s : ByteArray} (h : Rd W B r m V U cs es) (hN : Nm W0 m (cs ++ [s])) (hg0 : W.grownBy W0 (some m)) (W1 : World) (hb : Below W0.heap.size W0 W1)
    (ho : W'.ownsRow B 9 1 V' (cs.length + 1) (cs.map Value.string ++ [.string s])) (hg : W1.grownBy W' V.ownBlock) :
    Rd (W'.setCell ⟨r, 0, none⟩ V') B r m V' U (cs ++ [s]) es ∧ Fr r m V U W (W'.setCell ⟨r, 0, none⟩ V') := by
  have hrw : r < W.heap.size := Nat.lt_of_lt_of_le h.rB h.Bw
  have hmw : m < W.heap.size := Nat.lt_of_lt_of_le h.mB h.Bw
  have s0 := hg0.size
  have s1 := hb.size
  have z : ∀ k, k < W.heap.size → k ≠ m → V.ownBlock ≠ some k → W'.heap[k]? = W.heap[k]? := fun k hk a b =>
    ((hg.block k (by omega) (fun e => b e.symm)).trans (hb.block k (by omega))).trans (hg0.block k hk (fun e => a (by simpa using e)))
  have hr' : W'.heap[r]? = some (.cells #[V, U, .map (some m)] 50 (0, 0)) := (z r hrw h.rm (own_ne h.ns h.rB)).trans h.row
  have hU1 : W0.ownsRow B 42 5 U es.length (es.flatMap Ed.cs) := h.ed.kept hg0 (Or.inr (own_ne h.ed h.mB))
  have hV1 : W0.ownsRow B 9 1 V cs.length (cs.map Value.string) := h.ns.kept hg0 (Or.inr (own_ne h.ns h.mB))
  refine ⟨⟨by rw [heap_setCell_at _ _ _ _ hr']; rfl, ?_, own_set ((own_below hU1 hb).kept hg (own_apart (own_below hU1 hb) (own_below hV1 hb) (by decide))) h.rB, ?_, h.rm, h.rB, h.mB, ?_⟩, ⟨hg.os.trans (hb.os.trans hg0.os), hg.tape.trans (hb.tape.trans hg0.tape), hg.output.trans (hb.output.trans hg0.output), by rw [setCell_size]; have := hg.size; omega, fun k hk a b c d => ?_⟩⟩
  · rw [List.length_append, List.map_append]
    simpa using own_set ho h.rB
  · show (W'.setCell _ _).heap[m]? = _
    rw [Below.heap_setCell _ _ _ _ (Ne.symm h.rm)]
    exact ((hg.block m (by omega) (fun e => own_ne h.ns h.mB e.symm)).trans (hb.block m (by omega))).trans hN
  · rw [setCell_size]; have := h.Bw; have := hg.size; omega
  · rw [Below.heap_setCell _ _ _ _ a]
    exact z k hk b c
/-- the form of an edge and its names -/
noncomputable def formB (x : Ed) (a b : ByteArray) : Bool := nameB a && (nmB x.k x.nm && (whatB x.k x.wh && (!decide (x.k = 2) || nameB b)))
def tailM (es : List Ed) (y : Ed) : Nat :=
  match es.getLast? with
  | none => 0
  | some l => if 0 < cmpE l y then 5 else if cmpE l y = 0 then 7 else 0
def setE (x : Ed) (f : Nat) (d : Int) : Ed := ⟨x.k, (f : Int), d, x.nm, x.wh⟩
/-- what add answers, and which edge it adds -/
noncomputable def addM (cs : List ByteArray) (es : List Ed) (x : Ed) (ok : Bool) (a b : ByteArray) : Nat × Ed :=
  if (ok && formB x a b) = false then (5, x)
  else if x.k = 2 then
    match nmAt cs b with
    | none => (6, x)
    | some d => match nmAt cs a with
      | none => (6, x)
      | some f => (tailM es (setE x f (d : Int)), setE x f (d : Int))
  else match nmAt cs a with
    | none => (6, x)
    | some f => (tailM es (setE x f (-1)), setE x f (-1))
def pushE (es : List Ed) (o : Nat × Ed) : List Ed := if o.1 = 0 then es ++ [o.2] else es
/-- the last edge's cells -/
theorem last_cells {w : World} {B : Nat} {U : Value} {es : List Ed} {l : Ed} (h : w.ownsRow B 42 5 U es.length (es.flatMap Ed.cs)) (hl : es.getLast? = some l) :
    ∃ g c, U = .slice (some ⟨g, 0, none⟩) es.length c ∧ g < w.heap.size ∧ B ≤ g ∧ 0 < es.length ∧ w.cell? ⟨g, (es.length - 1) * 5, none⟩ = some (.int .u8 (l.k : Int)) ∧ w.cell? ⟨g, (es.length - 1) * 5 + 1, none⟩ = some (.int .i64 l.fr) ∧
      w.cell? ⟨g, (es.length - 1) * 5 + 2, none⟩ = some (.int .i64 l.dt) ∧ w.cell? ⟨g, (es.length - 1) * 5 + 3, none⟩ = some (.string l.nm) ∧ w.cell? ⟨g, (es.length - 1) * 5 + 4, none⟩ = some (.int .u32 (l.wh : Int)) := by
  obtain ⟨es0, rfl⟩ : ∃ es0, es = es0 ++ [l] := by
    obtain ⟨ys, h⟩ := List.getLast?_eq_some_iff.1 hl
    exact ⟨ys, h⟩
  obtain ⟨A, c, rfl, _⟩ := Li.own_slice h
  have hlen : (es0 ++ [l]).length = es0.length + 1 := by simp
  obtain ⟨h1, h2⟩ := id h
  rcases h2 with ⟨_, h2⟩ | ⟨g, cap, cur, h2, hBg, h3, h4, h5, h6, h7⟩
  · rw [hlen] at h2; omega
  · have hc := h.cells (g := g) (by rw [h2]; rfl)
    have hadd : ∀ j, (⟨g, 0, none⟩ : Addr).add j = ⟨g, j, none⟩ := fun j => by unfold Addr.add; split <;> simp_all
    have hx : ∀ j, j < 5 → ((es0 ++ [l]).flatMap Ed.cs)[es0.length * 5 + j]? = l.cs[j]? := fun j hj => by
      rw [List.flatMap_append, List.getElem?_append_right (by rw [cs_len]; omega), cs_len, Nat.add_sub_cancel_left]
      simp
    refine ⟨g, cap, h2, (Array.getElem?_eq_some_iff.1 h3).1, hBg, by omega, ?_, ?_, ?_, ?_, ?_⟩ <;> rw [hlen, Nat.add_sub_cancel]
    · have := hc (es0.length * 5 + 0) _ ((hx 0 (by omega)).trans rfl)
      rwa [hadd] at this
    · have := hc (es0.length * 5 + 1) _ ((hx 1 (by omega)).trans rfl)
      rwa [hadd] at this
    · have := hc (es0.length * 5 + 2) _ ((hx 2 (by omega)).trans rfl)
      rwa [hadd] at this
    · have := hc (es0.length * 5 + 3) _ ((hx 3 (by omega)).trans rfl)
      rwa [hadd] at this
    · have := hc (es0.length * 5 + 4) _ ((hx 4 (by omega)).trans rfl)
      rwa [hadd] at this
end Go.Proofs.YtblfnjdbihhglaaGreatDoor
