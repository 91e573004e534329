import Derived.Test.YtoiiiobamanclaaProg
import Derived.WalkKit
import Derived.ProofKit
import Derived.OpenShut
import Derived.Below
import Derived.WalkSmall
import Derived.BigQuiet
import Derived.Deep.QuietTactic
import Derived.Deep.RegionHeld3
import Derived.LoopTactic
import Derived.Lib.Hide
import Derived.Laws.Rows
import Derived.Laws.Tables
import Derived.Laws.OwnMore
import Derived.Laws.StructEq
import Derived.Deep.Draws
import Derived.OneCell
import Derived.IntWalk
namespace Go.Proofs.Ytoiiiobamanclaa
open Go.ChangeShapes Go.WideShapes Go.ChangeAt Go.RowKit
set_option linter.unusedVariables false
theorem retb {a b : Bool} (h : a = b) : Ending.returned (.bool a) = .returned (.bool b) := by rw [h]
theorem ret1 {k : IntKind} {a b : Int} (h : a = b) : Ending.returned (.int k a) = .returned (.int k b) := by rw [h]
theorem bcell {W w1 : World} (hb : Below W.heap.size W w1) : (∀ b o, b < W.heap.size → w1.cell? ⟨b, o, none⟩ = W.cell? ⟨b, o, none⟩) ∧ (∀ b o, b < W.heap.size → w1.frozen? ⟨b, o, none⟩ = W.frozen? ⟨b, o, none⟩) :=
  ⟨fun b o h => hb.cell (p := ⟨b, o, none⟩) h, fun b o h => hb.frozen (p := ⟨b, o, none⟩) h⟩
/-- a block known whole -/
def Blk (w : World) (g : Nat) (t : TypeId) (cs : Array Value) : Prop := w.heap[g]? = some (.cells cs t (0, 0))
section
variable {w w' : World} {g : Nat} {t : TypeId} {cs : Array Value}
theorem Blk.lt (h : Blk w g t cs) : g < w.heap.size := by
  rcases Nat.lt_or_ge g w.heap.size with hlt | hge
  · exact hlt
  · unfold Blk at h; rw [Array.getElem?_eq_none hge] at h; cases h
theorem Blk.cell (h : Blk w g t cs) (i : Nat) : w.cell? ⟨g, i, none⟩ = cs[i]? := cell_of_row w g i cs t (0, 0) h
theorem Blk.frozen (h : Blk w g t cs) (i : Nat) : w.frozen? ⟨g, i, none⟩ = false := by
  unfold Blk at h
  simp [World.frozen?, h]
theorem Blk.new (w : World) (t : TypeId) (cs : Array Value) : Blk (w.alloc (.cells cs t)) w.heap.size t cs := heap_alloc_new w _
theorem Blk.drew (h : Blk w g t cs) : Blk w.drew g t cs := h
theorem Blk.alloc (h : Blk w g t cs) (o : Obj) : Blk (w.alloc o) g t cs := (Below.heap_alloc w o g h.lt).trans h
theorem Blk.set_ (h : Blk w g t cs) (i : Nat) (u : Value) : Blk (w.setCell ⟨g, i, none⟩ u) g t (cs.setIfInBounds i u) := by
  unfold Blk at h ⊢
  simp [World.setCell, Array.getElem?_modify, h]
theorem Blk.far (h : Blk w g t cs) {p : Addr} (hp : g ≠ p.block) (u : Value) : Blk (w.setCell p u) g t cs := (Below.heap_setCell w p u g hp).trans h
theorem Blk.below {B : Nat} (h : Blk w g t cs) (hb : Below B w w') (hg : g < B) : Blk w' g t cs := (hb.block g hg).trans h
end
/-- nothing but one block has turned, and new ones -/
def Only (b : Nat) (w w' : World) : Prop := (∀ B, B ≤ b → B ≤ w.heap.size → Below B w w') ∧ ∀ g, g ≠ b → g < w.heap.size → w'.heap[g]? = w.heap[g]?
theorem Only.refl (b : Nat) (w : World) : Only b w w := ⟨fun _ _ _ => Below.refl _ _, fun _ _ _ => rfl⟩
theorem Only.size {b : Nat} {w w' : World} (h : Only b w w') : w.heap.size ≤ w'.heap.size := (h.1 0 (Nat.zero_le _) (Nat.zero_le _)).size
theorem Only.trans {b : Nat} {w w1 w2 : World} (h : Only b w w1) (k : Only b w1 w2) : Only b w w2 :=
  ⟨fun B hB hs => (h.1 B hB hs).trans (k.1 B hB (Nat.le_trans hs h.size)), fun g hg hs => (k.2 g hg (Nat.lt_of_lt_of_le hs h.size)).trans (h.2 g hg hs)⟩
theorem Only.below {b : Nat} {w w1 w2 : World} (h : Only b w w1) (k : Below w1.heap.size w1 w2) : Only b w w2 :=
  ⟨fun B hB hs => (h.1 B hB hs).trans (k.mono (Nat.le_trans hs h.size)), fun g hg hs => (k.block g (Nat.lt_of_lt_of_le hs h.size)).trans (h.2 g hg hs)⟩
theorem Only.drew {b : Nat} {w w1 : World} (h : Only b w w1) : Only b w w1.drew := ⟨fun B hB hs => (h.1 B hB hs).drew, h.2⟩
theorem Only.alloc {b : Nat} {w w1 : World} (h : Only b w w1) (o : Obj) : Only b w (w1.alloc o) := h.below ((Below.refl _ _).alloc (Nat.le_refl _) _)
theorem Only.set_ {b : Nat} {w w1 : World} (h : Only b w w1) (i : Nat) (u : Value) : Only b w (w1.setCell ⟨b, i, none⟩ u) :=
  ⟨fun B hB hs => (h.1 B hB hs).setCell hB _, fun g hg hs => (Below.heap_setCell w1 ⟨b, i, none⟩ u g hg).trans (h.2 g hg hs)⟩
theorem Only.blk {b g : Nat} {t : TypeId} {cs : Array Value} {w w1 : World} (h : Only b w w1) (hg : g ≠ b) (k : Blk w g t cs) : Blk w1 g t cs := (h.2 g hg k.lt).trans k
theorem Only.grown {b : Nat} {w w1 w2 : World} (h : Only b w w1) (hg : w1.grownBy w2 (some b)) : Only b w w2 :=
  ⟨fun B hB hs => (h.1 B hB hs).grown hg (Nat.le_trans hs h.size) (fun k e => by cases e; exact hB), fun g hne hs => (hg.block g (Nat.lt_of_lt_of_le hs h.size) (fun e => hne (Option.some.inj e))).trans (h.2 g hne hs)⟩

/-- cells put in at a place -/
def putA (C : Array Value) (off : Nat) (cs : List Value) : Array Value := (C.toList.take off ++ (cs ++ C.toList.drop (off + cs.length))).toArray
/-- some cells stand at a place -/
def At (C : Array Value) (o : Nat) (L : List Value) : Prop := o + L.length ≤ C.size ∧ ∀ j u, L[j]? = some u → C[o + j]? = some u
theorem putA_size {C : Array Value} {o : Nat} {L : List Value} (h : o + L.length ≤ C.size) : (putA C o L).size = C.size := by
  unfold putA
  have : C.toList.length = C.size := rfl
  simp only [List.size_toArray, List.length_append, List.length_take, List.length_drop]
  omega
theorem putA_get {C : Array Value} {o : Nat} {L : List Value} (h : o + L.length ≤ C.size) (i : Nat) : (putA C o L)[i]? = if o ≤ i ∧ i < o + L.length then L[i - o]? else C[i]? := by
  have hC : C.toList.length = C.size := rfl
  unfold putA
  rw [List.getElem?_toArray]
  by_cases h1 : i < o
  · rw [if_neg (by omega), List.getElem?_append_left (by rw [List.length_take]; omega), List.getElem?_take_of_lt h1, Array.getElem?_toList]
  · rw [List.getElem?_append_right (by rw [List.length_take]; omega), List.length_take, show min o C.toList.length = o by omega]
    by_cases h2 : i < o + L.length
    · rw [if_pos ⟨by omega, h2⟩, List.getElem?_append_left (by omega)]
    · rw [if_neg (by omega), List.getElem?_append_right (by omega), List.getElem?_drop, Array.getElem?_toList]
      congr 1
      omega
theorem putA_self {C : Array Value} {o : Nat} {L : List Value} (h : At C o L) : putA C o L = C := by
  apply Array.ext_getElem?
  intro i
  rw [putA_get h.1]
  split
  · rename_i hi
    have := h.2 (i - o) L[i - o] (List.getElem?_eq_getElem (by omega))
    rw [show o + (i - o) = i by omega] at this
    rw [this]
    exact List.getElem?_eq_getElem (by omega)
  · rfl
theorem putA_set {C : Array Value} {o j : Nat} {L : List Value} (v : Value) (h : o + L.length ≤ C.size) (hj : j < L.length) : (putA C o L).setIfInBounds (o + j) v = putA C o (L.set j v) := by
  apply Array.ext_getElem?
  intro i
  rw [putA_get (by rw [List.length_set]; exact h), List.length_set, Array.getElem?_setIfInBounds, putA_size h, putA_get h]
  by_cases h1 : o + j = i
  · subst h1
    rw [if_pos rfl, if_pos (by omega), if_pos ⟨by omega, by omega⟩, show o + j - o = j by omega, List.getElem?_set_self hj]
  · rw [if_neg h1]
    split
    · rename_i hi
      rw [List.getElem?_set_ne (by omega)]
    · rfl
theorem putA_at {C : Array Value} {o : Nat} {L : List Value} (h : o + L.length ≤ C.size) : At (putA C o L) o L := by
  refine ⟨by rw [putA_size h]; exact h, fun j u hu => ?_⟩
  have hj := (List.getElem?_eq_some_iff.1 hu).1
  rw [putA_get h, if_pos ⟨by omega, by omega⟩, show o + j - o = j by omega]
  exact hu
/-- a symbol -/
structure Sm where (nm : ByteArray) (vl sz bd kd : Int) (hd : Bool) (ix : Int)
abbrev Sm.c (s : Sm) : List Value := [.string s.nm, .int .u32 s.vl, .int .u32 s.sz, .int .u8 s.bd, .int .u8 s.kd, .bool s.hd, .int .i64 s.ix]
/-- a target -/
structure Tg where (o s w : Int)
deriving DecidableEq
abbrev Tg.c (t : Tg) : List Value := [.int .i64 t.o, .int .i64 t.s, .int .i64 t.w]
abbrev Tg.v (t : Tg) : Value := .agg #[.int .i64 t.o, .int .i64 t.s, .int .i64 t.w]
abbrev tn : Tg := ⟨-1, 0, -1⟩
/-- what is known of a name -/
structure Nm where (tx : ByteArray) (st co we : Tg) (tw ak : Bool)
abbrev Nm.c (n : Nm) : List Value := [.string n.tx, .int .i64 n.st.o, .int .i64 n.st.s, .int .i64 n.st.w, .int .i64 n.co.o, .int .i64 n.co.s, .int .i64 n.co.w, .int .i64 n.we.o, .int .i64 n.we.s, .int .i64 n.we.w, .bool n.tw, .bool n.ak]
def first (a t : Tg) : Tg := if a = tn then t else a
def take (n : Nm) (s : Sm) (t : Tg) : Nm :=
  if s.ix = -1 then { n with ak := n.ak || decide (s.bd = 1) }
  else if s.ix = -3 then { n with co := first n.co t }
  else if s.bd = 1 then { n with tw := n.tw || decide (n.st ≠ tn), st := first n.st t }
  else { n with we := first n.we t }
/-- two targets compared -/
theorem eqTg (a b : Tg) (w : World) : (Op.equalIn 10000 32 a.v b.v).run Try.prog w = .ok (decide (a = b)) w := by
  have u3 := Try.underlying3
  have a3 := Try.isAgg3
  have z3 := Try.sizeOf3
  have hS : Try.prog.underlying 32 = some (.struct (Try.prog.fieldsOf 32)) := by kernel_rfl
  have hp : Try.prog.stoodInHeld 32 = false := by kernel_rfl
  obtain ⟨a1, a2, a3⟩ := a
  obtain ⟨b1, b2, b3⟩ := b
  rw [show (10000 : Nat) = 9999 + 1 from rfl, run_equalIn_agg w 9999 32 _ _ hS hp]
  simp only [Program.fieldsOf, Try.underlying32]
  go_simp
  by_cases h1 : a1 = b1 <;> by_cases h2 : a2 = b2 <;> by_cases h3 : a3 = b3 <;> simp [h1, h2, h3]
end Go.Proofs.Ytoiiiobamanclaa
