import Derived.Test.YtmanoheofloimaaGreatDoorProg
import Derived.WalkKit
import Derived.ProofKit
import Derived.OpenShut
import Derived.Below
import Derived.WalkSmall
import Derived.BigQuiet
import Derived.Deep.QuietTactic
import Derived.Deep.RegionHeld3
import Derived.LoopTactic
import Derived.Lib.Hide
import Derived.Laws.BitsAllLaws
import Derived.Laws.Rows
import Derived.Laws.OwnMore
import Derived.Laws.CopyOwn
import Derived.Deep.Draws
import Derived.OneCell
import Derived.IntWalk
namespace Go.Proofs.YtmanoheofloimaaGreatDoor
open Go.ChangeShapes Go.WideShapes Go.ChangeAt Go.RowKit
set_option linter.unusedVariables false
theorem retb {a b : Bool} (h : a = b) : Ending.returned (.bool a) = .returned (.bool b) := by rw [h]
theorem ret1 {k : IntKind} {a b : Int} (h : a = b) : Ending.returned (.int k a) = .returned (.int k b) := by rw [h]
theorem bcell {W w1 : World} (hb : Below W.heap.size W w1) : (∀ b o, b < W.heap.size → w1.cell? ⟨b, o, none⟩ = W.cell? ⟨b, o, none⟩) ∧ (∀ b o, b < W.heap.size → w1.frozen? ⟨b, o, none⟩ = W.frozen? ⟨b, o, none⟩) :=
  ⟨fun b o h => hb.cell (p := ⟨b, o, none⟩) h, fun b o h => hb.frozen (p := ⟨b, o, none⟩) h⟩
/-- a block known whole -/
def Blk (w : World) (g : Nat) (t : TypeId) (cs : Array Value) : Prop := w.heap[g]? = some (.cells cs t (0, 0))
section
variable {w w' : World} {g : Nat} {t : TypeId} {cs : Array Value}
theorem Blk.lt (h : Blk w g t cs) : g < w.heap.size := by
  rcases Nat.lt_or_ge g w.heap.size with hlt | hge
  · exact hlt
  · unfold Blk at h; rw [Array.getElem?_eq_none hge] at h; cases h
theorem Blk.cell (h : Blk w g t cs) (i : Nat) : w.cell? ⟨g, i, none⟩ = cs[i]? := cell_of_row w g i cs t (0, 0) h
theorem Blk.frozen (h : Blk w g t cs) (i : Nat) : w.frozen? ⟨g, i, none⟩ = false := by
  unfold Blk at h
  simp [World.frozen?, h]
theorem Blk.new (w : World) (t : TypeId) (cs : Array Value) : Blk (w.alloc (.cells cs t)) w.heap.size t cs := heap_alloc_new w _
theorem Blk.drew (h : Blk w g t cs) : Blk w.drew g t cs := h
theorem Blk.alloc (h : Blk w g t cs) (o : Obj) : Blk (w.alloc o) g t cs := (Below.heap_alloc w o g h.lt).trans h
theorem Blk.set_ (h : Blk w g t cs) (i : Nat) (u : Value) : Blk (w.setCell ⟨g, i, none⟩ u) g t (cs.setIfInBounds i u) := by
  unfold Blk at h ⊢
  simp [World.setCell, Array.getElem?_modify, h]
theorem Blk.far (h : Blk w g t cs) {p : Addr} (hp : g ≠ p.block) (u : Value) : Blk (w.setCell p u) g t cs := (Below.heap_setCell w p u g hp).trans h
theorem Blk.below {B : Nat} (h : Blk w g t cs) (hb : Below B w w') (hg : g < B) : Blk w' g t cs := (hb.block g hg).trans h
end
/-- nothing but one block has turned, and new ones -/
def Only (b : Nat) (w w' : World) : Prop := (∀ B, B ≤ b → B ≤ w.heap.size → Below B w w') ∧ ∀ g, g ≠ b → g < w.heap.size → w'.heap[g]? = w.heap[g]?
theorem Only.refl (b : Nat) (w : World) : Only b w w := ⟨fun _ _ _ => Below.refl _ _, fun _ _ _ => rfl⟩
theorem Only.size {b : Nat} {w w' : World} (h : Only b w w') : w.heap.size ≤ w'.heap.size := (h.1 0 (Nat.zero_le _) (Nat.zero_le _)).size
theorem Only.trans {b : Nat} {w w1 w2 : World} (h : Only b w w1) (k : Only b w1 w2) : Only b w w2 :=
  ⟨fun B hB hs => (h.1 B hB hs).trans (k.1 B hB (Nat.le_trans hs h.size)), fun g hg hs => (k.2 g hg (Nat.lt_of_lt_of_le hs h.size)).trans (h.2 g hg hs)⟩
theorem Only.below {b : Nat} {w w1 w2 : World} (h : Only b w w1) (k : Below w1.heap.size w1 w2) : Only b w w2 :=
  ⟨fun B hB hs => (h.1 B hB hs).trans (k.mono (Nat.le_trans hs h.size)), fun g hg hs => (k.block g (Nat.lt_of_lt_of_le hs h.size)).trans (h.2 g hg hs)⟩
theorem Only.drew {b : Nat} {w w1 : World} (h : Only b w w1) : Only b w w1.drew := ⟨fun B hB hs => (h.1 B hB hs).drew, h.2⟩
theorem Only.alloc {b : Nat} {w w1 : World} (h : Only b w w1) (o : Obj) : Only b w (w1.alloc o) := h.below ((Below.refl _ _).alloc (Nat.le_refl _) _)
theorem Only.set_ {b : Nat} {w w1 : World} (h : Only b w w1) (i : Nat) (u : Value) : Only b w (w1.setCell ⟨b, i, none⟩ u) :=
  ⟨fun B hB hs => (h.1 B hB hs).setCell hB _, fun g hg hs => (Below.heap_setCell w1 ⟨b, i, none⟩ u g hg).trans (h.2 g hg hs)⟩
theorem Only.blk {b g : Nat} {t : TypeId} {cs : Array Value} {w w1 : World} (h : Only b w w1) (hg : g ≠ b) (k : Blk w g t cs) : Blk w1 g t cs := (h.2 g hg k.lt).trans k
theorem Only.grown {b : Nat} {w w1 w2 : World} (h : Only b w w1) (hg : w1.grownBy w2 (some b)) : Only b w w2 :=
  ⟨fun B hB hs => (h.1 B hB hs).grown hg (Nat.le_trans hs h.size) (fun k e => by cases e; exact hB), fun g hne hs => (hg.block g (Nat.lt_of_lt_of_le hs h.size) (fun e => hne (Option.some.inj e))).trans (h.2 g hne hs)⟩
/-- the cells of a memory that is all 0 -/
noncomputable def Z : Array Value := match (Tryz.prog.info? 86).bind (·.zero) with | some (.agg cs) => cs | _ => #[]
theorem Zsize : Z.size = 73729 := by kernel_rfl
end Go.Proofs.YtmanoheofloimaaGreatDoor

