import Derived.Test.YtnkoknfihhdelaaGreatDoorZMKEn
import Derived.Deep.DeepCutAuto
import Derived.Deep.CutBlock
import Derived.IntWalk
import Derived.Laws.Rows
import Derived.Laws.OwnMore
import Derived.Deep.Draws
namespace Go.Proofs.YtnkoknfihhdelaaGreatDoor.Cp
open Go.ChangeShapes Go.WideShapes Go.ChangeAt Go.RowKit
set_option linter.unusedVariables false
theorem cellAlloc {X:World} {k o:Nat} {ob:Obj} (h:k<X.heap.size):(X.alloc ob).cell? ⟨k,o,none⟩=X.cell? ⟨k,o,none⟩ :=
 ((Below.refl X.heap.size X).alloc (Nat.le_refl _) ob).cell (p:=⟨k,o,none⟩) h
theorem set7a {w w1:World} {k:Nat} (h:Below w.heap.size w w1) (hk:w.heap.size≤k) (v0 v1 v2 v3 v4 v5 v6:Value) (o:Obj) :
  Below w.heap.size w ((((((((w1.setCell ⟨k,0,none⟩ v0).setCell ⟨k,1,none⟩ v1).setCell ⟨k,2,none⟩ v2).setCell ⟨k,3,none⟩ v3).setCell ⟨k,4,none⟩ v4).setCell ⟨k,5,none⟩ v5).setCell ⟨k,6,none⟩ v6).alloc o) :=
 (set7 h hk v0 v1 v2 v3 v4 v5 v6).alloc (set7 h hk v0 v1 v2 v3 v4 v5 v6).size o
def rootV (bs' tp pm:Nat):Value:=if (ex bs' tp).2.2.2=0 then .tuple #[cp true bs' pm 0 (ex bs' tp).1 (ex bs' tp).2.1 (ex bs' tp).2.2.1,.int .i64 0] else .tuple #[cp false 0 0 0 0 0 0,.int .i64 ((ex bs' tp).2.2.2:Int)]
theorem ex_err (b t:Nat):((ex b t).2.2.2=0∧b≤t∧t≤65536∧(ex b t).1≤8∧(ex b t).2.1<512∧(ex b t).2.2.1<512)∨((ex b t).1=0∧(ex b t).2.1=0∧(ex b t).2.2.1=0∧((ex b t).2.2.2=2∨(ex b t).2.2.2=5)):=by
 have hL:∀ k,(exL b t k).2.2.2=0∧(exL b t k).1≤8∧(exL b t k).2.1<512∧(exL b t k).2.2.1<512∨exL b t k=(0,0,0,5):=by
  intro k
  induction k with
  | zero=>exact Or.inr rfl
  | succ k ih =>
   rw [exL]
   split
   ·exact Or.inl ⟨rfl,by show 8-k≤8;omega,by show b/_%512<512;omega,by show t/_%512<512;omega⟩
   ·exact ih
 unfold ex
 split
 ·exact Or.inr ⟨rfl,rfl,rfl,Or.inl rfl⟩
 ·rcases hL 9 with ⟨h1,h2,h3,h4⟩ | h
  ·exact Or.inl ⟨h1,by omega,by omega,h2,h3,h4⟩
  ·rw [h];exact Or.inr ⟨rfl,rfl,rfl,Or.inr rfl⟩
def Blk (w:World) (g:Nat) (t:TypeId) (cs:Array Value):Prop:=w.heap[g]?=some (.cells cs t (0,0))
section
variable {w w':World} {g:Nat} {t:TypeId} {cs:Array Value}
theorem Blk.lt (h:Blk w g t cs):g<w.heap.size:=by
 rcases Nat.lt_or_ge g w.heap.size with hlt | hge
 ·exact hlt
 ·unfold Blk at h;rw [Array.getElem?_eq_none hge] at h;cases h
theorem Blk.cell (h:Blk w g t cs) (i:Nat):w.cell? ⟨g,i,none⟩=cs[i]?:=cell_of_row w g i cs t (0,0) h
theorem Blk.frozen (h:Blk w g t cs) (i:Nat):w.frozen? ⟨g,i,none⟩=false:=by
 unfold Blk at h
 simp [World.frozen?,h]
theorem Blk.new (w:World) (t:TypeId) (cs:Array Value):Blk (w.alloc (.cells cs t)) w.heap.size t cs:=heap_alloc_new w _
theorem Blk.drew (h:Blk w g t cs):Blk w.drew g t cs:=h
theorem Blk.alloc (h:Blk w g t cs) (o:Obj):Blk (w.alloc o) g t cs:=(Below.heap_alloc w o g h.lt).trans h
theorem Blk.set_ (h:Blk w g t cs) (i:Nat) (u:Value):Blk (w.setCell ⟨g,i,none⟩ u) g t (cs.setIfInBounds i u):=by
 unfold Blk at h ⊢
 simp [World.setCell,Array.getElem?_modify,h]
theorem Blk.far (h:Blk w g t cs) {p:Addr} (hp:g≠p.block) (u:Value):Blk (w.setCell p u) g t cs:=(Below.heap_setCell w p u g hp).trans h
theorem Blk.below {B:Nat} (h:Blk w g t cs) (hb:Below B w w') (hg:g<B):Blk w' g t cs:=(hb.block g hg).trans h
theorem Blk.cells7 {v0 v1 v2 v3 v4 v5 v6:Value} (h:Blk w g t #[v0,v1,v2,v3,v4,v5,v6]):w.cell? ⟨g,0,none⟩=some v0∧w.cell? ⟨g,1,none⟩=some v1∧w.cell? ⟨g,2,none⟩=some v2∧w.cell? ⟨g,3,none⟩=some v3∧w.cell? ⟨g,4,none⟩=some v4∧w.cell? ⟨g,5,none⟩=some v5∧w.cell? ⟨g,6,none⟩=some v6 :=
 ⟨h.cell 0,h.cell 1,h.cell 2,h.cell 3,h.cell 4,h.cell 5,h.cell 6⟩
theorem Blk.set7 {v0 v1 v2 v3 v4 v5 v6:Value} (h:Blk w g t #[v0,v1,v2,v3,v4,v5,v6]) (u0 u1 u2 u3 u4 u5 u6:Value) :
  Blk (((((((w.setCell ⟨g,0,none⟩ u0).setCell ⟨g,1,none⟩ u1).setCell ⟨g,2,none⟩ u2).setCell ⟨g,3,none⟩ u3).setCell ⟨g,4,none⟩ u4).setCell ⟨g,5,none⟩ u5).setCell ⟨g,6,none⟩ u6) g t #[u0,u1,u2,u3,u4,u5,u6]:=by
 have:=((((((h.set_ 0 u0).set_ 1 u1).set_ 2 u2).set_ 3 u3).set_ 4 u4).set_ 5 u5).set_ 6 u6
 simpa using this
theorem Blk.far7 {g':Nat} (h:Blk w g t cs) (hp:g≠g') (u0 u1 u2 u3 u4 u5 u6:Value) :
  Blk (((((((w.setCell ⟨g',0,none⟩ u0).setCell ⟨g',1,none⟩ u1).setCell ⟨g',2,none⟩ u2).setCell ⟨g',3,none⟩ u3).setCell ⟨g',4,none⟩ u4).setCell ⟨g',5,none⟩ u5).setCell ⟨g',6,none⟩ u6) g t cs :=
 ((((((h.far hp u0).far hp u1).far hp u2).far hp u3).far hp u4).far hp u5).far hp u6
end
end Go.Proofs.YtnkoknfihhdelaaGreatDoor.Cp
