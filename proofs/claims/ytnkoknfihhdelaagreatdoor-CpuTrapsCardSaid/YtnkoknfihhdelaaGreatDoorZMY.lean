import Derived.Test.YtnkoknfihhdelaaGreatDoorZRe
import Derived.Test.YtnkoknfihhdelaaGreatDoorZMXF
namespace Go.Proofs.YtnkoknfihhdelaaGreatDoor
open Go.ChangeShapes Go.WideShapes Go.ChangeAt Go.RowKit
open Cp (cp arr mt num4)
set_option linter.unusedVariables false
set_option maxRecDepth 100000
structure Ac where
 d:Int
 at_:Nat
 s:Int
 n:Nat
 g:Bool
 a:Nat
 p:Nat
 y:Nat
 e:Nat
 b:Nat
 t:Nat
def Ac.ok (x:Ac):Prop:=x.at_<4294967296∧x.n<4294967296∧x.a<4294967296∧x.p<256∧x.y<256∧x.e<256∧x.b<65536∧x.t<65536
def Acs (w:World) (A:Option Addr) (n:Nat) (f:Nat→Ac):Prop :=
 0<n→∃ b o,A=some ⟨b,o,none⟩∧b<w.heap.size∧∀ k,k<n→(f k).ok∧w.cell? ⟨b,o+k*11,none⟩=some (.int .i64 (f k).d)∧w.cell? ⟨b,o+k*11+1,none⟩=some (.int .u32 ((f k).at_:Int))∧w.cell? ⟨b,o+k*11+2,none⟩=some (.int .i64 (f k).s)∧w.cell? ⟨b,o+k*11+3,none⟩=some (.int .u32 ((f k).n:Int)) ∧
  w.cell? ⟨b,o+k*11+4,none⟩=some (.bool (f k).g)∧w.cell? ⟨b,o+k*11+5,none⟩=some (.int .u32 ((f k).a:Int))∧w.cell? ⟨b,o+k*11+6,none⟩=some (.int .u8 ((f k).p:Int))∧w.cell? ⟨b,o+k*11+7,none⟩=some (.int .u8 ((f k).y:Int))∧w.cell? ⟨b,o+k*11+8,none⟩=some (.int .u8 ((f k).e:Int))∧w.cell? ⟨b,o+k*11+9,none⟩=some (.int .u16 ((f k).b:Int))∧w.cell? ⟨b,o+k*11+10,none⟩=some (.int .u16 ((f k).t:Int))
theorem Acs.below {w w':World} {A:Option Addr} {n:Nat} {f:Nat→Ac} (h:Acs w A n f) (hb:Below w.heap.size w w'):Acs w' A n f:=fun h0=>by
 obtain ⟨b,o,e,hlt,hc⟩:=h h0
 refine ⟨b,o,e,Nat.lt_of_lt_of_le hlt hb.size,fun k hk=>?_⟩
 obtain ⟨h1,c0,c1,c2,c3,c4,c5,c6,c7,c8,c9,c10⟩:=hc k hk
 have z:∀ j,w'.cell? ⟨b,j,none⟩=w.cell? ⟨b,j,none⟩:=fun j=>hb.cell (p:=⟨b,j,none⟩) hlt
 exact ⟨h1,by rw [z];exact c0,by rw [z];exact c1,by rw [z];exact c2,by rw [z];exact c3,by rw [z];exact c4,by rw [z];exact c5,by rw [z];exact c6,by rw [z];exact c7,by rw [z];exact c8,by rw [z];exact c9,by rw [z];exact c10⟩
theorem Mem.drew {w:World} {b:Nat} {B:Nat→Nat} {T:Nat→Bool} (h:Mem w b B T):Mem w.drew b B T:=by obtain ⟨C,h1,r⟩:=h;exact ⟨C,h1.drew,r⟩
end Go.Proofs.YtnkoknfihhdelaaGreatDoor
namespace Go.Proofs.YtnkoknfihhdelaaGreatDoor
open Go.ChangeShapes Go.WideShapes Go.ChangeAt Go.RowKit
set_option linter.unusedVariables false
set_option maxRecDepth 100000
def Bk (w:World) (g:Nat) (f:Nat→Nat):Prop:=∃ cur,Blk w g 5 cur∧65536≤cur.size∧∀ j,j<65536→cur[j]?=some (.int .u8 (f j:Int))
theorem Bk.lt {w:World} {g:Nat} {f:Nat→Nat} (h:Bk w g f):g<w.heap.size:=by obtain ⟨c,h1,_⟩:=h;exact h1.lt
theorem Bk.below {w w':World} {g K:Nat} {f:Nat→Nat} (h:Bk w g f) (hb:Below K w w') (hk:g<K):Bk w' g f:=by obtain ⟨c,h1,h2⟩:=h;exact ⟨c,h1.below hb hk,h2⟩
theorem Bk.far {w w':World} {g m:Nat} {f:Nat→Nat} (h:Bk w g f) (ho:Only m w w') (hk:g≠m):Bk w' g f:=by obtain ⟨c,h1,h2⟩:=h;exact ⟨c,ho.blk hk h1,h2⟩
theorem Bk.drew {w:World} {g:Nat} {f:Nat→Nat} (h:Bk w g f):Bk w.drew g f:=by obtain ⟨c,h1,h2⟩:=h;exact ⟨c,h1.drew,h2⟩
theorem Bk.rd {w:World} {g:Nat} {f:Nat→Nat} (h:Bk w g f):Pt.Rd w (some ⟨g,0,none⟩) 65536 f:=fun _=>by
 obtain ⟨c,h1,h2,h3⟩:=h
 exact ⟨g,0,rfl,h1.lt,fun j hj=>by rw [h1.cell,Nat.zero_add];exact h3 j hj⟩
theorem Bk.cell {w:World} {g:Nat} {f:Nat→Nat} (h:Bk w g f) (j:Nat) (hj:j<65536):w.cell? ⟨g,j,none⟩=some (.int .u8 (f j:Int))∧w.frozen? ⟨g,j,none⟩=false:=by
 obtain ⟨c,h1,h2,h3⟩:=h
 exact ⟨by rw [h1.cell];exact h3 j hj,h1.frozen j⟩
theorem Bk.set_ {w:World} {g:Nat} {f:Nat→Nat} (h:Bk w g f) (j:Nat) (hj:j<65536) (x:Nat):Bk (w.setCell ⟨g,j,none⟩ (.int .u8 (x:Int))) g (fun i=>if i=j then x else f i):=by
 obtain ⟨c,h1,h2,h3⟩:=h
 refine ⟨c.setIfInBounds j (.int .u8 (x:Int)),h1.set_ _ _,by rw [Array.size_setIfInBounds];exact h2,fun i hi=>?_⟩
 show (c.setIfInBounds j (.int .u8 (x:Int)))[i]?=some (Value.int .u8 (((if i=j then x else f i):Nat):Int))
 by_cases e:i=j
 ·subst e
  rw [Array.getElem?_setIfInBounds_self_of_lt (by omega),if_pos rfl]
 ·rw [Array.getElem?_setIfInBounds_ne (by omega),if_neg e]
  exact h3 i hi
theorem Bk.farSet {w:World} {g g2:Nat} {f:Nat→Nat} (h:Bk w g f) (hne:g≠g2) (j:Nat) (v:Value):Bk (w.setCell ⟨g2,j,none⟩ v) g f:=by
 obtain ⟨c,h1,h2⟩:=h
 exact ⟨c,h1.far hne _,h2⟩
end Go.Proofs.YtnkoknfihhdelaaGreatDoor
