import Derived.Test.YtnkoknfihhdelaaGreatDoorZOb
import Derived.Test.YtnkoknfihhdelaaGreatDoorZSa
import Derived.Deep.Onto
namespace Go.Proofs.YtnkoknfihhdelaaGreatDoor
open Go.ChangeShapes Go.WideShapes Go.ChangeAt Go.RowKit
set_option linter.unusedVariables false
set_option maxRecDepth 100000
structure Belo (B g:Nat) (w0 w:World):Prop where
 b:Below B w0 w
 k:∀ i,g<i→i<w0.heap.size→w.heap[i]?=w0.heap[i]?
theorem Belo.refl (B g:Nat) (w:World):Belo B g w w:=⟨Below.refl _ _,fun _ _ _=>rfl⟩
theorem Belo.of {B g:Nat} {w w':World} (h:Below w.heap.size w w') (hB:B≤w.heap.size):Belo B g w w':=⟨h.mono hB,fun i _ hi=>h.block i hi⟩
theorem Belo.drew {B g:Nat} {a w:World} (h:Belo B g a w):Belo B g a w.drew:=⟨h.b.drew,h.k⟩
theorem Belo.step {B g:Nat} {a w w':World} (h:Belo B g a w) (hb:Below w.heap.size w w') (hB:B≤w.heap.size):Belo B g a w':=⟨h.b.trans (hb.mono hB),fun i h1 h2=>(hb.block i (by have:=h.b.size;omega)).trans (h.k i h1 h2)⟩
theorem belo_setRow {B g r:Nat} {a w:World} (h:Belo B g a w) (hB:B≤r) (hr:r≤g) (cs:Array Value):Belo B g a (w.setRow r cs):=⟨below_setRow h.b hB cs,fun i h1 h2=>by
 have e:=(below_setRow (Below.refl r w) (Nat.le_refl r) cs)
 have q:(w.setRow r cs).heap[i]?=w.heap[i]?:=by
  simp only [World.setRow,Array.getElem?_modify]
  rw [if_neg (by omega)]
 rw [q,h.k i h1 h2]⟩
structure K14 (g r1 r2 B:Nat) (w0:World) (KL:Array Value) (NL DL:List Value) (l:Array Bool) (a:Act) (w:World):Prop where
 sz:a.tmps.size=64
 df:a.defers=[]
 s8:a.tmps.getD 8 undef=.pointer (some ⟨r1,0,none⟩)
 s9:a.tmps.getD 9 undef=.pointer (some ⟨r2,0,none⟩)
 s13:a.tmps.getD 13 undef=.pointer (some ⟨g,0,none⟩)
 t0:l.getD 0 false=true→a.tmps.getD 60 undef=.pointer (some ⟨g,152,none⟩)
 t1:l.getD 1 false=true→a.tmps.getD 61 undef=.agg NL.toArray
 t2:l.getD 2 false=true→a.tmps.getD 62 undef=.pointer (some ⟨g,309,none⟩)
 t3:l.getD 3 false=true→a.tmps.getD 63 undef=.agg DL.toArray
 t6:l.getD 6 false=true→a.tmps.getD 10 undef=.int .i64 0
 G:Blk w g 81 KL
 R:∃ C,Blk w r1 32 C∧C.size=151∧(l.getD 4 false=true→C=NL.toArray)
 D:∃ C,Blk w r2 41 C∧C.size=5∧(l.getD 5 false=true→C=DL.toArray)
 o:Belo B g w0 w
theorem tailk14 (g r1 r2 B:Nat) (w0:World) (KL ZA DA:Array Value) (NL DL:List Value) (a:Act) (w:World) (Q:Exit→Act→World→Prop) (h1:r1≠g) (h2:r2≠g) (h12:r1≠r2) (hB1:B≤r1) (hB2:B≤r2) (hK1:r1≤g) (hK2:r2≤g)
  (hN:NL.length=151) (hD:DL.length=5) (hN1:NL.toArray.all (·.oneCell')=true) (hD1:DL.toArray.all (·.oneCell')=true)
  (hKN:∀ j v,NL[j]?=some v→KL[152+j]?=some v) (hKD:∀ j v,DL[j]?=some v→KL[309+j]?=some v)
  (sz:a.tmps.size=64) (df:a.defers=[]) (s8:a.tmps.getD 8 undef=.pointer (some ⟨r1,0,none⟩)) (s9:a.tmps.getD 9 undef=.pointer (some ⟨r2,0,none⟩)) (s13:a.tmps.getD 13 undef=.pointer (some ⟨g,0,none⟩))
  (hG:Blk w g 81 KL) (hR:Blk w r1 32 ZA) (hRs:ZA.size=151) (hDD:Blk w r2 41 DA) (hDs:DA.size=5) (ho:Belo B g w0 w)
  (hQ:∀ a' w',a'.defers=[]→a'.tmps.getD 8 undef=.pointer (some ⟨r1,0,none⟩)→a'.tmps.getD 9 undef=.pointer (some ⟨r2,0,none⟩)→a'.tmps.getD 10 undef=.int .i64 0→Blk w' r1 32 NL.toArray→Blk w' r2 41 DL.toArray→Belo B g w0 w'→Q .normal a' w') :
  (Code.region 14 O14 true).wp Tryz.prog Q a w:=by
 refine wp_region_inv (by kernel_rfl) (K14 g r1 r2 B w0 KL NL DL) ?_ ?_ ?_
 ·exact ⟨sz,df,s8,s9,s13,fun q=>absurd q (by decide),fun q=>absurd q (by decide),fun q=>absurd q (by decide),fun q=>absurd q (by decide),fun q=>absurd q (by decide),hG,⟨ZA,hR,hRs,fun q=>absurd q (by decide)⟩,⟨DA,hDD,hDs,fun q=>absurd q (by decide)⟩,ho.drew⟩
 ·intro l a w i hsz hi h
  have hsz7:l.size=7:=hsz
  obtain ⟨hun,op,hop,hpre⟩:=mem_ready.1 hi
  have hi7:i<7:=(Array.getElem?_eq_some_iff.1 hop).1
  clear hi
  have:i=0∨i=1∨i=2∨i=3∨i=4∨i=5∨i=6:=by omega
  rcases this with rfl | rfl | rfl | rfl | rfl | rfl | rfl
  ·refine wpOp_of rfl rfl ?_
   unfold Oper.wp
   rw [fa152 a.eval g _ w rfl h.s13]
   show K14 g r1 r2 B w0 KL NL DL (l.setIfInBounds 0 true) (a.put (some 60) (.pointer (some ⟨g,152,none⟩))) w
   refine ⟨by rw [put_size];exact h.sz,h.df,by rw [put_at,if_neg (by omega)];exact h.s8,by rw [put_at,if_neg (by omega)];exact h.s9,by rw [put_at,if_neg (by omega)];exact h.s13,fun _=>by rw [put_at,if_pos ⟨rfl,by rw [h.sz];decide⟩],fun q=>by rw [put_at,if_neg (by omega)];exact h.t1 (by rw [set_at,if_neg (by omega)] at q;exact q),fun q=>by rw [put_at,if_neg (by omega)];exact h.t2 (by rw [set_at,if_neg (by omega)] at q;exact q),fun q=>by rw [put_at,if_neg (by omega)];exact h.t3 (by rw [set_at,if_neg (by omega)] at q;exact q),fun q=>by rw [put_at,if_neg (by omega)];exact h.t6 (by rw [set_at,if_neg (by omega)] at q;exact q),h.G,?_,?_,h.o⟩
   ·obtain ⟨C,c1,c2,c3⟩:=h.R;exact ⟨C,c1,c2,fun q=>c3 (by rw [set_at,if_neg (by omega)] at q;exact q)⟩
   ·obtain ⟨C,c1,c2,c3⟩:=h.D;exact ⟨C,c1,c2,fun q=>c3 (by rw [set_at,if_neg (by omega)] at q;exact q)⟩
  ·have q0:l.getD 0 false=true:=by
    cases hop
    exact hpre ⟨0,.data⟩ (Array.mem_of_getElem? (i:=0) rfl) rfl
   refine wpOp_of rfl rfl (wp_load_sub 32 (.tmp 60) rfl g 152 (h.t0 q0) 81 KL NL (0,0) _ h.G hKN Tryz.underlying32 rfl (by rw [info32s,hN]) ?_)
   show K14 g r1 r2 B w0 KL NL DL (l.setIfInBounds 1 true) (a.put (some 61) (.agg NL.toArray)) w
   refine ⟨by rw [put_size];exact h.sz,h.df,by rw [put_at,if_neg (by omega)];exact h.s8,by rw [put_at,if_neg (by omega)];exact h.s9,by rw [put_at,if_neg (by omega)];exact h.s13,fun q=>by rw [put_at,if_neg (by omega)];exact h.t0 (by rw [set_at,if_neg (by omega)] at q;exact q),fun _=>by rw [put_at,if_pos ⟨rfl,by rw [h.sz];decide⟩],fun q=>by rw [put_at,if_neg (by omega)];exact h.t2 (by rw [set_at,if_neg (by omega)] at q;exact q),fun q=>by rw [put_at,if_neg (by omega)];exact h.t3 (by rw [set_at,if_neg (by omega)] at q;exact q),fun q=>by rw [put_at,if_neg (by omega)];exact h.t6 (by rw [set_at,if_neg (by omega)] at q;exact q),h.G,?_,?_,h.o⟩
   ·obtain ⟨C,c1,c2,c3⟩:=h.R;exact ⟨C,c1,c2,fun q=>c3 (by rw [set_at,if_neg (by omega)] at q;exact q)⟩
   ·obtain ⟨C,c1,c2,c3⟩:=h.D;exact ⟨C,c1,c2,fun q=>c3 (by rw [set_at,if_neg (by omega)] at q;exact q)⟩
  ·refine wpOp_of rfl rfl ?_
   unfold Oper.wp
   rw [fa309 a.eval g _ w rfl h.s13]
   show K14 g r1 r2 B w0 KL NL DL (l.setIfInBounds 2 true) (a.put (some 62) (.pointer (some ⟨g,309,none⟩))) w
   refine ⟨by rw [put_size];exact h.sz,h.df,by rw [put_at,if_neg (by omega)];exact h.s8,by rw [put_at,if_neg (by omega)];exact h.s9,by rw [put_at,if_neg (by omega)];exact h.s13,fun q=>by rw [put_at,if_neg (by omega)];exact h.t0 (by rw [set_at,if_neg (by omega)] at q;exact q),fun q=>by rw [put_at,if_neg (by omega)];exact h.t1 (by rw [set_at,if_neg (by omega)] at q;exact q),fun _=>by rw [put_at,if_pos ⟨rfl,by rw [h.sz];decide⟩],fun q=>by rw [put_at,if_neg (by omega)];exact h.t3 (by rw [set_at,if_neg (by omega)] at q;exact q),fun q=>by rw [put_at,if_neg (by omega)];exact h.t6 (by rw [set_at,if_neg (by omega)] at q;exact q),h.G,?_,?_,h.o⟩
   ·obtain ⟨C,c1,c2,c3⟩:=h.R;exact ⟨C,c1,c2,fun q=>c3 (by rw [set_at,if_neg (by omega)] at q;exact q)⟩
   ·obtain ⟨C,c1,c2,c3⟩:=h.D;exact ⟨C,c1,c2,fun q=>c3 (by rw [set_at,if_neg (by omega)] at q;exact q)⟩
  ·have q0:l.getD 2 false=true:=by
    cases hop
    exact hpre ⟨2,.data⟩ (Array.mem_of_getElem? (i:=0) rfl) rfl
   refine wpOp_of rfl rfl (wp_load_sub 41 (.tmp 62) rfl g 309 (h.t2 q0) 81 KL DL (0,0) _ h.G hKD Tryz.underlying41 rfl (by rw [info41s,hD]) ?_)
   show K14 g r1 r2 B w0 KL NL DL (l.setIfInBounds 3 true) (a.put (some 63) (.agg DL.toArray)) w
   refine ⟨by rw [put_size];exact h.sz,h.df,by rw [put_at,if_neg (by omega)];exact h.s8,by rw [put_at,if_neg (by omega)];exact h.s9,by rw [put_at,if_neg (by omega)];exact h.s13,fun q=>by rw [put_at,if_neg (by omega)];exact h.t0 (by rw [set_at,if_neg (by omega)] at q;exact q),fun q=>by rw [put_at,if_neg (by omega)];exact h.t1 (by rw [set_at,if_neg (by omega)] at q;exact q),fun q=>by rw [put_at,if_neg (by omega)];exact h.t2 (by rw [set_at,if_neg (by omega)] at q;exact q),fun _=>by rw [put_at,if_pos ⟨rfl,by rw [h.sz];decide⟩],fun q=>by rw [put_at,if_neg (by omega)];exact h.t6 (by rw [set_at,if_neg (by omega)] at q;exact q),h.G,?_,?_,h.o⟩
   ·obtain ⟨C,c1,c2,c3⟩:=h.R;exact ⟨C,c1,c2,fun q=>c3 (by rw [set_at,if_neg (by omega)] at q;exact q)⟩
   ·obtain ⟨C,c1,c2,c3⟩:=h.D;exact ⟨C,c1,c2,fun q=>c3 (by rw [set_at,if_neg (by omega)] at q;exact q)⟩
  ·have q0:l.getD 1 false=true:=by
    cases hop
    exact hpre ⟨1,.data⟩ (Array.mem_of_getElem? (i:=0) rfl) rfl
   obtain ⟨C,c1,c2,c3⟩:=h.R
   refine wpOp_of rfl rfl (wp_store_row 32 (.tmp 8) (.tmp 61) rfl r1 NL.toArray h.s8 (h.t1 q0) 32 C c1 (by rw [info32s,List.size_toArray,hN]) (by rw [c2,List.size_toArray,hN]) hN1 ?_)
   show K14 g r1 r2 B w0 KL NL DL (l.setIfInBounds 4 true) a (w.setRow r1 NL.toArray)
   refine ⟨h.sz,h.df,h.s8,h.s9,h.s13,fun q=>h.t0 (by rw [set_at,if_neg (by omega)] at q;exact q),fun q=>h.t1 (by rw [set_at,if_neg (by omega)] at q;exact q),fun q=>h.t2 (by rw [set_at,if_neg (by omega)] at q;exact q),fun q=>h.t3 (by rw [set_at,if_neg (by omega)] at q;exact q),fun q=>h.t6 (by rw [set_at,if_neg (by omega)] at q;exact q),(only_row _ _ _).blk (Ne.symm h1) h.G,⟨NL.toArray,blk_row c1 _,by rw [List.size_toArray,hN],fun _=>rfl⟩,?_,belo_setRow h.o hB1 hK1 _⟩
   obtain ⟨E,e1,e2,e3⟩:=h.D
   exact ⟨E,(only_row _ _ _).blk (Ne.symm h12) e1,e2,fun q=>e3 (by rw [set_at,if_neg (by omega)] at q;exact q)⟩
  ·have q0:l.getD 3 false=true:=by
    cases hop
    exact hpre ⟨3,.data⟩ (Array.mem_of_getElem? (i:=0) rfl) rfl
   obtain ⟨C,c1,c2,c3⟩:=h.D
   refine wpOp_of rfl rfl (wp_store_row 41 (.tmp 9) (.tmp 63) rfl r2 DL.toArray h.s9 (h.t3 q0) 41 C c1 (by rw [info41s,List.size_toArray,hD]) (by rw [c2,List.size_toArray,hD]) hD1 ?_)
   show K14 g r1 r2 B w0 KL NL DL (l.setIfInBounds 5 true) a (w.setRow r2 DL.toArray)
   refine ⟨h.sz,h.df,h.s8,h.s9,h.s13,fun q=>h.t0 (by rw [set_at,if_neg (by omega)] at q;exact q),fun q=>h.t1 (by rw [set_at,if_neg (by omega)] at q;exact q),fun q=>h.t2 (by rw [set_at,if_neg (by omega)] at q;exact q),fun q=>h.t3 (by rw [set_at,if_neg (by omega)] at q;exact q),fun q=>h.t6 (by rw [set_at,if_neg (by omega)] at q;exact q),(only_row _ _ _).blk (Ne.symm h2) h.G,?_,⟨DL.toArray,blk_row c1 _,by rw [List.size_toArray,hD],fun _=>rfl⟩,belo_setRow h.o hB2 hK2 _⟩
   obtain ⟨E,e1,e2,e3⟩:=h.R
   exact ⟨E,(only_row _ _ _).blk h12 e1,e2,fun q=>e3 (by rw [set_at,if_neg (by omega)] at q;exact q)⟩
  ·refine wpOp_of rfl rfl ?_
   show K14 g r1 r2 B w0 KL NL DL (l.setIfInBounds 6 true) (a.put (some 10) (.int .i64 0)) w
   refine ⟨by rw [put_size];exact h.sz,h.df,by rw [put_at,if_neg (by omega)];exact h.s8,by rw [put_at,if_neg (by omega)];exact h.s9,by rw [put_at,if_neg (by omega)];exact h.s13,fun q=>by rw [put_at,if_neg (by omega)];exact h.t0 (by rw [set_at,if_neg (by omega)] at q;exact q),fun q=>by rw [put_at,if_neg (by omega)];exact h.t1 (by rw [set_at,if_neg (by omega)] at q;exact q),fun q=>by rw [put_at,if_neg (by omega)];exact h.t2 (by rw [set_at,if_neg (by omega)] at q;exact q),fun q=>by rw [put_at,if_neg (by omega)];exact h.t3 (by rw [set_at,if_neg (by omega)] at q;exact q),fun _=>by rw [put_at,if_pos ⟨rfl,by rw [h.sz];decide⟩],h.G,?_,?_,h.o⟩
   ·obtain ⟨C,c1,c2,c3⟩:=h.R;exact ⟨C,c1,c2,fun q=>c3 (by rw [set_at,if_neg (by omega)] at q;exact q)⟩
   ·obtain ⟨C,c1,c2,c3⟩:=h.D;exact ⟨C,c1,c2,fun q=>c3 (by rw [set_at,if_neg (by omega)] at q;exact q)⟩
 ·intro l a w hsz hr h
  have hsz7:l.size=7:=hsz
  obtain ⟨ls⟩:=l
  match ls,hsz7 with
  | [b0,b1,b2,b3,b4,b5,b6],_ =>
   obtain ⟨rfl,rfl,rfl,rfl,rfl,rfl,rfl⟩:=ends14 b0 b1 b2 b3 b4 b5 b6 hr
   obtain ⟨C,c1,c2,c3⟩:=h.R
   obtain ⟨E,e1,e2,e3⟩:=h.D
   have hc:=c3 rfl
   have he:=e3 rfl
   subst hc he
   exact hQ a w h.df h.s8 h.s9 (h.t6 rfl) c1 e1 h.o
structure K12 (g r0 r1 r2 B z:Nat) (tc:Value) (w0:World) (S0 KL:Array Value) (NL DL:List Value) (l:Array Bool) (a:Act) (w:World):Prop where
 sz:a.tmps.size=64
 df:a.defers=[]
 s5:a.tmps.getD 5 undef=.pointer (some ⟨r0,0,none⟩)
 s8:a.tmps.getD 8 undef=.pointer (some ⟨r1,0,none⟩)
 s9:a.tmps.getD 9 undef=.pointer (some ⟨r2,0,none⟩)
 s13:a.tmps.getD 13 undef=.pointer (some ⟨g,0,none⟩)
 s14:a.tmps.getD 14 undef=.int .u32 (z:Int)
 t0:l.getD 0 false=true→a.tmps.getD 48 undef=.agg S0
 t1:l.getD 1 false=true→a.tmps.getD 49 undef=.int .u32 (z:Int)
 t2:l.getD 2 false=true→a.tmps.getD 50 undef=.agg NL.toArray
 t3:l.getD 3 false=true→a.tmps.getD 51 undef=.int .u32 (z:Int)
 t4:l.getD 4 false=true→a.tmps.getD 52 undef=.pointer (some ⟨g,309,none⟩)
 t5:l.getD 5 false=true→a.tmps.getD 53 undef=.pointer (some ⟨g,310,none⟩)
 t6:l.getD 6 false=true→a.tmps.getD 54 undef=tc
 t7:l.getD 7 false=true→a.tmps.getD 55 undef=.agg DL.toArray
 t10:l.getD 10 false=true→a.tmps.getD 10 undef=.int .i64 0
 A:Blk w r0 32 S0
 G:Blk w g 81 KL
 R:∃ C,Blk w r1 32 C∧C.size=151∧(l.getD 8 false=true→C=NL.toArray)
 D:∃ C,Blk w r2 41 C∧C.size=5∧(l.getD 9 false=true→C=DL.toArray)
 o:Belo B g w0 w
theorem tailk12 (g r0 r1 r2 B z:Nat) (tc:Value) (w0:World) (S0 KL ZA DA:Array Value) (NL DL:List Value) (a:Act) (w:World) (Q:Exit→Act→World→Prop) (h1:r1≠g) (h2:r2≠g) (h12:r1≠r2) (h01:r0≠r1) (h02:r0≠r2) (hB1:B≤r1) (hB2:B≤r2) (hK1:r1≤g) (hK2:r2≤g)
  (hN:NL.length=151) (hD:DL.length=5) (hN1:NL.toArray.all (·.oneCell')=true) (hD1:DL.toArray.all (·.oneCell')=true) (hS:S0.size=151)
  (hKC:KL[310]?=some tc) (hb41:Tryz.prog.built 41 [(0,.int .u32 (z:Int)),(1,tc)]=some DL.toArray)
  (K29:∀ W,Calls Tryz.prog 29 #[.agg S0,.int .u32 (z:Int)] W fun e w'=>e=.returned (.agg NL.toArray)∧Below W.heap.size W w')
  (sz:a.tmps.size=64) (df:a.defers=[]) (s5:a.tmps.getD 5 undef=.pointer (some ⟨r0,0,none⟩)) (s8:a.tmps.getD 8 undef=.pointer (some ⟨r1,0,none⟩)) (s9:a.tmps.getD 9 undef=.pointer (some ⟨r2,0,none⟩)) (s13:a.tmps.getD 13 undef=.pointer (some ⟨g,0,none⟩)) (s14:a.tmps.getD 14 undef=.int .u32 (z:Int))
  (hA:Blk w r0 32 S0) (hG:Blk w g 81 KL) (hR:Blk w r1 32 ZA) (hRs:ZA.size=151) (hDD:Blk w r2 41 DA) (hDs:DA.size=5) (ho:Belo B g w0 w)
  (hQ:∀ a' w',a'.defers=[]→a'.tmps.getD 8 undef=.pointer (some ⟨r1,0,none⟩)→a'.tmps.getD 9 undef=.pointer (some ⟨r2,0,none⟩)→a'.tmps.getD 10 undef=.int .i64 0→Blk w' r1 32 NL.toArray→Blk w' r2 41 DL.toArray→Belo B g w0 w'→Q .normal a' w') :
  (Code.region 12 O12 true).wp Tryz.prog Q a w:=by
 refine wp_region_inv (by kernel_rfl) (K12 g r0 r1 r2 B z tc w0 S0 KL NL DL) ?_ ?_ ?_
 ·exact ⟨sz,df,s5,s8,s9,s13,s14,fun q=>absurd q (by decide),fun q=>absurd q (by decide),fun q=>absurd q (by decide),fun q=>absurd q (by decide),fun q=>absurd q (by decide),fun q=>absurd q (by decide),fun q=>absurd q (by decide),fun q=>absurd q (by decide),fun q=>absurd q (by decide),hA,hG,⟨ZA,hR,hRs,fun q=>absurd q (by decide)⟩,⟨DA,hDD,hDs,fun q=>absurd q (by decide)⟩,ho.drew⟩
 ·intro l a w i hsz hi h
  have hsz11:l.size=11:=hsz
  obtain ⟨hun,op,hop,hpre⟩:=mem_ready.1 hi
  have hi11:i<11:=(Array.getElem?_eq_some_iff.1 hop).1
  clear hi
  have:i=0∨i=1∨i=2∨i=3∨i=4∨i=5∨i=6∨i=7∨i=8∨i=9∨i=10:=by omega
  rcases this with rfl | rfl | rfl | rfl | rfl | rfl | rfl | rfl | rfl | rfl | rfl
  ·refine wpOp_of rfl rfl (wp_load_row 32 (.tmp 5) rfl r0 h.s5 32 S0 (0,0) _ h.A Tryz.underlying32 rfl (by rw [info32s,hS]) ?_)
   show K12 g r0 r1 r2 B z tc w0 S0 KL NL DL (l.setIfInBounds 0 true) (a.put (some 48) (.agg S0)) w
   exact ⟨by rw [put_size];exact h.sz,h.df,by rw [put_at,if_neg (by omega)];exact h.s5,by rw [put_at,if_neg (by omega)];exact h.s8,by rw [put_at,if_neg (by omega)];exact h.s9,by rw [put_at,if_neg (by omega)];exact h.s13,by rw [put_at,if_neg (by omega)];exact h.s14,fun _=>by rw [put_at,if_pos ⟨rfl,by rw [h.sz];decide⟩],fun q=>by rw [put_at,if_neg (by omega)];exact h.t1 (by rw [set_at,if_neg (by omega)] at q;exact q),fun q=>by rw [put_at,if_neg (by omega)];exact h.t2 (by rw [set_at,if_neg (by omega)] at q;exact q),fun q=>by rw [put_at,if_neg (by omega)];exact h.t3 (by rw [set_at,if_neg (by omega)] at q;exact q),fun q=>by rw [put_at,if_neg (by omega)];exact h.t4 (by rw [set_at,if_neg (by omega)] at q;exact q),fun q=>by rw [put_at,if_neg (by omega)];exact h.t5 (by rw [set_at,if_neg (by omega)] at q;exact q),fun q=>by rw [put_at,if_neg (by omega)];exact h.t6 (by rw [set_at,if_neg (by omega)] at q;exact q),fun q=>by rw [put_at,if_neg (by omega)];exact h.t7 (by rw [set_at,if_neg (by omega)] at q;exact q),fun q=>by rw [put_at,if_neg (by omega)];exact h.t10 (by rw [set_at,if_neg (by omega)] at q;exact q),h.A,h.G,(by obtain ⟨C,c1,c2,c3⟩:=h.R;exact ⟨C,c1,c2,fun q=>c3 (by rw [set_at,if_neg (by omega)] at q;exact q)⟩),(by obtain ⟨C,c1,c2,c3⟩:=h.D;exact ⟨C,c1,c2,fun q=>c3 (by rw [set_at,if_neg (by omega)] at q;exact q)⟩),h.o⟩
  ·refine wpOp_of rfl rfl ?_
   unfold Oper.wp
   rw [show (execOp a.eval O12[1]).run Tryz.prog w=.ok (.value (a.tmps.getD 14 undef)) w from rfl,h.s14]
   show K12 g r0 r1 r2 B z tc w0 S0 KL NL DL (l.setIfInBounds 1 true) (a.put (some 49) (.int .u32 (z:Int))) w
   exact ⟨by rw [put_size];exact h.sz,h.df,by rw [put_at,if_neg (by omega)];exact h.s5,by rw [put_at,if_neg (by omega)];exact h.s8,by rw [put_at,if_neg (by omega)];exact h.s9,by rw [put_at,if_neg (by omega)];exact h.s13,by rw [put_at,if_neg (by omega)];exact h.s14,fun q=>by rw [put_at,if_neg (by omega)];exact h.t0 (by rw [set_at,if_neg (by omega)] at q;exact q),fun _=>by rw [put_at,if_pos ⟨rfl,by rw [h.sz];decide⟩],fun q=>by rw [put_at,if_neg (by omega)];exact h.t2 (by rw [set_at,if_neg (by omega)] at q;exact q),fun q=>by rw [put_at,if_neg (by omega)];exact h.t3 (by rw [set_at,if_neg (by omega)] at q;exact q),fun q=>by rw [put_at,if_neg (by omega)];exact h.t4 (by rw [set_at,if_neg (by omega)] at q;exact q),fun q=>by rw [put_at,if_neg (by omega)];exact h.t5 (by rw [set_at,if_neg (by omega)] at q;exact q),fun q=>by rw [put_at,if_neg (by omega)];exact h.t6 (by rw [set_at,if_neg (by omega)] at q;exact q),fun q=>by rw [put_at,if_neg (by omega)];exact h.t7 (by rw [set_at,if_neg (by omega)] at q;exact q),fun q=>by rw [put_at,if_neg (by omega)];exact h.t10 (by rw [set_at,if_neg (by omega)] at q;exact q),h.A,h.G,(by obtain ⟨C,c1,c2,c3⟩:=h.R;exact ⟨C,c1,c2,fun q=>c3 (by rw [set_at,if_neg (by omega)] at q;exact q)⟩),(by obtain ⟨C,c1,c2,c3⟩:=h.D;exact ⟨C,c1,c2,fun q=>c3 (by rw [set_at,if_neg (by omega)] at q;exact q)⟩),h.o⟩
  ·have q0:l.getD 0 false=true:=by
    cases hop
    exact hpre ⟨0,.data⟩ (Array.mem_of_getElem? (i:=0) rfl) rfl
   have q1:l.getD 1 false=true:=by
    cases hop
    exact hpre ⟨1,.data⟩ (Array.mem_of_getElem? (i:=1) rfl) rfl
   refine wpOp_of rfl rfl ?_
   unfold Oper.wp
   rw [call29 a _ w rfl,show a.eval (.tmp 48)=.agg S0 from h.t0 q0,show a.eval (.tmp 49)=.int .u32 (z:Int) from h.t1 q1]
   refine (K29 w).mono ?_
   rintro _ w' ⟨rfl,hb⟩
   have hBw:B≤w.heap.size:=by obtain ⟨C,c1,-,-⟩:=h.R;have:=c1.lt;omega
   show K12 g r0 r1 r2 B z tc w0 S0 KL NL DL (l.setIfInBounds 2 true) (a.put (some 50) (.agg NL.toArray)) w'
   exact ⟨by rw [put_size];exact h.sz,h.df,by rw [put_at,if_neg (by omega)];exact h.s5,by rw [put_at,if_neg (by omega)];exact h.s8,by rw [put_at,if_neg (by omega)];exact h.s9,by rw [put_at,if_neg (by omega)];exact h.s13,by rw [put_at,if_neg (by omega)];exact h.s14,fun q=>by rw [put_at,if_neg (by omega)];exact h.t0 (by rw [set_at,if_neg (by omega)] at q;exact q),fun q=>by rw [put_at,if_neg (by omega)];exact h.t1 (by rw [set_at,if_neg (by omega)] at q;exact q),fun _=>by rw [put_at,if_pos ⟨rfl,by rw [h.sz];decide⟩],fun q=>by rw [put_at,if_neg (by omega)];exact h.t3 (by rw [set_at,if_neg (by omega)] at q;exact q),fun q=>by rw [put_at,if_neg (by omega)];exact h.t4 (by rw [set_at,if_neg (by omega)] at q;exact q),fun q=>by rw [put_at,if_neg (by omega)];exact h.t5 (by rw [set_at,if_neg (by omega)] at q;exact q),fun q=>by rw [put_at,if_neg (by omega)];exact h.t6 (by rw [set_at,if_neg (by omega)] at q;exact q),fun q=>by rw [put_at,if_neg (by omega)];exact h.t7 (by rw [set_at,if_neg (by omega)] at q;exact q),fun q=>by rw [put_at,if_neg (by omega)];exact h.t10 (by rw [set_at,if_neg (by omega)] at q;exact q),h.A.below hb h.A.lt,h.G.below hb h.G.lt,(by obtain ⟨C,c1,c2,c3⟩:=h.R;exact ⟨C,c1.below hb c1.lt,c2,fun q=>c3 (by rw [set_at,if_neg (by omega)] at q;exact q)⟩),(by obtain ⟨C,c1,c2,c3⟩:=h.D;exact ⟨C,c1.below hb c1.lt,c2,fun q=>c3 (by rw [set_at,if_neg (by omega)] at q;exact q)⟩),h.o.step hb hBw⟩
  ·refine wpOp_of rfl rfl ?_
   unfold Oper.wp
   rw [show (execOp a.eval O12[3]).run Tryz.prog w=.ok (.value (a.tmps.getD 14 undef)) w from rfl,h.s14]
   show K12 g r0 r1 r2 B z tc w0 S0 KL NL DL (l.setIfInBounds 3 true) (a.put (some 51) (.int .u32 (z:Int))) w
   exact ⟨by rw [put_size];exact h.sz,h.df,by rw [put_at,if_neg (by omega)];exact h.s5,by rw [put_at,if_neg (by omega)];exact h.s8,by rw [put_at,if_neg (by omega)];exact h.s9,by rw [put_at,if_neg (by omega)];exact h.s13,by rw [put_at,if_neg (by omega)];exact h.s14,fun q=>by rw [put_at,if_neg (by omega)];exact h.t0 (by rw [set_at,if_neg (by omega)] at q;exact q),fun q=>by rw [put_at,if_neg (by omega)];exact h.t1 (by rw [set_at,if_neg (by omega)] at q;exact q),fun q=>by rw [put_at,if_neg (by omega)];exact h.t2 (by rw [set_at,if_neg (by omega)] at q;exact q),fun _=>by rw [put_at,if_pos ⟨rfl,by rw [h.sz];decide⟩],fun q=>by rw [put_at,if_neg (by omega)];exact h.t4 (by rw [set_at,if_neg (by omega)] at q;exact q),fun q=>by rw [put_at,if_neg (by omega)];exact h.t5 (by rw [set_at,if_neg (by omega)] at q;exact q),fun q=>by rw [put_at,if_neg (by omega)];exact h.t6 (by rw [set_at,if_neg (by omega)] at q;exact q),fun q=>by rw [put_at,if_neg (by omega)];exact h.t7 (by rw [set_at,if_neg (by omega)] at q;exact q),fun q=>by rw [put_at,if_neg (by omega)];exact h.t10 (by rw [set_at,if_neg (by omega)] at q;exact q),h.A,h.G,(by obtain ⟨C,c1,c2,c3⟩:=h.R;exact ⟨C,c1,c2,fun q=>c3 (by rw [set_at,if_neg (by omega)] at q;exact q)⟩),(by obtain ⟨C,c1,c2,c3⟩:=h.D;exact ⟨C,c1,c2,fun q=>c3 (by rw [set_at,if_neg (by omega)] at q;exact q)⟩),h.o⟩
  ·refine wpOp_of rfl rfl ?_
   unfold Oper.wp
   rw [fa309 a.eval g _ w rfl h.s13]
   show K12 g r0 r1 r2 B z tc w0 S0 KL NL DL (l.setIfInBounds 4 true) (a.put (some 52) (.pointer (some ⟨g,309,none⟩))) w
   exact ⟨by rw [put_size];exact h.sz,h.df,by rw [put_at,if_neg (by omega)];exact h.s5,by rw [put_at,if_neg (by omega)];exact h.s8,by rw [put_at,if_neg (by omega)];exact h.s9,by rw [put_at,if_neg (by omega)];exact h.s13,by rw [put_at,if_neg (by omega)];exact h.s14,fun q=>by rw [put_at,if_neg (by omega)];exact h.t0 (by rw [set_at,if_neg (by omega)] at q;exact q),fun q=>by rw [put_at,if_neg (by omega)];exact h.t1 (by rw [set_at,if_neg (by omega)] at q;exact q),fun q=>by rw [put_at,if_neg (by omega)];exact h.t2 (by rw [set_at,if_neg (by omega)] at q;exact q),fun q=>by rw [put_at,if_neg (by omega)];exact h.t3 (by rw [set_at,if_neg (by omega)] at q;exact q),fun _=>by rw [put_at,if_pos ⟨rfl,by rw [h.sz];decide⟩],fun q=>by rw [put_at,if_neg (by omega)];exact h.t5 (by rw [set_at,if_neg (by omega)] at q;exact q),fun q=>by rw [put_at,if_neg (by omega)];exact h.t6 (by rw [set_at,if_neg (by omega)] at q;exact q),fun q=>by rw [put_at,if_neg (by omega)];exact h.t7 (by rw [set_at,if_neg (by omega)] at q;exact q),fun q=>by rw [put_at,if_neg (by omega)];exact h.t10 (by rw [set_at,if_neg (by omega)] at q;exact q),h.A,h.G,(by obtain ⟨C,c1,c2,c3⟩:=h.R;exact ⟨C,c1,c2,fun q=>c3 (by rw [set_at,if_neg (by omega)] at q;exact q)⟩),(by obtain ⟨C,c1,c2,c3⟩:=h.D;exact ⟨C,c1,c2,fun q=>c3 (by rw [set_at,if_neg (by omega)] at q;exact q)⟩),h.o⟩
  ·have q0:l.getD 4 false=true:=by
    cases hop
    exact hpre ⟨4,.data⟩ (Array.mem_of_getElem? (i:=0) rfl) rfl
   refine wpOp_of rfl rfl ?_
   unfold Oper.wp
   rw [fa310 a.eval g _ w rfl (h.t4 q0)]
   show K12 g r0 r1 r2 B z tc w0 S0 KL NL DL (l.setIfInBounds 5 true) (a.put (some 53) (.pointer (some ⟨g,310,none⟩))) w
   exact ⟨by rw [put_size];exact h.sz,h.df,by rw [put_at,if_neg (by omega)];exact h.s5,by rw [put_at,if_neg (by omega)];exact h.s8,by rw [put_at,if_neg (by omega)];exact h.s9,by rw [put_at,if_neg (by omega)];exact h.s13,by rw [put_at,if_neg (by omega)];exact h.s14,fun q=>by rw [put_at,if_neg (by omega)];exact h.t0 (by rw [set_at,if_neg (by omega)] at q;exact q),fun q=>by rw [put_at,if_neg (by omega)];exact h.t1 (by rw [set_at,if_neg (by omega)] at q;exact q),fun q=>by rw [put_at,if_neg (by omega)];exact h.t2 (by rw [set_at,if_neg (by omega)] at q;exact q),fun q=>by rw [put_at,if_neg (by omega)];exact h.t3 (by rw [set_at,if_neg (by omega)] at q;exact q),fun q=>by rw [put_at,if_neg (by omega)];exact h.t4 (by rw [set_at,if_neg (by omega)] at q;exact q),fun _=>by rw [put_at,if_pos ⟨rfl,by rw [h.sz];decide⟩],fun q=>by rw [put_at,if_neg (by omega)];exact h.t6 (by rw [set_at,if_neg (by omega)] at q;exact q),fun q=>by rw [put_at,if_neg (by omega)];exact h.t7 (by rw [set_at,if_neg (by omega)] at q;exact q),fun q=>by rw [put_at,if_neg (by omega)];exact h.t10 (by rw [set_at,if_neg (by omega)] at q;exact q),h.A,h.G,(by obtain ⟨C,c1,c2,c3⟩:=h.R;exact ⟨C,c1,c2,fun q=>c3 (by rw [set_at,if_neg (by omega)] at q;exact q)⟩),(by obtain ⟨C,c1,c2,c3⟩:=h.D;exact ⟨C,c1,c2,fun q=>c3 (by rw [set_at,if_neg (by omega)] at q;exact q)⟩),h.o⟩
  ·have q0:l.getD 5 false=true:=by
    cases hop
    exact hpre ⟨5,.data⟩ (Array.mem_of_getElem? (i:=0) rfl) rfl
   refine wpOp_of rfl rfl ?_
   unfold Oper.wp
   rw [ld39 a.eval ⟨g,310,none⟩ tc _ w rfl (h.t5 q0) (by rw [Blk.cell h.G];exact hKC)]
   show K12 g r0 r1 r2 B z tc w0 S0 KL NL DL (l.setIfInBounds 6 true) (a.put (some 54) (tc)) w
   exact ⟨by rw [put_size];exact h.sz,h.df,by rw [put_at,if_neg (by omega)];exact h.s5,by rw [put_at,if_neg (by omega)];exact h.s8,by rw [put_at,if_neg (by omega)];exact h.s9,by rw [put_at,if_neg (by omega)];exact h.s13,by rw [put_at,if_neg (by omega)];exact h.s14,fun q=>by rw [put_at,if_neg (by omega)];exact h.t0 (by rw [set_at,if_neg (by omega)] at q;exact q),fun q=>by rw [put_at,if_neg (by omega)];exact h.t1 (by rw [set_at,if_neg (by omega)] at q;exact q),fun q=>by rw [put_at,if_neg (by omega)];exact h.t2 (by rw [set_at,if_neg (by omega)] at q;exact q),fun q=>by rw [put_at,if_neg (by omega)];exact h.t3 (by rw [set_at,if_neg (by omega)] at q;exact q),fun q=>by rw [put_at,if_neg (by omega)];exact h.t4 (by rw [set_at,if_neg (by omega)] at q;exact q),fun q=>by rw [put_at,if_neg (by omega)];exact h.t5 (by rw [set_at,if_neg (by omega)] at q;exact q),fun _=>by rw [put_at,if_pos ⟨rfl,by rw [h.sz];decide⟩],fun q=>by rw [put_at,if_neg (by omega)];exact h.t7 (by rw [set_at,if_neg (by omega)] at q;exact q),fun q=>by rw [put_at,if_neg (by omega)];exact h.t10 (by rw [set_at,if_neg (by omega)] at q;exact q),h.A,h.G,(by obtain ⟨C,c1,c2,c3⟩:=h.R;exact ⟨C,c1,c2,fun q=>c3 (by rw [set_at,if_neg (by omega)] at q;exact q)⟩),(by obtain ⟨C,c1,c2,c3⟩:=h.D;exact ⟨C,c1,c2,fun q=>c3 (by rw [set_at,if_neg (by omega)] at q;exact q)⟩),h.o⟩
  ·have q0:l.getD 3 false=true:=by
    cases hop
    exact hpre ⟨3,.data⟩ (Array.mem_of_getElem? (i:=0) rfl) rfl
   have q1:l.getD 6 false=true:=by
    cases hop
    exact hpre ⟨6,.data⟩ (Array.mem_of_getElem? (i:=1) rfl) rfl
   refine wpOp_of rfl rfl (wp_buildE 41 [(0,.tmp 51),(1,.tmp 54)] rfl DL.toArray ?_ ?_)
   ·show Tryz.prog.built 41 [(0,a.tmps.getD 51 undef),(1,a.tmps.getD 54 undef)]=_
    rw [h.t3 q0,h.t6 q1]
    exact hb41
   show K12 g r0 r1 r2 B z tc w0 S0 KL NL DL (l.setIfInBounds 7 true) (a.put (some 55) (.agg DL.toArray)) w
   exact ⟨by rw [put_size];exact h.sz,h.df,by rw [put_at,if_neg (by omega)];exact h.s5,by rw [put_at,if_neg (by omega)];exact h.s8,by rw [put_at,if_neg (by omega)];exact h.s9,by rw [put_at,if_neg (by omega)];exact h.s13,by rw [put_at,if_neg (by omega)];exact h.s14,fun q=>by rw [put_at,if_neg (by omega)];exact h.t0 (by rw [set_at,if_neg (by omega)] at q;exact q),fun q=>by rw [put_at,if_neg (by omega)];exact h.t1 (by rw [set_at,if_neg (by omega)] at q;exact q),fun q=>by rw [put_at,if_neg (by omega)];exact h.t2 (by rw [set_at,if_neg (by omega)] at q;exact q),fun q=>by rw [put_at,if_neg (by omega)];exact h.t3 (by rw [set_at,if_neg (by omega)] at q;exact q),fun q=>by rw [put_at,if_neg (by omega)];exact h.t4 (by rw [set_at,if_neg (by omega)] at q;exact q),fun q=>by rw [put_at,if_neg (by omega)];exact h.t5 (by rw [set_at,if_neg (by omega)] at q;exact q),fun q=>by rw [put_at,if_neg (by omega)];exact h.t6 (by rw [set_at,if_neg (by omega)] at q;exact q),fun _=>by rw [put_at,if_pos ⟨rfl,by rw [h.sz];decide⟩],fun q=>by rw [put_at,if_neg (by omega)];exact h.t10 (by rw [set_at,if_neg (by omega)] at q;exact q),h.A,h.G,(by obtain ⟨C,c1,c2,c3⟩:=h.R;exact ⟨C,c1,c2,fun q=>c3 (by rw [set_at,if_neg (by omega)] at q;exact q)⟩),(by obtain ⟨C,c1,c2,c3⟩:=h.D;exact ⟨C,c1,c2,fun q=>c3 (by rw [set_at,if_neg (by omega)] at q;exact q)⟩),h.o⟩
  ·have q0:l.getD 2 false=true:=by
    cases hop
    exact hpre ⟨2,.data⟩ (Array.mem_of_getElem? (i:=0) rfl) rfl
   obtain ⟨C,c1,c2,c3⟩:=h.R
   refine wpOp_of rfl rfl (wp_store_row 32 (.tmp 8) (.tmp 50) rfl r1 NL.toArray h.s8 (h.t2 q0) 32 C c1 (by rw [info32s,List.size_toArray,hN]) (by rw [c2,List.size_toArray,hN]) hN1 ?_)
   show K12 g r0 r1 r2 B z tc w0 S0 KL NL DL (l.setIfInBounds 8 true) a (w.setRow r1 NL.toArray)
   refine ⟨h.sz,h.df,h.s5,h.s8,h.s9,h.s13,h.s14,fun q=>h.t0 (by rw [set_at,if_neg (by omega)] at q;exact q),fun q=>h.t1 (by rw [set_at,if_neg (by omega)] at q;exact q),fun q=>h.t2 (by rw [set_at,if_neg (by omega)] at q;exact q),fun q=>h.t3 (by rw [set_at,if_neg (by omega)] at q;exact q),fun q=>h.t4 (by rw [set_at,if_neg (by omega)] at q;exact q),fun q=>h.t5 (by rw [set_at,if_neg (by omega)] at q;exact q),fun q=>h.t6 (by rw [set_at,if_neg (by omega)] at q;exact q),fun q=>h.t7 (by rw [set_at,if_neg (by omega)] at q;exact q),fun q=>h.t10 (by rw [set_at,if_neg (by omega)] at q;exact q),(only_row _ _ _).blk h01 h.A,(only_row _ _ _).blk (Ne.symm h1) h.G,⟨NL.toArray,blk_row c1 _,by rw [List.size_toArray,hN],fun _=>rfl⟩,?_,belo_setRow h.o hB1 hK1 _⟩
   obtain ⟨E,e1,e2,e3⟩:=h.D
   exact ⟨E,(only_row _ _ _).blk (Ne.symm h12) e1,e2,fun q=>e3 (by rw [set_at,if_neg (by omega)] at q;exact q)⟩
  ·have q0:l.getD 7 false=true:=by
    cases hop
    exact hpre ⟨7,.data⟩ (Array.mem_of_getElem? (i:=0) rfl) rfl
   obtain ⟨C,c1,c2,c3⟩:=h.D
   refine wpOp_of rfl rfl (wp_store_row 41 (.tmp 9) (.tmp 55) rfl r2 DL.toArray h.s9 (h.t7 q0) 41 C c1 (by rw [info41s,List.size_toArray,hD]) (by rw [c2,List.size_toArray,hD]) hD1 ?_)
   show K12 g r0 r1 r2 B z tc w0 S0 KL NL DL (l.setIfInBounds 9 true) a (w.setRow r2 DL.toArray)
   refine ⟨h.sz,h.df,h.s5,h.s8,h.s9,h.s13,h.s14,fun q=>h.t0 (by rw [set_at,if_neg (by omega)] at q;exact q),fun q=>h.t1 (by rw [set_at,if_neg (by omega)] at q;exact q),fun q=>h.t2 (by rw [set_at,if_neg (by omega)] at q;exact q),fun q=>h.t3 (by rw [set_at,if_neg (by omega)] at q;exact q),fun q=>h.t4 (by rw [set_at,if_neg (by omega)] at q;exact q),fun q=>h.t5 (by rw [set_at,if_neg (by omega)] at q;exact q),fun q=>h.t6 (by rw [set_at,if_neg (by omega)] at q;exact q),fun q=>h.t7 (by rw [set_at,if_neg (by omega)] at q;exact q),fun q=>h.t10 (by rw [set_at,if_neg (by omega)] at q;exact q),(only_row _ _ _).blk h02 h.A,(only_row _ _ _).blk (Ne.symm h2) h.G,?_,⟨DL.toArray,blk_row c1 _,by rw [List.size_toArray,hD],fun _=>rfl⟩,belo_setRow h.o hB2 hK2 _⟩
   obtain ⟨E,e1,e2,e3⟩:=h.R
   exact ⟨E,(only_row _ _ _).blk h12 e1,e2,fun q=>e3 (by rw [set_at,if_neg (by omega)] at q;exact q)⟩
  ·refine wpOp_of rfl rfl ?_
   show K12 g r0 r1 r2 B z tc w0 S0 KL NL DL (l.setIfInBounds 10 true) (a.put (some 10) (.int .i64 0)) w
   exact ⟨by rw [put_size];exact h.sz,h.df,by rw [put_at,if_neg (by omega)];exact h.s5,by rw [put_at,if_neg (by omega)];exact h.s8,by rw [put_at,if_neg (by omega)];exact h.s9,by rw [put_at,if_neg (by omega)];exact h.s13,by rw [put_at,if_neg (by omega)];exact h.s14,fun q=>by rw [put_at,if_neg (by omega)];exact h.t0 (by rw [set_at,if_neg (by omega)] at q;exact q),fun q=>by rw [put_at,if_neg (by omega)];exact h.t1 (by rw [set_at,if_neg (by omega)] at q;exact q),fun q=>by rw [put_at,if_neg (by omega)];exact h.t2 (by rw [set_at,if_neg (by omega)] at q;exact q),fun q=>by rw [put_at,if_neg (by omega)];exact h.t3 (by rw [set_at,if_neg (by omega)] at q;exact q),fun q=>by rw [put_at,if_neg (by omega)];exact h.t4 (by rw [set_at,if_neg (by omega)] at q;exact q),fun q=>by rw [put_at,if_neg (by omega)];exact h.t5 (by rw [set_at,if_neg (by omega)] at q;exact q),fun q=>by rw [put_at,if_neg (by omega)];exact h.t6 (by rw [set_at,if_neg (by omega)] at q;exact q),fun q=>by rw [put_at,if_neg (by omega)];exact h.t7 (by rw [set_at,if_neg (by omega)] at q;exact q),fun _=>by rw [put_at,if_pos ⟨rfl,by rw [h.sz];decide⟩],h.A,h.G,(by obtain ⟨C,c1,c2,c3⟩:=h.R;exact ⟨C,c1,c2,fun q=>c3 (by rw [set_at,if_neg (by omega)] at q;exact q)⟩),(by obtain ⟨C,c1,c2,c3⟩:=h.D;exact ⟨C,c1,c2,fun q=>c3 (by rw [set_at,if_neg (by omega)] at q;exact q)⟩),h.o⟩
 ·intro l a w hsz hr h
  have hsz11:l.size=11:=hsz
  have hall:=allB_at 11 _ ends12 l.toList (by simpa using hsz11)
  simp only [Array.toArray_toList,hr,List.isEmpty_nil,Bool.not_true,Bool.false_or] at hall
  have hat:∀ i,i<11→l.getD i false=true:=fun i hi=>by
   have hi':i<l.toList.length:=by simpa [hsz11] using hi
   have:=(List.all_eq_true.1 hall) l.toList[i] (List.getElem_mem hi')
   simpa [hsz11,hi] using this
  obtain ⟨C,c1,c2,c3⟩:=h.R
  obtain ⟨E,e1,e2,e3⟩:=h.D
  have hc:=c3 (hat 8 (by decide))
  have he:=e3 (hat 9 (by decide))
  subst hc he
  exact hQ a w h.df h.s8 h.s9 (h.t10 (hat 10 (by decide))) c1 e1 h.o
end Go.Proofs.YtnkoknfihhdelaaGreatDoor
namespace Go.Proofs.YtnkoknfihhdelaaGreatDoor
open Go.ChangeShapes Go.WideShapes Go.ChangeAt Go.RowKit
set_option linter.unusedVariables false
set_option maxRecDepth 100000
set_option maxHeartbeats 2000000
theorem c10_run3 (b:Nat) (s:St) (tm:Bool) (x cause:Nat) (M:Nat→Nat) (T:Nat→Bool) (Pk:Nat→WK→World→Prop) (w:World) (hm:Mem w b M T) (hh:s.halted=false) (hon:(tm&&s.on)=false) (hPk:∀ g k' W,Pk g k' W→∃ q l c,k'.d.tc=.slice q l c)
  (K30:∀ w1 g,w.heap.size+3≤g→Below w.heap.size w w1→Wk w1 g (wk0 (.pointer (some ⟨b,0,none⟩)) (s.put 0 nul) x)→Calls Tryz.prog 30 #[.pointer (some ⟨g,0,none⟩)] w1 fun e w'=>e=.returned (.int .u32 (cause:Int))∧∃ k',Pk g k' w'∧Wk w' g k'∧(∀ i,w.heap.size≤i→i<g→w'.heap[i]?=w1.heap[i]?)∧w1.heap.size≤w'.heap.size) :
  Calls Tryz.prog 10 #[.pointer (some ⟨b,0,none⟩),.agg s.L.toArray,.bool tm,.int .u32 (x:Int)] w fun e w'=>∃ k' w2 g,Pk g k' w2∧w.heap.size+3≤g∧g<w2.heap.size∧Belo w.heap.size g w2 w'∧e=.returned (.tuple #[.agg (stepS s cause k').L.toArray,.agg (stepD cause k').L.toArray,.int .i64 0]):=by
 have hb81:=b81 (some ⟨b,0,none⟩) (s.put 0 nul) x
 have h1K:=one81 (some ⟨b,0,none⟩) (s.put 0 nul) x
 have hput:putA s.L.toArray 0 nul.L=(s.put 0 nul).L.toArray:=s.putL 0 nul (by decide)
 have hsS:s.L.toArray.size=151:=by rw [List.size_toArray];exact s.len
 have hsS0:(s.put 0 nul).L.toArray.size=151:=by rw [List.size_toArray];exact St.len _
 have hsZ:st0.L.toArray.size=151:=by rw [List.size_toArray];exact st0.len
 have hsD:dn0.L.toArray.size=5:=rfl
 have hsW:wkz.L.toArray.size=314:=by rw [List.size_toArray];exact wkz.len
 have hsK:(wk0 (.pointer (some ⟨b,0,none⟩)) (s.put 0 nul) x).L.toArray.size=314:=by rw [List.size_toArray];exact WK.len _
 have hz:∀ W,(zeroValue 32).run Tryz.prog W=.ok (.agg st0.L.toArray) W:=z32
 have hz2:∀ W,(zeroValue 41).run Tryz.prog W=.ok (.agg dn0.L.toArray) W:=z41
 have hz3:∀ W,(zeroValue 81).run Tryz.prog W=.ok (.agg wkz.L.toArray) W:=z81
 have ht:∀ W:World,Blk W w.heap.size 32 (s.put 0 nul).L.toArray→W.cell? ⟨w.heap.size,148,none⟩=some (.bool s.on)∧W.cell? ⟨w.heap.size,150,none⟩=some (.bool false):=fun W h=>by
  have:=Sb.tail (s:=s.put 0 nul) h
  rw [←hh]
  exact ⟨this.2.1,this.2.2.2⟩
 have HT:=Lib.hid ht
 obtain ⟨SA,hSA⟩:∃ SA,s.L.toArray=SA:=⟨_,rfl⟩
 obtain ⟨S0,hS0⟩:∃ S0,(s.put 0 nul).L.toArray=S0:=⟨_,rfl⟩
 obtain ⟨ZA,hZA⟩:∃ ZA,st0.L.toArray=ZA:=⟨_,rfl⟩
 obtain ⟨DA,hDA⟩:∃ DA,dn0.L.toArray=DA:=⟨_,rfl⟩
 obtain ⟨WZ,hWZ⟩:∃ WZ,wkz.L.toArray=WZ:=⟨_,rfl⟩
 obtain ⟨KA,hKA⟩:∃ KA,(wk0 (.pointer (some ⟨b,0,none⟩)) (s.put 0 nul) x).L.toArray=KA:=⟨_,rfl⟩
 rw [hSA] at hput hsS
 rw [hS0] at hput hsS0 hb81 HT
 rw [hZA] at hsZ hz
 rw [hDA] at hsD hz2
 rw [hWZ] at hsW hz3
 rw [hKA] at hsK hb81 h1K
 have HK1:=Lib.hid h1K
 rw [hSA]
 have HK30:=Lib.hid K30
 have HKA:=Lib.hid hKA
 have HS0E:=Lib.hid hS0
 have HSS:=Lib.hid hsS
 have HSS0:=Lib.hid hsS0
 have HSZ:=Lib.hid hsZ
 have HSD:=Lib.hid hsD
 have HSW:=Lib.hid hsW
 have HSK:=Lib.hid hsK
 have HB81:=Lib.hid hb81
 have HPUT:=Lib.hid hput
 clear ht hSA hS0 hZA hDA hWZ hKA hb81 hput hsS hsS0 hsZ hsD hsW hsK K30 h1K
 have HA0:Hid (Blk (((w.alloc (.cells SA 32)).alloc (.cells ZA 32)).alloc (.cells DA 41)) w.heap.size 32 SA):=Lib.hid (((Blk.new w 32 SA).alloc _).alloc _)
 have HR0:Hid (Blk (((w.alloc (.cells SA 32)).alloc (.cells ZA 32)).alloc (.cells DA 41)) (w.heap.size+1) 32 ZA):=Lib.hid (by
  have:=(Blk.new (w.alloc (.cells SA 32)) 32 ZA).alloc (.cells DA 41)
  simpa using this)
 have HQ0:Hid (Blk (((w.alloc (.cells SA 32)).alloc (.cells ZA 32)).alloc (.cells DA 41)) (w.heap.size+2) 41 DA):=Lib.hid (by
  have:=Blk.new ((w.alloc (.cells SA 32)).alloc (.cells ZA 32)) 41 DA
  simpa using this)
 have HO0:Hid (Below w.heap.size w (((w.alloc (.cells SA 32)).alloc (.cells ZA 32)).alloc (.cells DA 41))):=Lib.hid ((((Below.refl _ _).alloc (Nat.le_refl _) _).alloc (by simp) _).alloc (by simp;omega) _)
 have HM0:Hid (Mem (((w.alloc (.cells SA 32)).alloc (.cells ZA 32)).alloc (.cells DA 41)) b M T):=Lib.hid (hm.below HO0.out hm.lt)
 have hsz0:(((w.alloc (.cells SA 32)).alloc (.cells ZA 32)).alloc (.cells DA 41)).heap.size=w.heap.size+3:=by simp
 have HSZ0:=Lib.hid hsz0
 clear hm hh hsz0
 go_enter Tryz.func10,Tryz.ntmps10
 go_upto_region 1 with fail
 generalize ((w.alloc (.cells SA 32)).alloc (.cells ZA 32)).alloc (.cells DA 41)=W at *
 go_wp2_with fail
 refine (mLoad b 0 1 M T W HM0.out (by decide)).mono ?_
 rintro _ _ ⟨rfl,rfl⟩
 go_wp2_with fail
 refine (Ca.c46 W).mono ?_
 rintro _ W1 ⟨rfl,hb1⟩
 have HA1:Hid (Blk W1 w.heap.size 32 SA):=Lib.hid (HA0.out.below hb1 HA0.out.lt)
 have HR1:Hid (Blk W1 (w.heap.size+1) 32 ZA):=Lib.hid (HR0.out.below hb1 HR0.out.lt)
 have HQ1:Hid (Blk W1 (w.heap.size+2) 41 DA):=Lib.hid (HQ0.out.below hb1 HQ0.out.lt)
 have hsz1:w.heap.size+3≤W1.heap.size:=by have:=hb1.size;rw [HSZ0.out] at this;exact this
 have HSZ1:=Lib.hid hsz1
 have HO1:Hid (Below w.heap.size w W1):=Lib.hid (HO0.out.trans (hb1.mono (by rw [HSZ0.out];omega)))
 clear hb1 HA0 HR0 HQ0 HO0 HM0 HSZ0 hsz1
 have HA2:Hid (Blk (W1.setRow w.heap.size S0) w.heap.size 32 S0):=Lib.hid (blk_row HA1.out _)
 have HR2:Hid (Blk (W1.setRow w.heap.size S0) (w.heap.size+1) 32 ZA):=Lib.hid ((only_row W1 w.heap.size S0).blk (by omega) HR1.out)
 have HQ2:Hid (Blk (W1.setRow w.heap.size S0) (w.heap.size+2) 41 DA):=Lib.hid ((only_row W1 w.heap.size S0).blk (by omega) HQ1.out)
 have HO2:Hid (Below w.heap.size w (W1.setRow w.heap.size S0)):=Lib.hid (below_setRow HO1.out (Nat.le_refl _) _)
 have HZ2:Hid (w.heap.size+3≤(W1.setRow w.heap.size S0).heap.size):=Lib.hid (by have:=HSZ1.out;simpa [World.setRow] using this)
 obtain ⟨ht1,ht2⟩:=HT.out _ HA2.out
 have hput':putA SA 0 (#[Value.bool nul.g,.int .u32 (nul.a:Int),.int .u8 (nul.p:Int),.int .u8 (nul.y:Int),.int .u8 (nul.e:Int),.int .u16 (nul.b:Int),.int .u16 (nul.t:Int)]).toList=S0:=HPUT.out
 go_upto_region 5 with (refine wpList_store_sub rfl 29 (.tmp 27) (.tmp 25) rfl w.heap.size 0 #[.bool nul.g,.int .u32 (nul.a:Int),.int .u8 (nul.p:Int),.int .u8 (nul.y:Int),.int .u8 (nul.e:Int),.int .u16 (nul.b:Int),.int .u16 (nul.t:Int)] rfl rfl 32 SA HA1.out info29s (by rw [HSS.out];decide) (arr_all nul) ?_;rw [hput'])
 clear hput' HA1 HR1 HQ1 HO1 HSZ1
 generalize W1.setRow w.heap.size S0=W2 at *
 go_upto_region 7 with fail
 go_cut [36] from 32 to 36 (fun c wx=>c=Value.bool false∧wx=W2)
 case first =>
  cases tm
  ·go_wp2_with fail
   go_meet
   exact ⟨rfl,rfl⟩
  ·have hon':s.on=false:=by simpa using hon
   rw [hon'] at ht1
   go_wp2_with fail
   go_meet
   exact ⟨rfl,rfl⟩
 case rest =>
 obtain ⟨rfl,rfl⟩:=hcut
 have HB1:=Blk.new wc 81 WZ
 have hW3:Blk ((wc.alloc (.cells WZ 81)).setRow wc.heap.size KA) wc.heap.size 81 KA:=blk_row HB1 _
 have HW3:Hid (Wk ((wc.alloc (.cells WZ 81)).setRow wc.heap.size KA) wc.heap.size (wk0 (.pointer (some ⟨b,0,none⟩)) (s.put 0 nul) x)):=Lib.hid (by unfold Wk;rw [HKA.out];exact hW3)
 have HO3:Hid (Below w.heap.size w ((wc.alloc (.cells WZ 81)).setRow wc.heap.size KA)):=Lib.hid (below_setRow (HO2.out.alloc (by have:=HZ2.out;omega) _) (by have:=HZ2.out;omega) _)
 have HA3:Hid (Blk ((wc.alloc (.cells WZ 81)).setRow wc.heap.size KA) w.heap.size 32 S0):=Lib.hid ((only_row _ wc.heap.size KA).blk (by have:=HZ2.out;omega) (HA2.out.alloc _))
 have HR3:Hid (Blk ((wc.alloc (.cells WZ 81)).setRow wc.heap.size KA) (w.heap.size+1) 32 ZA):=Lib.hid ((only_row _ wc.heap.size KA).blk (by have:=HZ2.out;omega) (HR2.out.alloc _))
 have HQ3:Hid (Blk ((wc.alloc (.cells WZ 81)).setRow wc.heap.size KA) (w.heap.size+2) 41 DA):=Lib.hid ((only_row _ wc.heap.size KA).blk (by have:=HZ2.out;omega) (HQ2.out.alloc _))
 have HZ3:Hid (wc.heap.size<((wc.alloc (.cells WZ 81)).setRow wc.heap.size KA).heap.size):=Lib.hid HW3.out.lt
 have HBB:=Lib.hid HB1
 clear HB1 hW3
 go_upto_region 10 with (first
  | (refine wpList_load_row rfl 32 (.tmp 5) rfl w.heap.size rfl 32 S0 (0,0) _ HA2.out Tryz.underlying32 rfl (by rw [info32s,HSS0.out]) ?_)
  | (refine wpList_buildE rfl 81 [(0,.tmp 40),(1,.tmp 41),(2,.tmp 42),(4,.tmp 43)] rfl KA ?_ ?_;exact HB81.out)
  | (refine wpList_store_row rfl 81 (.tmp 13) (.tmp 44) rfl wc.heap.size KA rfl rfl 81 WZ HBB.out (by rw [info81s,HSK.out]) (by rw [HSW.out,HSK.out]) HK1.out ?_))
 have hg3:w.heap.size+3≤wc.heap.size:=HZ2.out
 generalize hW:(wc.alloc (.cells WZ 81)).setRow wc.heap.size KA=W3 at *
 obtain ⟨g,hg⟩:∃ g,wc.heap.size=g:=⟨_,rfl⟩
 rw [hg] at HW3 HZ3 hg3
 go_wp2_with fail
 refine (HK30.out W3 g hg3 HO3.out HW3.out).mono ?_
 rintro _ W4 ⟨rfl,k',hk',hw4,hkeep,hsz4⟩
 have HK4:=Lib.hid hw4
 have HPK:=Lib.hid hk'
 have HA4:Hid (Blk W4 w.heap.size 32 S0):=Lib.hid ((hkeep _ (by omega) (by omega)).trans HA3.out)
 have HR4:Hid (Blk W4 (w.heap.size+1) 32 ZA):=Lib.hid ((hkeep _ (by omega) (by omega)).trans HR3.out)
 have HQ4:Hid (Blk W4 (w.heap.size+2) 41 DA):=Lib.hid ((hkeep _ (by omega) (by omega)).trans HQ3.out)
 have hlt:w.heap.size+3≤W4.heap.size:=by have:=hw4.lt;omega
 have HLT:=Lib.hid hlt
 have HG:=Lib.hid hg3
 clear hw4 hkeep hsz4 hlt HA3 HR3 HQ3 HO3 HZ3 HW3 HBB HA2 HR2 HQ2 HO2 HZ2 ht1 ht2 HK30 hW hg hg3 hk'
 obtain ⟨tq,tl,tcc,htc⟩:=hPk g k' W4 HPK.out
 clear hPk
 by_cases hc:cause=0
 ·subst hc
  go_upto_region 13 with fail
  go_wp2_with fail
  refine (Ca.c46 W4).mono ?_
  rintro _ W5 ⟨rfl,hb5⟩
  have hG5:Wk W5 g k':=HK4.out.below hb5 HK4.out.lt
  have HG5:=Lib.hid hG5
  have HP6:=Lib.hid (k'.putN_L 0 nul (by decide))
  have HG6:Hid (Blk (W5.setRow g (k'.putN 0 nul).L.toArray) g 81 (k'.putN 0 nul).L.toArray):=Lib.hid (blk_row hG5 _)
  have HR6:Hid (Blk (W5.setRow g (k'.putN 0 nul).L.toArray) (w.heap.size+1) 32 ZA):=Lib.hid ((only_row W5 g _).blk (by have:=HG.out;omega) (HR4.out.below hb5 HR4.out.lt))
  have HQ6:Hid (Blk (W5.setRow g (k'.putN 0 nul).L.toArray) (w.heap.size+2) 41 DA):=Lib.hid ((only_row W5 g _).blk (by have:=HG.out;omega) (HQ4.out.below hb5 HQ4.out.lt))
  have HO6:Hid (Belo w.heap.size g W4 (W5.setRow g (k'.putN 0 nul).L.toArray)):=Lib.hid (belo_setRow (Belo.of hb5 (by have:=HLT.out;omega)) (by have:=HG.out;omega) (Nat.le_refl _) _)
  have hput':putA k'.L.toArray 152 (#[Value.bool nul.g,.int .u32 (nul.a:Int),.int .u8 (nul.p:Int),.int .u8 (nul.y:Int),.int .u8 (nul.e:Int),.int .u16 (nul.b:Int),.int .u16 (nul.t:Int)]).toList=(k'.putN 0 nul).L.toArray:=HP6.out
  have hk6:∀ j v,(k'.N.put 0 nul).L[j]?=some v→(k'.putN 0 nul).L.toArray[152+j]?=some v:=(k'.putN 0 nul).rowN
  have hk7:∀ j v,k'.d.L[j]?=some v→(k'.putN 0 nul).L.toArray[309+j]?=some v:=(k'.putN 0 nul).rowD
  have HD1:=Lib.hid (dn_one k'.d tq tl tcc htc)
  have HDL:Hid (k'.d.L.length=5):=Lib.hid rfl
  have hlen:k'.L.toArray.size=314:=by rw [List.size_toArray];exact k'.len
  have HLEN:=Lib.hid hlen
  have HI4:=Lib.hid (info41len k'.d)
  have HE1:Hid (stepS s 0 k'=k'.N.put 0 nul):=Lib.hid rfl
  have HE2:Hid (stepD 0 k'=k'.d):=Lib.hid rfl
  obtain ⟨DL,hDL⟩:∃ DL,k'.d.L=DL:=⟨_,rfl⟩
  obtain ⟨NL,hNL⟩:∃ NL,(k'.N.put 0 nul).L=NL:=⟨_,rfl⟩
  obtain ⟨KL,hKL⟩:∃ KL,(k'.putN 0 nul).L.toArray=KL:=⟨_,rfl⟩
  have hNlen:NL.length=151:=by rw [←hNL];exact St.len _
  have hN1:NL.toArray.all (·.oneCell')=true:=by rw [←hNL];exact St.one _
  rw [hKL] at HG6 HR6 HQ6 HO6 hput' hk6 hk7
  rw [hNL] at hk6
  rw [hDL] at hk7 HD1 HDL HI4
  have HK6:=Lib.hid hk6
  have HK7:=Lib.hid hk7
  have HNL:=Lib.hid hNlen
  have HN1:=Lib.hid hN1
  have HEN:=Lib.hid hNL
  have HED:=Lib.hid hDL
  clear hk6 hk7 hNlen hN1 hNL hDL hKL hlen hb5 hG5
  go_upto_region 14 with (refine wpList_store_sub rfl 29 (.tmp 59) (.tmp 56) rfl g 152 #[.bool nul.g,.int .u32 (nul.a:Int),.int .u8 (nul.p:Int),.int .u8 (nul.y:Int),.int .u8 (nul.e:Int),.int .u16 (nul.b:Int),.int .u16 (nul.t:Int)] rfl rfl 81 k'.L.toArray HG5.out info29s (by rw [HLEN.out];decide) (arr_all nul) ?_;rw [hput'])
  generalize W5.setRow g KL=W6 at *
  have hgo:=HG.out
  refine tailk14 g (w.heap.size+1) (w.heap.size+2) w.heap.size W4 KL ZA DA NL DL _ _ _ (by omega) (by omega) (by omega) (by omega) (by omega) (by omega) (by omega) HNL.out HDL.out HN1.out HD1.out HK6.out HK7.out rfl rfl rfl rfl rfl HG6.out HR6.out HSZ.out HQ6.out HSD.out HO6.out ?_
  intro a' w' df' q8 q9 q10 b8 b9 ob
  refine ‹∀ (a:Act) (w:World),Code.wp Tryz.prog Code.ret _ a w→_› a' w' ?_
  go_wp2_with fail
  exact bodyPost_ret (results_cct (fn:=Tryz.f10) (r:=10) rfl _ _ (w.heap.size+1) (w.heap.size+2) _ _ NL.toArray DL.toArray _ _ _ _ _ q8 b8 Tryz.underlying32 rfl (by rw [info32s,List.size_toArray,HNL.out]) q9 b9 Tryz.underlying41 rfl (by rw [info41s,List.size_toArray,HDL.out]) q10) df' ⟨k',W4,g,HPK.out,HG.out,HK4.out.lt,ob,by rw [HE1.out,HE2.out,HEN.out,HED.out]⟩
 ·have hk310:k'.L.toArray[309+1]?=some (.slice tq tl tcc):=k'.rowD 1 (.slice tq tl tcc) (by show some k'.d.tc=_;rw [htc])
  have HK310:=Lib.hid hk310
  have HE1:Hid (stepS s cause k'=trp (s.put 0 nul) cause):=Lib.hid (if_neg hc)
  have he2:stepD cause k'=⟨cause,k'.d.tc,false,0,0⟩:=if_neg hc
  rw [htc] at he2
  have HE2:=Lib.hid he2
  have hkA:=b41c cause tq tl tcc
  have hD1:=dn_one ⟨cause,.slice tq tl tcc,false,0,0⟩ tq tl tcc rfl
  have hDL:(⟨cause,.slice tq tl tcc,false,0,0⟩:Dn).L.length=5:=rfl
  have K29:∀ W,Calls Tryz.prog 29 #[.agg S0,.int .u32 (cause:Int)] W fun e w'=>e=.returned (.agg (trp (s.put 0 nul) cause).L.toArray)∧Below W.heap.size W w':=fun W=>by rw [←HS0E.out];exact c29 (s.put 0 nul) cause W
  obtain ⟨NL,hNL⟩:∃ NL,(trp (s.put 0 nul) cause).L=NL:=⟨_,rfl⟩
  obtain ⟨DL,hDL'⟩:∃ DL,(⟨cause,.slice tq tl tcc,false,0,0⟩:Dn).L=DL:=⟨_,rfl⟩
  have hNlen:NL.length=151:=by rw [←hNL];exact St.len _
  have hN1:NL.toArray.all (·.oneCell')=true:=by rw [←hNL];exact St.one _
  rw [hNL] at K29
  rw [hDL'] at hkA hD1 hDL
  have HKB:=Lib.hid hkA
  have HD1:=Lib.hid hD1
  have HDL:=Lib.hid hDL
  have HNL:=Lib.hid hNlen
  have HN1:=Lib.hid hN1
  have HEN:=Lib.hid hNL
  have HED:=Lib.hid hDL'
  have H29:=Lib.hid K29
  have HG4:Hid (Blk W4 g 81 k'.L.toArray):=Lib.hid HK4.out
  obtain ⟨KL,hKL⟩:∃ KL,k'.L.toArray=KL:=⟨_,rfl⟩
  rw [hKL] at HG4 HK310
  clear hk310 he2 hkA hD1 hDL hNlen hN1 hNL hDL' K29 hKL
  have hci:¬ (cause:Int)=0:=by omega
  have hcb:((cause:Int) != 0)=true:=by simp [hc]
  go_upto_region 12 with fail
  have hgo:=HG.out
  refine tailk12 g w.heap.size (w.heap.size+1) (w.heap.size+2) w.heap.size cause (.slice tq tl tcc) W4 S0 KL ZA DA NL DL _ _ _ (by omega) (by omega) (by omega) (by omega) (by omega) (by omega) (by omega) (by omega) (by omega) HNL.out HDL.out HN1.out HD1.out HSS0.out HK310.out HKB.out H29.out rfl rfl rfl rfl rfl rfl rfl HA4.out HG4.out HR4.out HSZ.out HQ4.out HSD.out (Belo.refl _ _ _) ?_
  intro a' w' df' q8 q9 q10 b8 b9 ob
  refine ‹∀ (a:Act) (w:World),Code.wp Tryz.prog Code.ret _ a w→_› a' w' ?_
  go_wp2_with fail
  exact bodyPost_ret (results_cct (fn:=Tryz.f10) (r:=10) rfl _ _ (w.heap.size+1) (w.heap.size+2) _ _ NL.toArray DL.toArray _ _ _ _ _ q8 b8 Tryz.underlying32 rfl (by rw [info32s,List.size_toArray,HNL.out]) q9 b9 Tryz.underlying41 rfl (by rw [info41s,List.size_toArray,HDL.out]) q10) df' ⟨k',W4,g,HPK.out,HG.out,HK4.out.lt,ob,by rw [HE1.out,HE2.out,HEN.out,HED.out]⟩
end Go.Proofs.YtnkoknfihhdelaaGreatDoor
namespace Go.Proofs.YtnkoknfihhdelaaGreatDoor
open Go.ChangeShapes Go.WideShapes Go.ChangeAt Go.RowKit
set_option linter.unusedVariables false
set_option maxRecDepth 100000
theorem Belo.row {B g b0 e sz n:Nat} {w0 w:World} {v:Value} {xs:List Value} (h:Belo B g w0 w) (hr:w0.ownsRow b0 e sz v n xs) (hg:g<b0):w.ownsRow b0 e sz v n xs:=by
 refine ⟨hr.1,?_⟩
 rcases hr.2 with hn | ⟨q,cap,cur,rfl,hb,hgg,rest⟩
 ·exact .inl hn
 ·refine .inr ⟨q,cap,cur,rfl,hb,?_,rest⟩
  rw [h.k q (by omega) (Array.getElem?_eq_some_iff.1 hgg).1]
  exact hgg
theorem fit_put (s:St) (hf:∀ i,(s.c i).fit):∀ i,((s.put 0 nul).c i).fit:=by
 intro i
 show (upd s.c 0 nul i).fit
 unfold upd
 split
 ·exact ⟨by decide,by decide,by decide,by decide,by decide,by decide⟩
 ·exact hf i
theorem AttR.slice {k k':WK} {M M':Nat→Nat} {T T':Nat→Bool} {aD:Nat→Nat→Nat→Nat} {aI:Nat→Nat→Nat→Bool} {v:Value} {m':Nat} {xs':List Value} {g b:Nat} {w W:World} (h:Att g b w W k' v m' xs' M' T'):∃ q l c,k'.d.tc=.slice q l c:=by
 rw [h.tc]
 exact tc_slice h.row
structure Stepped (b:Nat) (w w':World) (v:Value) (m:Nat) (xs:List Value) (M:Nat→Nat) (T:Nat→Bool):Prop where
 row:w'.ownsRow w.heap.size 59 3 v m xs
 mem:Mem w' b M T
 os:w'.os=w.os
 tape:w'.tape=w.tape
 output:w'.output=w.output
 size:w.heap.size≤w'.heap.size
 block:∀ i,i<w.heap.size→i≠b→w'.heap[i]?=w.heap[i]?
theorem c10_go (b:Nat) (s:St) (tm:Bool) (x:Nat) (k:WK) (M:Nat→Nat) (T:Nat→Bool) (aD:Nat→Nat→Nat→Nat) (aI:Nat→Nat→Nat→Bool) (w:World) (hm:Mem w b M T) (hM:∀ i,M i<256) (hh:s.halted=false) (hon:(tm&&s.on)=false) (hf:∀ i,(s.c i).fit) (hgl:In.Glob w) (hg3:3≤w.heap.size) (hA:AluOk aD aI) (hk:wk0 (.pointer (some ⟨b,0,none⟩)) (s.put 0 nul) x=k) :
  Calls Tryz.prog 10 #[.pointer (some ⟨b,0,none⟩),.agg s.L.toArray,.bool tm,.int .u32 (x:Int)] w fun e w'=>∃ k' v m' xs' M' T',AttR k M T aD aI k' v m' xs' M' T'∧k'.d.tc=v∧Stepped b w w' v m' xs' M' T'∧e=.returned (.tuple #[.agg (stepS s (k.cs M) k').L.toArray,.agg (stepD (k.cs M) k').L.toArray,.int .i64 0]):=by
 have hlb:=hm.lt
 have hkA:∀ i,(k.A.c i).fit:=by
  rw [←hk]
  exact fit_put s hf
 have hkm:k.mp=.pointer (some ⟨b,0,none⟩):=by rw [←hk];rfl
 have hkt:k.d.tc=.slice none 0 0:=by rw [←hk];rfl
 refine (c10_run3 b s tm x (k.cs M) M T (fun g k' W=>∃ w1 v m' xs' M' T',Below w.heap.size w w1∧g<w1.heap.size∧Att g b w1 W k' v m' xs' M' T'∧AttR k M T aD aI k' v m' xs' M' T') w hm hh hon ?_ ?_).mono ?_
 ·rintro g k' W ⟨w1,v,m',xs',M',T',_,_,h,_⟩
  rw [h.tc]
  exact tc_slice h.row
 ·intro w1 g hg hb hw
  rw [hk] at hw
  refine (c30_all g b k M T aD aI w1 hw hkm (hm.below hb hlb) hM (by omega) hkt (hgl.below hb hg3) (by omega) hkA hA).mono ?_
  rintro e w' ⟨rfl,k',v,m',xs',M',T',h1,h2⟩
  exact ⟨rfl,k',⟨w1,v,m',xs',M',T',hb,hw.lt,h1,h2⟩,h1.wk,fun i h3 h4=>h1.block i (by have:=hw.lt;omega) (by omega) (by omega),h1.size⟩
 ·rintro e w' ⟨k',w2,g,⟨w1,v,m',xs',M',T',hb,hlt,h1,h2⟩,hg,hg2,hbo,rfl⟩
  refine ⟨k',v,m',xs',M',T',h2,h1.tc,⟨(hbo.row h1.row (by omega)).mono (by have:=hb.size;omega),h1.mem.below hbo.b hlb,?_,?_,?_,?_,?_⟩,rfl⟩
  ·rw [hbo.b.os,h1.os,hb.os]
  ·rw [hbo.b.tape,h1.tape,hb.tape]
  ·rw [hbo.b.output,h1.output,hb.output]
  ·have:=hbo.b.size;have:=h1.size;have:=hb.size;omega
  ·intro i hi hib
   rw [hbo.b.block i hi,h1.block i (by have:=hb.size;omega) (by omega) hib,hb.block i hi]
end Go.Proofs.YtnkoknfihhdelaaGreatDoor
namespace Go.Proofs.YtnkoknfihhdelaaGreatDoor
open Go.ChangeShapes Go.WideShapes Go.ChangeAt Go.RowKit
set_option linter.unusedVariables false
set_option maxRecDepth 100000
set_option maxHeartbeats 2000000
def dnT:Dn:=⟨2147483655,.slice none 0 0,false,0,0⟩
theorem dnT_one:dnT.L.toArray.all (·.oneCell')=true:=dn_one dnT none 0 0 rfl
theorem b41t:Tryz.prog.built 41 [(0,.int .u32 2147483655)]=some dnT.L.toArray:=by kernel_rfl
theorem c10_timer (b:Nat) (s:St) (x:Nat) (M:Nat→Nat) (T:Nat→Bool) (w:World) (hm:Mem w b M T) (hh:s.halted=false) (hon:s.on=true) :
  Calls Tryz.prog 10 #[.pointer (some ⟨b,0,none⟩),.agg s.L.toArray,.bool true,.int .u32 (x:Int)] w fun e w'=>Below w.heap.size w w'∧e=.returned (.tuple #[.agg (trp (s.put 0 nul) 2147483655).L.toArray,.agg dnT.L.toArray,.int .i64 0]):=by
 have hput:putA s.L.toArray 0 nul.L=(s.put 0 nul).L.toArray:=s.putL 0 nul (by decide)
 have hsS:s.L.toArray.size=151:=by rw [List.size_toArray];exact s.len
 have hsS0:(s.put 0 nul).L.toArray.size=151:=by rw [List.size_toArray];exact St.len _
 have hsZ:st0.L.toArray.size=151:=by rw [List.size_toArray];exact st0.len
 have hsD:dn0.L.toArray.size=5:=rfl
 have hz:∀ W,(zeroValue 32).run Tryz.prog W=.ok (.agg st0.L.toArray) W:=z32
 have hz2:∀ W,(zeroValue 41).run Tryz.prog W=.ok (.agg dn0.L.toArray) W:=z41
 have ht:∀ W:World,Blk W w.heap.size 32 (s.put 0 nul).L.toArray→W.cell? ⟨w.heap.size,148,none⟩=some (.bool s.on)∧W.cell? ⟨w.heap.size,150,none⟩=some (.bool false):=fun W h=>by
  have:=Sb.tail (s:=s.put 0 nul) h
  rw [←hh]
  exact ⟨this.2.1,this.2.2.2⟩
 have HT:=Lib.hid ht
 have h1S:=St.one (s.put 0 nul)
 have h1D:=dn0_one
 have hb2:Tryz.prog.built 41 []=some dn0.L.toArray:=b41
 obtain ⟨SA,hSA⟩:∃ SA,s.L.toArray=SA:=⟨_,rfl⟩
 obtain ⟨S0,hS0⟩:∃ S0,(s.put 0 nul).L.toArray=S0:=⟨_,rfl⟩
 obtain ⟨ZA,hZA⟩:∃ ZA,st0.L.toArray=ZA:=⟨_,rfl⟩
 obtain ⟨DA,hDA⟩:∃ DA,dn0.L.toArray=DA:=⟨_,rfl⟩
 rw [hSA] at hput hsS
 rw [hS0] at hput hsS0 HT h1S
 rw [hZA] at hsZ hz
 rw [hDA] at hsD hz2 h1D hb2
 rw [hSA]
 have HS0E:=Lib.hid hS0
 have HSS:=Lib.hid hsS
 have HSS0:=Lib.hid hsS0
 have HSZ:=Lib.hid hsZ
 have HSD:=Lib.hid hsD
 have HPUT:=Lib.hid hput
 have K29:∀ W,Calls Tryz.prog 29 #[.agg S0,.int .u32 2147483655] W fun e w'=>e=.returned (.agg (trp (s.put 0 nul) 2147483655).L.toArray)∧Below W.heap.size W w':=fun W=>by
  have q:=c29 (s.put 0 nul) 2147483655 W
  rw [hS0] at q
  exact q
 have h1N:=St.one (trp (s.put 0 nul) 2147483655)
 have hsN:(trp (s.put 0 nul) 2147483655).L.toArray.size=151:=by rw [List.size_toArray];exact St.len _
 have h1F:dnT.L.toArray.all (·.oneCell')=true:=dnT_one
 have hsF:dnT.L.toArray.size=5:=rfl
 have hb3:Tryz.prog.built 41 [(0,.int .u32 2147483655)]=some dnT.L.toArray:=b41t
 obtain ⟨NA,hNA⟩:∃ NA,(trp (s.put 0 nul) 2147483655).L.toArray=NA:=⟨_,rfl⟩
 obtain ⟨FA,hFA⟩:∃ FA,dnT.L.toArray=FA:=⟨_,rfl⟩
 rw [hNA] at K29 h1N hsN
 rw [hFA] at h1F hsF hb3
 have HNE:=Lib.hid hNA
 have HFE:=Lib.hid hFA
 have HN1:=Lib.hid h1N
 have HNS:=Lib.hid hsN
 have HF1:=Lib.hid h1F
 have HFS:=Lib.hid hsF
 have HB3:=Lib.hid hb3
 have H29:=Lib.hid K29
 clear K29 h1N hsN h1F hsF hb3 hNA hFA
 have HS1:=Lib.hid h1S
 have HD1:=Lib.hid h1D
 have HB2:=Lib.hid hb2
 have HDE:=Lib.hid hDA
 clear h1S h1D hb2 ht hSA hS0 hZA hDA hput hsS hsS0 hsZ hsD
 have HA0:Hid (Blk (((w.alloc (.cells SA 32)).alloc (.cells ZA 32)).alloc (.cells DA 41)) w.heap.size 32 SA):=Lib.hid (((Blk.new w 32 SA).alloc _).alloc _)
 have HR0:Hid (Blk (((w.alloc (.cells SA 32)).alloc (.cells ZA 32)).alloc (.cells DA 41)) (w.heap.size+1) 32 ZA):=Lib.hid (by
  have:=(Blk.new (w.alloc (.cells SA 32)) 32 ZA).alloc (.cells DA 41)
  simpa using this)
 have HQ0:Hid (Blk (((w.alloc (.cells SA 32)).alloc (.cells ZA 32)).alloc (.cells DA 41)) (w.heap.size+2) 41 DA):=Lib.hid (by
  have:=Blk.new ((w.alloc (.cells SA 32)).alloc (.cells ZA 32)) 41 DA
  simpa using this)
 have HO0:Hid (Below w.heap.size w (((w.alloc (.cells SA 32)).alloc (.cells ZA 32)).alloc (.cells DA 41))):=Lib.hid ((((Below.refl _ _).alloc (Nat.le_refl _) _).alloc (by simp) _).alloc (by simp;omega) _)
 have HM0:Hid (Mem (((w.alloc (.cells SA 32)).alloc (.cells ZA 32)).alloc (.cells DA 41)) b M T):=Lib.hid (hm.below HO0.out hm.lt)
 have hsz0:(((w.alloc (.cells SA 32)).alloc (.cells ZA 32)).alloc (.cells DA 41)).heap.size=w.heap.size+3:=by simp
 have HSZ0:=Lib.hid hsz0
 clear hm hh hsz0
 go_enter Tryz.func10,Tryz.ntmps10
 go_upto_region 1 with fail
 generalize ((w.alloc (.cells SA 32)).alloc (.cells ZA 32)).alloc (.cells DA 41)=W at *
 go_wp2_with fail
 refine (mLoad b 0 1 M T W HM0.out (by decide)).mono ?_
 rintro _ _ ⟨rfl,rfl⟩
 go_wp2_with fail
 refine (Ca.c46 W).mono ?_
 rintro _ W1 ⟨rfl,hb1⟩
 have HA1:Hid (Blk W1 w.heap.size 32 SA):=Lib.hid (HA0.out.below hb1 HA0.out.lt)
 have HR1:Hid (Blk W1 (w.heap.size+1) 32 ZA):=Lib.hid (HR0.out.below hb1 HR0.out.lt)
 have HQ1:Hid (Blk W1 (w.heap.size+2) 41 DA):=Lib.hid (HQ0.out.below hb1 HQ0.out.lt)
 have hsz1:w.heap.size+3≤W1.heap.size:=by have:=hb1.size;rw [HSZ0.out] at this;exact this
 have HSZ1:=Lib.hid hsz1
 have HO1:Hid (Below w.heap.size w W1):=Lib.hid (HO0.out.trans (hb1.mono (by rw [HSZ0.out];omega)))
 clear hb1 HA0 HR0 HQ0 HO0 HM0 HSZ0 hsz1
 have HA2:Hid (Blk (W1.setRow w.heap.size S0) w.heap.size 32 S0):=Lib.hid (blk_row HA1.out _)
 have HR2:Hid (Blk (W1.setRow w.heap.size S0) (w.heap.size+1) 32 ZA):=Lib.hid ((only_row W1 w.heap.size S0).blk (by omega) HR1.out)
 have HQ2:Hid (Blk (W1.setRow w.heap.size S0) (w.heap.size+2) 41 DA):=Lib.hid ((only_row W1 w.heap.size S0).blk (by omega) HQ1.out)
 have HO2:Hid (Below w.heap.size w (W1.setRow w.heap.size S0)):=Lib.hid (below_setRow HO1.out (Nat.le_refl _) _)
 have HZ2:Hid (w.heap.size+3≤(W1.setRow w.heap.size S0).heap.size):=Lib.hid (by have:=HSZ1.out;simpa [World.setRow] using this)
 obtain ⟨ht1,ht2⟩:=HT.out _ HA2.out
 have hput':putA SA 0 (#[Value.bool nul.g,.int .u32 (nul.a:Int),.int .u8 (nul.p:Int),.int .u8 (nul.y:Int),.int .u8 (nul.e:Int),.int .u16 (nul.b:Int),.int .u16 (nul.t:Int)]).toList=S0:=HPUT.out
 go_upto_region 5 with (refine wpList_store_sub rfl 29 (.tmp 27) (.tmp 25) rfl w.heap.size 0 #[.bool nul.g,.int .u32 (nul.a:Int),.int .u8 (nul.p:Int),.int .u8 (nul.y:Int),.int .u8 (nul.e:Int),.int .u16 (nul.b:Int),.int .u16 (nul.t:Int)] rfl rfl 32 SA HA1.out info29s (by rw [HSS.out];decide) (arr_all nul) ?_;rw [hput'])
 clear hput' HA1 HR1 HQ1 HO1 HSZ1
 generalize W1.setRow w.heap.size S0=W2 at *
 go_upto_region 7 with fail
 rw [hon] at ht1
 go_cut [36] from 32 to 36 (fun c wx=>c=Value.bool true∧wx=W2)
 case first =>
  go_wp2_with fail
  go_meet
  exact ⟨rfl,rfl⟩
 case rest =>
 obtain ⟨rfl,rfl⟩:=hcut
 go_wp2_with (first
  | (refine wpList_load_row rfl 32 (.tmp 5) rfl w.heap.size rfl 32 S0 (0,0) _ HA2.out Tryz.underlying32 rfl (by rw [info32s,HSS0.out]) ?_))
 refine (H29.out wc).mono ?_
 rintro _ w3 ⟨rfl,hb3⟩
 have HR2':Hid (Blk w3 (w.heap.size+1) 32 ZA):=Lib.hid (HR2.out.below hb3 HR2.out.lt)
 have HQ2':Hid (Blk w3 (w.heap.size+2) 41 DA):=Lib.hid (HQ2.out.below hb3 HQ2.out.lt)
 have HO2':Hid (Below w.heap.size w w3):=Lib.hid (HO2.out.trans (hb3.mono (by have:=HZ2.out;omega)))
 have HR3:Hid (Blk (w3.setRow (w.heap.size+1) NA) (w.heap.size+1) 32 NA):=Lib.hid (blk_row HR2'.out _)
 have HA3:Hid (Blk (w3.setRow (w.heap.size+1) NA) (w.heap.size+2) 41 DA):=Lib.hid ((only_row w3 (w.heap.size+1) NA).blk (by omega) HQ2'.out)
 have HR4:Hid (Blk ((w3.setRow (w.heap.size+1) NA).setRow (w.heap.size+2) FA) (w.heap.size+1) 32 NA):=Lib.hid ((only_row _ (w.heap.size+2) FA).blk (by omega) HR3.out)
 have HQ4:Hid (Blk ((w3.setRow (w.heap.size+1) NA).setRow (w.heap.size+2) FA) (w.heap.size+2) 41 FA):=Lib.hid (blk_row HA3.out _)
 have HO4:Hid (Below w.heap.size w ((w3.setRow (w.heap.size+1) NA).setRow (w.heap.size+2) FA)):=Lib.hid (below_setRow (below_setRow HO2'.out (by omega) _) (by omega) _)
 clear hb3
 go_wp2_with (first
  | (refine wpList_buildE rfl 41 [(0,.const (.int .u32 2147483655))] rfl FA ?_ ?_;exact HB3.out)
  | (refine wpList_store_row rfl 32 (.tmp 8) (.tmp 38) rfl (w.heap.size+1) NA rfl rfl 32 ZA HR2'.out (by rw [info32s,HNS.out]) (by rw [HSZ.out,HNS.out]) HN1.out ?_)
  | (refine wpList_store_row rfl 41 (.tmp 9) (.tmp 39) rfl (w.heap.size+2) FA rfl rfl 41 DA HA3.out (by rw [info41s,HFS.out]) (by rw [HSD.out,HFS.out]) HF1.out ?_))
 exact bodyPost_ret (results_cct (r:=10) rfl _ _ (w.heap.size+1) (w.heap.size+2) _ _ NA FA _ _ _ _ _ rfl HR4.out Tryz.underlying32 rfl (by rw [info32s,HNS.out]) rfl HQ4.out Tryz.underlying41 rfl (by rw [info41s,HFS.out]) rfl) rfl ⟨HO4.out,by rw [HNE.out,HFE.out];rfl⟩
end Go.Proofs.YtnkoknfihhdelaaGreatDoor
