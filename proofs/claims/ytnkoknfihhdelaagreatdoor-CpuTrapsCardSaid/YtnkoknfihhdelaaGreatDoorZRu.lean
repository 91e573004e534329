import Derived.Test.YtnkoknfihhdelaaGreatDoorZRn
import Derived.Test.YtnkoknfihhdelaaGreatDoorZRl
namespace Go.Proofs.YtnkoknfihhdelaaGreatDoor
open Go.ChangeShapes Go.WideShapes Go.ChangeAt Go.RowKit
set_option linter.unusedVariables false
set_option linter.unusedSimpArgs false
set_option maxRecDepth 100000
set_option maxHeartbeats 800000 in
theorem c89s (g B:Nat) (k:WK) (wh n:Int) (at':Nat) (tc:Value) (m:Nat) (xs:List Value) (w:World) (h:Wk w g k) (htc:k.d.tc=tc) (ho:w.ownsRow B 59 3 tc m xs) (hg:g<B) (hB:B≤w.heap.size) (hm:m≤65536) :
  Calls Tryz.prog 89 #[.pointer (some ⟨g,0,none⟩),.int .i64 wh,.int .u32 (at':Int),.int .i64 n] w fun e w'=>e=.returned (.tuple #[])∧∃ v,Wk w' g (k.tc v)∧w'.ownsRow B 59 3 v (m+1) (xs++[.int .i64 wh,.int .u32 (at':Int),.int .i64 n])∧Sv g B w w'∧∀ i,i<w.heap.size→i≠g→tc.ownBlock≠some i→w'.heap[i]?=w.heap[i]?:=by
 have x:w.cell? ⟨g,310,none⟩=some tc:=by rw [←htc];exact h.cellT 7 310 rfl
 obtain ⟨i0,hi,hz⟩:∃ i,Tryz.prog.info? 59=some i∧(i.zero,i.size,i.bytes)=(some (.agg #[.int .i64 0,.int .u32 0,.int .i64 0]),3,24):=by
  have h:(Tryz.prog.info? 59).map (fun i=>(i.zero,i.size,i.bytes))=some (some (.agg #[.int .i64 0,.int .u32 0,.int .i64 0]),3,24):=by kernel_rfl
  cases hq:Tryz.prog.info? 59 with
  | none=>rw [hq] at h;cases h
  | some i=>rw [hq] at h;exact ⟨i,rfl,by simpa using h⟩
 simp only [Prod.mk.injEq] at hz
 obtain ⟨hz0,hz1,hz2⟩:=hz
 have HI:=Lib.hid hi
 have HZ0:=Lib.hid hz0
 have HZ1:=Lib.hid hz1
 have HZ2:=Lib.hid hz2
 have HW:=Lib.hid h
 have HO:=Lib.hid ho
 have hl:=Blk.lt h
 have hfz:w.frozen? ⟨g,310,none⟩=false:=Blk.frozen h 310
 clear hi hz0 hz1 hz2 h ho htc
 go_enter Tryz.func89,Tryz.ntmps89
 go_wp2_with (at_builtin;refine wpList_append_own _ rfl _ _ 39 rfl B 59 i0 (.agg #[.int .i64 0,.int .u32 0,.int .i64 0]) 3 24 Tryz.underlying39 HI.out HZ0.out HZ1.out HZ2.out rfl (by decide) _ _ _ rfl (HO.out.alloc _) ⟨w.heap.size,0,none⟩ 1 1 [.int .i64 wh,.int .u32 (at':Int),.int .i64 n] rfl rfl (l_cells w w.heap.size rfl [.int .i64 wh,.int .u32 (at':Int),.int .i64 n] 59) (fun y hy=>by simp at hy;rcases hy with rfl | rfl | rfl <;> rfl) (by unfold maxLen;omega) (by omega) (by simp;omega) ?_)
 intro v w5 hown5 hgrow5 _
 obtain ⟨A,c,rfl⟩:∃ A c,v=.slice A (m+1) c:=by
  rcases hown5.2 with ⟨hv,h0⟩ | ⟨g,cap,cur,hv,_⟩
  ·omega
  ·exact ⟨_,cap,hv⟩
 have hK5:Wk w5 g k:=by
  refine (hgrow5.block g (by simp;omega) (fun e=>?_)).trans (Blk.alloc HW.out _)
  have:=(HO.out.lt g e.symm).1
  omega
 have hS5:Sv g B w w5:=by
  have hsz:=hgrow5.size
  simp at hsz
  refine ⟨hgrow5.os,hgrow5.tape,hgrow5.output,by omega,fun k' hk hkg=>?_⟩
  rw [hgrow5.block k' (by simp;omega) (fun e=>by have:=(HO.out.lt k' e.symm).1;omega)]
  exact Below.heap_alloc w _ k' (by omega)
 have HX5:Hid (∀ i,i<w.heap.size→i≠g→tc.ownBlock≠some i→w5.heap[i]?=w.heap[i]?):=Lib.hid (fun i hi hg hn=>by
  rw [hgrow5.block i (by simp;omega) (fun e=>hn e.symm)]
  exact Below.heap_alloc w _ i hi)
 have hx5:=Blk.cell hK5 310
 rw [←Blk.cell HW.out,x] at hx5
 have hf5:=Blk.frozen hK5 310
 have HK5:=Lib.hid hK5
 have HS5:=Lib.hid hS5
 have HO5:=Lib.hid hown5
 have HT:=Lib.hid (k.tc_L (.slice A (m+1) c))
 have hl5:=Blk.lt hK5
 clear hK5 hS5 hown5 hgrow5 x hfz
 go_wp2_with fail
 go_end0
 refine ⟨rfl,.slice A (m+1) c,?_,?_,HS5.out.trans ⟨rfl,rfl,rfl,by simp,fun k' _ hg'=>Below.heap_setCell _ _ _ _ hg'⟩,fun i hi hg hn=>(Below.heap_setCell _ _ _ _ hg).trans (HX5.out i hi hg hn)⟩
 ·have:=Blk.set_ HK5.out 310 (.slice A (m+1) c)
  rw [HT.out] at this
  exact this
 ·have hne:(Value.slice A (m+1) c).ownBlock≠some g:=fun e=>by have:=(HO5.out.lt g e).1;omega
  exact HO5.out.kept (row:=some g) ⟨rfl,rfl,rfl,by simp,fun k' _ h'=>Below.heap_setCell _ _ _ _ (fun e=>h' (by rw [e]))⟩ (Or.inr hne)
theorem Stp.touch2 {g b B:Nat} {M:Nat→Nat} {T:Nat→Bool} {tv:Value} {m:Nat} {xs:List Value} {w0 W:World} {k:WK} (h:Stp g b B M T tv m xs w0 W k) (wh n:Int) (a:Nat) (hm:m≤65536):Calls Tryz.prog 89 #[.pointer (some ⟨g,0,none⟩),.int .i64 wh,.int .u32 (a:Int),.int .i64 n] W fun e w'=>e=.returned (.tuple #[])∧∃ v,Stp g b B M T v (m+1) (xs++[.int .i64 wh,.int .u32 (a:Int),.int .i64 n]) w0 w' (k.tc v)∧∀ i,i<W.heap.size→i≠g→tv.ownBlock≠some i→w'.heap[i]?=W.heap[i]?:=by
 refine (c89s g B k wh n a tv m xs W h.wk h.tc h.row h.gB h.sz hm).mono ?_
 rintro e w' ⟨rfl,v,hk,hr,hs,hx⟩
 refine ⟨rfl,v,⟨hk,hr,rfl,?_,hs.os.trans h.os,hs.tape.trans h.tape,hs.output.trans h.output,Nat.le_trans h.size hs.size,fun i hi hg hbb=>(hs.block i hi hg).trans (h.block i hi hg hbb),Nat.le_trans h.sz hs.size,h.gB,h.bB,h.bg⟩,hx⟩
 obtain ⟨C,h1,r⟩:=h.mem
 exact ⟨C,hs.blk h.bB h.bg h1,r⟩
theorem nat16:∀ p,p<256→p &&& 16=p/16%2*16:=by decide +kernel
theorem nat32:∀ p,p<256→p &&& 32=p/32%2*32:=by decide +kernel
theorem u8and16 (p x:Nat) (hp:p<256) (h:p/16%2=x):bits .and .u8 (p:Int) 16=((x*16:Nat):Int):=by
 have:=u8_and_nat p 16 hp (by omega)
 rw [nat16 p hp,h] at this
 exact this
theorem u8and32 (p x:Nat) (hp:p<256) (h:p/32%2=x):bits .and .u8 (p:Int) 32=((x*32:Nat):Int):=by
 have:=u8_and_nat p 32 hp (by omega)
 rw [nat32 p hp,h] at this
 exact this
def WK.tl (k:WK) (o t:Nat) (x y z:Bool):WK:={ k with d:=⟨k.d.cause,k.d.tc,if x=true then true else k.d.told,if y=true then o else k.d.out,if z=true then t else k.d.dst⟩}
theorem WK.setD (k:WK) (j:Nat) (v:Value):k.L.toArray.setIfInBounds (309+j) v=(k.mp :: (k.A.L++(k.N.L++(k.i.L++(.int .u32 (k.ans:Int) :: k.d.L.set j v))))).toArray:=by
 apply Array.ext'
 rw [Array.toList_setIfInBounds]
 show (k.mp :: (k.A.L++(k.N.L++(k.i.L++(.int .u32 (k.ans:Int) :: k.d.L))))).set (309+j) v=_
 rw [show 309+j=(308+j)+1 by omega,List.set_cons_succ,List.set_append_right _ _ (by rw [St.len];omega),St.len,List.set_append_right _ _ (by rw [St.len];omega),St.len,List.set_append_right _ _ (by simp;omega),show 308+j-151-151-k.i.L.length=j+1 from by simp;omega,List.set_cons_succ]
theorem WK.tl_x (k:WK) (o t:Nat) (y z:Bool):(k.tl o t false y z).L.toArray.setIfInBounds 311 (.bool true)=(k.tl o t true y z).L.toArray:=(k.tl o t false y z).setD 2 _
theorem WK.tl_y (k:WK) (o t:Nat) (x z:Bool):(k.tl o t x false z).L.toArray.setIfInBounds 312 (.int .u32 (o:Int))=(k.tl o t x true z).L.toArray:=(k.tl o t x false z).setD 3 _
theorem WK.tl_z (k:WK) (o t:Nat) (x y:Bool):(k.tl o t x y false).L.toArray.setIfInBounds 313 (.int .u32 (t:Int))=(k.tl o t x y true).L.toArray:=(k.tl o t x y false).setD 4 _
theorem Wk.dcell {w:World} {g:Nat} {k:WK} (h:Wk w g k) (j:Nat) (hj:j<5):w.cell? ⟨g,309+j,none⟩=k.d.L[j]?:=by
 rw [h.cellT (6+j) (309+j) (by omega),List.getElem?_append_right (by simp;omega),show 6+j-k.i.L.length=j+1 from by simp;omega,List.getElem?_cons_succ]
def JE (Wd:World) (S2:World→Prop) (is:Nat) (_p:Nat) (l:Array Bool) (W:World):Prop:=if l.getD is false=true then S2 W else W=Wd
theorem JE.other {Wd W:World} {S2:World→Prop} {is p:Nat} {l:Array Bool} (h:JE Wd S2 is p l W) (i:Nat) (hi:i≠is):JE Wd S2 is p (l.setIfInBounds i true) W:=by
 have e:(l.setIfInBounds i true).getD is false=l.getD is false:=by rw [set_at2,if_neg (fun e=>hi e.1)]
 unfold JE at h ⊢
 rw [e]
 exact h
theorem JE.first {Wd W:World} {S2:World→Prop} {is p:Nat} {l:Array Bool} (h:JE Wd S2 is p l W) (hu:l.getD is false=false):W=Wd:=by
 unfold JE at h
 rw [if_neg (by rw [hu];decide)] at h
 exact h
theorem JE.done {Wd W:World} {S2:World→Prop} {is p:Nat} {l:Array Bool} (hl:is<l.size) (h2:S2 W):JE Wd S2 is p (l.setIfInBounds is true) W:=by
 have e:(l.setIfInBounds is true).getD is false=true:=by rw [set_at2,if_pos ⟨rfl,hl⟩]
 unfold JE
 rw [if_pos e]
 exact h2
theorem JE.last {Wd W:World} {S2:World→Prop} {is p:Nat} {l:Array Bool} (h:JE Wd S2 is p l W) (hu:l.getD is false=true):S2 W:=by
 unfold JE at h
 rw [if_pos hu] at h
 exact h
theorem JE.begin {w:World} {S2:World→Prop} {is p n:Nat}:JE w.drew S2 is p (Array.replicate n false) w.drew:=by
 have e:(Array.replicate n false).getD is false=false:=by
  rw [Array.getD_eq_getD_getElem?,Array.getElem?_replicate]
  split <;> rfl
 unfold JE
 rw [if_neg (by rw [e];decide)]
def JE2 (Wd:World) (S2:World→Prop) (is d1 d2:Nat) (p:Nat) (l:Array Bool) (W:World):Prop:=JE Wd S2 is p l W∧(l.getD is false=true→l.getD d1 false=true∧l.getD d2 false=true)
theorem JE2.other {Wd W:World} {S2:World→Prop} {is d1 d2 p:Nat} {l:Array Bool} (h:JE2 Wd S2 is d1 d2 p l W) (i:Nat) (hi:i≠is):JE2 Wd S2 is d1 d2 p (l.setIfInBounds i true) W:=by
 refine ⟨h.1.other i hi,fun q=>?_⟩
 rw [set_at2,if_neg (fun e=>hi e.1)] at q
 obtain ⟨a,b⟩:=h.2 q
 refine ⟨?_,?_⟩
 ·rw [set_at2];split
  ·rfl
  ·exact a
 ·rw [set_at2];split
  ·rfl
  ·exact b
theorem JE2.done {Wd W W':World} {S2:World→Prop} {is d1 d2 p:Nat} {l:Array Bool} (h:JE2 Wd S2 is d1 d2 p l W) (hl:is<l.size) (h1:is≠d1) (h2:is≠d2) (a:l.getD d1 false=true) (b:l.getD d2 false=true) (hs:S2 W'):JE2 Wd S2 is d1 d2 p (l.setIfInBounds is true) W' :=
 ⟨JE.done hl hs,fun _=>⟨by rw [set_at2,if_neg (fun e=>h1 e.1)];exact a,by rw [set_at2,if_neg (fun e=>h2 e.1)];exact b⟩⟩
theorem JE2.un {Wd W:World} {S2:World→Prop} {is d1 d2 p:Nat} {l:Array Bool} (h:JE2 Wd S2 is d1 d2 p l W) (hu:l.getD d1 false=false∨l.getD d2 false=false∨l.getD is false=false):W=Wd:=by
 refine h.1.first ?_
 cases hq:l.getD is false with
 | false=>rfl
 | true =>
  obtain ⟨a,b⟩:=h.2 hq
  rcases hu with hu | hu | hu
  ·rw [a] at hu;cases hu
  ·rw [b] at hu;cases hu
  ·rw [hq] at hu;cases hu
def JT (g B:Nat) (w0:World) (k:WK) (o t:Nat) (pb:Nat) (row:Array Value) (i1 i2 i3:Nat) (_p:Nat) (l:Array Bool) (W:World):Prop:=Sv g B w0 W∧Blk W pb 29 row∧Wk W g (k.tl o t (l.getD i1 false) (l.getD i2 false) (l.getD i3 false))
theorem JT.other {g B:Nat} {w0 W:World} {k:WK} {o t pb:Nat} {row:Array Value} {i1 i2 i3 p:Nat} {l:Array Bool} (h:JT g B w0 k o t pb row i1 i2 i3 p l W) (i:Nat) (h1:i≠i1) (h2:i≠i2) (h3:i≠i3):JT g B w0 k o t pb row i1 i2 i3 p (l.setIfInBounds i true) W:=by
 have e1:(l.setIfInBounds i true).getD i1 false=l.getD i1 false:=by rw [set_at2,if_neg (fun e=>h1 e.1)]
 have e2:(l.setIfInBounds i true).getD i2 false=l.getD i2 false:=by rw [set_at2,if_neg (fun e=>h2 e.1)]
 have e3:(l.setIfInBounds i true).getD i3 false=l.getD i3 false:=by rw [set_at2,if_neg (fun e=>h3 e.1)]
 exact ⟨h.1,h.2.1,by rw [e1,e2,e3];exact h.2.2⟩
theorem JT.st {g B:Nat} {w0 W:World} {k:WK} {o t pb:Nat} {row:Array Value} {i1 i2 i3 p:Nat} {l l':Array Bool} (h:JT g B w0 k o t pb row i1 i2 i3 p l W) (hpb:pb≠g) (c:Nat) (v:Value)
  (he:(k.tl o t (l.getD i1 false) (l.getD i2 false) (l.getD i3 false)).L.toArray.setIfInBounds c v=(k.tl o t (l'.getD i1 false) (l'.getD i2 false) (l'.getD i3 false)).L.toArray):JT g B w0 k o t pb row i1 i2 i3 p l' (W.setCell ⟨g,c,none⟩ v):=by
 refine ⟨h.1.trans ⟨rfl,rfl,rfl,by simp,fun k' hk' hg'=>Below.heap_setCell _ _ _ _ hg'⟩,Blk.far h.2.1 hpb _,?_⟩
 have:=Blk.set_ h.2.2 c v
 rw [he] at this
 exact this
theorem fa81_0 (g:Nat) (W:World):(execOp (fun _=>.pointer (some ⟨g,0,none⟩)) { dst:=none,op:=.fieldAddr 81 (.tmp 0) 0,type:=0,pos:="",after:=#[],guard:=none }).run Tryz.prog W=.ok (.value (.pointer (some ⟨g,0,none⟩))) W:=by kernel_rfl
theorem fa81_5 (g:Nat) (W:World):(execOp (fun _=>.pointer (some ⟨g,0,none⟩)) { dst:=none,op:=.fieldAddr 81 (.tmp 0) 5,type:=0,pos:="",after:=#[],guard:=none }).run Tryz.prog W=.ok (.value (.pointer (some ⟨g,309,none⟩))) W:=by kernel_rfl
theorem fa41_2 (g:Nat) (W:World):(execOp (fun _=>.pointer (some ⟨g,309,none⟩)) { dst:=none,op:=.fieldAddr 41 (.tmp 0) 2,type:=0,pos:="",after:=#[],guard:=none }).run Tryz.prog W=.ok (.value (.pointer (some ⟨g,311,none⟩))) W:=by kernel_rfl
theorem fa41_3 (g:Nat) (W:World):(execOp (fun _=>.pointer (some ⟨g,309,none⟩)) { dst:=none,op:=.fieldAddr 41 (.tmp 0) 3,type:=0,pos:="",after:=#[],guard:=none }).run Tryz.prog W=.ok (.value (.pointer (some ⟨g,312,none⟩))) W:=by kernel_rfl
theorem fa41_4 (g:Nat) (W:World):(execOp (fun _=>.pointer (some ⟨g,309,none⟩)) { dst:=none,op:=.fieldAddr 41 (.tmp 0) 4,type:=0,pos:="",after:=#[],guard:=none }).run Tryz.prog W=.ok (.value (.pointer (some ⟨g,313,none⟩))) W:=by kernel_rfl
theorem cf24 (u v x:Value) (W:World):(callFunc 24 #[u,v,x]).run Tryz.prog W=.ok (.enter 24 #[u,v,x]) W:=by kernel_rfl
theorem cf22 (u v x y:Value) (W:World):(callFunc 22 #[u,v,x,y]).run Tryz.prog W=.ok (.enter 22 #[u,v,x,y]) W:=by kernel_rfl
theorem info25s:(Tryz.prog.info? 25).map (·.size)=some 1:=by kernel_rfl
set_option maxHeartbeats 2000000 in
theorem c94_capg0 (g b B:Nat) (M:Nat→Nat) (T:Nat→Bool) (tv:Value) (m:Nat) (xs:List Value) (w0 w:World) (k:WK) (o1 r1 r2 n:Nat) (q1 q2:Cq) (h:Stp g b B M T tv m xs w0 w k) (hmp:k.mp=.pointer (some ⟨b,0,none⟩)) (hm6:m≤65536) (ho:k.i.o=o1) (ho1:17≤o1) (ho2:o1≤20) (hr1:k.i.r1=r1) (h116:r1<16) (hr2:k.i.r2=r2) (h216:r2<16) (hq1:k.A.c r1=q1) (hq2:k.A.c r2=q2) (hf1:q1.fit) (hf2:q2.fit) (hn:k.i.im%4294967296=(n:Int)) (hp:plB q1 2 o1 ((q1.a+n)%4294967296)=true) (hz:szO o1=8) (hg:q2.g=false) :
  Calls Tryz.prog 94 #[.pointer (some ⟨g,0,none⟩)] w fun e w'=>e=.returned (.tuple #[])∧∃ v,Stp g b B (scB M ((q1.a+n)%4294967296) (capB q2)) (stT T ((q1.a+n)%4294967296) q2.g) v (m+1) (xs++[.int .i64 3,.int .u32 ((((q1.a+n)%4294967296):Nat):Int),.int .i64 8]) w0 w' (k.tc v):=by
 have hpp:=hp
 unfold plB at hpp
 rw [hz] at hpp
 simp only [Bool.and_eq_true,decide_eq_true_eq] at hpp
 obtain ⟨-,h8,h6,-⟩:=hpp
 have K137:=c137_2_ok g k o1 r1 n q1 w h.wk ho (by omega) ho2 hr1 h116 hq1 hf1 hn hp
 rw [hz] at K137
 have hn2:n<4294967296:=by omega
 obtain ⟨a,ha⟩:∃ a,((q1.a+n)%4294967296)=a:=⟨_,rfl⟩
 rw [ha] at K137 h8 h6 ⊢
 have K1:=Lib.hid K137
 have hl:=h.wk.lt
 have HH:=Lib.hid h
 have K98:Hid (∀ W,Below w.heap.size w W→Calls Tryz.prog 98 #[.pointer (some ⟨g,0,none⟩)] W fun e w'=>e=.returned (.agg #[.bool q2.g,.int .u32 (q2.a:Int),.int .u8 (q2.p:Int),.int .u8 (q2.y:Int),.int .u8 (q2.e:Int),.int .u16 (q2.b:Int),.int .u16 (q2.t:Int)])∧Below W.heap.size W w'):=Lib.hid (fun W hb=>c98 g k W (h.wk.under hb hl) r2 q2 hr2 hq2 h216)
 have K136:Hid (∀ W,Below w.heap.size w W→Calls Tryz.prog 136 #[.pointer (some ⟨g,0,none⟩)] W fun e w'=>e=.returned (.agg #[.bool q1.g,.int .u32 (q1.a:Int),.int .u8 (q1.p:Int),.int .u8 (q1.y:Int),.int .u8 (q1.e:Int),.int .u16 (q1.b:Int),.int .u16 (q1.t:Int)])∧Below W.heap.size W w'):=Lib.hid (fun W hb=>c136 g k W (h.wk.under hb hl) r1 q1 hr1 hq1 h116)
 have HRL:Hid (∀ e,tv.ownBlock=some e→e<w.heap.size):=Lib.hid (fun e he=>(h.row.lt e he).2)
 obtain ⟨XS,hXS⟩:∃ XS,xs++[.int .i64 3,.int .u32 (a:Int),.int .i64 8]=XS:=⟨_,rfl⟩
 have KT:Hid (∀ W,Stp g b B M T tv m xs w0 W k→Calls Tryz.prog 89 #[.pointer (some ⟨g,0,none⟩),.int .i64 3,.int .u32 (a:Int),.int .i64 8] W fun e w'=>e=.returned (.tuple #[])∧∃ v,Stp g b B M T v (m+1) XS w0 w' (k.tc v)∧∀ i,i<W.heap.size→i≠g→tv.ownBlock≠some i→w'.heap[i]?=W.heap[i]?):=Lib.hid (fun W hs=>by rw [←hXS];exact hs.touch2 3 8 a hm6)
 have HMP:Hid (∀ W v,Wk W g (k.tc v)→W.cell? ⟨g,0,none⟩=some (.pointer (some ⟨b,0,none⟩))):=Lib.hid (fun W v hk=>by rw [←hmp];exact hk.mpc)
 rw [hXS]
 have HGv:=Lib.hid hg
 have hfp:=hf2.2.1
 have hfp1:=hf1.2.1
 have KSC:Hid (∀ W,Mem W b M T→Calls Tryz.prog 24 #[.pointer (some ⟨b,0,none⟩),.int .u32 (a:Int),.agg #[.bool q2.g,.int .u32 (q2.a:Int),.int .u8 (q2.p:Int),.int .u8 (q2.y:Int),.int .u8 (q2.e:Int),.int .u16 (q2.b:Int),.int .u16 (q2.t:Int)]] W fun en w'=>en=.returned (.int .i64 0)∧Only b W w'∧Mem w' b (scB M a (capB q2)) (stT T a q2.g)):=Lib.hid (fun W hm=>scap_call b a q2 M T W hm hf2 h6 h8)
 clear h hmp ho hr1 hq1 hr2 hq2 hf1 hf2 hn hp hz K137 ha hXS h8 hg
 go_enter Tryz.func94,Tryz.ntmps94
 go_wp2_with fail
 refine K1.out.mono ?_
 rintro _ w1 ⟨rfl,hb1⟩
 have HB1:=Lib.hid hb1
 clear hb1
 go_wp2_with fail
 refine (K98.out w1 HB1.out).mono ?_
 rintro _ w2 ⟨rfl,hb2⟩
 have HB2:Hid (Below w.heap.size w w2):=Lib.hid (HB1.out.trans (hb2.mono HB1.out.size))
 have HA3:Hid (Blk (w2.alloc (.cells #[.bool q2.g,.int .u32 (q2.a:Int),.int .u8 (q2.p:Int),.int .u8 (q2.y:Int),.int .u8 (q2.e:Int),.int .u16 (q2.b:Int),.int .u16 (q2.t:Int)] 29)) w2.heap.size 29 #[.bool q2.g,.int .u32 (q2.a:Int),.int .u8 (q2.p:Int),.int .u8 (q2.y:Int),.int .u8 (q2.e:Int),.int .u16 (q2.b:Int),.int .u16 (q2.t:Int)]):=Lib.hid (Blk.new w2 29 _)
 have HB3:Hid (Below w.heap.size w (w2.alloc (.cells #[.bool q2.g,.int .u32 (q2.a:Int),.int .u8 (q2.p:Int),.int .u8 (q2.y:Int),.int .u8 (q2.e:Int),.int .u16 (q2.b:Int),.int .u16 (q2.t:Int)] 29))):=Lib.hid (HB2.out.alloc HB2.out.size _)
 have hlp:w.heap.size≤w2.heap.size:=HB2.out.size
 obtain ⟨pb,hpe⟩:∃ pb,w2.heap.size=pb:=⟨_,rfl⟩
 rw [hpe] at HA3 hlp
 clear hb2
 go_upto_region 2 with fail
 generalize w2.alloc (.cells #[.bool q2.g,.int .u32 (q2.a:Int),.int .u8 (q2.p:Int),.int .u8 (q2.y:Int),.int .u8 (q2.e:Int),.int .u16 (q2.b:Int),.int .u16 (q2.t:Int)] 29)=W3 at *
 clear hpe
 have y0:=HA3.out.cell 0
 have y1:=HA3.out.cell 1
 have y2:=HA3.out.cell 2
 have y3:=HA3.out.cell 3
 have y4:=HA3.out.cell 4
 have y5:=HA3.out.cell 5
 have y6:=HA3.out.cell 6
 simp only [List.getElem?_toArray,List.getElem?_cons_zero,List.getElem?_cons_succ] at y0 y1 y2 y3 y4 y5 y6
 rw [HGv.out] at y0
 go_wp2_with fail
 clear y0 y1 y2 y3 y4 y5 y6
 refine (KT.out W3 (HH.out.below HB3.out)).mono ?_
 rintro _ w5 ⟨rfl,v,hs5,hx5⟩
 have hgp:pb≠g:=by omega
 have HS5:=Lib.hid hs5
 have HA5:Hid (Blk w5 pb 29 #[.bool q2.g,.int .u32 (q2.a:Int),.int .u8 (q2.p:Int),.int .u8 (q2.y:Int),.int .u8 (q2.e:Int),.int .u16 (q2.b:Int),.int .u16 (q2.t:Int)]):=Lib.hid ((hx5 pb HA3.out.lt hgp (fun e=>by have:=HRL.out pb e;omega)).trans HA3.out)
 clear hs5 hx5
 go_upto_region 7 with fail
 have HSD:Hid (Stp g b B M T v (m+1) XS w0 w5.drew (k.tc v)):=Lib.hid (HS5.out.below (Below.refl _ _).drew)
 have HAD:Hid (Blk w5.drew pb 29 #[.bool q2.g,.int .u32 (q2.a:Int),.int .u8 (q2.p:Int),.int .u8 (q2.y:Int),.int .u8 (q2.e:Int),.int .u16 (q2.b:Int),.int .u16 (q2.t:Int)]):=Lib.hid (Blk.drew HA5.out)
 refine at_eq fun T0 hT=>?_
 have hts:T0.size=74:=by rw [hT];rfl
 have fx0:T0.getD 0 undef=.pointer (some ⟨g,0,none⟩):=by rw [hT];rfl
 have fx2:T0.getD 2 undef=.int .u32 (a:Int):=by rw [hT];rfl
 have fx4:T0.getD 4 undef=.pointer (some ⟨pb,0,none⟩):=by rw [hT];rfl
 have HT:=Lib.hid hT
 clear hT
 obtain ⟨ex,hex⟩:∃ ex:Nat→Ex,ex=fun p=>[(0,49,.pointer (some ⟨g,0,none⟩)),(1,50,.pointer (some ⟨g,0,none⟩)),(2,51,.pointer (some ⟨g,0,none⟩)),(3,52,.pointer (some ⟨b,0,none⟩)),(4,53,.int .u32 (a:Int)),(5,54,.agg #[.bool q2.g,.int .u32 (q2.a:Int),.int .u8 (q2.p:Int),.int .u8 (q2.y:Int),.int .u8 (q2.e:Int),.int .u16 (q2.b:Int),.int .u16 (q2.t:Int)]),(6,55,.int .i64 0)]:=⟨_,rfl⟩
 have HN:∀ p,apartB (ex p)=true:=by rw [hex];intro p;kernel_rfl
 have M0:∀ p,(0,49,.pointer (some ⟨g,0,none⟩))∈ex p:=by rw [hex];intro p;simp
 have M1:∀ p,(1,50,.pointer (some ⟨g,0,none⟩))∈ex p:=by rw [hex];intro p;simp
 have M2:∀ p,(2,51,.pointer (some ⟨g,0,none⟩))∈ex p:=by rw [hex];intro p;simp
 have M3:∀ p,(3,52,.pointer (some ⟨b,0,none⟩))∈ex p:=by rw [hex];intro p;simp
 have M4:∀ p,(4,53,.int .u32 (a:Int))∈ex p:=by rw [hex];intro p;simp
 have M5:∀ p,(5,54,.agg #[.bool q2.g,.int .u32 (q2.a:Int),.int .u8 (q2.p:Int),.int .u8 (q2.y:Int),.int .u8 (q2.e:Int),.int .u16 (q2.b:Int),.int .u16 (q2.t:Int)])∈ex p:=by rw [hex];intro p;simp
 have M6:∀ p,(6,55,.int .i64 0)∈ex p:=by rw [hex];intro p;simp
 refine wp_region_tm (by kernel_rfl) (by kernel_rfl) ex ((JE2 w5.drew (fun W=>Stp g b B (scB M a (capB q2)) (stT T a q2.g) v (m+1) XS w0 W (k.tc v)) 6 3 5)) 0 ⟨JE.begin,fun q=>absurd q (by decide)⟩ ?_ (by rw [hex];intro p;kernel_rfl) ?_
 ·intro p l W i o hls hop hun hdep hj
  have hi:i<7:=(Array.getElem?_eq_some_iff.1 hop).1
  have hil:i<l.size:=by rw [hls];exact hi
  rcases (by omega:i=0∨i=1∨i=2∨i=3∨i=4∨i=5∨i=6) with rfl | rfl | rfl | rfl | rfl | rfl | rfl
  ·cases hop
   have r0:=(tmA_none T0 (ex p) l 0 (by rw [hex];kernel_rfl)).trans fx0
   refine wpOp_of rfl rfl ?_
   refine wp_move (.tmp 0) rfl _ r0 ?_
   exact step_val (p':=p) _ (HN _) (M0 _) hil (by rw [hts];decide) rfl (hj.other 0 (by decide))
  ·cases hop
   have r49:=tmA_some T0 _ _ (HN p) 0 49 _ (M0 p) (hdep ⟨0,.data⟩ (by simp) rfl) (by rw [hts];decide)
   refine wpOp_of rfl rfl ?_
   refine wp_nil (.tmp 49) rfl _ r49 ?_
   exact step_val (p':=p) _ (HN _) (M1 _) hil (by rw [hts];decide) rfl (hj.other 1 (by decide))
  ·cases hop
   have r50:=tmA_some T0 _ _ (HN p) 1 50 _ (M1 p) (hdep ⟨1,.data⟩ (by simp) rfl) (by rw [hts];decide)
   refine wpOp_of rfl rfl ?_
   refine wp_fa 81 (.tmp 50) 0 0 rfl g 0 0 r50 (fa81_0 g) ?_
   exact step_val (p':=p) _ (HN _) (M2 _) hil (by rw [hts];decide) rfl (hj.other 2 (by decide))
  ·cases hop
   have hun':=getD_un hun
   have r51:=tmA_some T0 _ _ (HN p) 2 51 _ (M2 p) (hdep ⟨2,.data⟩ (by simp) rfl) (by rw [hts];decide)
   refine wpOp_of rfl rfl ?_
   have hW:=hj.un (Or.inl hun')
   subst hW
   refine wp_ld 34 (.tmp 51) rfl ⟨g,0,none⟩ _ r51 agg34 (HMP.out _ v HSD.out.wk) ?_
   exact step_val (p':=p) _ (HN _) (M3 _) hil (by rw [hts];decide) rfl (hj.other 3 (by decide))
  ·cases hop
   have r2:=(tmA_none T0 (ex p) l 2 (by rw [hex];kernel_rfl)).trans fx2
   refine wpOp_of rfl rfl ?_
   refine wp_move (.tmp 2) rfl _ r2 ?_
   exact step_val (p':=p) _ (HN _) (M4 _) hil (by rw [hts];decide) rfl (hj.other 4 (by decide))
  ·cases hop
   have hun':=getD_un hun
   have r4:=(tmA_none T0 (ex p) l 4 (by rw [hex];kernel_rfl)).trans fx4
   refine wpOp_of rfl rfl ?_
   have hW:=hj.un (Or.inr (Or.inl hun'))
   subst hW
   refine wp_load_row 29 (.tmp 4) rfl pb r4 29 #[.bool q2.g,.int .u32 (q2.a:Int),.int .u8 (q2.p:Int),.int .u8 (q2.y:Int),.int .u8 (q2.e:Int),.int .u16 (q2.b:Int),.int .u16 (q2.t:Int)] (0,0) _ HAD.out Tryz.underlying29 rfl info29s ?_
   exact step_val (p':=p) _ (HN _) (M5 _) hil (by rw [hts];decide) rfl (hj.other 5 (by decide))
  ·cases hop
   have hun':=getD_un hun
   have r52:=tmA_some T0 _ _ (HN p) 3 52 _ (M3 p) (hdep ⟨3,.data⟩ (by simp) rfl) (by rw [hts];decide)
   have r53:=tmA_some T0 _ _ (HN p) 4 53 _ (M4 p) (hdep ⟨4,.data⟩ (by simp) rfl) (by rw [hts];decide)
   have r54:=tmA_some T0 _ _ (HN p) 5 54 _ (M5 p) (hdep ⟨5,.data⟩ (by simp) rfl) (by rw [hts];decide)
   refine wpOp_of rfl rfl ?_
   have hW:=hj.un (Or.inr (Or.inr hun'))
   subst hW
   refine wp_call3 24 (.tmp 52) (.tmp 53) (.tmp 54) 34 25 29 rfl _ _ _ r52 r53 r54 (cf24 _ _ _) ?_
   refine (KSC.out _ HSD.out.mem).mono ?_
   rintro _ W' ⟨rfl,ho,hm'⟩
   exact step_val (p':=p) _ (HN _) (M6 _) hil (by rw [hts];decide) rfl (hj.done hil (by decide) (by decide) (hdep ⟨3,.data⟩ (by simp) rfl) (hdep ⟨5,.data⟩ (by simp) rfl) (HSD.out.memo ho hm'))
 ·intro p l W hall hj
  have hk:=hj.1.last (hall 6 (by show 6<7;omega))
  subst hex
  rw [HT.out]
  simp only [putAll]
  clear hj hall
  go_wp2_with fail
  go_end0
  exact ⟨rfl,v,hk⟩
set_option maxHeartbeats 2000000 in
theorem c94_capp1 (g b B:Nat) (M:Nat→Nat) (T:Nat→Bool) (tv:Value) (m:Nat) (xs:List Value) (w0 w:World) (k:WK) (o1 r1 r2 n:Nat) (q1 q2:Cq) (h:Stp g b B M T tv m xs w0 w k) (hmp:k.mp=.pointer (some ⟨b,0,none⟩)) (hm6:m≤65536) (ho:k.i.o=o1) (ho1:17≤o1) (ho2:o1≤20) (hr1:k.i.r1=r1) (h116:r1<16) (hr2:k.i.r2=r2) (h216:r2<16) (hq1:k.A.c r1=q1) (hq2:k.A.c r2=q2) (hf1:q1.fit) (hf2:q2.fit) (hn:k.i.im%4294967296=(n:Int)) (hp:plB q1 2 o1 ((q1.a+n)%4294967296)=true) (hz:szO o1=8) (hg:q2.g=true) (h16:q2.p/16%2=1) :
  Calls Tryz.prog 94 #[.pointer (some ⟨g,0,none⟩)] w fun e w'=>e=.returned (.tuple #[])∧∃ v,Stp g b B (scB M ((q1.a+n)%4294967296) (capB q2)) (stT T ((q1.a+n)%4294967296) q2.g) v (m+1) (xs++[.int .i64 3,.int .u32 ((((q1.a+n)%4294967296):Nat):Int),.int .i64 8]) w0 w' (k.tc v):=by
 have hpp:=hp
 unfold plB at hpp
 rw [hz] at hpp
 simp only [Bool.and_eq_true,decide_eq_true_eq] at hpp
 obtain ⟨-,h8,h6,-⟩:=hpp
 have K137:=c137_2_ok g k o1 r1 n q1 w h.wk ho (by omega) ho2 hr1 h116 hq1 hf1 hn hp
 rw [hz] at K137
 have hn2:n<4294967296:=by omega
 obtain ⟨a,ha⟩:∃ a,((q1.a+n)%4294967296)=a:=⟨_,rfl⟩
 rw [ha] at K137 h8 h6 ⊢
 have K1:=Lib.hid K137
 have hl:=h.wk.lt
 have HH:=Lib.hid h
 have K98:Hid (∀ W,Below w.heap.size w W→Calls Tryz.prog 98 #[.pointer (some ⟨g,0,none⟩)] W fun e w'=>e=.returned (.agg #[.bool q2.g,.int .u32 (q2.a:Int),.int .u8 (q2.p:Int),.int .u8 (q2.y:Int),.int .u8 (q2.e:Int),.int .u16 (q2.b:Int),.int .u16 (q2.t:Int)])∧Below W.heap.size W w'):=Lib.hid (fun W hb=>c98 g k W (h.wk.under hb hl) r2 q2 hr2 hq2 h216)
 have K136:Hid (∀ W,Below w.heap.size w W→Calls Tryz.prog 136 #[.pointer (some ⟨g,0,none⟩)] W fun e w'=>e=.returned (.agg #[.bool q1.g,.int .u32 (q1.a:Int),.int .u8 (q1.p:Int),.int .u8 (q1.y:Int),.int .u8 (q1.e:Int),.int .u16 (q1.b:Int),.int .u16 (q1.t:Int)])∧Below W.heap.size W w'):=Lib.hid (fun W hb=>c136 g k W (h.wk.under hb hl) r1 q1 hr1 hq1 h116)
 have HRL:Hid (∀ e,tv.ownBlock=some e→e<w.heap.size):=Lib.hid (fun e he=>(h.row.lt e he).2)
 obtain ⟨XS,hXS⟩:∃ XS,xs++[.int .i64 3,.int .u32 (a:Int),.int .i64 8]=XS:=⟨_,rfl⟩
 have KT:Hid (∀ W,Stp g b B M T tv m xs w0 W k→Calls Tryz.prog 89 #[.pointer (some ⟨g,0,none⟩),.int .i64 3,.int .u32 (a:Int),.int .i64 8] W fun e w'=>e=.returned (.tuple #[])∧∃ v,Stp g b B M T v (m+1) XS w0 w' (k.tc v)∧∀ i,i<W.heap.size→i≠g→tv.ownBlock≠some i→w'.heap[i]?=W.heap[i]?):=Lib.hid (fun W hs=>by rw [←hXS];exact hs.touch2 3 8 a hm6)
 have HMP:Hid (∀ W v,Wk W g (k.tc v)→W.cell? ⟨g,0,none⟩=some (.pointer (some ⟨b,0,none⟩))):=Lib.hid (fun W v hk=>by rw [←hmp];exact hk.mpc)
 rw [hXS]
 have HGv:=Lib.hid hg
 have hfp:=hf2.2.1
 have hfp1:=hf1.2.1
 have h16b:=u8and16 q2.p 1 hfp h16
 have KSC:Hid (∀ W,Mem W b M T→Calls Tryz.prog 24 #[.pointer (some ⟨b,0,none⟩),.int .u32 (a:Int),.agg #[.bool q2.g,.int .u32 (q2.a:Int),.int .u8 (q2.p:Int),.int .u8 (q2.y:Int),.int .u8 (q2.e:Int),.int .u16 (q2.b:Int),.int .u16 (q2.t:Int)]] W fun en w'=>en=.returned (.int .i64 0)∧Only b W w'∧Mem w' b (scB M a (capB q2)) (stT T a q2.g)):=Lib.hid (fun W hm=>scap_call b a q2 M T W hm hf2 h6 h8)
 clear h hmp ho hr1 hq1 hr2 hq2 hf1 hf2 hn hp hz K137 ha hXS h8 hg
 go_enter Tryz.func94,Tryz.ntmps94
 go_wp2_with fail
 refine K1.out.mono ?_
 rintro _ w1 ⟨rfl,hb1⟩
 have HB1:=Lib.hid hb1
 clear hb1
 go_wp2_with fail
 refine (K98.out w1 HB1.out).mono ?_
 rintro _ w2 ⟨rfl,hb2⟩
 have HB2:Hid (Below w.heap.size w w2):=Lib.hid (HB1.out.trans (hb2.mono HB1.out.size))
 have HA3:Hid (Blk (w2.alloc (.cells #[.bool q2.g,.int .u32 (q2.a:Int),.int .u8 (q2.p:Int),.int .u8 (q2.y:Int),.int .u8 (q2.e:Int),.int .u16 (q2.b:Int),.int .u16 (q2.t:Int)] 29)) w2.heap.size 29 #[.bool q2.g,.int .u32 (q2.a:Int),.int .u8 (q2.p:Int),.int .u8 (q2.y:Int),.int .u8 (q2.e:Int),.int .u16 (q2.b:Int),.int .u16 (q2.t:Int)]):=Lib.hid (Blk.new w2 29 _)
 have HB3:Hid (Below w.heap.size w (w2.alloc (.cells #[.bool q2.g,.int .u32 (q2.a:Int),.int .u8 (q2.p:Int),.int .u8 (q2.y:Int),.int .u8 (q2.e:Int),.int .u16 (q2.b:Int),.int .u16 (q2.t:Int)] 29))):=Lib.hid (HB2.out.alloc HB2.out.size _)
 have hlp:w.heap.size≤w2.heap.size:=HB2.out.size
 obtain ⟨pb,hpe⟩:∃ pb,w2.heap.size=pb:=⟨_,rfl⟩
 rw [hpe] at HA3 hlp
 clear hb2
 go_upto_region 2 with fail
 generalize w2.alloc (.cells #[.bool q2.g,.int .u32 (q2.a:Int),.int .u8 (q2.p:Int),.int .u8 (q2.y:Int),.int .u8 (q2.e:Int),.int .u16 (q2.b:Int),.int .u16 (q2.t:Int)] 29)=W3 at *
 clear hpe
 have y0:=HA3.out.cell 0
 have y1:=HA3.out.cell 1
 have y2:=HA3.out.cell 2
 have y3:=HA3.out.cell 3
 have y4:=HA3.out.cell 4
 have y5:=HA3.out.cell 5
 have y6:=HA3.out.cell 6
 simp only [List.getElem?_toArray,List.getElem?_cons_zero,List.getElem?_cons_succ] at y0 y1 y2 y3 y4 y5 y6
 rw [HGv.out] at y0
 go_wp2_with fail
 clear y0 y1 y2 y3 y4 y5 y6
 refine (KT.out W3 (HH.out.below HB3.out)).mono ?_
 rintro _ w5 ⟨rfl,v,hs5,hx5⟩
 have hgp:pb≠g:=by omega
 have HS5:=Lib.hid hs5
 have HA5:Hid (Blk w5 pb 29 #[.bool q2.g,.int .u32 (q2.a:Int),.int .u8 (q2.p:Int),.int .u8 (q2.y:Int),.int .u8 (q2.e:Int),.int .u16 (q2.b:Int),.int .u16 (q2.t:Int)]):=Lib.hid ((hx5 pb HA3.out.lt hgp (fun e=>by have:=HRL.out pb e;omega)).trans HA3.out)
 clear hs5 hx5
 go_upto_region 7 with fail
 have HSD:Hid (Stp g b B M T v (m+1) XS w0 w5.drew (k.tc v)):=Lib.hid (HS5.out.below (Below.refl _ _).drew)
 have HAD:Hid (Blk w5.drew pb 29 #[.bool q2.g,.int .u32 (q2.a:Int),.int .u8 (q2.p:Int),.int .u8 (q2.y:Int),.int .u8 (q2.e:Int),.int .u16 (q2.b:Int),.int .u16 (q2.t:Int)]):=Lib.hid (Blk.drew HA5.out)
 refine at_eq fun T0 hT=>?_
 have hts:T0.size=74:=by rw [hT];rfl
 have fx0:T0.getD 0 undef=.pointer (some ⟨g,0,none⟩):=by rw [hT];rfl
 have fx2:T0.getD 2 undef=.int .u32 (a:Int):=by rw [hT];rfl
 have fx4:T0.getD 4 undef=.pointer (some ⟨pb,0,none⟩):=by rw [hT];rfl
 have HT:=Lib.hid hT
 clear hT
 obtain ⟨ex,hex⟩:∃ ex:Nat→Ex,ex=fun p=>[(0,49,.pointer (some ⟨g,0,none⟩)),(1,50,.pointer (some ⟨g,0,none⟩)),(2,51,.pointer (some ⟨g,0,none⟩)),(3,52,.pointer (some ⟨b,0,none⟩)),(4,53,.int .u32 (a:Int)),(5,54,.agg #[.bool q2.g,.int .u32 (q2.a:Int),.int .u8 (q2.p:Int),.int .u8 (q2.y:Int),.int .u8 (q2.e:Int),.int .u16 (q2.b:Int),.int .u16 (q2.t:Int)]),(6,55,.int .i64 0)]:=⟨_,rfl⟩
 have HN:∀ p,apartB (ex p)=true:=by rw [hex];intro p;kernel_rfl
 have M0:∀ p,(0,49,.pointer (some ⟨g,0,none⟩))∈ex p:=by rw [hex];intro p;simp
 have M1:∀ p,(1,50,.pointer (some ⟨g,0,none⟩))∈ex p:=by rw [hex];intro p;simp
 have M2:∀ p,(2,51,.pointer (some ⟨g,0,none⟩))∈ex p:=by rw [hex];intro p;simp
 have M3:∀ p,(3,52,.pointer (some ⟨b,0,none⟩))∈ex p:=by rw [hex];intro p;simp
 have M4:∀ p,(4,53,.int .u32 (a:Int))∈ex p:=by rw [hex];intro p;simp
 have M5:∀ p,(5,54,.agg #[.bool q2.g,.int .u32 (q2.a:Int),.int .u8 (q2.p:Int),.int .u8 (q2.y:Int),.int .u8 (q2.e:Int),.int .u16 (q2.b:Int),.int .u16 (q2.t:Int)])∈ex p:=by rw [hex];intro p;simp
 have M6:∀ p,(6,55,.int .i64 0)∈ex p:=by rw [hex];intro p;simp
 refine wp_region_tm (by kernel_rfl) (by kernel_rfl) ex ((JE2 w5.drew (fun W=>Stp g b B (scB M a (capB q2)) (stT T a q2.g) v (m+1) XS w0 W (k.tc v)) 6 3 5)) 0 ⟨JE.begin,fun q=>absurd q (by decide)⟩ ?_ (by rw [hex];intro p;kernel_rfl) ?_
 ·intro p l W i o hls hop hun hdep hj
  have hi:i<7:=(Array.getElem?_eq_some_iff.1 hop).1
  have hil:i<l.size:=by rw [hls];exact hi
  rcases (by omega:i=0∨i=1∨i=2∨i=3∨i=4∨i=5∨i=6) with rfl | rfl | rfl | rfl | rfl | rfl | rfl
  ·cases hop
   have r0:=(tmA_none T0 (ex p) l 0 (by rw [hex];kernel_rfl)).trans fx0
   refine wpOp_of rfl rfl ?_
   refine wp_move (.tmp 0) rfl _ r0 ?_
   exact step_val (p':=p) _ (HN _) (M0 _) hil (by rw [hts];decide) rfl (hj.other 0 (by decide))
  ·cases hop
   have r49:=tmA_some T0 _ _ (HN p) 0 49 _ (M0 p) (hdep ⟨0,.data⟩ (by simp) rfl) (by rw [hts];decide)
   refine wpOp_of rfl rfl ?_
   refine wp_nil (.tmp 49) rfl _ r49 ?_
   exact step_val (p':=p) _ (HN _) (M1 _) hil (by rw [hts];decide) rfl (hj.other 1 (by decide))
  ·cases hop
   have r50:=tmA_some T0 _ _ (HN p) 1 50 _ (M1 p) (hdep ⟨1,.data⟩ (by simp) rfl) (by rw [hts];decide)
   refine wpOp_of rfl rfl ?_
   refine wp_fa 81 (.tmp 50) 0 0 rfl g 0 0 r50 (fa81_0 g) ?_
   exact step_val (p':=p) _ (HN _) (M2 _) hil (by rw [hts];decide) rfl (hj.other 2 (by decide))
  ·cases hop
   have hun':=getD_un hun
   have r51:=tmA_some T0 _ _ (HN p) 2 51 _ (M2 p) (hdep ⟨2,.data⟩ (by simp) rfl) (by rw [hts];decide)
   refine wpOp_of rfl rfl ?_
   have hW:=hj.un (Or.inl hun')
   subst hW
   refine wp_ld 34 (.tmp 51) rfl ⟨g,0,none⟩ _ r51 agg34 (HMP.out _ v HSD.out.wk) ?_
   exact step_val (p':=p) _ (HN _) (M3 _) hil (by rw [hts];decide) rfl (hj.other 3 (by decide))
  ·cases hop
   have r2:=(tmA_none T0 (ex p) l 2 (by rw [hex];kernel_rfl)).trans fx2
   refine wpOp_of rfl rfl ?_
   refine wp_move (.tmp 2) rfl _ r2 ?_
   exact step_val (p':=p) _ (HN _) (M4 _) hil (by rw [hts];decide) rfl (hj.other 4 (by decide))
  ·cases hop
   have hun':=getD_un hun
   have r4:=(tmA_none T0 (ex p) l 4 (by rw [hex];kernel_rfl)).trans fx4
   refine wpOp_of rfl rfl ?_
   have hW:=hj.un (Or.inr (Or.inl hun'))
   subst hW
   refine wp_load_row 29 (.tmp 4) rfl pb r4 29 #[.bool q2.g,.int .u32 (q2.a:Int),.int .u8 (q2.p:Int),.int .u8 (q2.y:Int),.int .u8 (q2.e:Int),.int .u16 (q2.b:Int),.int .u16 (q2.t:Int)] (0,0) _ HAD.out Tryz.underlying29 rfl info29s ?_
   exact step_val (p':=p) _ (HN _) (M5 _) hil (by rw [hts];decide) rfl (hj.other 5 (by decide))
  ·cases hop
   have hun':=getD_un hun
   have r52:=tmA_some T0 _ _ (HN p) 3 52 _ (M3 p) (hdep ⟨3,.data⟩ (by simp) rfl) (by rw [hts];decide)
   have r53:=tmA_some T0 _ _ (HN p) 4 53 _ (M4 p) (hdep ⟨4,.data⟩ (by simp) rfl) (by rw [hts];decide)
   have r54:=tmA_some T0 _ _ (HN p) 5 54 _ (M5 p) (hdep ⟨5,.data⟩ (by simp) rfl) (by rw [hts];decide)
   refine wpOp_of rfl rfl ?_
   have hW:=hj.un (Or.inr (Or.inr hun'))
   subst hW
   refine wp_call3 24 (.tmp 52) (.tmp 53) (.tmp 54) 34 25 29 rfl _ _ _ r52 r53 r54 (cf24 _ _ _) ?_
   refine (KSC.out _ HSD.out.mem).mono ?_
   rintro _ W' ⟨rfl,ho,hm'⟩
   exact step_val (p':=p) _ (HN _) (M6 _) hil (by rw [hts];decide) rfl (hj.done hil (by decide) (by decide) (hdep ⟨3,.data⟩ (by simp) rfl) (hdep ⟨5,.data⟩ (by simp) rfl) (HSD.out.memo ho hm'))
 ·intro p l W hall hj
  have hk:=hj.1.last (hall 6 (by show 6<7;omega))
  subst hex
  rw [HT.out]
  simp only [putAll]
  clear hj hall
  go_wp2_with fail
  go_end0
  exact ⟨rfl,v,hk⟩
set_option maxHeartbeats 2000000 in
theorem c94_capl1 (g b B:Nat) (M:Nat→Nat) (T:Nat→Bool) (tv:Value) (m:Nat) (xs:List Value) (w0 w:World) (k:WK) (o1 r1 r2 n:Nat) (q1 q2:Cq) (h:Stp g b B M T tv m xs w0 w k) (hmp:k.mp=.pointer (some ⟨b,0,none⟩)) (hm6:m≤65536) (ho:k.i.o=o1) (ho1:17≤o1) (ho2:o1≤20) (hr1:k.i.r1=r1) (h116:r1<16) (hr2:k.i.r2=r2) (h216:r2<16) (hq1:k.A.c r1=q1) (hq2:k.A.c r2=q2) (hf1:q1.fit) (hf2:q2.fit) (hn:k.i.im%4294967296=(n:Int)) (hp:plB q1 2 o1 ((q1.a+n)%4294967296)=true) (hz:szO o1=8) (hg:q2.g=true) (h16:q2.p/16%2=0) (h32:q1.p/32%2=1) :
  Calls Tryz.prog 94 #[.pointer (some ⟨g,0,none⟩)] w fun e w'=>e=.returned (.tuple #[])∧∃ v,Stp g b B (scB M ((q1.a+n)%4294967296) (capB q2)) (stT T ((q1.a+n)%4294967296) q2.g) v (m+1) (xs++[.int .i64 3,.int .u32 ((((q1.a+n)%4294967296):Nat):Int),.int .i64 8]) w0 w' (k.tc v):=by
 have hpp:=hp
 unfold plB at hpp
 rw [hz] at hpp
 simp only [Bool.and_eq_true,decide_eq_true_eq] at hpp
 obtain ⟨-,h8,h6,-⟩:=hpp
 have K137:=c137_2_ok g k o1 r1 n q1 w h.wk ho (by omega) ho2 hr1 h116 hq1 hf1 hn hp
 rw [hz] at K137
 have hn2:n<4294967296:=by omega
 obtain ⟨a,ha⟩:∃ a,((q1.a+n)%4294967296)=a:=⟨_,rfl⟩
 rw [ha] at K137 h8 h6 ⊢
 have K1:=Lib.hid K137
 have hl:=h.wk.lt
 have HH:=Lib.hid h
 have K98:Hid (∀ W,Below w.heap.size w W→Calls Tryz.prog 98 #[.pointer (some ⟨g,0,none⟩)] W fun e w'=>e=.returned (.agg #[.bool q2.g,.int .u32 (q2.a:Int),.int .u8 (q2.p:Int),.int .u8 (q2.y:Int),.int .u8 (q2.e:Int),.int .u16 (q2.b:Int),.int .u16 (q2.t:Int)])∧Below W.heap.size W w'):=Lib.hid (fun W hb=>c98 g k W (h.wk.under hb hl) r2 q2 hr2 hq2 h216)
 have K136:Hid (∀ W,Below w.heap.size w W→Calls Tryz.prog 136 #[.pointer (some ⟨g,0,none⟩)] W fun e w'=>e=.returned (.agg #[.bool q1.g,.int .u32 (q1.a:Int),.int .u8 (q1.p:Int),.int .u8 (q1.y:Int),.int .u8 (q1.e:Int),.int .u16 (q1.b:Int),.int .u16 (q1.t:Int)])∧Below W.heap.size W w'):=Lib.hid (fun W hb=>c136 g k W (h.wk.under hb hl) r1 q1 hr1 hq1 h116)
 have HRL:Hid (∀ e,tv.ownBlock=some e→e<w.heap.size):=Lib.hid (fun e he=>(h.row.lt e he).2)
 obtain ⟨XS,hXS⟩:∃ XS,xs++[.int .i64 3,.int .u32 (a:Int),.int .i64 8]=XS:=⟨_,rfl⟩
 have KT:Hid (∀ W,Stp g b B M T tv m xs w0 W k→Calls Tryz.prog 89 #[.pointer (some ⟨g,0,none⟩),.int .i64 3,.int .u32 (a:Int),.int .i64 8] W fun e w'=>e=.returned (.tuple #[])∧∃ v,Stp g b B M T v (m+1) XS w0 w' (k.tc v)∧∀ i,i<W.heap.size→i≠g→tv.ownBlock≠some i→w'.heap[i]?=W.heap[i]?):=Lib.hid (fun W hs=>by rw [←hXS];exact hs.touch2 3 8 a hm6)
 have HMP:Hid (∀ W v,Wk W g (k.tc v)→W.cell? ⟨g,0,none⟩=some (.pointer (some ⟨b,0,none⟩))):=Lib.hid (fun W v hk=>by rw [←hmp];exact hk.mpc)
 rw [hXS]
 have HGv:=Lib.hid hg
 have hfp:=hf2.2.1
 have hfp1:=hf1.2.1
 have h16b:=u8and16 q2.p 0 hfp h16
 have h32b:=u8and32 q1.p 1 hfp1 h32
 have hf32:∀ W,(Instr.field 29 (.agg #[.bool q1.g,.int .u32 (q1.a:Int),.int .u8 (q1.p:Int),.int .u8 (q1.y:Int),.int .u8 (q1.e:Int),.int .u16 (q1.b:Int),.int .u16 (q1.t:Int)]) 2).run Tryz.prog W=.ok (.int .u8 (q1.p:Int)) W:=fun W=>by kernel_rfl
 have KSC:Hid (∀ W,Mem W b M T→Calls Tryz.prog 24 #[.pointer (some ⟨b,0,none⟩),.int .u32 (a:Int),.agg #[.bool q2.g,.int .u32 (q2.a:Int),.int .u8 (q2.p:Int),.int .u8 (q2.y:Int),.int .u8 (q2.e:Int),.int .u16 (q2.b:Int),.int .u16 (q2.t:Int)]] W fun en w'=>en=.returned (.int .i64 0)∧Only b W w'∧Mem w' b (scB M a (capB q2)) (stT T a q2.g)):=Lib.hid (fun W hm=>scap_call b a q2 M T W hm hf2 h6 h8)
 clear h hmp ho hr1 hq1 hr2 hq2 hf1 hf2 hn hp hz K137 ha hXS h8 hg
 go_enter Tryz.func94,Tryz.ntmps94
 go_wp2_with fail
 refine K1.out.mono ?_
 rintro _ w1 ⟨rfl,hb1⟩
 have HB1:=Lib.hid hb1
 clear hb1
 go_wp2_with fail
 refine (K98.out w1 HB1.out).mono ?_
 rintro _ w2 ⟨rfl,hb2⟩
 have HB2:Hid (Below w.heap.size w w2):=Lib.hid (HB1.out.trans (hb2.mono HB1.out.size))
 have HA3:Hid (Blk (w2.alloc (.cells #[.bool q2.g,.int .u32 (q2.a:Int),.int .u8 (q2.p:Int),.int .u8 (q2.y:Int),.int .u8 (q2.e:Int),.int .u16 (q2.b:Int),.int .u16 (q2.t:Int)] 29)) w2.heap.size 29 #[.bool q2.g,.int .u32 (q2.a:Int),.int .u8 (q2.p:Int),.int .u8 (q2.y:Int),.int .u8 (q2.e:Int),.int .u16 (q2.b:Int),.int .u16 (q2.t:Int)]):=Lib.hid (Blk.new w2 29 _)
 have HB3:Hid (Below w.heap.size w (w2.alloc (.cells #[.bool q2.g,.int .u32 (q2.a:Int),.int .u8 (q2.p:Int),.int .u8 (q2.y:Int),.int .u8 (q2.e:Int),.int .u16 (q2.b:Int),.int .u16 (q2.t:Int)] 29))):=Lib.hid (HB2.out.alloc HB2.out.size _)
 have hlp:w.heap.size≤w2.heap.size:=HB2.out.size
 obtain ⟨pb,hpe⟩:∃ pb,w2.heap.size=pb:=⟨_,rfl⟩
 rw [hpe] at HA3 hlp
 clear hb2
 go_upto_region 2 with fail
 generalize w2.alloc (.cells #[.bool q2.g,.int .u32 (q2.a:Int),.int .u8 (q2.p:Int),.int .u8 (q2.y:Int),.int .u8 (q2.e:Int),.int .u16 (q2.b:Int),.int .u16 (q2.t:Int)] 29)=W3 at *
 clear hpe
 have y0:=HA3.out.cell 0
 have y1:=HA3.out.cell 1
 have y2:=HA3.out.cell 2
 have y3:=HA3.out.cell 3
 have y4:=HA3.out.cell 4
 have y5:=HA3.out.cell 5
 have y6:=HA3.out.cell 6
 simp only [List.getElem?_toArray,List.getElem?_cons_zero,List.getElem?_cons_succ] at y0 y1 y2 y3 y4 y5 y6
 rw [HGv.out] at y0
 go_wp2_with fail
 refine (K136.out W3 HB3.out).mono ?_
 rintro _ w4 ⟨rfl,hb4⟩
 have HA4:Hid (Blk w4 pb 29 #[.bool q2.g,.int .u32 (q2.a:Int),.int .u8 (q2.p:Int),.int .u8 (q2.y:Int),.int .u8 (q2.e:Int),.int .u16 (q2.b:Int),.int .u16 (q2.t:Int)]):=Lib.hid (HA3.out.below hb4 HA3.out.lt)
 have HB4:Hid (Below w.heap.size w w4):=Lib.hid (HB3.out.trans (hb4.mono HB3.out.size))
 clear hb4 y0 y1 y2 y3 y4 y5 y6
 go_wp2_with fail
 refine (KT.out w4 (HH.out.below HB4.out)).mono ?_
 rintro _ w5 ⟨rfl,v,hs5,hx5⟩
 have hgp:pb≠g:=by omega
 have HS5:=Lib.hid hs5
 have HA5:Hid (Blk w5 pb 29 #[.bool q2.g,.int .u32 (q2.a:Int),.int .u8 (q2.p:Int),.int .u8 (q2.y:Int),.int .u8 (q2.e:Int),.int .u16 (q2.b:Int),.int .u16 (q2.t:Int)]):=Lib.hid ((hx5 pb HA4.out.lt hgp (fun e=>by have:=HRL.out pb e;omega)).trans HA4.out)
 clear hs5 hx5
 go_upto_region 7 with fail
 have HSD:Hid (Stp g b B M T v (m+1) XS w0 w5.drew (k.tc v)):=Lib.hid (HS5.out.below (Below.refl _ _).drew)
 have HAD:Hid (Blk w5.drew pb 29 #[.bool q2.g,.int .u32 (q2.a:Int),.int .u8 (q2.p:Int),.int .u8 (q2.y:Int),.int .u8 (q2.e:Int),.int .u16 (q2.b:Int),.int .u16 (q2.t:Int)]):=Lib.hid (Blk.drew HA5.out)
 refine at_eq fun T0 hT=>?_
 have hts:T0.size=74:=by rw [hT];rfl
 have fx0:T0.getD 0 undef=.pointer (some ⟨g,0,none⟩):=by rw [hT];rfl
 have fx2:T0.getD 2 undef=.int .u32 (a:Int):=by rw [hT];rfl
 have fx4:T0.getD 4 undef=.pointer (some ⟨pb,0,none⟩):=by rw [hT];rfl
 have HT:=Lib.hid hT
 clear hT
 obtain ⟨ex,hex⟩:∃ ex:Nat→Ex,ex=fun p=>[(0,49,.pointer (some ⟨g,0,none⟩)),(1,50,.pointer (some ⟨g,0,none⟩)),(2,51,.pointer (some ⟨g,0,none⟩)),(3,52,.pointer (some ⟨b,0,none⟩)),(4,53,.int .u32 (a:Int)),(5,54,.agg #[.bool q2.g,.int .u32 (q2.a:Int),.int .u8 (q2.p:Int),.int .u8 (q2.y:Int),.int .u8 (q2.e:Int),.int .u16 (q2.b:Int),.int .u16 (q2.t:Int)]),(6,55,.int .i64 0)]:=⟨_,rfl⟩
 have HN:∀ p,apartB (ex p)=true:=by rw [hex];intro p;kernel_rfl
 have M0:∀ p,(0,49,.pointer (some ⟨g,0,none⟩))∈ex p:=by rw [hex];intro p;simp
 have M1:∀ p,(1,50,.pointer (some ⟨g,0,none⟩))∈ex p:=by rw [hex];intro p;simp
 have M2:∀ p,(2,51,.pointer (some ⟨g,0,none⟩))∈ex p:=by rw [hex];intro p;simp
 have M3:∀ p,(3,52,.pointer (some ⟨b,0,none⟩))∈ex p:=by rw [hex];intro p;simp
 have M4:∀ p,(4,53,.int .u32 (a:Int))∈ex p:=by rw [hex];intro p;simp
 have M5:∀ p,(5,54,.agg #[.bool q2.g,.int .u32 (q2.a:Int),.int .u8 (q2.p:Int),.int .u8 (q2.y:Int),.int .u8 (q2.e:Int),.int .u16 (q2.b:Int),.int .u16 (q2.t:Int)])∈ex p:=by rw [hex];intro p;simp
 have M6:∀ p,(6,55,.int .i64 0)∈ex p:=by rw [hex];intro p;simp
 refine wp_region_tm (by kernel_rfl) (by kernel_rfl) ex ((JE2 w5.drew (fun W=>Stp g b B (scB M a (capB q2)) (stT T a q2.g) v (m+1) XS w0 W (k.tc v)) 6 3 5)) 0 ⟨JE.begin,fun q=>absurd q (by decide)⟩ ?_ (by rw [hex];intro p;kernel_rfl) ?_
 ·intro p l W i o hls hop hun hdep hj
  have hi:i<7:=(Array.getElem?_eq_some_iff.1 hop).1
  have hil:i<l.size:=by rw [hls];exact hi
  rcases (by omega:i=0∨i=1∨i=2∨i=3∨i=4∨i=5∨i=6) with rfl | rfl | rfl | rfl | rfl | rfl | rfl
  ·cases hop
   have r0:=(tmA_none T0 (ex p) l 0 (by rw [hex];kernel_rfl)).trans fx0
   refine wpOp_of rfl rfl ?_
   refine wp_move (.tmp 0) rfl _ r0 ?_
   exact step_val (p':=p) _ (HN _) (M0 _) hil (by rw [hts];decide) rfl (hj.other 0 (by decide))
  ·cases hop
   have r49:=tmA_some T0 _ _ (HN p) 0 49 _ (M0 p) (hdep ⟨0,.data⟩ (by simp) rfl) (by rw [hts];decide)
   refine wpOp_of rfl rfl ?_
   refine wp_nil (.tmp 49) rfl _ r49 ?_
   exact step_val (p':=p) _ (HN _) (M1 _) hil (by rw [hts];decide) rfl (hj.other 1 (by decide))
  ·cases hop
   have r50:=tmA_some T0 _ _ (HN p) 1 50 _ (M1 p) (hdep ⟨1,.data⟩ (by simp) rfl) (by rw [hts];decide)
   refine wpOp_of rfl rfl ?_
   refine wp_fa 81 (.tmp 50) 0 0 rfl g 0 0 r50 (fa81_0 g) ?_
   exact step_val (p':=p) _ (HN _) (M2 _) hil (by rw [hts];decide) rfl (hj.other 2 (by decide))
  ·cases hop
   have hun':=getD_un hun
   have r51:=tmA_some T0 _ _ (HN p) 2 51 _ (M2 p) (hdep ⟨2,.data⟩ (by simp) rfl) (by rw [hts];decide)
   refine wpOp_of rfl rfl ?_
   have hW:=hj.un (Or.inl hun')
   subst hW
   refine wp_ld 34 (.tmp 51) rfl ⟨g,0,none⟩ _ r51 agg34 (HMP.out _ v HSD.out.wk) ?_
   exact step_val (p':=p) _ (HN _) (M3 _) hil (by rw [hts];decide) rfl (hj.other 3 (by decide))
  ·cases hop
   have r2:=(tmA_none T0 (ex p) l 2 (by rw [hex];kernel_rfl)).trans fx2
   refine wpOp_of rfl rfl ?_
   refine wp_move (.tmp 2) rfl _ r2 ?_
   exact step_val (p':=p) _ (HN _) (M4 _) hil (by rw [hts];decide) rfl (hj.other 4 (by decide))
  ·cases hop
   have hun':=getD_un hun
   have r4:=(tmA_none T0 (ex p) l 4 (by rw [hex];kernel_rfl)).trans fx4
   refine wpOp_of rfl rfl ?_
   have hW:=hj.un (Or.inr (Or.inl hun'))
   subst hW
   refine wp_load_row 29 (.tmp 4) rfl pb r4 29 #[.bool q2.g,.int .u32 (q2.a:Int),.int .u8 (q2.p:Int),.int .u8 (q2.y:Int),.int .u8 (q2.e:Int),.int .u16 (q2.b:Int),.int .u16 (q2.t:Int)] (0,0) _ HAD.out Tryz.underlying29 rfl info29s ?_
   exact step_val (p':=p) _ (HN _) (M5 _) hil (by rw [hts];decide) rfl (hj.other 5 (by decide))
  ·cases hop
   have hun':=getD_un hun
   have r52:=tmA_some T0 _ _ (HN p) 3 52 _ (M3 p) (hdep ⟨3,.data⟩ (by simp) rfl) (by rw [hts];decide)
   have r53:=tmA_some T0 _ _ (HN p) 4 53 _ (M4 p) (hdep ⟨4,.data⟩ (by simp) rfl) (by rw [hts];decide)
   have r54:=tmA_some T0 _ _ (HN p) 5 54 _ (M5 p) (hdep ⟨5,.data⟩ (by simp) rfl) (by rw [hts];decide)
   refine wpOp_of rfl rfl ?_
   have hW:=hj.un (Or.inr (Or.inr hun'))
   subst hW
   refine wp_call3 24 (.tmp 52) (.tmp 53) (.tmp 54) 34 25 29 rfl _ _ _ r52 r53 r54 (cf24 _ _ _) ?_
   refine (KSC.out _ HSD.out.mem).mono ?_
   rintro _ W' ⟨rfl,ho,hm'⟩
   exact step_val (p':=p) _ (HN _) (M6 _) hil (by rw [hts];decide) rfl (hj.done hil (by decide) (by decide) (hdep ⟨3,.data⟩ (by simp) rfl) (hdep ⟨5,.data⟩ (by simp) rfl) (HSD.out.memo ho hm'))
 ·intro p l W hall hj
  have hk:=hj.1.last (hall 6 (by show 6<7;omega))
  subst hex
  rw [HT.out]
  simp only [putAll]
  clear hj hall
  go_wp2_with fail
  go_end0
  exact ⟨rfl,v,hk⟩
set_option maxHeartbeats 2000000 in
theorem c94_capt (g b B:Nat) (M:Nat→Nat) (T:Nat→Bool) (tv:Value) (m:Nat) (xs:List Value) (w0 w:World) (k:WK) (o1 r1 r2 n:Nat) (q1 q2:Cq) (h:Stp g b B M T tv m xs w0 w k) (hmp:k.mp=.pointer (some ⟨b,0,none⟩)) (hm6:m≤65536) (ho:k.i.o=o1) (ho1:17≤o1) (ho2:o1≤20) (hr1:k.i.r1=r1) (h116:r1<16) (hr2:k.i.r2=r2) (h216:r2<16) (hq1:k.A.c r1=q1) (hq2:k.A.c r2=q2) (hf1:q1.fit) (hf2:q2.fit) (hn:k.i.im%4294967296=(n:Int)) (hp:plB q1 2 o1 ((q1.a+n)%4294967296)=true) (hz:szO o1=8) (hg:q2.g=true) (h16:q2.p/16%2=0) (h32:q1.p/32%2=0) :
  Calls Tryz.prog 94 #[.pointer (some ⟨g,0,none⟩)] w fun e w'=>e=.panicked [{ v:=.iface 118 (.agg #[.int .u32 4]),recovered:=false }]∧Below w.heap.size w w':=by
 have hpp:=hp
 unfold plB at hpp
 rw [hz] at hpp
 simp only [Bool.and_eq_true,decide_eq_true_eq] at hpp
 obtain ⟨-,h8,h6,-⟩:=hpp
 have K137:=c137_2_ok g k o1 r1 n q1 w h.wk ho (by omega) ho2 hr1 h116 hq1 hf1 hn hp
 rw [hz] at K137
 have hn2:n<4294967296:=by omega
 obtain ⟨a,ha⟩:∃ a,((q1.a+n)%4294967296)=a:=⟨_,rfl⟩
 rw [ha] at K137 h8 h6
 have K1:=Lib.hid K137
 have hl:=h.wk.lt
 have HH:=Lib.hid h
 have K98:Hid (∀ W,Below w.heap.size w W→Calls Tryz.prog 98 #[.pointer (some ⟨g,0,none⟩)] W fun e w'=>e=.returned (.agg #[.bool q2.g,.int .u32 (q2.a:Int),.int .u8 (q2.p:Int),.int .u8 (q2.y:Int),.int .u8 (q2.e:Int),.int .u16 (q2.b:Int),.int .u16 (q2.t:Int)])∧Below W.heap.size W w'):=Lib.hid (fun W hb=>c98 g k W (h.wk.under hb hl) r2 q2 hr2 hq2 h216)
 have K136:Hid (∀ W,Below w.heap.size w W→Calls Tryz.prog 136 #[.pointer (some ⟨g,0,none⟩)] W fun e w'=>e=.returned (.agg #[.bool q1.g,.int .u32 (q1.a:Int),.int .u8 (q1.p:Int),.int .u8 (q1.y:Int),.int .u8 (q1.e:Int),.int .u16 (q1.b:Int),.int .u16 (q1.t:Int)])∧Below W.heap.size W w'):=Lib.hid (fun W hb=>c136 g k W (h.wk.under hb hl) r1 q1 hr1 hq1 h116)
 have HRL:Hid (∀ e,tv.ownBlock=some e→e<w.heap.size):=Lib.hid (fun e he=>(h.row.lt e he).2)
 obtain ⟨XS,hXS⟩:∃ XS,xs++[.int .i64 3,.int .u32 (a:Int),.int .i64 8]=XS:=⟨_,rfl⟩
 have KT:Hid (∀ W,Stp g b B M T tv m xs w0 W k→Calls Tryz.prog 89 #[.pointer (some ⟨g,0,none⟩),.int .i64 3,.int .u32 (a:Int),.int .i64 8] W fun e w'=>e=.returned (.tuple #[])∧∃ v,Stp g b B M T v (m+1) XS w0 w' (k.tc v)∧∀ i,i<W.heap.size→i≠g→tv.ownBlock≠some i→w'.heap[i]?=W.heap[i]?):=Lib.hid (fun W hs=>by rw [←hXS];exact hs.touch2 3 8 a hm6)
 have HMP:Hid (∀ W v,Wk W g (k.tc v)→W.cell? ⟨g,0,none⟩=some (.pointer (some ⟨b,0,none⟩))):=Lib.hid (fun W v hk=>by rw [←hmp];exact hk.mpc)
 have HGv:=Lib.hid hg
 have hfp:=hf2.2.1
 have hfp1:=hf1.2.1
 have h16b:=u8and16 q2.p 0 hfp h16
 have h32b:=u8and32 q1.p 0 hfp1 h32
 have hf32:∀ W,(Instr.field 29 (.agg #[.bool q1.g,.int .u32 (q1.a:Int),.int .u8 (q1.p:Int),.int .u8 (q1.y:Int),.int .u8 (q1.e:Int),.int .u16 (q1.b:Int),.int .u16 (q1.t:Int)]) 2).run Tryz.prog W=.ok (.int .u8 (q1.p:Int)) W:=fun W=>by kernel_rfl
 clear h hmp ho hr1 hq1 hr2 hq2 hf1 hf2 hn hp hz K137 ha hXS h8 hg
 go_enter Tryz.func94,Tryz.ntmps94
 go_wp2_with fail
 refine K1.out.mono ?_
 rintro _ w1 ⟨rfl,hb1⟩
 have HB1:=Lib.hid hb1
 clear hb1
 go_wp2_with fail
 refine (K98.out w1 HB1.out).mono ?_
 rintro _ w2 ⟨rfl,hb2⟩
 have HB2:Hid (Below w.heap.size w w2):=Lib.hid (HB1.out.trans (hb2.mono HB1.out.size))
 have HA3:Hid (Blk (w2.alloc (.cells #[.bool q2.g,.int .u32 (q2.a:Int),.int .u8 (q2.p:Int),.int .u8 (q2.y:Int),.int .u8 (q2.e:Int),.int .u16 (q2.b:Int),.int .u16 (q2.t:Int)] 29)) w2.heap.size 29 #[.bool q2.g,.int .u32 (q2.a:Int),.int .u8 (q2.p:Int),.int .u8 (q2.y:Int),.int .u8 (q2.e:Int),.int .u16 (q2.b:Int),.int .u16 (q2.t:Int)]):=Lib.hid (Blk.new w2 29 _)
 have HB3:Hid (Below w.heap.size w (w2.alloc (.cells #[.bool q2.g,.int .u32 (q2.a:Int),.int .u8 (q2.p:Int),.int .u8 (q2.y:Int),.int .u8 (q2.e:Int),.int .u16 (q2.b:Int),.int .u16 (q2.t:Int)] 29))):=Lib.hid (HB2.out.alloc HB2.out.size _)
 have hlp:w.heap.size≤w2.heap.size:=HB2.out.size
 obtain ⟨pb,hpe⟩:∃ pb,w2.heap.size=pb:=⟨_,rfl⟩
 rw [hpe] at HA3 hlp
 clear hb2
 go_upto_region 2 with fail
 generalize w2.alloc (.cells #[.bool q2.g,.int .u32 (q2.a:Int),.int .u8 (q2.p:Int),.int .u8 (q2.y:Int),.int .u8 (q2.e:Int),.int .u16 (q2.b:Int),.int .u16 (q2.t:Int)] 29)=W3 at *
 clear hpe
 have y0:=HA3.out.cell 0
 have y1:=HA3.out.cell 1
 have y2:=HA3.out.cell 2
 have y3:=HA3.out.cell 3
 have y4:=HA3.out.cell 4
 have y5:=HA3.out.cell 5
 have y6:=HA3.out.cell 6
 simp only [List.getElem?_toArray,List.getElem?_cons_zero,List.getElem?_cons_succ] at y0 y1 y2 y3 y4 y5 y6
 rw [HGv.out] at y0
 go_wp2_with fail
 refine (K136.out W3 HB3.out).mono ?_
 rintro _ w4 ⟨rfl,hb4⟩
 have HA4:Hid (Blk w4 pb 29 #[.bool q2.g,.int .u32 (q2.a:Int),.int .u8 (q2.p:Int),.int .u8 (q2.y:Int),.int .u8 (q2.e:Int),.int .u16 (q2.b:Int),.int .u16 (q2.t:Int)]):=Lib.hid (HA3.out.below hb4 HA3.out.lt)
 have HB4:Hid (Below w.heap.size w w4):=Lib.hid (HB3.out.trans (hb4.mono HB3.out.size))
 clear hb4 y0 y1 y2 y3 y4 y5 y6
 go_wp2_with fail
 exact ⟨rfl,rfl,HB4.out⟩
set_option maxHeartbeats 2000000 in
theorem c94_dev (g b B:Nat) (M:Nat→Nat) (T:Nat→Bool) (tv:Value) (m:Nat) (xs:List Value) (w0 w:World) (k:WK) (o1 r1 r2 n:Nat) (q1 q2:Cq) (h:Stp g b B M T tv m xs w0 w k) (hmp:k.mp=.pointer (some ⟨b,0,none⟩)) (hm6:m≤65536) (ho:k.i.o=o1) (ho1:17≤o1) (ho2:o1≤20) (hr1:k.i.r1=r1) (h116:r1<16) (hr2:k.i.r2=r2) (h216:r2<16) (hq1:k.A.c r1=q1) (hq2:k.A.c r2=q2) (hf1:q1.fit) (hf2:q2.fit) (hn:k.i.im%4294967296=(n:Int)) (hp:plB q1 2 o1 ((q1.a+n)%4294967296)=true) (hz:szO o1=4) (hdv:devB ((q1.a+n)%4294967296)=true) :
  Calls Tryz.prog 94 #[.pointer (some ⟨g,0,none⟩)] w fun e w'=>e=.returned (.tuple #[])∧∃ v,Stp g b B M T v (m+1) (xs++[.int .i64 3,.int .u32 ((((q1.a+n)%4294967296):Nat):Int),.int .i64 4]) w0 w' ((k.tc v).tl q2.a ((q1.a+n)%4294967296) true true true):=by
 have hpp:=hp
 unfold plB at hpp
 rw [hz] at hpp
 simp only [Bool.and_eq_true,decide_eq_true_eq] at hpp
 obtain ⟨-,h8,h6,-⟩:=hpp
 have K137:=c137_2_ok g k o1 r1 n q1 w h.wk ho (by omega) ho2 hr1 h116 hq1 hf1 hn hp
 rw [hz] at K137
 have hn2:n<4294967296:=by omega
 obtain ⟨a,ha⟩:∃ a,((q1.a+n)%4294967296)=a:=⟨_,rfl⟩
 rw [ha] at K137 h8 h6 hdv ⊢
 have K1:=Lib.hid K137
 have hl:=h.wk.lt
 have HH:=Lib.hid h
 have K98:Hid (∀ W,Below w.heap.size w W→Calls Tryz.prog 98 #[.pointer (some ⟨g,0,none⟩)] W fun e w'=>e=.returned (.agg #[.bool q2.g,.int .u32 (q2.a:Int),.int .u8 (q2.p:Int),.int .u8 (q2.y:Int),.int .u8 (q2.e:Int),.int .u16 (q2.b:Int),.int .u16 (q2.t:Int)])∧Below W.heap.size W w'):=Lib.hid (fun W hb=>c98 g k W (h.wk.under hb hl) r2 q2 hr2 hq2 h216)
 have K136:Hid (∀ W,Below w.heap.size w W→Calls Tryz.prog 136 #[.pointer (some ⟨g,0,none⟩)] W fun e w'=>e=.returned (.agg #[.bool q1.g,.int .u32 (q1.a:Int),.int .u8 (q1.p:Int),.int .u8 (q1.y:Int),.int .u8 (q1.e:Int),.int .u16 (q1.b:Int),.int .u16 (q1.t:Int)])∧Below W.heap.size W w'):=Lib.hid (fun W hb=>c136 g k W (h.wk.under hb hl) r1 q1 hr1 hq1 h116)
 have HRL:Hid (∀ e,tv.ownBlock=some e→e<w.heap.size):=Lib.hid (fun e he=>(h.row.lt e he).2)
 obtain ⟨XS,hXS⟩:∃ XS,xs++[.int .i64 3,.int .u32 (a:Int),.int .i64 4]=XS:=⟨_,rfl⟩
 have KT:Hid (∀ W,Stp g b B M T tv m xs w0 W k→Calls Tryz.prog 89 #[.pointer (some ⟨g,0,none⟩),.int .i64 3,.int .u32 (a:Int),.int .i64 4] W fun e w'=>e=.returned (.tuple #[])∧∃ v,Stp g b B M T v (m+1) XS w0 w' (k.tc v)∧∀ i,i<W.heap.size→i≠g→tv.ownBlock≠some i→w'.heap[i]?=W.heap[i]?):=Lib.hid (fun W hs=>by rw [←hXS];exact hs.touch2 3 4 a hm6)
 have HMP:Hid (∀ W v,Wk W g (k.tc v)→W.cell? ⟨g,0,none⟩=some (.pointer (some ⟨b,0,none⟩))):=Lib.hid (fun W v hk=>by rw [←hmp];exact hk.mpc)
 rw [hXS]
 have K88:=Lib.hid (c88 a)
 rw [hdv] at K88
 clear h hmp ho hr1 hq1 hr2 hq2 hf1 hf2 hn hp hz K137 ha hXS h8 hdv
 go_enter Tryz.func94,Tryz.ntmps94
 go_wp2_with fail
 refine K1.out.mono ?_
 rintro _ w1 ⟨rfl,hb1⟩
 have HB1:=Lib.hid hb1
 clear hb1
 go_wp2_with fail
 refine (K98.out w1 HB1.out).mono ?_
 rintro _ w2 ⟨rfl,hb2⟩
 have HB2:Hid (Below w.heap.size w w2):=Lib.hid (HB1.out.trans (hb2.mono HB1.out.size))
 have HA3:Hid (Blk (w2.alloc (.cells #[.bool q2.g,.int .u32 (q2.a:Int),.int .u8 (q2.p:Int),.int .u8 (q2.y:Int),.int .u8 (q2.e:Int),.int .u16 (q2.b:Int),.int .u16 (q2.t:Int)] 29)) w2.heap.size 29 #[.bool q2.g,.int .u32 (q2.a:Int),.int .u8 (q2.p:Int),.int .u8 (q2.y:Int),.int .u8 (q2.e:Int),.int .u16 (q2.b:Int),.int .u16 (q2.t:Int)]):=Lib.hid (Blk.new w2 29 _)
 have HB3:Hid (Below w.heap.size w (w2.alloc (.cells #[.bool q2.g,.int .u32 (q2.a:Int),.int .u8 (q2.p:Int),.int .u8 (q2.y:Int),.int .u8 (q2.e:Int),.int .u16 (q2.b:Int),.int .u16 (q2.t:Int)] 29))):=Lib.hid (HB2.out.alloc HB2.out.size _)
 have hlp:w.heap.size≤w2.heap.size:=HB2.out.size
 obtain ⟨pb,hpe⟩:∃ pb,w2.heap.size=pb:=⟨_,rfl⟩
 rw [hpe] at HA3 hlp
 clear hb2
 go_upto_region 2 with fail
 generalize w2.alloc (.cells #[.bool q2.g,.int .u32 (q2.a:Int),.int .u8 (q2.p:Int),.int .u8 (q2.y:Int),.int .u8 (q2.e:Int),.int .u16 (q2.b:Int),.int .u16 (q2.t:Int)] 29)=W3 at *
 clear hpe
 have y0:=HA3.out.cell 0
 have y1:=HA3.out.cell 1
 have y2:=HA3.out.cell 2
 have y3:=HA3.out.cell 3
 have y4:=HA3.out.cell 4
 have y5:=HA3.out.cell 5
 have y6:=HA3.out.cell 6
 simp only [List.getElem?_toArray,List.getElem?_cons_zero,List.getElem?_cons_succ] at y0 y1 y2 y3 y4 y5 y6
 go_wp2_with fail
 clear y0 y1 y2 y3 y4 y5 y6
 refine (KT.out W3 (HH.out.below HB3.out)).mono ?_
 rintro _ w5 ⟨rfl,v,hs5,hx5⟩
 have hgp:pb≠g:=by omega
 have HS5:=Lib.hid hs5
 have HA5:Hid (Blk w5 pb 29 #[.bool q2.g,.int .u32 (q2.a:Int),.int .u8 (q2.p:Int),.int .u8 (q2.y:Int),.int .u8 (q2.e:Int),.int .u16 (q2.b:Int),.int .u16 (q2.t:Int)]):=Lib.hid ((hx5 pb HA3.out.lt hgp (fun e=>by have:=HRL.out pb e;omega)).trans HA3.out)
 clear hs5 hx5
 go_wp2_with fail
 refine (K88.out w5).mono ?_
 rintro _ _ ⟨rfl,rfl⟩
 go_upto_region 9 with fail
 refine at_eq fun T0 hT=>?_
 have hts:T0.size=74:=by rw [hT];rfl
 have fx0:T0.getD 0 undef=.pointer (some ⟨g,0,none⟩):=by rw [hT];rfl
 have fx2:T0.getD 2 undef=.int .u32 (a:Int):=by rw [hT];rfl
 have fx4:T0.getD 4 undef=.pointer (some ⟨pb,0,none⟩):=by rw [hT];rfl
 have HT:=Lib.hid hT
 clear hT
 obtain ⟨ex,hex⟩:∃ ex:Nat→Ex,ex=fun p=>[(0,59,.pointer (some ⟨g,0,none⟩)),(1,60,.pointer (some ⟨g,0,none⟩)),(2,61,.pointer (some ⟨g,0,none⟩)),(3,62,.pointer (some ⟨pb,1,none⟩)),(4,63,.int .u32 (q2.a:Int)),(5,64,.int .u32 (a:Int)),(6,65,.pointer (some ⟨g,0,none⟩)),(7,66,.pointer (some ⟨g,309,none⟩)),(8,67,.pointer (some ⟨g,311,none⟩)),(10,68,.pointer (some ⟨g,0,none⟩)),(11,69,.pointer (some ⟨g,309,none⟩)),(12,70,.pointer (some ⟨g,312,none⟩)),(14,71,.pointer (some ⟨g,0,none⟩)),(15,72,.pointer (some ⟨g,309,none⟩)),(16,73,.pointer (some ⟨g,313,none⟩))]:=⟨_,rfl⟩
 have HN:∀ p,apartB (ex p)=true:=by rw [hex];intro p;kernel_rfl
 have M0:∀ p,(0,59,.pointer (some ⟨g,0,none⟩))∈ex p:=by rw [hex];intro p;simp
 have M1:∀ p,(1,60,.pointer (some ⟨g,0,none⟩))∈ex p:=by rw [hex];intro p;simp
 have M2:∀ p,(2,61,.pointer (some ⟨g,0,none⟩))∈ex p:=by rw [hex];intro p;simp
 have M3:∀ p,(3,62,.pointer (some ⟨pb,1,none⟩))∈ex p:=by rw [hex];intro p;simp
 have M4:∀ p,(4,63,.int .u32 (q2.a:Int))∈ex p:=by rw [hex];intro p;simp
 have M5:∀ p,(5,64,.int .u32 (a:Int))∈ex p:=by rw [hex];intro p;simp
 have M6:∀ p,(6,65,.pointer (some ⟨g,0,none⟩))∈ex p:=by rw [hex];intro p;simp
 have M7:∀ p,(7,66,.pointer (some ⟨g,309,none⟩))∈ex p:=by rw [hex];intro p;simp
 have M8:∀ p,(8,67,.pointer (some ⟨g,311,none⟩))∈ex p:=by rw [hex];intro p;simp
 have M10:∀ p,(10,68,.pointer (some ⟨g,0,none⟩))∈ex p:=by rw [hex];intro p;simp
 have M11:∀ p,(11,69,.pointer (some ⟨g,309,none⟩))∈ex p:=by rw [hex];intro p;simp
 have M12:∀ p,(12,70,.pointer (some ⟨g,312,none⟩))∈ex p:=by rw [hex];intro p;simp
 have M14:∀ p,(14,71,.pointer (some ⟨g,0,none⟩))∈ex p:=by rw [hex];intro p;simp
 have M15:∀ p,(15,72,.pointer (some ⟨g,309,none⟩))∈ex p:=by rw [hex];intro p;simp
 have M16:∀ p,(16,73,.pointer (some ⟨g,313,none⟩))∈ex p:=by rw [hex];intro p;simp
 refine wp_region_tm (by kernel_rfl) (by kernel_rfl) ex (JT g w5.heap.size w5 (k.tc v) q2.a a pb #[.bool q2.g,.int .u32 (q2.a:Int),.int .u8 (q2.p:Int),.int .u8 (q2.y:Int),.int .u8 (q2.e:Int),.int .u16 (q2.b:Int),.int .u16 (q2.t:Int)] 9 13 17) 0 ⟨⟨rfl,rfl,rfl,Nat.le_refl _,fun _ _ _=>rfl⟩,Blk.drew HA5.out,Blk.drew HS5.out.wk⟩ ?_ (by rw [hex];intro p;kernel_rfl) ?_
 ·intro p l W i o hls hop hun hdep hj
  have hi:i<18:=(Array.getElem?_eq_some_iff.1 hop).1
  have hil:i<l.size:=by rw [hls];exact hi
  rcases (by omega:i=0∨i=1∨i=2∨i=3∨i=4∨i=5∨i=6∨i=7∨i=8∨i=9∨i=10∨i=11∨i=12∨i=13∨i=14∨i=15∨i=16∨i=17) with rfl | rfl | rfl | rfl | rfl | rfl | rfl | rfl | rfl | rfl | rfl | rfl | rfl | rfl | rfl | rfl | rfl | rfl
  ·cases hop
   have r0:=(tmA_none T0 (ex p) l 0 (by rw [hex];kernel_rfl)).trans fx0
   refine wpOp_of rfl rfl ?_
   refine wp_move (.tmp 0) rfl _ r0 ?_
   exact step_val (p':=p) _ (HN _) (M0 _) hil (by rw [hts];decide) rfl (hj.other 0 (by decide) (by decide) (by decide))
  ·cases hop
   have r0:=(tmA_none T0 (ex p) l 0 (by rw [hex];kernel_rfl)).trans fx0
   refine wpOp_of rfl rfl ?_
   refine wp_move (.tmp 0) rfl _ r0 ?_
   exact step_val (p':=p) _ (HN _) (M1 _) hil (by rw [hts];decide) rfl (hj.other 1 (by decide) (by decide) (by decide))
  ·cases hop
   have r0:=(tmA_none T0 (ex p) l 0 (by rw [hex];kernel_rfl)).trans fx0
   refine wpOp_of rfl rfl ?_
   refine wp_move (.tmp 0) rfl _ r0 ?_
   exact step_val (p':=p) _ (HN _) (M2 _) hil (by rw [hts];decide) rfl (hj.other 2 (by decide) (by decide) (by decide))
  ·cases hop
   have r4:=(tmA_none T0 (ex p) l 4 (by rw [hex];kernel_rfl)).trans fx4
   refine wpOp_of rfl rfl ?_
   refine wp_fa 29 (.tmp 4) 1 0 rfl pb 0 1 r4 (fa29_1 pb) ?_
   exact step_val (p':=p) _ (HN _) (M3 _) hil (by rw [hts];decide) rfl (hj.other 3 (by decide) (by decide) (by decide))
  ·cases hop
   have r62:=tmA_some T0 _ _ (HN p) 3 62 _ (M3 p) (hdep ⟨3,.data⟩ (by simp) rfl) (by rw [hts];decide)
   refine wpOp_of rfl rfl ?_
   refine wp_ld 25 (.tmp 62) rfl ⟨pb,1,none⟩ _ r62 agg25 (hj.2.1.cell 1) ?_
   exact step_val (p':=p) _ (HN _) (M4 _) hil (by rw [hts];decide) rfl (hj.other 4 (by decide) (by decide) (by decide))
  ·cases hop
   have r2:=(tmA_none T0 (ex p) l 2 (by rw [hex];kernel_rfl)).trans fx2
   refine wpOp_of rfl rfl ?_
   refine wp_move (.tmp 2) rfl _ r2 ?_
   exact step_val (p':=p) _ (HN _) (M5 _) hil (by rw [hts];decide) rfl (hj.other 5 (by decide) (by decide) (by decide))
  ·cases hop
   have r59:=tmA_some T0 _ _ (HN p) 0 59 _ (M0 p) (hdep ⟨0,.data⟩ (by simp) rfl) (by rw [hts];decide)
   refine wpOp_of rfl rfl ?_
   refine wp_nil (.tmp 59) rfl _ r59 ?_
   exact step_val (p':=p) _ (HN _) (M6 _) hil (by rw [hts];decide) rfl (hj.other 6 (by decide) (by decide) (by decide))
  ·cases hop
   have r65:=tmA_some T0 _ _ (HN p) 6 65 _ (M6 p) (hdep ⟨6,.data⟩ (by simp) rfl) (by rw [hts];decide)
   refine wpOp_of rfl rfl ?_
   refine wp_fa 81 (.tmp 65) 5 0 rfl g 0 309 r65 (fa81_5 g) ?_
   exact step_val (p':=p) _ (HN _) (M7 _) hil (by rw [hts];decide) rfl (hj.other 7 (by decide) (by decide) (by decide))
  ·cases hop
   have r66:=tmA_some T0 _ _ (HN p) 7 66 _ (M7 p) (hdep ⟨7,.data⟩ (by simp) rfl) (by rw [hts];decide)
   refine wpOp_of rfl rfl ?_
   refine wp_fa 41 (.tmp 66) 2 0 rfl g 309 311 r66 (fa41_2 g) ?_
   exact step_val (p':=p) _ (HN _) (M8 _) hil (by rw [hts];decide) rfl (hj.other 8 (by decide) (by decide) (by decide))
  ·cases hop
   have hun':=getD_un hun
   have r67:=tmA_some T0 _ _ (HN p) 8 67 _ (M8 p) (hdep ⟨8,.data⟩ (by simp) rfl) (by rw [hts];decide)
   refine wpOp_of rfl rfl ?_
   refine wp_st 4 (.tmp 67) (.const (.bool true)) rfl ⟨g,311,none⟩ (.bool true) _ r67 rfl rfl info4s (hj.2.2.dcell 2 (by decide)) (Blk.frozen hj.2.2 311) ?_
   exact step_none (by rw [hex];kernel_rfl) _ (hj.st hgp 311 (.bool true) (by rw [show (l.setIfInBounds 9 true).getD 9 false=true by rw [set_at2,if_pos ⟨rfl,hil⟩],show (l.setIfInBounds 9 true).getD 13 false=l.getD 13 false by rw [set_at2,if_neg (fun e=>by omega)],show (l.setIfInBounds 9 true).getD 17 false=l.getD 17 false by rw [set_at2,if_neg (fun e=>by omega)],hun'];exact WK.tl_x _ _ _ _ _))
  ·cases hop
   have r60:=tmA_some T0 _ _ (HN p) 1 60 _ (M1 p) (hdep ⟨1,.data⟩ (by simp) rfl) (by rw [hts];decide)
   refine wpOp_of rfl rfl ?_
   refine wp_nil (.tmp 60) rfl _ r60 ?_
   exact step_val (p':=p) _ (HN _) (M10 _) hil (by rw [hts];decide) rfl (hj.other 10 (by decide) (by decide) (by decide))
  ·cases hop
   have r68:=tmA_some T0 _ _ (HN p) 10 68 _ (M10 p) (hdep ⟨10,.data⟩ (by simp) rfl) (by rw [hts];decide)
   refine wpOp_of rfl rfl ?_
   refine wp_fa 81 (.tmp 68) 5 0 rfl g 0 309 r68 (fa81_5 g) ?_
   exact step_val (p':=p) _ (HN _) (M11 _) hil (by rw [hts];decide) rfl (hj.other 11 (by decide) (by decide) (by decide))
  ·cases hop
   have r69:=tmA_some T0 _ _ (HN p) 11 69 _ (M11 p) (hdep ⟨11,.data⟩ (by simp) rfl) (by rw [hts];decide)
   refine wpOp_of rfl rfl ?_
   refine wp_fa 41 (.tmp 69) 3 0 rfl g 309 312 r69 (fa41_3 g) ?_
   exact step_val (p':=p) _ (HN _) (M12 _) hil (by rw [hts];decide) rfl (hj.other 12 (by decide) (by decide) (by decide))
  ·cases hop
   have hun':=getD_un hun
   have r70:=tmA_some T0 _ _ (HN p) 12 70 _ (M12 p) (hdep ⟨12,.data⟩ (by simp) rfl) (by rw [hts];decide)
   have r63:=tmA_some T0 _ _ (HN p) 4 63 _ (M4 p) (hdep ⟨4,.data⟩ (by simp) rfl) (by rw [hts];decide)
   refine wpOp_of rfl rfl ?_
   refine wp_st 25 (.tmp 70) (.tmp 63) rfl ⟨g,312,none⟩ _ _ r70 r63 rfl info25s (hj.2.2.dcell 3 (by decide)) (Blk.frozen hj.2.2 312) ?_
   exact step_none (by rw [hex];kernel_rfl) _ (hj.st hgp 312 (.int .u32 (q2.a:Int)) (by rw [show (l.setIfInBounds 13 true).getD 13 false=true by rw [set_at2,if_pos ⟨rfl,hil⟩],show (l.setIfInBounds 13 true).getD 9 false=l.getD 9 false by rw [set_at2,if_neg (fun e=>by omega)],show (l.setIfInBounds 13 true).getD 17 false=l.getD 17 false by rw [set_at2,if_neg (fun e=>by omega)],hun'];exact WK.tl_y _ _ _ _ _))
  ·cases hop
   have r61:=tmA_some T0 _ _ (HN p) 2 61 _ (M2 p) (hdep ⟨2,.data⟩ (by simp) rfl) (by rw [hts];decide)
   refine wpOp_of rfl rfl ?_
   refine wp_nil (.tmp 61) rfl _ r61 ?_
   exact step_val (p':=p) _ (HN _) (M14 _) hil (by rw [hts];decide) rfl (hj.other 14 (by decide) (by decide) (by decide))
  ·cases hop
   have r71:=tmA_some T0 _ _ (HN p) 14 71 _ (M14 p) (hdep ⟨14,.data⟩ (by simp) rfl) (by rw [hts];decide)
   refine wpOp_of rfl rfl ?_
   refine wp_fa 81 (.tmp 71) 5 0 rfl g 0 309 r71 (fa81_5 g) ?_
   exact step_val (p':=p) _ (HN _) (M15 _) hil (by rw [hts];decide) rfl (hj.other 15 (by decide) (by decide) (by decide))
  ·cases hop
   have r72:=tmA_some T0 _ _ (HN p) 15 72 _ (M15 p) (hdep ⟨15,.data⟩ (by simp) rfl) (by rw [hts];decide)
   refine wpOp_of rfl rfl ?_
   refine wp_fa 41 (.tmp 72) 4 0 rfl g 309 313 r72 (fa41_4 g) ?_
   exact step_val (p':=p) _ (HN _) (M16 _) hil (by rw [hts];decide) rfl (hj.other 16 (by decide) (by decide) (by decide))
  ·cases hop
   have hun':=getD_un hun
   have r73:=tmA_some T0 _ _ (HN p) 16 73 _ (M16 p) (hdep ⟨16,.data⟩ (by simp) rfl) (by rw [hts];decide)
   have r64:=tmA_some T0 _ _ (HN p) 5 64 _ (M5 p) (hdep ⟨5,.data⟩ (by simp) rfl) (by rw [hts];decide)
   refine wpOp_of rfl rfl ?_
   refine wp_st 25 (.tmp 73) (.tmp 64) rfl ⟨g,313,none⟩ _ _ r73 r64 rfl info25s (hj.2.2.dcell 4 (by decide)) (Blk.frozen hj.2.2 313) ?_
   exact step_none (by rw [hex];kernel_rfl) _ (hj.st hgp 313 (.int .u32 (a:Int)) (by rw [show (l.setIfInBounds 17 true).getD 17 false=true by rw [set_at2,if_pos ⟨rfl,hil⟩],show (l.setIfInBounds 17 true).getD 9 false=l.getD 9 false by rw [set_at2,if_neg (fun e=>by omega)],show (l.setIfInBounds 17 true).getD 13 false=l.getD 13 false by rw [set_at2,if_neg (fun e=>by omega)],hun'];exact WK.tl_z _ _ _ _ _))
 ·intro p l W hall hj
  obtain ⟨hsv,-,hk⟩:=hj
  rw [hall 9 (by show 9<18;omega),hall 13 (by show 13<18;omega),hall 17 (by show 17<18;omega)] at hk
  have hfin:=HS5.out.only hsv hk rfl
  subst hex
  rw [HT.out]
  simp only [putAll]
  clear hall hsv hk
  go_wp2_with fail
  go_end0
  exact ⟨rfl,v,hfin⟩
set_option maxHeartbeats 2000000 in
theorem c94_n (g b B:Nat) (M:Nat→Nat) (T:Nat→Bool) (tv:Value) (m:Nat) (xs:List Value) (w0 w:World) (k:WK) (o1 r1 r2 n:Nat) (q1 q2:Cq) (h:Stp g b B M T tv m xs w0 w k) (hmp:k.mp=.pointer (some ⟨b,0,none⟩)) (hm6:m≤65536) (ho:k.i.o=o1) (ho1:17≤o1) (ho2:o1≤20) (hr1:k.i.r1=r1) (h116:r1<16) (hr2:k.i.r2=r2) (h216:r2<16) (hq1:k.A.c r1=q1) (hq2:k.A.c r2=q2) (hf1:q1.fit) (hf2:q2.fit) (hn:k.i.im%4294967296=(n:Int)) (hp:plB q1 2 o1 ((q1.a+n)%4294967296)=true) (sz:Nat) (hs3:sz=1∨sz=2∨sz=4) (hz:szO o1=sz) (hdv:devB ((q1.a+n)%4294967296)=false) :
  Calls Tryz.prog 94 #[.pointer (some ⟨g,0,none⟩)] w fun e w'=>e=.returned (.tuple #[])∧∃ v,Stp g b B (stB M ((q1.a+n)%4294967296) sz q2.a) (stT T ((q1.a+n)%4294967296) false) v (m+1) (xs++[.int .i64 3,.int .u32 ((((q1.a+n)%4294967296):Nat):Int),.int .i64 (sz:Int)]) w0 w' (k.tc v):=by
 have hpp:=hp
 unfold plB at hpp
 rw [hz] at hpp
 simp only [Bool.and_eq_true,decide_eq_true_eq] at hpp
 obtain ⟨-,h8,h6,-⟩:=hpp
 have K137:=c137_2_ok g k o1 r1 n q1 w h.wk ho (by omega) ho2 hr1 h116 hq1 hf1 hn hp
 rw [hz] at K137
 obtain ⟨z,hzz⟩:∃ z,(sz:Int)=z:=⟨_,rfl⟩
 rw [hzz] at K137
 have hz8:(z==8)=false:=by rw [←hzz];rcases hs3 with rfl | rfl | rfl <;> rfl
 have hn2:n<4294967296:=by omega
 obtain ⟨a,ha⟩:∃ a,((q1.a+n)%4294967296)=a:=⟨_,rfl⟩
 rw [ha] at K137 h8 h6 hdv ⊢
 have K1:=Lib.hid K137
 have hl:=h.wk.lt
 have HH:=Lib.hid h
 have K98:Hid (∀ W,Below w.heap.size w W→Calls Tryz.prog 98 #[.pointer (some ⟨g,0,none⟩)] W fun e w'=>e=.returned (.agg #[.bool q2.g,.int .u32 (q2.a:Int),.int .u8 (q2.p:Int),.int .u8 (q2.y:Int),.int .u8 (q2.e:Int),.int .u16 (q2.b:Int),.int .u16 (q2.t:Int)])∧Below W.heap.size W w'):=Lib.hid (fun W hb=>c98 g k W (h.wk.under hb hl) r2 q2 hr2 hq2 h216)
 have K136:Hid (∀ W,Below w.heap.size w W→Calls Tryz.prog 136 #[.pointer (some ⟨g,0,none⟩)] W fun e w'=>e=.returned (.agg #[.bool q1.g,.int .u32 (q1.a:Int),.int .u8 (q1.p:Int),.int .u8 (q1.y:Int),.int .u8 (q1.e:Int),.int .u16 (q1.b:Int),.int .u16 (q1.t:Int)])∧Below W.heap.size W w'):=Lib.hid (fun W hb=>c136 g k W (h.wk.under hb hl) r1 q1 hr1 hq1 h116)
 have HRL:Hid (∀ e,tv.ownBlock=some e→e<w.heap.size):=Lib.hid (fun e he=>(h.row.lt e he).2)
 obtain ⟨XS,hXS⟩:∃ XS,xs++[.int .i64 3,.int .u32 (a:Int),.int .i64 (sz:Int)]=XS:=⟨_,rfl⟩
 have KT:Hid (∀ W,Stp g b B M T tv m xs w0 W k→Calls Tryz.prog 89 #[.pointer (some ⟨g,0,none⟩),.int .i64 3,.int .u32 (a:Int),.int .i64 z] W fun e w'=>e=.returned (.tuple #[])∧∃ v,Stp g b B M T v (m+1) XS w0 w' (k.tc v)∧∀ i,i<W.heap.size→i≠g→tv.ownBlock≠some i→w'.heap[i]?=W.heap[i]?):=Lib.hid (fun W hs=>by rw [←hXS,←hzz];exact hs.touch2 3 (sz:Int) a hm6)
 have HMP:Hid (∀ W v,Wk W g (k.tc v)→W.cell? ⟨g,0,none⟩=some (.pointer (some ⟨b,0,none⟩))):=Lib.hid (fun W v hk=>by rw [←hmp];exact hk.mpc)
 rw [hXS]
 have KST:Hid (∀ W,Mem W b M T→Calls Tryz.prog 22 #[.pointer (some ⟨b,0,none⟩),.int .u32 (a:Int),.int .i64 z,.int .u32 (q2.a:Int)] W fun en w'=>en=.returned (.int .i64 0)∧Only b W w'∧Mem w' b (stB M a sz q2.a) (stT T a false)):=Lib.hid (fun W hm=>by rw [←hzz];exact mStore b a q2.a (sz:Int) M T W hm hf2.1 (by unfold wordB;rcases hs3 with rfl | rfl | rfl <;> exact decide_eq_true ⟨by omega,h6,by omega⟩))
 have K88:=Lib.hid (c88 a)
 rw [hdv] at K88
 clear hzz hs3 h hmp ho hr1 hq1 hr2 hq2 hf1 hf2 hn hp hz K137 ha hXS h8 hdv
 go_enter Tryz.func94,Tryz.ntmps94
 go_wp2_with fail
 refine K1.out.mono ?_
 rintro _ w1 ⟨rfl,hb1⟩
 have HB1:=Lib.hid hb1
 clear hb1
 go_wp2_with fail
 refine (K98.out w1 HB1.out).mono ?_
 rintro _ w2 ⟨rfl,hb2⟩
 have HB2:Hid (Below w.heap.size w w2):=Lib.hid (HB1.out.trans (hb2.mono HB1.out.size))
 have HA3:Hid (Blk (w2.alloc (.cells #[.bool q2.g,.int .u32 (q2.a:Int),.int .u8 (q2.p:Int),.int .u8 (q2.y:Int),.int .u8 (q2.e:Int),.int .u16 (q2.b:Int),.int .u16 (q2.t:Int)] 29)) w2.heap.size 29 #[.bool q2.g,.int .u32 (q2.a:Int),.int .u8 (q2.p:Int),.int .u8 (q2.y:Int),.int .u8 (q2.e:Int),.int .u16 (q2.b:Int),.int .u16 (q2.t:Int)]):=Lib.hid (Blk.new w2 29 _)
 have HB3:Hid (Below w.heap.size w (w2.alloc (.cells #[.bool q2.g,.int .u32 (q2.a:Int),.int .u8 (q2.p:Int),.int .u8 (q2.y:Int),.int .u8 (q2.e:Int),.int .u16 (q2.b:Int),.int .u16 (q2.t:Int)] 29))):=Lib.hid (HB2.out.alloc HB2.out.size _)
 have hlp:w.heap.size≤w2.heap.size:=HB2.out.size
 obtain ⟨pb,hpe⟩:∃ pb,w2.heap.size=pb:=⟨_,rfl⟩
 rw [hpe] at HA3 hlp
 clear hb2
 go_upto_region 2 with fail
 generalize w2.alloc (.cells #[.bool q2.g,.int .u32 (q2.a:Int),.int .u8 (q2.p:Int),.int .u8 (q2.y:Int),.int .u8 (q2.e:Int),.int .u16 (q2.b:Int),.int .u16 (q2.t:Int)] 29)=W3 at *
 clear hpe
 have y0:=HA3.out.cell 0
 have y1:=HA3.out.cell 1
 have y2:=HA3.out.cell 2
 have y3:=HA3.out.cell 3
 have y4:=HA3.out.cell 4
 have y5:=HA3.out.cell 5
 have y6:=HA3.out.cell 6
 simp only [List.getElem?_toArray,List.getElem?_cons_zero,List.getElem?_cons_succ] at y0 y1 y2 y3 y4 y5 y6
 go_wp2_with fail
 clear y0 y1 y2 y3 y4 y5 y6
 refine (KT.out W3 (HH.out.below HB3.out)).mono ?_
 rintro _ w5 ⟨rfl,v,hs5,hx5⟩
 have hgp:pb≠g:=by omega
 have HS5:=Lib.hid hs5
 have HA5:Hid (Blk w5 pb 29 #[.bool q2.g,.int .u32 (q2.a:Int),.int .u8 (q2.p:Int),.int .u8 (q2.y:Int),.int .u8 (q2.e:Int),.int .u16 (q2.b:Int),.int .u16 (q2.t:Int)]):=Lib.hid ((hx5 pb HA3.out.lt hgp (fun e=>by have:=HRL.out pb e;omega)).trans HA3.out)
 clear hs5 hx5
 go_wp2_with fail
 refine (K88.out w5).mono ?_
 rintro _ _ ⟨rfl,rfl⟩
 go_upto_region 5 with fail
 have HSD:Hid (Stp g b B M T v (m+1) XS w0 w5.drew (k.tc v)):=Lib.hid (HS5.out.below (Below.refl _ _).drew)
 have HAD:Hid (Blk w5.drew pb 29 #[.bool q2.g,.int .u32 (q2.a:Int),.int .u8 (q2.p:Int),.int .u8 (q2.y:Int),.int .u8 (q2.e:Int),.int .u16 (q2.b:Int),.int .u16 (q2.t:Int)]):=Lib.hid (Blk.drew HA5.out)
 refine at_eq fun T0 hT=>?_
 have hts:T0.size=74:=by rw [hT];rfl
 have fx0:T0.getD 0 undef=.pointer (some ⟨g,0,none⟩):=by rw [hT];rfl
 have fx2:T0.getD 2 undef=.int .u32 (a:Int):=by rw [hT];rfl
 have fx3:T0.getD 3 undef=.int .i64 z:=by rw [hT];rfl
 have fx4:T0.getD 4 undef=.pointer (some ⟨pb,0,none⟩):=by rw [hT];rfl
 have HT:=Lib.hid hT
 clear hT
 obtain ⟨ex,hex⟩:∃ ex:Nat→Ex,ex=fun p=>[(0,37,.pointer (some ⟨g,0,none⟩)),(1,38,.pointer (some ⟨g,0,none⟩)),(2,39,.pointer (some ⟨g,0,none⟩)),(3,40,.pointer (some ⟨b,0,none⟩)),(4,41,.int .u32 (a:Int)),(5,42,.int .i64 z),(6,43,.pointer (some ⟨pb,1,none⟩)),(7,44,.int .u32 (q2.a:Int)),(8,45,.int .i64 0)]:=⟨_,rfl⟩
 have HN:∀ p,apartB (ex p)=true:=by rw [hex];intro p;kernel_rfl
 have M0:∀ p,(0,37,.pointer (some ⟨g,0,none⟩))∈ex p:=by rw [hex];intro p;simp
 have M1:∀ p,(1,38,.pointer (some ⟨g,0,none⟩))∈ex p:=by rw [hex];intro p;simp
 have M2:∀ p,(2,39,.pointer (some ⟨g,0,none⟩))∈ex p:=by rw [hex];intro p;simp
 have M3:∀ p,(3,40,.pointer (some ⟨b,0,none⟩))∈ex p:=by rw [hex];intro p;simp
 have M4:∀ p,(4,41,.int .u32 (a:Int))∈ex p:=by rw [hex];intro p;simp
 have M5:∀ p,(5,42,.int .i64 z)∈ex p:=by rw [hex];intro p;simp
 have M6:∀ p,(6,43,.pointer (some ⟨pb,1,none⟩))∈ex p:=by rw [hex];intro p;simp
 have M7:∀ p,(7,44,.int .u32 (q2.a:Int))∈ex p:=by rw [hex];intro p;simp
 have M8:∀ p,(8,45,.int .i64 0)∈ex p:=by rw [hex];intro p;simp
 refine wp_region_tm (by kernel_rfl) (by kernel_rfl) ex ((JE2 w5.drew (fun W=>Stp g b B (stB M a sz q2.a) (stT T a false) v (m+1) XS w0 W (k.tc v)) 8 3 7)) 0 ⟨JE.begin,fun q=>absurd q (by decide)⟩ ?_ (by rw [hex];intro p;kernel_rfl) ?_
 ·intro p l W i o hls hop hun hdep hj
  have hi:i<9:=(Array.getElem?_eq_some_iff.1 hop).1
  have hil:i<l.size:=by rw [hls];exact hi
  rcases (by omega:i=0∨i=1∨i=2∨i=3∨i=4∨i=5∨i=6∨i=7∨i=8) with rfl | rfl | rfl | rfl | rfl | rfl | rfl | rfl | rfl
  ·cases hop
   have r0:=(tmA_none T0 (ex p) l 0 (by rw [hex];kernel_rfl)).trans fx0
   refine wpOp_of rfl rfl ?_
   refine wp_move (.tmp 0) rfl _ r0 ?_
   exact step_val (p':=p) _ (HN _) (M0 _) hil (by rw [hts];decide) rfl (hj.other 0 (by decide))
  ·cases hop
   have r37:=tmA_some T0 _ _ (HN p) 0 37 _ (M0 p) (hdep ⟨0,.data⟩ (by simp) rfl) (by rw [hts];decide)
   refine wpOp_of rfl rfl ?_
   refine wp_nil (.tmp 37) rfl _ r37 ?_
   exact step_val (p':=p) _ (HN _) (M1 _) hil (by rw [hts];decide) rfl (hj.other 1 (by decide))
  ·cases hop
   have r38:=tmA_some T0 _ _ (HN p) 1 38 _ (M1 p) (hdep ⟨1,.data⟩ (by simp) rfl) (by rw [hts];decide)
   refine wpOp_of rfl rfl ?_
   refine wp_fa 81 (.tmp 38) 0 0 rfl g 0 0 r38 (fa81_0 g) ?_
   exact step_val (p':=p) _ (HN _) (M2 _) hil (by rw [hts];decide) rfl (hj.other 2 (by decide))
  ·cases hop
   have hun':=getD_un hun
   have r39:=tmA_some T0 _ _ (HN p) 2 39 _ (M2 p) (hdep ⟨2,.data⟩ (by simp) rfl) (by rw [hts];decide)
   refine wpOp_of rfl rfl ?_
   have hW:=hj.un (Or.inl hun')
   subst hW
   refine wp_ld 34 (.tmp 39) rfl ⟨g,0,none⟩ _ r39 agg34 (HMP.out _ v HSD.out.wk) ?_
   exact step_val (p':=p) _ (HN _) (M3 _) hil (by rw [hts];decide) rfl (hj.other 3 (by decide))
  ·cases hop
   have r2:=(tmA_none T0 (ex p) l 2 (by rw [hex];kernel_rfl)).trans fx2
   refine wpOp_of rfl rfl ?_
   refine wp_move (.tmp 2) rfl _ r2 ?_
   exact step_val (p':=p) _ (HN _) (M4 _) hil (by rw [hts];decide) rfl (hj.other 4 (by decide))
  ·cases hop
   have r3:=(tmA_none T0 (ex p) l 3 (by rw [hex];kernel_rfl)).trans fx3
   refine wpOp_of rfl rfl ?_
   refine wp_move (.tmp 3) rfl _ r3 ?_
   exact step_val (p':=p) _ (HN _) (M5 _) hil (by rw [hts];decide) rfl (hj.other 5 (by decide))
  ·cases hop
   have r4:=(tmA_none T0 (ex p) l 4 (by rw [hex];kernel_rfl)).trans fx4
   refine wpOp_of rfl rfl ?_
   refine wp_fa 29 (.tmp 4) 1 0 rfl pb 0 1 r4 (fa29_1 pb) ?_
   exact step_val (p':=p) _ (HN _) (M6 _) hil (by rw [hts];decide) rfl (hj.other 6 (by decide))
  ·cases hop
   have hun':=getD_un hun
   have r43:=tmA_some T0 _ _ (HN p) 6 43 _ (M6 p) (hdep ⟨6,.data⟩ (by simp) rfl) (by rw [hts];decide)
   refine wpOp_of rfl rfl ?_
   have hW:=hj.un (Or.inr (Or.inl hun'))
   subst hW
   refine wp_ld 25 (.tmp 43) rfl ⟨pb,1,none⟩ _ r43 agg25 (HAD.out.cell 1) ?_
   exact step_val (p':=p) _ (HN _) (M7 _) hil (by rw [hts];decide) rfl (hj.other 7 (by decide))
  ·cases hop
   have hun':=getD_un hun
   have r40:=tmA_some T0 _ _ (HN p) 3 40 _ (M3 p) (hdep ⟨3,.data⟩ (by simp) rfl) (by rw [hts];decide)
   have r41:=tmA_some T0 _ _ (HN p) 4 41 _ (M4 p) (hdep ⟨4,.data⟩ (by simp) rfl) (by rw [hts];decide)
   have r42:=tmA_some T0 _ _ (HN p) 5 42 _ (M5 p) (hdep ⟨5,.data⟩ (by simp) rfl) (by rw [hts];decide)
   have r44:=tmA_some T0 _ _ (HN p) 7 44 _ (M7 p) (hdep ⟨7,.data⟩ (by simp) rfl) (by rw [hts];decide)
   refine wpOp_of rfl rfl ?_
   have hW:=hj.un (Or.inr (Or.inr hun'))
   subst hW
   refine wp_call4 22 (.tmp 40) (.tmp 41) (.tmp 42) (.tmp 44) 34 25 3 25 rfl _ _ _ _ r40 r41 r42 r44 (cf22 _ _ _ _) ?_
   refine (KST.out _ HSD.out.mem).mono ?_
   rintro _ W' ⟨rfl,ho,hm'⟩
   exact step_val (p':=p) _ (HN _) (M8 _) hil (by rw [hts];decide) rfl (hj.done hil (by decide) (by decide) (hdep ⟨3,.data⟩ (by simp) rfl) (hdep ⟨7,.data⟩ (by simp) rfl) (HSD.out.memo ho hm'))
 ·intro p l W hall hj
  have hk:=hj.1.last (hall 8 (by show 8<9;omega))
  subst hex
  rw [HT.out]
  simp only [putAll]
  clear hj hall
  go_wp2_with fail
  go_end0
  exact ⟨rfl,v,hk⟩
theorem c94_n1 (g b B:Nat) (M:Nat→Nat) (T:Nat→Bool) (tv:Value) (m:Nat) (xs:List Value) (w0 w:World) (k:WK) (o1 r1 r2 n:Nat) (q1 q2:Cq) (h:Stp g b B M T tv m xs w0 w k) (hmp:k.mp=.pointer (some ⟨b,0,none⟩)) (hm6:m≤65536) (ho:k.i.o=o1) (ho1:17≤o1) (ho2:o1≤20) (hr1:k.i.r1=r1) (h116:r1<16) (hr2:k.i.r2=r2) (h216:r2<16) (hq1:k.A.c r1=q1) (hq2:k.A.c r2=q2) (hf1:q1.fit) (hf2:q2.fit) (hn:k.i.im%4294967296=(n:Int)) (hp:plB q1 2 o1 ((q1.a+n)%4294967296)=true) (hz:szO o1=1) (hdv:devB ((q1.a+n)%4294967296)=false) :
  Calls Tryz.prog 94 #[.pointer (some ⟨g,0,none⟩)] w fun e w'=>e=.returned (.tuple #[])∧∃ v,Stp g b B (stB M ((q1.a+n)%4294967296) 1 q2.a) (stT T ((q1.a+n)%4294967296) false) v (m+1) (xs++[.int .i64 3,.int .u32 ((((q1.a+n)%4294967296):Nat):Int),.int .i64 1]) w0 w' (k.tc v) :=
 c94_n g b B M T tv m xs w0 w k o1 r1 r2 n q1 q2 h hmp hm6 ho ho1 ho2 hr1 h116 hr2 h216 hq1 hq2 hf1 hf2 hn hp 1 (by decide) hz hdv
theorem c94_n2 (g b B:Nat) (M:Nat→Nat) (T:Nat→Bool) (tv:Value) (m:Nat) (xs:List Value) (w0 w:World) (k:WK) (o1 r1 r2 n:Nat) (q1 q2:Cq) (h:Stp g b B M T tv m xs w0 w k) (hmp:k.mp=.pointer (some ⟨b,0,none⟩)) (hm6:m≤65536) (ho:k.i.o=o1) (ho1:17≤o1) (ho2:o1≤20) (hr1:k.i.r1=r1) (h116:r1<16) (hr2:k.i.r2=r2) (h216:r2<16) (hq1:k.A.c r1=q1) (hq2:k.A.c r2=q2) (hf1:q1.fit) (hf2:q2.fit) (hn:k.i.im%4294967296=(n:Int)) (hp:plB q1 2 o1 ((q1.a+n)%4294967296)=true) (hz:szO o1=2) (hdv:devB ((q1.a+n)%4294967296)=false) :
  Calls Tryz.prog 94 #[.pointer (some ⟨g,0,none⟩)] w fun e w'=>e=.returned (.tuple #[])∧∃ v,Stp g b B (stB M ((q1.a+n)%4294967296) 2 q2.a) (stT T ((q1.a+n)%4294967296) false) v (m+1) (xs++[.int .i64 3,.int .u32 ((((q1.a+n)%4294967296):Nat):Int),.int .i64 2]) w0 w' (k.tc v) :=
 c94_n g b B M T tv m xs w0 w k o1 r1 r2 n q1 q2 h hmp hm6 ho ho1 ho2 hr1 h116 hr2 h216 hq1 hq2 hf1 hf2 hn hp 2 (by decide) hz hdv
theorem c94_n4 (g b B:Nat) (M:Nat→Nat) (T:Nat→Bool) (tv:Value) (m:Nat) (xs:List Value) (w0 w:World) (k:WK) (o1 r1 r2 n:Nat) (q1 q2:Cq) (h:Stp g b B M T tv m xs w0 w k) (hmp:k.mp=.pointer (some ⟨b,0,none⟩)) (hm6:m≤65536) (ho:k.i.o=o1) (ho1:17≤o1) (ho2:o1≤20) (hr1:k.i.r1=r1) (h116:r1<16) (hr2:k.i.r2=r2) (h216:r2<16) (hq1:k.A.c r1=q1) (hq2:k.A.c r2=q2) (hf1:q1.fit) (hf2:q2.fit) (hn:k.i.im%4294967296=(n:Int)) (hp:plB q1 2 o1 ((q1.a+n)%4294967296)=true) (hz:szO o1=4) (hdv:devB ((q1.a+n)%4294967296)=false) :
  Calls Tryz.prog 94 #[.pointer (some ⟨g,0,none⟩)] w fun e w'=>e=.returned (.tuple #[])∧∃ v,Stp g b B (stB M ((q1.a+n)%4294967296) 4 q2.a) (stT T ((q1.a+n)%4294967296) false) v (m+1) (xs++[.int .i64 3,.int .u32 ((((q1.a+n)%4294967296):Nat):Int),.int .i64 4]) w0 w' (k.tc v) :=
 c94_n g b B M T tv m xs w0 w k o1 r1 r2 n q1 q2 h hmp hm6 ho ho1 ho2 hr1 h116 hr2 h216 hq1 hq2 hf1 hf2 hn hp 4 (by decide) hz hdv
end Go.Proofs.YtnkoknfihhdelaaGreatDoor
