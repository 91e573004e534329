import Derived.Test.YtnkoknfihhdelaaGreatDoorZMKEn
import Derived.Test.YtnkoknfihhdelaaGreatDoorZMKI
import Derived.Laws.CopyOwn
import Derived.Deep.AppendLies
namespace Go.Proofs.YtnkoknfihhdelaaGreatDoor.Cp
open Go.ChangeShapes Go.WideShapes Go.ChangeAt Go.RowKit
set_option linter.unusedVariables false
set_option maxRecDepth 100000
theorem or32 (m x k:Nat) (hm:m<2 ^ k) (h:m+x*2 ^ k<4294967296) (P:Int) (hP:P=((2 ^ k:Nat):Int)):bits .or .u32 (m:Int) ((x:Int)*P)=((m+x*2 ^ k:Nat):Int):=by
 subst hP
 have h2:(x:Int)*((2 ^ k:Nat):Int)=((x*2 ^ k:Nat):Int):=(Int.natCast_mul ..).symm
 rw [h2,u32_or_nat m (x*2 ^ k) (by omega) (by omega)]
 congr 1
 have:=Nat.two_pow_add_eq_or_of_lt hm x
 rw [Nat.or_comm,Nat.mul_comm x,←this,Nat.add_comm]
def mt (p y e b t:Nat):Nat:=p%128+y%8*128+e%16*1024+b%512*16384+t%512*8388608
theorem mt_lt (p y e b t:Nat):mt p y e b t<4294967296:=by unfold mt;omega
theorem cb44 (g:Bool) (a p y e b t:Nat) (hp:p<256) (hy:y<256) (he:e<256) (hb:b<65536) (ht:t<65536) (w:World) :
  Calls Tryz.prog 84 #[cp g a p y e b t] w fun en w'=>en=.returned (.int .u32 (mt p y e b t:Int))∧Below w.heap.size w w':=by
 obtain ⟨P,hP⟩:∃ n,n=p%128:=⟨_,rfl⟩
 obtain ⟨Y,hY⟩:∃ n,n=y%8:=⟨_,rfl⟩
 obtain ⟨E,hE⟩:∃ n,n=e%16:=⟨_,rfl⟩
 obtain ⟨B,hB⟩:∃ n,n=b%512:=⟨_,rfl⟩
 obtain ⟨T,hT⟩:∃ n,n=t%512:=⟨_,rfl⟩
 have a1:bits .and .u8 (p:Int) 127=(P:Int):=by
  rw [hP];have:=u8_and_nat p 127 hp (by omega);rw [show p &&& 127=p%128 from Nat.and_two_pow_sub_one_eq_mod p 7] at this;exact this
 have a2:bits .and .u8 (y:Int) 7=(Y:Int):=by
  rw [hY];have:=u8_and_nat y 7 hy (by omega);rw [show y &&& 7=y%8 from Nat.and_two_pow_sub_one_eq_mod y 3] at this;exact this
 have a3:bits .and .u8 (e:Int) 15=(E:Int):=by
  rw [hE];have:=u8_and_nat e 15 he (by omega);rw [show e &&& 15=e%16 from Nat.and_two_pow_sub_one_eq_mod e 4] at this;exact this
 have a4:bits .and .u16 (b:Int) 511=(B:Int):=by
  rw [hB];have:=u16_and_nat b 511 hb (by omega);rw [show b &&& 511=b%512 from Nat.and_two_pow_sub_one_eq_mod b 9] at this;exact this
 have a5:bits .and .u16 (t:Int) 511=(T:Int):=by
  rw [hT];have:=u16_and_nat t 511 ht (by omega);rw [show t &&& 511=t%512 from Nat.and_two_pow_sub_one_eq_mod t 9] at this;exact this
 have l1:P<128∧Y<8∧E<16∧B<512∧T<512:=by omega
 obtain ⟨l1,l2,l3,l4,l5⟩:=l1
 obtain ⟨m1,h1⟩:∃ n,n=P+Y*2 ^ 7:=⟨_,rfl⟩
 obtain ⟨m2,h2⟩:∃ n,n=m1+E*2 ^ 10:=⟨_,rfl⟩
 obtain ⟨m3,h3⟩:∃ n,n=m2+B*2 ^ 14:=⟨_,rfl⟩
 obtain ⟨m4,h4⟩:∃ n,n=m3+T*2 ^ 23:=⟨_,rfl⟩
 have o1:bits .or .u32 (P:Int) ((Y:Int)*128)=(m1:Int):=by rw [h1];exact or32 P Y 7 (by omega) (by omega) 128 rfl
 have o2:bits .or .u32 (m1:Int) ((E:Int)*1024)=(m2:Int):=by rw [h2];exact or32 m1 E 10 (by omega) (by omega) 1024 rfl
 have o3:bits .or .u32 (m2:Int) ((B:Int)*16384)=(m3:Int):=by rw [h3];exact or32 m2 B 14 (by omega) (by omega) 16384 rfl
 have o4:bits .or .u32 (m3:Int) ((T:Int)*8388608)=(m4:Int):=by rw [h4];exact or32 m3 T 23 (by omega) (by omega) 8388608 rfl
 have hm:mt p y e b t=m4:=by unfold mt;omega
 rw [hm]
 clear hP hY hE hB hT h1 h2 h3 h4 hm
 go_enter Tryz.func84,Tryz.ntmps84
 go_wp2
 go_ret
 exact ⟨rfl,(Below.refl _ _).alloc (Nat.le_refl _) _⟩
abbrev arr (x0 x1 x2 x3 x4 x5 x6 x7:Nat):Value:=.agg #[.int .u8 (x0:Int),.int .u8 (x1:Int),.int .u8 (x2:Int),.int .u8 (x3:Int),.int .u8 (x4:Int),.int .u8 (x5:Int),.int .u8 (x6:Int),.int .u8 (x7:Int)]
theorem k43 (n:Nat) (hn:n<4294967296) (w:World):Calls Tryz.prog 83 #[.int .u64 (n:Int),.int .i64 4] w (En.PutOut w n 4):=En.c9 n 4 (by omega) (by omega) (by simpa using hn) w
theorem size5:(Tryz.prog.info? 5).map (·.size)=some 1:=by kernel_rfl
theorem cp4 {w:World} {ops:Array Oper} {rest:List Oper} {o:Oper} {a:Act} {Q:Exit→Act→World→Prop} (hgd:o.guard=none) (d s:Operand)
  (ho:o.op=.call { callee:=.builtin .copy,args:=#[d,s],argTypes:=#[93,93] }) (g off dCap:Nat) (ad:Addr) (sCap:Nat) (hd:a.eval d=.slice (some ⟨g,off,none⟩) 4 dCap) (hs:a.eval s=.slice (some ad) 4 sCap)
  (cur:Array Value) (hg:Blk w g 109 cur) (x0 x1 x2 x3:Value) (hsrc:w.cell? (ad.add 0)=some x0∧w.cell? (ad.add 1)=some x1∧w.cell? (ad.add 2)=some x2∧w.cell? (ad.add 3)=some x3) (hfit:off+4≤cur.size)
  (h1:x0.oneCell'=true∧x1.oneCell'=true∧x2.oneCell'=true∧x3.oneCell'=true) (res:Array Value) (hres:(cur.toList.take off++([x0,x1,x2,x3]++cur.toList.drop (off+4))).toArray=res)
  (h:∀ w',Blk w' g 109 res→w.grownBy w' (some g)→wpList Tryz.prog ops Q rest (a.put o.dst (goInt 4)) w'):wpList Tryz.prog ops Q (o :: rest) a w:=by
 obtain ⟨q0,q1,q2,q3⟩:=hsrc
 obtain ⟨r0,r1,r2,r3⟩:=h1
 refine wpList_copy_own hgd d s 93 93 ho 5 Tryz.underlying93 size5 g off 4 dCap ad 4 sCap hd hs cur 109 hg [x0,x1,x2,x3] rfl ?_ (by simpa using hfit) ?_ ?_
 ·intro j v hj
  rcases j with _ | _ | _ | _ | j
  ·simp at hj;rw [←hj];exact q0
  ·simp at hj;rw [←hj];exact q1
  ·simp at hj;rw [←hj];exact q2
  ·simp at hj;rw [←hj];exact q3
  ·simp at hj
 ·intro v hv
  simp only [List.mem_cons,List.not_mem_nil,or_false] at hv
  rcases hv with rfl | rfl | rfl | rfl <;> assumption
 ·refine h _ ?_ ⟨rfl,rfl,rfl,by simp [World.setRow],fun k _ hne=>setRow_other w g k _ (fun e=>hne (by rw [e]))⟩
  rw [←hres]
  exact setRow_heap w g _ _ 109 _ hg
def Z8:Array Value:=#[.int .u8 0,.int .u8 0,.int .u8 0,.int .u8 0,.int .u8 0,.int .u8 0,.int .u8 0,.int .u8 0]
def B3 (w w':World) (C X Y:Array Value):Prop:=Below w.heap.size w w'∧Blk w' w.heap.size 29 C∧Blk w' (w.heap.size+1) 109 X∧Blk w' (w.heap.size+2) 109 Y
theorem B3.start (w:World) (C X Y:Array Value):B3 w (((w.alloc (.cells C 29)).alloc (.cells X 109)).alloc (.cells Y 109)) C X Y:=by
 refine ⟨(((Below.refl _ _).alloc (Nat.le_refl _) _).alloc (by simp) _).alloc (by simp;omega) _,((Blk.new _ _ _).alloc _).alloc _,?_,?_⟩
 ·have:=(Blk.new (w.alloc (.cells C 29)) 109 X).alloc (.cells Y 109)
  simpa using this
 ·have:=Blk.new ((w.alloc (.cells C 29)).alloc (.cells X 109)) 109 Y
  simpa using this
theorem B3.below {w wa wb:World} {C X Y:Array Value} (h:B3 w wa C X Y) (hb:Below wa.heap.size wa wb):B3 w wb C X Y :=
 ⟨h.1.trans (hb.mono h.1.size),h.2.1.below hb h.2.1.lt,h.2.2.1.below hb h.2.2.1.lt,h.2.2.2.below hb h.2.2.2.lt⟩
theorem B3.set {w wa wb:World} {C X Y Y':Array Value} (h:B3 w wa C X Y) (hn:Blk wb (w.heap.size+2) 109 Y') (hg:wa.grownBy wb (some (w.heap.size+2))):B3 w wb C X Y' :=
 ⟨h.1.grown hg h.1.size (fun k hk=>by injection hk with hk;omega),(hg.block _ h.2.1.lt (by simp)).trans h.2.1,(hg.block _ h.2.2.1.lt (by simp)).trans h.2.2.1,hn⟩
theorem Blk.cells8 {w:World} {g:Nat} {t:TypeId} {v0 v1 v2 v3 v4 v5 v6 v7:Value} (h:Blk w g t #[v0,v1,v2,v3,v4,v5,v6,v7]):w.cell? ⟨g,0,none⟩=some v0∧w.cell? ⟨g,1,none⟩=some v1∧w.cell? ⟨g,2,none⟩=some v2∧w.cell? ⟨g,3,none⟩=some v3∧w.cell? ⟨g,4,none⟩=some v4∧w.cell? ⟨g,5,none⟩=some v5∧w.cell? ⟨g,6,none⟩=some v6∧w.cell? ⟨g,7,none⟩=some v7 :=
 ⟨h.cell 0,h.cell 1,h.cell 2,h.cell 3,h.cell 4,h.cell 5,h.cell 6,h.cell 7⟩
theorem Blk.frozen8 {w:World} {g:Nat} {t:TypeId} {cs:Array Value} (h:Blk w g t cs):w.frozen? ⟨g,0,none⟩=false∧w.frozen? ⟨g,1,none⟩=false∧w.frozen? ⟨g,2,none⟩=false∧w.frozen? ⟨g,3,none⟩=false∧w.frozen? ⟨g,4,none⟩=false∧w.frozen? ⟨g,5,none⟩=false∧w.frozen? ⟨g,6,none⟩=false∧w.frozen? ⟨g,7,none⟩=false :=
 ⟨h.frozen 0,h.frozen 1,h.frozen 2,h.frozen 3,h.frozen 4,h.frozen 5,h.frozen 6,h.frozen 7⟩
theorem below8 {w0 w:World} {g':Nat} (h:Below w0.heap.size w0 w) (hp:w0.heap.size≤g') (u0 u1 u2 u3 u4 u5 u6 u7:Value):Below w0.heap.size w0 ((((((((w.setCell ⟨g',0,none⟩ u0).setCell ⟨g',1,none⟩ u1).setCell ⟨g',2,none⟩ u2).setCell ⟨g',3,none⟩ u3).setCell ⟨g',4,none⟩ u4).setCell ⟨g',5,none⟩ u5).setCell ⟨g',6,none⟩ u6).setCell ⟨g',7,none⟩ u7) :=
 ((((((((h.setCell hp u0).setCell hp u1).setCell hp u2).setCell hp u3).setCell hp u4).setCell hp u5).setCell hp u6).setCell hp u7)
def F4 (w':World) (A:Option Addr) (B n:Nat):Prop:=∃ b,A=some ⟨b,0,none⟩∧B≤b∧b<w'.heap.size∧w'.cell? ⟨b,0,none⟩=some (.int .u8 (En.bt n 0:Int))∧w'.cell? ⟨b,1,none⟩=some (.int .u8 (En.bt n 1:Int))∧w'.cell? ⟨b,2,none⟩=some (.int .u8 (En.bt n 2:Int))∧w'.cell? ⟨b,3,none⟩=some (.int .u8 (En.bt n 3:Int))
theorem F4.of {w w':World} {A:Option Addr} {n:Nat} (h:0<4→∃ b,A=some ⟨b,0,none⟩∧w.heap.size≤b∧b<w'.heap.size∧∀ j,j<4→w'.cell? ⟨b,j,none⟩=some (.int .u8 (En.bt n j:Int))):F4 w' A w.heap.size n:=by
 obtain ⟨b,e,h1,h2,h3⟩:=h (by omega)
 exact ⟨b,e,h1,h2,h3 0 (by omega),h3 1 (by omega),h3 2 (by omega),h3 3 (by omega)⟩
theorem F4.keep {wa wb:World} {A:Option Addr} {B n:Nat} (h:F4 wa A B n) (hb:Below wa.heap.size wa wb):F4 wb A B n:=by
 obtain ⟨b,e,h1,h2,c0,c1,c2,c3⟩:=h
 exact ⟨b,e,h1,Nat.lt_of_lt_of_le h2 hb.size,(hb.cell h2).trans c0,(hb.cell h2).trans c1,(hb.cell h2).trans c2,(hb.cell h2).trans c3⟩
theorem F4.far {wa wb:World} {A:Option Addr} {B n k:Nat} (h:F4 wa A B n) (hg:wa.grownBy wb (some k)) (hk:k<B):F4 wb A B n:=by
 obtain ⟨b,e,h1,h2,c0,c1,c2,c3⟩:=h
 have hc:∀ j,wb.cell? ⟨b,j,none⟩=wa.cell? ⟨b,j,none⟩:=fun j=>hg.cell_far ⟨b,j,none⟩ h2 (by simp;omega)
 exact ⟨b,e,h1,Nat.lt_of_lt_of_le h2 hg.size,by rw [hc];exact c0,by rw [hc];exact c1,by rw [hc];exact c2,by rw [hc];exact c3⟩
theorem F4.four {w:World} {x B n:Nat} (h:F4 w (some ⟨x,0,none⟩) B n):w.cell? ⟨x,0,none⟩=some (.int .u8 (En.bt n 0:Int))∧w.cell? ⟨x,1,none⟩=some (.int .u8 (En.bt n 1:Int))∧w.cell? ⟨x,2,none⟩=some (.int .u8 (En.bt n 2:Int))∧w.cell? ⟨x,3,none⟩=some (.int .u8 (En.bt n 3:Int)):=by
 obtain ⟨b,e,_,_,c⟩:=h
 injection e with e
 injection e with e
 subst e
 exact c
set_option maxHeartbeats 4000000 in
theorem cb11 (g:Bool) (a p y e b t:Nat) (ha:a<4294967296) (hp:p<256) (hy:y<256) (he:e<256) (hb:b<65536) (ht:t<65536) (w:World) :
  Calls Tryz.prog 54 #[cp g a p y e b t] w fun en w'=>en=.returned (arr (En.bt a 0) (En.bt a 1) (En.bt a 2) (En.bt a 3) (En.bt (mt p y e b t) 0) (En.bt (mt p y e b t) 1) (En.bt (mt p y e b t) 2) (En.bt (mt p y e b t) 3))∧Below w.heap.size w w':=by
 have K44:=cb44 g a p y e b t hp hy he hb ht
 have hM:=mt_lt p y e b t
 generalize mt p y e b t=M at *
 have hst:=B3.start w #[.bool g,.int .u32 (a:Int),.int .u8 (p:Int),.int .u8 (y:Int),.int .u8 (e:Int),.int .u16 (b:Int),.int .u16 (t:Int)] Z8 Z8
 unfold Z8 at hst
 have HS:=Lib.hid hst
 have HK:=Lib.hid K44
 clear hst K44
 go_enter Tryz.func54,Tryz.ntmps54
 go_wp2_with fail
 refine (k43 a ha _).mono ?_
 rintro _ w1 ⟨v1,rfl,hb1,A1,d1,rfl,hR1⟩
 have S1:=Lib.hid (HS.out.below hb1)
 have Q1:=Lib.hid (F4.of hR1)
 have hsz:=hb1.size
 simp at hsz
 clear hb1 hR1 HS
 obtain ⟨_,hC,_,_⟩:=S1.out
 obtain ⟨cc0,cc1,cc2,cc3,cc4,cc5,cc6⟩:=hC.cells7
 clear hC
 go_wp2_with fail
 refine (HK.out _).mono ?_
 rintro _ w2 ⟨rfl,hb2⟩
 have S2:=Lib.hid (S1.out.below hb2)
 have Q2:=Lib.hid (Q1.out.keep hb2)
 have hsz2:w.heap.size+3≤w2.heap.size:=Nat.le_trans (by omega) hb2.size
 clear hb2 S1 Q1 cc0 cc1 cc2 cc3 cc4 cc5 cc6 HK
 go_wp2_with fail
 refine (k43 M hM _).mono ?_
 rintro _ w3 ⟨v3,rfl,hb3,A3,d3,rfl,hR3⟩
 have S3:=Lib.hid (S2.out.below hb3)
 have Q3:=Lib.hid (Q2.out.keep hb3)
 have P3:=Lib.hid (F4.of hR3)
 clear hb3 S2 Q2 hR3
 obtain ⟨x1,rfl,g1,g2,q10,q11,q12,q13⟩:=Q3.out
 obtain ⟨x3,rfl,g3,g4,q30,q31,q32,q33⟩:=P3.out
 have T1:=Lib.hid (And.intro q10 (And.intro q11 (And.intro q12 q13)))
 clear q10 q11 q12 q13 q30 q31 q32 q33 Q3
 go_wp2_with (first
  | (refine cp4 rfl (.tmp 22) (.tmp 23) rfl (w.heap.size+2) 0 8 ⟨x1,0,none⟩ d1 rfl rfl _ S3.out.2.2.2 _ _ _ _ T1.out (by simp) ⟨rfl,rfl,rfl,rfl⟩ #[.int .u8 (En.bt a 0:Int),.int .u8 (En.bt a 1:Int),.int .u8 (En.bt a 2:Int),.int .u8 (En.bt a 3:Int),.int .u8 0,.int .u8 0,.int .u8 0,.int .u8 0] rfl ?_
     intro w4 hn4 hg4
     have S4:=Lib.hid (S3.out.set hn4 hg4)
     have P4:=Lib.hid (P3.out.far hg4 (by omega)).four
     clear hn4 hg4)
  | (refine cp4 rfl (.tmp 25) (.tmp 26) rfl (w.heap.size+2) 4 4 ⟨x3,0,none⟩ d3 rfl rfl _ S4.out.2.2.2 _ _ _ _ P4.out (by simp) ⟨rfl,rfl,rfl,rfl⟩ #[.int .u8 (En.bt a 0:Int),.int .u8 (En.bt a 1:Int),.int .u8 (En.bt a 2:Int),.int .u8 (En.bt a 3:Int),.int .u8 (En.bt M 0:Int),.int .u8 (En.bt M 1:Int),.int .u8 (En.bt M 2:Int),.int .u8 (En.bt M 3:Int)] rfl ?_
     intro w5 hn5 hg5
     have S5:=Lib.hid (S4.out.set hn5 hg5)
     clear hn5 hg5
     obtain ⟨hb5,hC5,hX5,hY5⟩:=S5.out
     obtain ⟨y0,y1,y2,y3,y4,y5,y6,y7⟩:=hY5.cells8
     obtain ⟨z0,z1,z2,z3,z4,z5,z6,z7⟩:=hX5.cells8
     obtain ⟨f0,f1,f2,f3,f4,f5,f6,f7⟩:=hX5.frozen8
     clear hC5 hX5 hY5)
  | fail)
 exact bodyPost_ret (v:=arr (En.bt a 0) (En.bt a 1) (En.bt a 2) (En.bt a 3) (En.bt M 0) (En.bt M 1) (En.bt M 2) (En.bt M 3)) (by simp [results,Tryz.results54,go_sem,z0,z1,z2,z3,z4,z5,z6,z7]) rfl ⟨rfl,below8 S5.out.1 (by omega) _ _ _ _ _ _ _ _⟩
def yc (n i k:Nat):Value:=if i<k then .int .u8 (En.bt n i:Int) else .int .u8 0
def Yk (a M k:Nat):Array Value:=#[yc a 0 k,yc a 1 k,yc a 2 k,yc a 3 k,yc M 0 k,yc M 1 k,yc M 2 k,yc M 3 k]
def RB (w:World) (C X:Array Value) (a M:Nat) (i q r:Value) (wr:World):Prop:=∃ k:Nat,k≤4∧i=.int .i64 (k:Int)∧q=.int .u64 ((a/256 ^ k:Nat):Int)∧r=.int .u64 ((M/256 ^ k:Nat):Int)∧B3 w wr C X (Yk a M k)
theorem B3.set2 {w wa:World} {C X Y:Array Value} (h:B3 w wa C X Y) (i j:Nat) (u v:Value):B3 w ((wa.setCell ⟨w.heap.size+2,i,none⟩ u).setCell ⟨w.heap.size+2,j,none⟩ v) C X ((Y.setIfInBounds i u).setIfInBounds j v) :=
 ⟨(h.1.setCell (by simp) u).setCell (by simp) v,(h.2.1.far (by simp) u).far (by simp) v,(h.2.2.1.far (by simp) u).far (by simp) v,(h.2.2.2.set_ i u).set_ j v⟩
theorem RB.step {w wr:World} {C X:Array Value} {a M k q r:Nat} (hk:k<4) (h:B3 w wr C X (Yk a M k)) (hq:q=a/256 ^ k) (hr:r=M/256 ^ k) (j:Nat) (hj:j=4+k) :
  RB w C X a M (.int .i64 ((k+1:Nat):Int)) (.int .u64 ((q/256:Nat):Int)) (.int .u64 ((r/256:Nat):Int)) ((wr.setCell ⟨w.heap.size+2,k,none⟩ (.int .u8 ((q%256:Nat):Int))).setCell ⟨w.heap.size+2,j,none⟩ (.int .u8 ((r%256:Nat):Int))):=by
 subst hq hr hj
 refine ⟨k+1,hk,rfl,by rw [Nat.pow_succ,Nat.div_div_eq_div_mul],by rw [Nat.pow_succ,Nat.div_div_eq_div_mul],?_⟩
 have h2:=h.set2 k (4+k) (.int .u8 ((a/256 ^ k%256:Nat):Int)) (.int .u8 ((M/256 ^ k%256:Nat):Int))
 have e:((Yk a M k).setIfInBounds k (.int .u8 ((a/256 ^ k%256:Nat):Int))).setIfInBounds (4+k) (.int .u8 ((M/256 ^ k%256:Nat):Int))=Yk a M (k+1):=by
  have hk4:k=0∨k=1∨k=2∨k=3:=by omega
  rcases hk4 with rfl | rfl | rfl | rfl <;> simp [Yk,yc,En.bt]
 rw [e] at h2
 exact h2
theorem Yk.at_ {w:World} {g a M k:Nat} (h:Blk w g 109 (Yk a M k)) (hk:k<4):w.cell? ⟨g,k,none⟩=some (.int .u8 0)∧w.cell? ⟨g,4+k,none⟩=some (.int .u8 0)∧w.frozen? ⟨g,k,none⟩=false∧w.frozen? ⟨g,4+k,none⟩=false:=by
 have h1:=h.cell k
 have h2:=h.cell (4+k)
 have hk4:k=0∨k=1∨k=2∨k=3:=by omega
 refine ⟨?_,?_,h.frozen k,h.frozen (4+k)⟩
 ·rw [h1];rcases hk4 with rfl | rfl | rfl | rfl <;> simp [Yk,yc]
 ·rw [h2];rcases hk4 with rfl | rfl | rfl | rfl <;> simp [Yk,yc]
set_option maxHeartbeats 4000000 in
theorem cb12 (g:Bool) (a p y e b t:Nat) (ha:a<4294967296) (hp:p<256) (hy:y<256) (he:e<256) (hb:b<65536) (ht:t<65536) (w:World) :
  Calls Tryz.prog 56 #[cp g a p y e b t] w fun en w'=>en=.returned (arr (En.bt a 0) (En.bt a 1) (En.bt a 2) (En.bt a 3) (En.bt (mt p y e b t) 0) (En.bt (mt p y e b t) 1) (En.bt (mt p y e b t) 2) (En.bt (mt p y e b t) 3))∧Below w.heap.size w w':=by
 obtain ⟨P,hP⟩:∃ n,n=p%128:=⟨_,rfl⟩
 obtain ⟨Y,hY⟩:∃ n,n=y%8:=⟨_,rfl⟩
 obtain ⟨E,hE⟩:∃ n,n=e%16:=⟨_,rfl⟩
 obtain ⟨B,hB⟩:∃ n,n=b%512:=⟨_,rfl⟩
 obtain ⟨T,hT⟩:∃ n,n=t%512:=⟨_,rfl⟩
 have l1:P<128∧Y<8∧E<16∧B<512∧T<512:=by omega
 obtain ⟨l1,l2,l3,l4,l5⟩:=l1
 have a1:(p:Int)%128=(P:Int):=by omega
 have a1':(p:Int).tmod 128=(P:Int):=by rw [Int.tmod_eq_emod_of_nonneg (by omega)];exact a1
 have a2:(y:Int)%8=(Y:Int):=by omega
 have a2':(y:Int).tmod 8=(Y:Int):=by rw [Int.tmod_eq_emod_of_nonneg (by omega)];exact a2
 have a3:(e:Int)%16=(E:Int):=by omega
 have a3':(e:Int).tmod 16=(E:Int):=by rw [Int.tmod_eq_emod_of_nonneg (by omega)];exact a3
 have a4:(b:Int)%512=(B:Int):=by omega
 have a4':(b:Int).tmod 512=(B:Int):=by rw [Int.tmod_eq_emod_of_nonneg (by omega)];exact a4
 have a5:(t:Int)%512=(T:Int):=by omega
 have a5':(t:Int).tmod 512=(T:Int):=by rw [Int.tmod_eq_emod_of_nonneg (by omega)];exact a5
 have hM:mt p y e b t=P+128*Y+1024*E+16384*B+8388608*T:=by unfold mt;omega
 have hMl:=mt_lt p y e b t
 rw [hM] at hMl ⊢
 clear hP hY hE hB hT hM
 obtain ⟨M,hM⟩:∃ M,M=P+128*Y+1024*E+16384*B+8388608*T:=⟨_,rfl⟩
 rw [←hM] at hMl ⊢
 have m5:(P:Int)+128*(Y:Int)+1024*(E:Int)+16384*(B:Int)+8388608*(T:Int)=(M:Int):=by omega
 have hst:=B3.start w #[.bool g,.int .u32 (a:Int),.int .u8 (p:Int),.int .u8 (y:Int),.int .u8 (e:Int),.int .u16 (b:Int),.int .u16 (t:Int)] Z8 Z8
 have hst2:RB w #[.bool g,.int .u32 (a:Int),.int .u8 (p:Int),.int .u8 (y:Int),.int .u8 (e:Int),.int .u16 (b:Int),.int .u16 (t:Int)] Z8 a M (.int .i64 0) (.int .u64 (a:Int)) (.int .u64 (M:Int)) _:=⟨0,by omega,rfl,by simp,by simp,hst⟩
 have HST:=Lib.hid hst2
 clear hst hst2 hM
 unfold Z8 at HST
 go_enter Tryz.func56,Tryz.ntmps56
 go_wp2_with fail
 go_loopw [6,4,3] (RB w #[.bool g,.int .u32 (a:Int),.int .u8 (p:Int),.int .u8 (y:Int),.int .u8 (e:Int),.int .u16 (b:Int),.int .u16 (t:Int)] #[.int .u8 0,.int .u8 0,.int .u8 0,.int .u8 0,.int .u8 0,.int .u8 0,.int .u8 0,.int .u8 0] a M) (fun i _ _ _=>4-(intOf i).toNat)
 case atStart=>exact HST.out
 case round =>
  obtain ⟨k,hk,rfl,rfl,rfl,hb3⟩:=hrel
  have HB:=Lib.hid hb3
  clear hb3 HST
  by_cases hlt:k<4
  ·obtain ⟨u0,u1,u2,u3⟩:=Yk.at_ HB.out.2.2.2 hlt
   obtain ⟨q,hq⟩:∃ q,q=a/256 ^ k:=⟨_,rfl⟩
   obtain ⟨r,hr⟩:∃ r,r=M/256 ^ k:=⟨_,rfl⟩
   have hql:q<18446744073709551616:=by rw [hq];exact Nat.lt_of_le_of_lt (Nat.div_le_self _ _) (by omega)
   have hrl:r<18446744073709551616:=by rw [hr];exact Nat.lt_of_le_of_lt (Nat.div_le_self _ _) (by omega)
   rw [←hq,←hr]
   have HQ:=Lib.hid hq
   have HR:=Lib.hid hr
   clear hq hr
   have h4:k=0∨k=1∨k=2∨k=3:=by omega
   rcases h4 with rfl | rfl | rfl | rfl
   all_goals
    simp only [Nat.add_zero,Nat.reduceAdd] at u0 u1 u2 u3
    go_wp2
    go_roundw
    case rel=>exact RB.step (by omega) HB.out HQ.out HR.out _ rfl
    case measure=>simp [intOf]
  ·obtain rfl:k=4:=by omega
   obtain ⟨hb5,hC5,hX5,hY5⟩:=HB.out
   obtain ⟨y0,y1,y2,y3,y4,y5,y6,y7⟩:=(show Blk wr (w.heap.size+1+1) 109 #[.int .u8 (En.bt a 0:Int),.int .u8 (En.bt a 1:Int),.int .u8 (En.bt a 2:Int),.int .u8 (En.bt a 3:Int),.int .u8 (En.bt M 0:Int),.int .u8 (En.bt M 1:Int),.int .u8 (En.bt M 2:Int),.int .u8 (En.bt M 3:Int)] from hY5).cells8
   obtain ⟨z0,z1,z2,z3,z4,z5,z6,z7⟩:=hX5.cells8
   obtain ⟨f0,f1,f2,f3,f4,f5,f6,f7⟩:=hX5.frozen8
   clear hC5 hX5 hY5 hb5
   go_wp2
   exact bodyPost_ret (v:=arr (En.bt a 0) (En.bt a 1) (En.bt a 2) (En.bt a 3) (En.bt M 0) (En.bt M 1) (En.bt M 2) (En.bt M 3)) (by simp [results,Tryz.results56,go_sem,z0,z1,z2,z3,z4,z5,z6,z7]) rfl ⟨rfl,below8 HB.out.1 (by omega) _ _ _ _ _ _ _ _⟩
end Go.Proofs.YtnkoknfihhdelaaGreatDoor.Cp
