import Derived.Test.YtnkoknfihhdelaaGreatDoorZRd
import Derived.Test.YtnkoknfihhdelaaGreatDoorZMG
import Derived.Test.YtnkoknfihhdelaaGreatDoorZMQ
import Derived.Test.YtnkoknfihhdelaaGreatDoorZMS
import Derived.Test.YtnkoknfihhdelaaGreatDoorZMKCd
import Derived.Test.YtnkoknfihhdelaaGreatDoorZRa
namespace Go.Proofs.YtnkoknfihhdelaaGreatDoor
open Go.ChangeShapes Go.WideShapes Go.ChangeAt Go.RowKit
set_option linter.unusedVariables false
set_option linter.unusedSimpArgs false
set_option maxRecDepth 100000
def JB (B:Nat) (w0:World) (_p:Nat) (_l:Array Bool) (W:World):Prop:=Below B w0 W∧B≤W.heap.size
theorem JB.other {B:Nat} {w0 W W':World} {p:Nat} {l l':Array Bool} (h:JB B w0 p l W) (hb:Below W.heap.size W W'):JB B w0 p l' W':=⟨h.1.trans (hb.mono h.2),Nat.le_trans h.2 hb.size⟩
theorem wp_extract {o:Oper} {a:Act} {w:World} {K:Act→World→Prop} {Q:Exit→Act→World→Prop} (x:Operand) (i:Nat) (ho:o.op=.extract x i) (vs:Array Value) (v:Value) (hx:a.eval x=.tuple vs)
  (hf:∀ W:World,(execOp (fun _=>.tuple vs) { dst:=none,op:=.extract (.tmp 0) i,type:=0,pos:="",after:=#[],guard:=none }).run Tryz.prog W=.ok (.value v) W)
  (hk:K (a.put o.dst v) w):o.wp Tryz.prog a w K Q:=by
 refine wp_value _ ?_ hk
 have:=hf w
 unfold execOp at this ⊢
 simp only [ho,hx] at this ⊢
 exact this
theorem ex2_0 (u v:Value) (W:World):(execOp (fun _=>.tuple #[u,v]) { dst:=none,op:=.extract (.tmp 0) 0,type:=0,pos:="",after:=#[],guard:=none }).run Tryz.prog W=.ok (.value u) W:=by kernel_rfl
theorem ex2_1 (u v:Value) (W:World):(execOp (fun _=>.tuple #[u,v]) { dst:=none,op:=.extract (.tmp 0) 1,type:=0,pos:="",after:=#[],guard:=none }).run Tryz.prog W=.ok (.value v) W:=by kernel_rfl
theorem lead_call (g:Nat) (k:WK) (q:Cq) (n m:Nat) (w:World) (h:Wk w g k) (hq:k.A.c 16=q) (hf:q.fit) (hm:(q.a+n)%4294967296=m):Calls Tryz.prog 59 #[.pointer (some ⟨g,0,none⟩),.int .u32 (m:Int)] w fun e w'=>e=.returned (.tuple #[])∧Wk w' g (k.putN 16 (q.sa m))∧Sv g w.heap.size w w' :=
 (c59 g k q m w h hq hf (by omega)).mono fun e w' ⟨h1,h2,h3⟩=>⟨h1,h2,h3.sv (Nat.le_refl _)⟩
set_option maxHeartbeats 2000000 in
theorem c92_br1 (g:Nat) (k:WK) (o1 r1 r2 n:Nat) (er:Int) (q q1 q2:Cq) (w:World) (h:Wk w g k) (ho:k.i.o=o1) (ho1:5≤o1) (hr1:k.i.r1=r1) (h116:r1<16) (hr2:k.i.r2=r2) (h216:r2<16) (hq1:k.A.c r1=q1) (hq2:k.A.c r2=q2) (hq:k.A.c 16=q) (hf:q.fit) (hn:k.i.im%4294967296=(n:Int))
  (KI:∀ W,Calls Tryz.prog 135 #[.int .u8 (o1:Int),.int .u32 (q1.a:Int),.int .u32 (q2.a:Int)] W fun e w'=>e=.returned (.tuple #[.bool true,.int .i64 er])∧W=w') :
  Calls Tryz.prog 92 #[.pointer (some ⟨g,0,none⟩)] w fun e w'=>e=.returned (.tuple #[])∧Wk w' g (k.putN 16 (q.sa ((q.a+n)%4294967296)))∧Sv g w.heap.size w w':=by
 have hl:=Blk.lt h
 obtain ⟨N,hN⟩:∃ N,w.heap.size=N:=⟨_,rfl⟩
 have hlN:g<N:=by omega
 have HW:=Lib.hid h
 have xo:w.cell? ⟨g,303,none⟩=some (.int .u8 (o1:Int)):=by rw [←ho];exact h.cellT 0 303 rfl
 have HO:Hid (∀ W,Below N w W→W.cell? ⟨g,303,none⟩=some (.int .u8 (o1:Int))):=Lib.hid (fun W hb=>by rw [←ho];exact (h.under hb hlN).cellT 0 303 rfl)
 have K136:Hid (∀ W,Below N w W→Calls Tryz.prog 136 #[.pointer (some ⟨g,0,none⟩)] W fun e w'=>e=.returned (.agg #[.bool q1.g,.int .u32 (q1.a:Int),.int .u8 (q1.p:Int),.int .u8 (q1.y:Int),.int .u8 (q1.e:Int),.int .u16 (q1.b:Int),.int .u16 (q1.t:Int)])∧Below W.heap.size W w'):=Lib.hid (fun W hb=>c136 g k W (h.under hb hlN) r1 q1 hr1 hq1 h116)
 have K98:Hid (∀ W,Below N w W→Calls Tryz.prog 98 #[.pointer (some ⟨g,0,none⟩)] W fun e w'=>e=.returned (.agg #[.bool q2.g,.int .u32 (q2.a:Int),.int .u8 (q2.p:Int),.int .u8 (q2.y:Int),.int .u8 (q2.e:Int),.int .u16 (q2.b:Int),.int .u16 (q2.t:Int)])∧Below W.heap.size W w'):=Lib.hid (fun W hb=>c98 g k W (h.under hb hlN) r2 q2 hr2 hq2 h216)
 have KIS:=Lib.hid KI
 have K97:Hid (∀ W,Wk W g k→Calls Tryz.prog 97 #[.pointer (some ⟨g,0,none⟩)] W fun e w'=>e=.returned (.int .u32 (n:Int))∧W=w'):=Lib.hid (fun W hk=>by rw [←hn];exact c97 g k W hk)
 have K60:Hid (∀ W,Wk W g k→Calls Tryz.prog 60 #[.pointer (some ⟨g,0,none⟩)] W fun e w'=>e=.returned (.int .u32 (q.a:Int))∧W=w'):=Lib.hid (fun W hk=>by rw [←hq];exact c60 g k W hk)
 obtain ⟨m,hm⟩:∃ m,(q.a+n)%4294967296=m:=⟨_,rfl⟩
 have hn2:n<4294967296:=by omega
 have hw:IntKind.u32.wrap ((q.a:Int)+(n:Int))=(m:Int):=by rw [IntKind.wrap_u32];omega
 have KL:Hid (∀ W,Wk W g k→Calls Tryz.prog 59 #[.pointer (some ⟨g,0,none⟩),.int .u32 (m:Int)] W fun e w'=>e=.returned (.tuple #[])∧Wk w' g (k.putN 16 (q.sa m))∧Sv g W.heap.size W w'):=Lib.hid (fun W hk=>lead_call g k q n m W hk hq hf hm)
 rw [hm]
 have b1:((o1:Int)==1)=false:=by rw [beq_eq_false_iff_ne];omega
 have b2:((o1:Int)==2)=false:=by rw [beq_eq_false_iff_ne];omega
 have b3:((o1:Int)==4)=false:=by rw [beq_eq_false_iff_ne];omega
 have b4:((o1:Int)==3)=false:=by rw [beq_eq_false_iff_ne];omega
 clear h ho hr1 hr2 hq1 hq2 hq hf hn KI
 go_enter Tryz.func92,Tryz.ntmps92
 go_upto_region 1 with fail
 refine at_eq fun T0 hT=>?_
 have hts:T0.size=75:=by rw [hT];rfl
 have fx0:T0.getD 0 undef=.pointer (some ⟨g,0,none⟩):=by rw [hT];rfl
 have HT:=Lib.hid hT
 clear hT
 obtain ⟨ex,hex⟩:∃ ex:Nat→Ex,ex=fun p=>[(0,10,.pointer (some ⟨g,0,none⟩)),(1,11,.pointer (some ⟨g,0,none⟩)),(2,12,.pointer (some ⟨g,303,none⟩)),(3,13,.pointer (some ⟨g,303,none⟩)),(4,14,.int .u8 (o1:Int)),(5,15,.pointer (some ⟨g,0,none⟩)),(6,16,.agg #[.bool q1.g,.int .u32 (q1.a:Int),.int .u8 (q1.p:Int),.int .u8 (q1.y:Int),.int .u8 (q1.e:Int),.int .u16 (q1.b:Int),.int .u16 (q1.t:Int)]),(7,17,.int .u32 (q1.a:Int)),(8,18,.pointer (some ⟨g,0,none⟩)),(9,19,.agg #[.bool q2.g,.int .u32 (q2.a:Int),.int .u8 (q2.p:Int),.int .u8 (q2.y:Int),.int .u8 (q2.e:Int),.int .u16 (q2.b:Int),.int .u16 (q2.t:Int)]),(10,20,.int .u32 (q2.a:Int)),(11,21,.tuple #[.bool true,.int .i64 er]),(12,9,.tuple #[.bool true,.int .i64 er]),(13,22,.bool true),(14,23,.int .i64 er),(15,2,.bool true),(16,3,.int .i64 er)]:=⟨_,rfl⟩
 have HN:∀ p,apartB (ex p)=true:=by rw [hex];intro p;kernel_rfl
 have M0:∀ p,(0,10,.pointer (some ⟨g,0,none⟩))∈ex p:=by rw [hex];intro p;simp
 have M1:∀ p,(1,11,.pointer (some ⟨g,0,none⟩))∈ex p:=by rw [hex];intro p;simp
 have M2:∀ p,(2,12,.pointer (some ⟨g,303,none⟩))∈ex p:=by rw [hex];intro p;simp
 have M3:∀ p,(3,13,.pointer (some ⟨g,303,none⟩))∈ex p:=by rw [hex];intro p;simp
 have M4:∀ p,(4,14,.int .u8 (o1:Int))∈ex p:=by rw [hex];intro p;simp
 have M5:∀ p,(5,15,.pointer (some ⟨g,0,none⟩))∈ex p:=by rw [hex];intro p;simp
 have M6:∀ p,(6,16,.agg #[.bool q1.g,.int .u32 (q1.a:Int),.int .u8 (q1.p:Int),.int .u8 (q1.y:Int),.int .u8 (q1.e:Int),.int .u16 (q1.b:Int),.int .u16 (q1.t:Int)])∈ex p:=by rw [hex];intro p;simp
 have M7:∀ p,(7,17,.int .u32 (q1.a:Int))∈ex p:=by rw [hex];intro p;simp
 have M8:∀ p,(8,18,.pointer (some ⟨g,0,none⟩))∈ex p:=by rw [hex];intro p;simp
 have M9:∀ p,(9,19,.agg #[.bool q2.g,.int .u32 (q2.a:Int),.int .u8 (q2.p:Int),.int .u8 (q2.y:Int),.int .u8 (q2.e:Int),.int .u16 (q2.b:Int),.int .u16 (q2.t:Int)])∈ex p:=by rw [hex];intro p;simp
 have M10:∀ p,(10,20,.int .u32 (q2.a:Int))∈ex p:=by rw [hex];intro p;simp
 have M11:∀ p,(11,21,.tuple #[.bool true,.int .i64 er])∈ex p:=by rw [hex];intro p;simp
 have M12:∀ p,(12,9,.tuple #[.bool true,.int .i64 er])∈ex p:=by rw [hex];intro p;simp
 have M13:∀ p,(13,22,.bool true)∈ex p:=by rw [hex];intro p;simp
 have M14:∀ p,(14,23,.int .i64 er)∈ex p:=by rw [hex];intro p;simp
 have M15:∀ p,(15,2,.bool true)∈ex p:=by rw [hex];intro p;simp
 have M16:∀ p,(16,3,.int .i64 er)∈ex p:=by rw [hex];intro p;simp
 refine wp_region_tm (by kernel_rfl) (by kernel_rfl) ex (JB N w) 0 ⟨(Below.refl _ _).drew,by rw [←hN];exact Nat.le_refl _⟩ ?_ (by rw [hex];intro p;kernel_rfl) ?_
 ·intro p l W i o hls hop hun hdep hj
  have hi:i<17:=(Array.getElem?_eq_some_iff.1 hop).1
  have hil:i<l.size:=by rw [hls];exact hi
  rcases (by omega:i=0∨i=1∨i=2∨i=3∨i=4∨i=5∨i=6∨i=7∨i=8∨i=9∨i=10∨i=11∨i=12∨i=13∨i=14∨i=15∨i=16) with rfl | rfl | rfl | rfl | rfl | rfl | rfl | rfl | rfl | rfl | rfl | rfl | rfl | rfl | rfl | rfl | rfl
  ·cases hop
   have r0:=(tmA_none T0 (ex p) l 0 (by rw [hex];kernel_rfl)).trans fx0
   refine wpOp_of rfl rfl ?_
   refine wp_move (.tmp 0) rfl _ r0 ?_
   exact step_val (p':=p) _ (HN _) (M0 _) hil (by rw [hts];decide) rfl (hj.other (Below.refl _ _))
  ·cases hop
   have r10:=tmA_some T0 _ _ (HN p) 0 10 _ (M0 p) (hdep ⟨0,.data⟩ (by simp) rfl) (by rw [hts];decide)
   refine wpOp_of rfl rfl ?_
   refine wp_nil (.tmp 10) rfl _ r10 ?_
   exact step_val (p':=p) _ (HN _) (M1 _) hil (by rw [hts];decide) rfl (hj.other (Below.refl _ _))
  ·cases hop
   have r11:=tmA_some T0 _ _ (HN p) 1 11 _ (M1 p) (hdep ⟨1,.data⟩ (by simp) rfl) (by rw [hts];decide)
   refine wpOp_of rfl rfl ?_
   refine wp_fa 81 (.tmp 11) 3 0 rfl g 0 303 r11 (fa81_3 g) ?_
   exact step_val (p':=p) _ (HN _) (M2 _) hil (by rw [hts];decide) rfl (hj.other (Below.refl _ _))
  ·cases hop
   have r12:=tmA_some T0 _ _ (HN p) 2 12 _ (M2 p) (hdep ⟨2,.data⟩ (by simp) rfl) (by rw [hts];decide)
   refine wpOp_of rfl rfl ?_
   refine wp_fa 53 (.tmp 12) 0 0 rfl g 303 303 r12 (fa53_0 g) ?_
   exact step_val (p':=p) _ (HN _) (M3 _) hil (by rw [hts];decide) rfl (hj.other (Below.refl _ _))
  ·cases hop
   have r13:=tmA_some T0 _ _ (HN p) 3 13 _ (M3 p) (hdep ⟨3,.data⟩ (by simp) rfl) (by rw [hts];decide)
   refine wpOp_of rfl rfl ?_
   refine wp_ld 51 (.tmp 13) rfl ⟨g,303,none⟩ _ r13 agg51 (HO.out W hj.1) ?_
   exact step_val (p':=p) _ (HN _) (M4 _) hil (by rw [hts];decide) rfl (hj.other (Below.refl _ _))
  ·cases hop
   have r0:=(tmA_none T0 (ex p) l 0 (by rw [hex];kernel_rfl)).trans fx0
   refine wpOp_of rfl rfl ?_
   refine wp_move (.tmp 0) rfl _ r0 ?_
   exact step_val (p':=p) _ (HN _) (M5 _) hil (by rw [hts];decide) rfl (hj.other (Below.refl _ _))
  ·cases hop
   have r15:=tmA_some T0 _ _ (HN p) 5 15 _ (M5 p) (hdep ⟨5,.data⟩ (by simp) rfl) (by rw [hts];decide)
   refine wpOp_of rfl rfl ?_
   refine wp_call1 136 (.tmp 15) 116 rfl _ r15 (cf136 _) ?_
   refine (K136.out W hj.1).mono ?_
   rintro _ W' ⟨rfl,hb⟩
   exact step_val (p':=p) _ (HN _) (M6 _) hil (by rw [hts];decide) rfl (hj.other hb)
  ·cases hop
   have r16:=tmA_some T0 _ _ (HN p) 6 16 _ (M6 p) (hdep ⟨6,.data⟩ (by simp) rfl) (by rw [hts];decide)
   refine wpOp_of rfl rfl ?_
   refine wp_fieldcap (.tmp 16) 1 rfl _ _ r16 (fld2 _ _ _ _ _ _ _) ?_
   exact step_val (p':=p) _ (HN _) (M7 _) hil (by rw [hts];decide) rfl (hj.other (Below.refl _ _))
  ·cases hop
   have r0:=(tmA_none T0 (ex p) l 0 (by rw [hex];kernel_rfl)).trans fx0
   refine wpOp_of rfl rfl ?_
   refine wp_move (.tmp 0) rfl _ r0 ?_
   exact step_val (p':=p) _ (HN _) (M8 _) hil (by rw [hts];decide) rfl (hj.other (Below.refl _ _))
  ·cases hop
   have r18:=tmA_some T0 _ _ (HN p) 8 18 _ (M8 p) (hdep ⟨8,.data⟩ (by simp) rfl) (by rw [hts];decide)
   refine wpOp_of rfl rfl ?_
   refine wp_call1 98 (.tmp 18) 116 rfl _ r18 (cf98 _) ?_
   refine (K98.out W hj.1).mono ?_
   rintro _ W' ⟨rfl,hb⟩
   exact step_val (p':=p) _ (HN _) (M9 _) hil (by rw [hts];decide) rfl (hj.other hb)
  ·cases hop
   have r19:=tmA_some T0 _ _ (HN p) 9 19 _ (M9 p) (hdep ⟨9,.data⟩ (by simp) rfl) (by rw [hts];decide)
   refine wpOp_of rfl rfl ?_
   refine wp_fieldcap (.tmp 19) 1 rfl _ _ r19 (fld2 _ _ _ _ _ _ _) ?_
   exact step_val (p':=p) _ (HN _) (M10 _) hil (by rw [hts];decide) rfl (hj.other (Below.refl _ _))
  ·cases hop
   have r14:=tmA_some T0 _ _ (HN p) 4 14 _ (M4 p) (hdep ⟨4,.data⟩ (by simp) rfl) (by rw [hts];decide)
   have r17:=tmA_some T0 _ _ (HN p) 7 17 _ (M7 p) (hdep ⟨7,.data⟩ (by simp) rfl) (by rw [hts];decide)
   have r20:=tmA_some T0 _ _ (HN p) 10 20 _ (M10 p) (hdep ⟨10,.data⟩ (by simp) rfl) (by rw [hts];decide)
   refine wpOp_of rfl rfl ?_
   refine wp_call3 135 (.tmp 14) (.tmp 17) (.tmp 20) 51 25 25 rfl _ _ _ r14 r17 r20 (cf135 _ _ _) ?_
   refine (KIS.out W).mono ?_
   rintro _ _ ⟨rfl,rfl⟩
   exact step_val (p':=p) _ (HN _) (M11 _) hil (by rw [hts];decide) rfl (hj.other (Below.refl _ _))
  ·cases hop
   have r21:=tmA_some T0 _ _ (HN p) 11 21 _ (M11 p) (hdep ⟨11,.data⟩ (by simp) rfl) (by rw [hts];decide)
   refine wpOp_of rfl rfl ?_
   refine wp_move (.tmp 21) rfl _ r21 ?_
   exact step_val (p':=p) _ (HN _) (M12 _) hil (by rw [hts];decide) rfl (hj.other (Below.refl _ _))
  ·cases hop
   have r9:=tmA_some T0 _ _ (HN p) 12 9 _ (M12 p) (hdep ⟨12,.data⟩ (by simp) rfl) (by rw [hts];decide)
   refine wpOp_of rfl rfl ?_
   refine wp_extract (.tmp 9) 0 rfl _ _ r9 (ex2_0 _ _) ?_
   exact step_val (p':=p) _ (HN _) (M13 _) hil (by rw [hts];decide) rfl (hj.other (Below.refl _ _))
  ·cases hop
   have r9:=tmA_some T0 _ _ (HN p) 12 9 _ (M12 p) (hdep ⟨12,.data⟩ (by simp) rfl) (by rw [hts];decide)
   refine wpOp_of rfl rfl ?_
   refine wp_extract (.tmp 9) 1 rfl _ _ r9 (ex2_1 _ _) ?_
   exact step_val (p':=p) _ (HN _) (M14 _) hil (by rw [hts];decide) rfl (hj.other (Below.refl _ _))
  ·cases hop
   have r22:=tmA_some T0 _ _ (HN p) 13 22 _ (M13 p) (hdep ⟨13,.data⟩ (by simp) rfl) (by rw [hts];decide)
   refine wpOp_of rfl rfl ?_
   refine wp_assign (.tmp 22) rfl _ r22 ?_
   exact step_val (p':=p) _ (HN _) (M15 _) hil (by rw [hts];decide) rfl (hj.other (Below.refl _ _))
  ·cases hop
   have r23:=tmA_some T0 _ _ (HN p) 14 23 _ (M14 p) (hdep ⟨14,.data⟩ (by simp) rfl) (by rw [hts];decide)
   refine wpOp_of rfl rfl ?_
   refine wp_assign (.tmp 23) rfl _ r23 ?_
   exact step_val (p':=p) _ (HN _) (M16 _) hil (by rw [hts];decide) rfl (hj.other (Below.refl _ _))
 ·intro p l W hall hj
  obtain ⟨hB,hz⟩:=hj
  have HKW:Hid (Wk W g k):=Lib.hid (HW.out.under hB hlN)
  have HB:Hid (Sv g N w W):=Lib.hid (by rw [←hN] at hB ⊢;exact Below.sv hB (Nat.le_refl _))
  subst hex
  rw [HT.out]
  simp only [putAll]
  clear hall hB
  go_wp2_with fail
  refine (K60.out _ HKW.out).mono ?_
  rintro _ _ ⟨rfl,rfl⟩
  go_wp2_with fail
  refine (K97.out _ HKW.out).mono ?_
  rintro _ _ ⟨rfl,rfl⟩
  go_wp2_with fail
  refine (KL.out _ HKW.out).mono ?_
  rintro _ w2 ⟨rfl,hk2,hs2⟩
  have HS2:Hid (Sv g N w w2):=Lib.hid (HB.out.trans ⟨hs2.os,hs2.tape,hs2.output,hs2.size,fun i hi hg=>hs2.block i (by omega) hg⟩)
  have HK2:=Lib.hid hk2
  clear hk2 hs2
  go_wp2_with fail
  go_end0
  exact ⟨rfl,HK2.out,by rw [hN];exact HS2.out⟩
set_option maxHeartbeats 2000000 in
theorem c92_br0 (g:Nat) (k:WK) (o1 r1 r2 n:Nat) (er:Int) (q q1 q2:Cq) (w:World) (h:Wk w g k) (ho:k.i.o=o1) (ho1:5≤o1) (hr1:k.i.r1=r1) (h116:r1<16) (hr2:k.i.r2=r2) (h216:r2<16) (hq1:k.A.c r1=q1) (hq2:k.A.c r2=q2) (hq:k.A.c 16=q) (hf:q.fit) (hn:k.i.im%4294967296=(n:Int))
  (KI:∀ W,Calls Tryz.prog 135 #[.int .u8 (o1:Int),.int .u32 (q1.a:Int),.int .u32 (q2.a:Int)] W fun e w'=>e=.returned (.tuple #[.bool false,.int .i64 er])∧W=w') :
  Calls Tryz.prog 92 #[.pointer (some ⟨g,0,none⟩)] w fun e w'=>e=.returned (.tuple #[])∧Wk w' g k∧Sv g w.heap.size w w':=by
 have hl:=Blk.lt h
 obtain ⟨N,hN⟩:∃ N,w.heap.size=N:=⟨_,rfl⟩
 have hlN:g<N:=by omega
 have HW:=Lib.hid h
 have xo:w.cell? ⟨g,303,none⟩=some (.int .u8 (o1:Int)):=by rw [←ho];exact h.cellT 0 303 rfl
 have HO:Hid (∀ W,Below N w W→W.cell? ⟨g,303,none⟩=some (.int .u8 (o1:Int))):=Lib.hid (fun W hb=>by rw [←ho];exact (h.under hb hlN).cellT 0 303 rfl)
 have K136:Hid (∀ W,Below N w W→Calls Tryz.prog 136 #[.pointer (some ⟨g,0,none⟩)] W fun e w'=>e=.returned (.agg #[.bool q1.g,.int .u32 (q1.a:Int),.int .u8 (q1.p:Int),.int .u8 (q1.y:Int),.int .u8 (q1.e:Int),.int .u16 (q1.b:Int),.int .u16 (q1.t:Int)])∧Below W.heap.size W w'):=Lib.hid (fun W hb=>c136 g k W (h.under hb hlN) r1 q1 hr1 hq1 h116)
 have K98:Hid (∀ W,Below N w W→Calls Tryz.prog 98 #[.pointer (some ⟨g,0,none⟩)] W fun e w'=>e=.returned (.agg #[.bool q2.g,.int .u32 (q2.a:Int),.int .u8 (q2.p:Int),.int .u8 (q2.y:Int),.int .u8 (q2.e:Int),.int .u16 (q2.b:Int),.int .u16 (q2.t:Int)])∧Below W.heap.size W w'):=Lib.hid (fun W hb=>c98 g k W (h.under hb hlN) r2 q2 hr2 hq2 h216)
 have KIS:=Lib.hid KI
 have K97:Hid (∀ W,Wk W g k→Calls Tryz.prog 97 #[.pointer (some ⟨g,0,none⟩)] W fun e w'=>e=.returned (.int .u32 (n:Int))∧W=w'):=Lib.hid (fun W hk=>by rw [←hn];exact c97 g k W hk)
 have K60:Hid (∀ W,Wk W g k→Calls Tryz.prog 60 #[.pointer (some ⟨g,0,none⟩)] W fun e w'=>e=.returned (.int .u32 (q.a:Int))∧W=w'):=Lib.hid (fun W hk=>by rw [←hq];exact c60 g k W hk)
 obtain ⟨m,hm⟩:∃ m,(q.a+n)%4294967296=m:=⟨_,rfl⟩
 have hn2:n<4294967296:=by omega
 have hw:IntKind.u32.wrap ((q.a:Int)+(n:Int))=(m:Int):=by rw [IntKind.wrap_u32];omega
 have KL:Hid (∀ W,Wk W g k→Calls Tryz.prog 59 #[.pointer (some ⟨g,0,none⟩),.int .u32 (m:Int)] W fun e w'=>e=.returned (.tuple #[])∧Wk w' g (k.putN 16 (q.sa m))∧Sv g W.heap.size W w'):=Lib.hid (fun W hk=>lead_call g k q n m W hk hq hf hm)
 clear hm
 have b1:((o1:Int)==1)=false:=by rw [beq_eq_false_iff_ne];omega
 have b2:((o1:Int)==2)=false:=by rw [beq_eq_false_iff_ne];omega
 have b3:((o1:Int)==4)=false:=by rw [beq_eq_false_iff_ne];omega
 have b4:((o1:Int)==3)=false:=by rw [beq_eq_false_iff_ne];omega
 clear h ho hr1 hr2 hq1 hq2 hq hf hn KI
 go_enter Tryz.func92,Tryz.ntmps92
 go_upto_region 1 with fail
 refine at_eq fun T0 hT=>?_
 have hts:T0.size=75:=by rw [hT];rfl
 have fx0:T0.getD 0 undef=.pointer (some ⟨g,0,none⟩):=by rw [hT];rfl
 have HT:=Lib.hid hT
 clear hT
 obtain ⟨ex,hex⟩:∃ ex:Nat→Ex,ex=fun p=>[(0,10,.pointer (some ⟨g,0,none⟩)),(1,11,.pointer (some ⟨g,0,none⟩)),(2,12,.pointer (some ⟨g,303,none⟩)),(3,13,.pointer (some ⟨g,303,none⟩)),(4,14,.int .u8 (o1:Int)),(5,15,.pointer (some ⟨g,0,none⟩)),(6,16,.agg #[.bool q1.g,.int .u32 (q1.a:Int),.int .u8 (q1.p:Int),.int .u8 (q1.y:Int),.int .u8 (q1.e:Int),.int .u16 (q1.b:Int),.int .u16 (q1.t:Int)]),(7,17,.int .u32 (q1.a:Int)),(8,18,.pointer (some ⟨g,0,none⟩)),(9,19,.agg #[.bool q2.g,.int .u32 (q2.a:Int),.int .u8 (q2.p:Int),.int .u8 (q2.y:Int),.int .u8 (q2.e:Int),.int .u16 (q2.b:Int),.int .u16 (q2.t:Int)]),(10,20,.int .u32 (q2.a:Int)),(11,21,.tuple #[.bool false,.int .i64 er]),(12,9,.tuple #[.bool false,.int .i64 er]),(13,22,.bool false),(14,23,.int .i64 er),(15,2,.bool false),(16,3,.int .i64 er)]:=⟨_,rfl⟩
 have HN:∀ p,apartB (ex p)=true:=by rw [hex];intro p;kernel_rfl
 have M0:∀ p,(0,10,.pointer (some ⟨g,0,none⟩))∈ex p:=by rw [hex];intro p;simp
 have M1:∀ p,(1,11,.pointer (some ⟨g,0,none⟩))∈ex p:=by rw [hex];intro p;simp
 have M2:∀ p,(2,12,.pointer (some ⟨g,303,none⟩))∈ex p:=by rw [hex];intro p;simp
 have M3:∀ p,(3,13,.pointer (some ⟨g,303,none⟩))∈ex p:=by rw [hex];intro p;simp
 have M4:∀ p,(4,14,.int .u8 (o1:Int))∈ex p:=by rw [hex];intro p;simp
 have M5:∀ p,(5,15,.pointer (some ⟨g,0,none⟩))∈ex p:=by rw [hex];intro p;simp
 have M6:∀ p,(6,16,.agg #[.bool q1.g,.int .u32 (q1.a:Int),.int .u8 (q1.p:Int),.int .u8 (q1.y:Int),.int .u8 (q1.e:Int),.int .u16 (q1.b:Int),.int .u16 (q1.t:Int)])∈ex p:=by rw [hex];intro p;simp
 have M7:∀ p,(7,17,.int .u32 (q1.a:Int))∈ex p:=by rw [hex];intro p;simp
 have M8:∀ p,(8,18,.pointer (some ⟨g,0,none⟩))∈ex p:=by rw [hex];intro p;simp
 have M9:∀ p,(9,19,.agg #[.bool q2.g,.int .u32 (q2.a:Int),.int .u8 (q2.p:Int),.int .u8 (q2.y:Int),.int .u8 (q2.e:Int),.int .u16 (q2.b:Int),.int .u16 (q2.t:Int)])∈ex p:=by rw [hex];intro p;simp
 have M10:∀ p,(10,20,.int .u32 (q2.a:Int))∈ex p:=by rw [hex];intro p;simp
 have M11:∀ p,(11,21,.tuple #[.bool false,.int .i64 er])∈ex p:=by rw [hex];intro p;simp
 have M12:∀ p,(12,9,.tuple #[.bool false,.int .i64 er])∈ex p:=by rw [hex];intro p;simp
 have M13:∀ p,(13,22,.bool false)∈ex p:=by rw [hex];intro p;simp
 have M14:∀ p,(14,23,.int .i64 er)∈ex p:=by rw [hex];intro p;simp
 have M15:∀ p,(15,2,.bool false)∈ex p:=by rw [hex];intro p;simp
 have M16:∀ p,(16,3,.int .i64 er)∈ex p:=by rw [hex];intro p;simp
 refine wp_region_tm (by kernel_rfl) (by kernel_rfl) ex (JB N w) 0 ⟨(Below.refl _ _).drew,by rw [←hN];exact Nat.le_refl _⟩ ?_ (by rw [hex];intro p;kernel_rfl) ?_
 ·intro p l W i o hls hop hun hdep hj
  have hi:i<17:=(Array.getElem?_eq_some_iff.1 hop).1
  have hil:i<l.size:=by rw [hls];exact hi
  rcases (by omega:i=0∨i=1∨i=2∨i=3∨i=4∨i=5∨i=6∨i=7∨i=8∨i=9∨i=10∨i=11∨i=12∨i=13∨i=14∨i=15∨i=16) with rfl | rfl | rfl | rfl | rfl | rfl | rfl | rfl | rfl | rfl | rfl | rfl | rfl | rfl | rfl | rfl | rfl
  ·cases hop
   have r0:=(tmA_none T0 (ex p) l 0 (by rw [hex];kernel_rfl)).trans fx0
   refine wpOp_of rfl rfl ?_
   refine wp_move (.tmp 0) rfl _ r0 ?_
   exact step_val (p':=p) _ (HN _) (M0 _) hil (by rw [hts];decide) rfl (hj.other (Below.refl _ _))
  ·cases hop
   have r10:=tmA_some T0 _ _ (HN p) 0 10 _ (M0 p) (hdep ⟨0,.data⟩ (by simp) rfl) (by rw [hts];decide)
   refine wpOp_of rfl rfl ?_
   refine wp_nil (.tmp 10) rfl _ r10 ?_
   exact step_val (p':=p) _ (HN _) (M1 _) hil (by rw [hts];decide) rfl (hj.other (Below.refl _ _))
  ·cases hop
   have r11:=tmA_some T0 _ _ (HN p) 1 11 _ (M1 p) (hdep ⟨1,.data⟩ (by simp) rfl) (by rw [hts];decide)
   refine wpOp_of rfl rfl ?_
   refine wp_fa 81 (.tmp 11) 3 0 rfl g 0 303 r11 (fa81_3 g) ?_
   exact step_val (p':=p) _ (HN _) (M2 _) hil (by rw [hts];decide) rfl (hj.other (Below.refl _ _))
  ·cases hop
   have r12:=tmA_some T0 _ _ (HN p) 2 12 _ (M2 p) (hdep ⟨2,.data⟩ (by simp) rfl) (by rw [hts];decide)
   refine wpOp_of rfl rfl ?_
   refine wp_fa 53 (.tmp 12) 0 0 rfl g 303 303 r12 (fa53_0 g) ?_
   exact step_val (p':=p) _ (HN _) (M3 _) hil (by rw [hts];decide) rfl (hj.other (Below.refl _ _))
  ·cases hop
   have r13:=tmA_some T0 _ _ (HN p) 3 13 _ (M3 p) (hdep ⟨3,.data⟩ (by simp) rfl) (by rw [hts];decide)
   refine wpOp_of rfl rfl ?_
   refine wp_ld 51 (.tmp 13) rfl ⟨g,303,none⟩ _ r13 agg51 (HO.out W hj.1) ?_
   exact step_val (p':=p) _ (HN _) (M4 _) hil (by rw [hts];decide) rfl (hj.other (Below.refl _ _))
  ·cases hop
   have r0:=(tmA_none T0 (ex p) l 0 (by rw [hex];kernel_rfl)).trans fx0
   refine wpOp_of rfl rfl ?_
   refine wp_move (.tmp 0) rfl _ r0 ?_
   exact step_val (p':=p) _ (HN _) (M5 _) hil (by rw [hts];decide) rfl (hj.other (Below.refl _ _))
  ·cases hop
   have r15:=tmA_some T0 _ _ (HN p) 5 15 _ (M5 p) (hdep ⟨5,.data⟩ (by simp) rfl) (by rw [hts];decide)
   refine wpOp_of rfl rfl ?_
   refine wp_call1 136 (.tmp 15) 116 rfl _ r15 (cf136 _) ?_
   refine (K136.out W hj.1).mono ?_
   rintro _ W' ⟨rfl,hb⟩
   exact step_val (p':=p) _ (HN _) (M6 _) hil (by rw [hts];decide) rfl (hj.other hb)
  ·cases hop
   have r16:=tmA_some T0 _ _ (HN p) 6 16 _ (M6 p) (hdep ⟨6,.data⟩ (by simp) rfl) (by rw [hts];decide)
   refine wpOp_of rfl rfl ?_
   refine wp_fieldcap (.tmp 16) 1 rfl _ _ r16 (fld2 _ _ _ _ _ _ _) ?_
   exact step_val (p':=p) _ (HN _) (M7 _) hil (by rw [hts];decide) rfl (hj.other (Below.refl _ _))
  ·cases hop
   have r0:=(tmA_none T0 (ex p) l 0 (by rw [hex];kernel_rfl)).trans fx0
   refine wpOp_of rfl rfl ?_
   refine wp_move (.tmp 0) rfl _ r0 ?_
   exact step_val (p':=p) _ (HN _) (M8 _) hil (by rw [hts];decide) rfl (hj.other (Below.refl _ _))
  ·cases hop
   have r18:=tmA_some T0 _ _ (HN p) 8 18 _ (M8 p) (hdep ⟨8,.data⟩ (by simp) rfl) (by rw [hts];decide)
   refine wpOp_of rfl rfl ?_
   refine wp_call1 98 (.tmp 18) 116 rfl _ r18 (cf98 _) ?_
   refine (K98.out W hj.1).mono ?_
   rintro _ W' ⟨rfl,hb⟩
   exact step_val (p':=p) _ (HN _) (M9 _) hil (by rw [hts];decide) rfl (hj.other hb)
  ·cases hop
   have r19:=tmA_some T0 _ _ (HN p) 9 19 _ (M9 p) (hdep ⟨9,.data⟩ (by simp) rfl) (by rw [hts];decide)
   refine wpOp_of rfl rfl ?_
   refine wp_fieldcap (.tmp 19) 1 rfl _ _ r19 (fld2 _ _ _ _ _ _ _) ?_
   exact step_val (p':=p) _ (HN _) (M10 _) hil (by rw [hts];decide) rfl (hj.other (Below.refl _ _))
  ·cases hop
   have r14:=tmA_some T0 _ _ (HN p) 4 14 _ (M4 p) (hdep ⟨4,.data⟩ (by simp) rfl) (by rw [hts];decide)
   have r17:=tmA_some T0 _ _ (HN p) 7 17 _ (M7 p) (hdep ⟨7,.data⟩ (by simp) rfl) (by rw [hts];decide)
   have r20:=tmA_some T0 _ _ (HN p) 10 20 _ (M10 p) (hdep ⟨10,.data⟩ (by simp) rfl) (by rw [hts];decide)
   refine wpOp_of rfl rfl ?_
   refine wp_call3 135 (.tmp 14) (.tmp 17) (.tmp 20) 51 25 25 rfl _ _ _ r14 r17 r20 (cf135 _ _ _) ?_
   refine (KIS.out W).mono ?_
   rintro _ _ ⟨rfl,rfl⟩
   exact step_val (p':=p) _ (HN _) (M11 _) hil (by rw [hts];decide) rfl (hj.other (Below.refl _ _))
  ·cases hop
   have r21:=tmA_some T0 _ _ (HN p) 11 21 _ (M11 p) (hdep ⟨11,.data⟩ (by simp) rfl) (by rw [hts];decide)
   refine wpOp_of rfl rfl ?_
   refine wp_move (.tmp 21) rfl _ r21 ?_
   exact step_val (p':=p) _ (HN _) (M12 _) hil (by rw [hts];decide) rfl (hj.other (Below.refl _ _))
  ·cases hop
   have r9:=tmA_some T0 _ _ (HN p) 12 9 _ (M12 p) (hdep ⟨12,.data⟩ (by simp) rfl) (by rw [hts];decide)
   refine wpOp_of rfl rfl ?_
   refine wp_extract (.tmp 9) 0 rfl _ _ r9 (ex2_0 _ _) ?_
   exact step_val (p':=p) _ (HN _) (M13 _) hil (by rw [hts];decide) rfl (hj.other (Below.refl _ _))
  ·cases hop
   have r9:=tmA_some T0 _ _ (HN p) 12 9 _ (M12 p) (hdep ⟨12,.data⟩ (by simp) rfl) (by rw [hts];decide)
   refine wpOp_of rfl rfl ?_
   refine wp_extract (.tmp 9) 1 rfl _ _ r9 (ex2_1 _ _) ?_
   exact step_val (p':=p) _ (HN _) (M14 _) hil (by rw [hts];decide) rfl (hj.other (Below.refl _ _))
  ·cases hop
   have r22:=tmA_some T0 _ _ (HN p) 13 22 _ (M13 p) (hdep ⟨13,.data⟩ (by simp) rfl) (by rw [hts];decide)
   refine wpOp_of rfl rfl ?_
   refine wp_assign (.tmp 22) rfl _ r22 ?_
   exact step_val (p':=p) _ (HN _) (M15 _) hil (by rw [hts];decide) rfl (hj.other (Below.refl _ _))
  ·cases hop
   have r23:=tmA_some T0 _ _ (HN p) 14 23 _ (M14 p) (hdep ⟨14,.data⟩ (by simp) rfl) (by rw [hts];decide)
   refine wpOp_of rfl rfl ?_
   refine wp_assign (.tmp 23) rfl _ r23 ?_
   exact step_val (p':=p) _ (HN _) (M16 _) hil (by rw [hts];decide) rfl (hj.other (Below.refl _ _))
 ·intro p l W hall hj
  obtain ⟨hB,hz⟩:=hj
  have HKW:Hid (Wk W g k):=Lib.hid (HW.out.under hB hlN)
  have HB:Hid (Sv g N w W):=Lib.hid (by rw [←hN] at hB ⊢;exact Below.sv hB (Nat.le_refl _))
  subst hex
  rw [HT.out]
  simp only [putAll]
  clear hall hB
  go_wp2_with fail
  go_end0
  exact ⟨rfl,HKW.out,HB.out⟩
theorem c92_br (g:Nat) (k:WK) (o1 r1 r2 n:Nat) (tk:Bool) (er:Int) (q q1 q2:Cq) (w:World) (h:Wk w g k) (ho:k.i.o=o1) (ho1:5≤o1) (hr1:k.i.r1=r1) (h116:r1<16) (hr2:k.i.r2=r2) (h216:r2<16) (hq1:k.A.c r1=q1) (hq2:k.A.c r2=q2) (hq:k.A.c 16=q) (hf:q.fit) (hn:k.i.im%4294967296=(n:Int))
  (KI:∀ W,Calls Tryz.prog 135 #[.int .u8 (o1:Int),.int .u32 (q1.a:Int),.int .u32 (q2.a:Int)] W fun e w'=>e=.returned (.tuple #[.bool tk,.int .i64 er])∧W=w') :
  Calls Tryz.prog 92 #[.pointer (some ⟨g,0,none⟩)] w fun e w'=>e=.returned (.tuple #[])∧Wk w' g (if tk=true then k.putN 16 (q.sa ((q.a+n)%4294967296)) else k)∧Sv g w.heap.size w w':=by
 cases tk with
 | true=>exact c92_br1 g k o1 r1 r2 n er q q1 q2 w h ho ho1 hr1 h116 hr2 h216 hq1 hq2 hq hf hn KI
 | false=>exact c92_br0 g k o1 r1 r2 n er q q1 q2 w h ho ho1 hr1 h116 hr2 h216 hq1 hq2 hq hf hn KI
set_option maxHeartbeats 1000000 in
theorem c92_cjal (g:Nat) (k:WK) (rd n:Nat) (q:Cq) (w:World) (h:Wk w g k) (ho:k.i.o=3) (hd:k.i.rd=rd) (hd16:rd<16) (hq:k.A.c 16=q) (hf:q.fit) (hn:k.i.im%4294967296=(n:Int)) :
  Calls Tryz.prog 92 #[.pointer (some ⟨g,0,none⟩)] w fun e w'=>e=.returned (.tuple #[])∧Wk w' g ((k.putN rd k.A.link).putN 16 (q.sa ((q.a+n)%4294967296)))∧Sv g w.heap.size w w':=by
 have xo:w.cell? ⟨g,303,none⟩=some (.int .u8 3):=by have:=h.cellT 0 303 rfl;rw [this];show some (Value.int .u8 (k.i.o:Int))=_;rw [ho];rfl
 have hl:=Blk.lt h
 have K134:=Lib.hid (c134 g k w h (by rw [hq];exact hf))
 obtain ⟨m,hm⟩:∃ m,(q.a+n)%4294967296=m:=⟨_,rfl⟩
 have hn2:n<4294967296:=by omega
 have hw:IntKind.u32.wrap ((q.a:Int)+(n:Int))=(m:Int):=by rw [IntKind.wrap_u32];omega
 obtain ⟨q3,hq3⟩:∃ q3,k.A.link=q3:=⟨_,rfl⟩
 rw [hq3] at K134 ⊢
 obtain ⟨k1,hk1⟩:∃ k1,k.putN rd q3=k1:=⟨_,rfl⟩
 have hk1A:k1.A=k.A:=by rw [←hk1];rfl
 have hk1i:k1.i=k.i:=by rw [←hk1];rfl
 have K95:Hid (∀ W,Below w.heap.size w W→Calls Tryz.prog 95 #[.pointer (some ⟨g,0,none⟩),.agg #[.bool q3.g,.int .u32 (q3.a:Int),.int .u8 (q3.p:Int),.int .u8 (q3.y:Int),.int .u8 (q3.e:Int),.int .u16 (q3.b:Int),.int .u16 (q3.t:Int)]] W fun e w'=>e=.returned (.tuple #[])∧Wk w' g k1∧Sv g w.heap.size w w'):=Lib.hid (fun W hb=>(c95 g k q3 W (h.under hb hl) rd hd hd16).mono fun e w' ⟨h1,h2,h3⟩=>⟨h1,by rw [←hk1];exact h2,(Below.sv hb (Nat.le_refl _)).trans (h3.sv hb.size)⟩)
 have K97:Hid (∀ W,Wk W g k1→Calls Tryz.prog 97 #[.pointer (some ⟨g,0,none⟩)] W fun e w'=>e=.returned (.int .u32 (n:Int))∧W=w'):=Lib.hid (fun W hk=>by rw [←hn,←hk1i];exact c97 g k1 W hk)
 have K60:Hid (∀ W,Wk W g k1→Calls Tryz.prog 60 #[.pointer (some ⟨g,0,none⟩)] W fun e w'=>e=.returned (.int .u32 (q.a:Int))∧W=w'):=Lib.hid (fun W hk=>by rw [←hq,←hk1A];exact c60 g k1 W hk)
 have KL:Hid (∀ W,Wk W g k1→Calls Tryz.prog 59 #[.pointer (some ⟨g,0,none⟩),.int .u32 (m:Int)] W fun e w'=>e=.returned (.tuple #[])∧Wk w' g (k1.putN 16 (q.sa m))∧Sv g W.heap.size W w'):=Lib.hid (fun W hk=>lead_call g k1 q n m W hk (by rw [hk1A];exact hq) hf hm)
 rw [hm,hk1]
 clear h ho hd hq hf hn hq3 hk1 hk1A hk1i hm
 go_enter Tryz.func92,Tryz.ntmps92
 go_wp2_with fail
 refine K134.out.mono ?_
 rintro _ w1 ⟨rfl,hb1⟩
 have HB1:=Lib.hid hb1
 clear hb1 xo
 go_wp2_with fail
 refine (K95.out w1 HB1.out).mono ?_
 rintro _ w2 ⟨rfl,hk2,hs2⟩
 have HK2:=Lib.hid hk2
 have HS2:=Lib.hid hs2
 clear hk2 hs2
 go_wp2_with fail
 refine (K60.out _ HK2.out).mono ?_
 rintro _ _ ⟨rfl,rfl⟩
 go_wp2_with fail
 refine (K97.out _ HK2.out).mono ?_
 rintro _ _ ⟨rfl,rfl⟩
 go_wp2_with fail
 refine (KL.out _ HK2.out).mono ?_
 rintro _ w3 ⟨rfl,hk3,hs3⟩
 have HK3:=Lib.hid hk3
 have HS3:Hid (Sv g w.heap.size w w3):=Lib.hid (HS2.out.trans ⟨hs3.os,hs3.tape,hs3.output,hs3.size,fun i hi hg=>hs3.block i (by have:=HS2.out.size;omega) hg⟩)
 clear hk3 hs3
 go_wp2_with fail
 go_end0
 exact ⟨rfl,HK3.out,HS3.out⟩
theorem WK.jmp_A (k:WK) (q:Cq) (n:Nat):(k.jmp q n).A=k.A:=by
 unfold WK.jmp
 split
 ·rfl
 ·split <;> rfl
theorem WK.jmp_i (k:WK) (q:Cq) (n:Nat):(k.jmp q n).i=k.i:=by
 unfold WK.jmp
 split
 ·rfl
 ·split <;> rfl
set_option maxHeartbeats 1000000 in
theorem c92_cjalr (g:Nat) (k:WK) (rd r1 n:Nat) (q1:Cq) (w:World) (h:Wk w g k) (ho:k.i.o=4) (hd:k.i.rd=rd) (hd16:rd<16) (hr:k.i.r1=r1) (hr16:r1<16) (hq:k.A.c r1=q1) (hf:q1.fit) (hf16:(k.A.c 16).fit) (hn:k.i.im%4294967296=(n:Int)) (hj:q1.jok k.i.im=true) :
  Calls Tryz.prog 92 #[.pointer (some ⟨g,0,none⟩)] w fun e w'=>e=.returned (.tuple #[])∧Wk w' g ((k.jmp q1 n).putN rd k.A.link)∧Sv g w.heap.size w w':=by
 have xo:w.cell? ⟨g,303,none⟩=some (.int .u8 4):=by have:=h.cellT 0 303 rfl;rw [this];show some (Value.int .u8 (k.i.o:Int))=_;rw [ho];rfl
 have hl:=Blk.lt h
 have K133:=Lib.hid (c133_ok g k r1 n q1 w h hr hr16 hq hf hn hj)
 have hA:=k.jmp_A q1 n
 have hI:=k.jmp_i q1 n
 obtain ⟨k1,hk1⟩:∃ k1,k.jmp q1 n=k1:=⟨_,rfl⟩
 rw [hk1] at K133 hA hI ⊢
 have K134:Hid (∀ W,Wk W g k1→Calls Tryz.prog 134 #[.pointer (some ⟨g,0,none⟩)] W fun e w'=>e=.returned k.A.link.v∧Below W.heap.size W w'):=Lib.hid (fun W hk=>by rw [←hA];exact c134 g k1 W hk (by rw [hA];exact hf16))
 obtain ⟨q3,hq3⟩:∃ q3,k.A.link=q3:=⟨_,rfl⟩
 rw [hq3] at K134 ⊢
 have K95:Hid (∀ W,Wk W g k1→Sv g w.heap.size w W→Calls Tryz.prog 95 #[.pointer (some ⟨g,0,none⟩),.agg #[.bool q3.g,.int .u32 (q3.a:Int),.int .u8 (q3.p:Int),.int .u8 (q3.y:Int),.int .u8 (q3.e:Int),.int .u16 (q3.b:Int),.int .u16 (q3.t:Int)]] W fun e w'=>e=.returned (.tuple #[])∧Wk w' g (k1.putN rd q3)∧Sv g w.heap.size w w'):=Lib.hid (fun W hk hs=>(c95 g k1 q3 W hk rd (by rw [hI];exact hd) hd16).mono fun e w' ⟨h1,h2,h3⟩=>⟨h1,h2,hs.trans (h3.sv hs.size)⟩)
 clear h ho hd hq hf hn hq3 hk1 hA hI hr hf16 hj
 go_enter Tryz.func92,Tryz.ntmps92
 go_wp2_with fail
 refine K133.out.mono ?_
 rintro _ w1 ⟨rfl,hk1,hs1⟩
 have HK1:=Lib.hid hk1
 have HS1:=Lib.hid hs1
 clear hk1 hs1 xo
 go_wp2_with fail
 refine (K134.out w1 HK1.out).mono ?_
 rintro _ w2 ⟨rfl,hb2⟩
 have HK2:Hid (Wk w2 g k1):=Lib.hid (Blk.below HK1.out hb2 HK1.out.lt)
 have HS2:Hid (Sv g w.heap.size w w2):=Lib.hid (HS1.out.trans (Below.sv hb2 HS1.out.size))
 clear hb2
 go_wp2_with fail
 refine (K95.out w2 HK2.out HS2.out).mono ?_
 rintro _ w3 ⟨rfl,hk3,hs3⟩
 go_wp2_with fail
 go_end0
 exact ⟨rfl,hk3,hs3⟩
theorem c92_cjalr_t (g:Nat) (k:WK) (r1:Nat) (q1:Cq) (w:World) (h:Wk w g k) (ho:k.i.o=4) (hr:k.i.r1=r1) (hr16:r1<16) (hq:k.A.c r1=q1) (hf:q1.fit) (hj:q1.jok k.i.im=false) :
  Calls Tryz.prog 92 #[.pointer (some ⟨g,0,none⟩)] w fun e w'=>e=.panicked [{ v:=.iface 118 (.agg #[.int .u32 5]),recovered:=false }]∧Below w.heap.size w w':=by
 have xo:w.cell? ⟨g,303,none⟩=some (.int .u8 4):=by have:=h.cellT 0 303 rfl;rw [this];show some (Value.int .u8 (k.i.o:Int))=_;rw [ho];rfl
 have hl:=Blk.lt h
 have K133:=Lib.hid (c133_trap g k r1 q1 w h hr hr16 hq hf hj)
 clear h ho hr hq hf hj
 go_enter Tryz.func92,Tryz.ntmps92
 go_wp2_with fail
 refine K133.out.mono ?_
 rintro _ w1 ⟨rfl,hb1⟩
 go_wp2_with fail
 exact ⟨rfl,rfl,hb1⟩
end Go.Proofs.YtnkoknfihhdelaaGreatDoor
namespace Go.Proofs.YtnkoknfihhdelaaGreatDoor
open Go.ChangeShapes Go.WideShapes Go.ChangeAt Go.RowKit
open Cp (cp arr mt num4)
set_option linter.unusedVariables false
set_option maxRecDepth 100000
theorem b8_lt (x0 x1 x2 x3 x4 x5 x6 x7:Nat) (h0:x0<256) (h1:x1<256) (h2:x2<256) (h3:x3<256) (h4:x4<256) (h5:x5<256) (h6:x6<256) (h7:x7<256) (j:Nat):b8 x0 x1 x2 x3 x4 x5 x6 x7 j<256:=by
 unfold b8
 split <;> assumption
theorem mStoreCap (b at_:Nat) (g:Bool) (a p y e bb t:Nat) (B:Nat→Nat) (T:Nat→Bool) (w:World) (hm:Mem w b B T) (ha:a<4294967296) (hp:p<256) (hy:y<256) (he:e<256) (hb:bb<65536) (ht:t<65536) (hw:granB at_=true) :
  Calls Tryz.prog 24 #[.pointer (some ⟨b,0,none⟩),.int .u32 (at_:Int),cp g a p y e bb t] w fun en w'=>en=.returned (.int .i64 0)∧Only b w w'∧Mem w' b (scB B at_ (b8 (bt a 0) (bt a 1) (bt a 2) (bt a 3) (bt (mt p y e bb t) 0) (bt (mt p y e bb t) 1) (bt (mt p y e bb t) 2) (bt (mt p y e bb t) 3))) (stT T at_ g):=by
 obtain ⟨C,hC,r⟩:=hm
 have h8:at_<65536∧at_%8=0:=by
  unfold granB at hw
  simpa using hw
 have K11:=fun w=>Cp.cb11 g a p y e bb t ha hp hy he hb ht w
 have eb:∀ m k,Cp.En.bt m k=bt m k:=fun m k=>rfl
 simp only [eb] at K11
 refine (storeCap b at_ C g a p y e bb t _ _ _ _ _ _ _ _ w (Mem.me hC r) (by omega) hw (Lib.hid K11)).mono ?_
 rintro _ w' ⟨rfl,ho,h⟩
 exact ⟨rfl,ho,_,h.1,r.storeCap at_ (by omega) g _ _ _ _ _ _ _ _ (b8_lt _ _ _ _ _ _ _ _ (bt_lt _ _) (bt_lt _ _) (bt_lt _ _) (bt_lt _ _) (bt_lt _ _) (bt_lt _ _) (bt_lt _ _) (bt_lt _ _))⟩
theorem mLoadCap (b at_:Nat) (B:Nat→Nat) (T:Nat→Bool) (w:World) (hm:Mem w b B T) (hw:granB at_=true) :
  Calls Tryz.prog 19 #[.pointer (some ⟨b,0,none⟩),.int .u32 (at_:Int)] w fun en w'=>en=.returned (.tuple #[ofV (B at_) (B (at_+1)) (B (at_+2)) (B (at_+3)) (B (at_+4)) (B (at_+5)) (B (at_+6)) (B (at_+7)) (T (at_/8)),.int .i64 0])∧Below w.heap.size w w':=by
 obtain ⟨C,hC,r⟩:=hm
 have h8:at_<65536∧at_%8=0:=by
  unfold granB at hw
  simpa using hw
 have K13:=fun w=>Cp.cb13 (B at_) (B (at_+1)) (B (at_+2)) (B (at_+3)) (B (at_+4)) (B (at_+5)) (B (at_+6)) (B (at_+7)) (T (at_/8)) (r.lt _) (r.lt _) (r.lt _) (r.lt _) (r.lt _) (r.lt _) (r.lt _) (r.lt _) w
 refine loadCap b at_ C (T (at_/8)) _ _ _ _ _ _ _ _ _ _ _ _ _ _ w (Mem.me hC r) (by omega) hw ?_ (r.tags _ (by omega)) (Lib.hid K13)
 intro j v hj
 have hlt:j<8:=by
  rcases Nat.lt_or_ge j 8 with h | h
  ·exact h
  ·rw [List.getElem?_eq_none (by simp [bytes8];omega)] at hj;cases hj
 have:j=0∨j=1∨j=2∨j=3∨j=4∨j=5∨j=6∨j=7:=by omega
 rcases this with rfl | rfl | rfl | rfl | rfl | rfl | rfl | rfl
 all_goals
  rw [Nat.add_assoc,r.bytes _ (by omega)]
  exact hj
def capAt (M:Nat→Nat) (T:Nat→Bool) (a:Nat):Cq:=⟨T (a/8),num4 (M a) (M (a+1)) (M (a+2)) (M (a+3)),num4 (M (a+4)) (M (a+5)) (M (a+6)) (M (a+7))%128,num4 (M (a+4)) (M (a+5)) (M (a+6)) (M (a+7))/128%8,num4 (M (a+4)) (M (a+5)) (M (a+6)) (M (a+7))/1024%16,num4 (M (a+4)) (M (a+5)) (M (a+6)) (M (a+7))/16384%512,num4 (M (a+4)) (M (a+5)) (M (a+6)) (M (a+7))/8388608%512⟩
theorem lcap_call (b a:Nat) (M:Nat→Nat) (T:Nat→Bool) (w:World) (hm:Mem w b M T) (ha:a<65536) (h8:a%8=0):Calls Tryz.prog 19 #[.pointer (some ⟨b,0,none⟩),.int .u32 (a:Int)] w fun en w'=>en=.returned (.tuple #[(capAt M T a).v,.int .i64 0])∧Below w.heap.size w w' :=
 mLoadCap b a M T w hm (by unfold granB;simp;omega)
def capB (q:Cq):Nat→Nat:=b8 (bt q.a 0) (bt q.a 1) (bt q.a 2) (bt q.a 3) (bt (mt q.p q.y q.e q.b q.t) 0) (bt (mt q.p q.y q.e q.b q.t) 1) (bt (mt q.p q.y q.e q.b q.t) 2) (bt (mt q.p q.y q.e q.b q.t) 3)
theorem scap_call (b a:Nat) (q:Cq) (M:Nat→Nat) (T:Nat→Bool) (w:World) (hm:Mem w b M T) (hf:q.fit) (ha:a<65536) (h8:a%8=0):Calls Tryz.prog 24 #[.pointer (some ⟨b,0,none⟩),.int .u32 (a:Int),q.v] w fun en w'=>en=.returned (.int .i64 0)∧Only b w w'∧Mem w' b (scB M a (capB q)) (stT T a q.g) :=
 mStoreCap b a q.g q.a q.p q.y q.e q.b q.t M T w hm hf.1 hf.2.1 hf.2.2.1 hf.2.2.2.1 hf.2.2.2.2.1 hf.2.2.2.2.2 (by unfold granB;simp;omega)
structure Stp (g b B:Nat) (M:Nat→Nat) (T:Nat→Bool) (tv:Value) (m:Nat) (xs:List Value) (w0 W:World) (k:WK):Prop where
 wk:Wk W g k
 row:W.ownsRow B 59 3 tv m xs
 tc:k.d.tc=tv
 mem:Mem W b M T
 os:W.os=w0.os
 tape:W.tape=w0.tape
 output:W.output=w0.output
 size:w0.heap.size≤W.heap.size
 block:∀ i,i<B→i≠g→i≠b→W.heap[i]?=w0.heap[i]?
 sz:B≤W.heap.size
 gB:g<B
 bB:b<B
 bg:b≠g
section
variable {g b B:Nat} {M:Nat→Nat} {T:Nat→Bool} {tv:Value} {m:Nat} {xs:List Value} {w0 W W':World} {k:WK}
theorem Stp.below (h:Stp g b B M T tv m xs w0 W k) (hb:Below W.heap.size W W'):Stp g b B M T tv m xs w0 W' k where
 wk:=Blk.below h.wk hb h.wk.lt
 row:=h.row.kept (row:=none) ⟨hb.os,hb.tape,hb.output,hb.size,fun k' hk _=>hb.block k' hk⟩ (by cases hv:tv.ownBlock <;> simp)
 tc:=h.tc
 mem:=h.mem.below hb h.mem.lt
 os:=hb.os.trans h.os
 tape:=hb.tape.trans h.tape
 output:=hb.output.trans h.output
 size:=Nat.le_trans h.size hb.size
 block i hi hg hbb:=(hb.block i (Nat.lt_of_lt_of_le hi h.sz)).trans (h.block i hi hg hbb)
 sz:=Nat.le_trans h.sz hb.size
 gB:=h.gB
 bB:=h.bB
 bg:=h.bg
theorem Stp.only (h:Stp g b B M T tv m xs w0 W k) (hs:Sv g W.heap.size W W') {k':WK} (hk:Wk W' g k') (htc:k'.d.tc=k.d.tc):Stp g b B M T tv m xs w0 W' k' where
 wk:=hk
 row:=h.row.kept (row:=some g) ⟨hs.os,hs.tape,hs.output,hs.size,fun k' hk h'=>hs.block k' hk (fun e=>h' (by rw [e]))⟩ (Or.inr (fun e=>by have:=(h.row.lt g e).1;have:=h.gB;omega))
 tc:=htc.trans h.tc
 mem:=by obtain ⟨C,h1,r⟩:=h.mem;exact ⟨C,hs.blk h.mem.lt h.bg h1,r⟩
 os:=hs.os.trans h.os
 tape:=hs.tape.trans h.tape
 output:=hs.output.trans h.output
 size:=Nat.le_trans h.size hs.size
 block i hi hg hbb:=(hs.block i (Nat.lt_of_lt_of_le hi h.sz) hg).trans (h.block i hi hg hbb)
 sz:=Nat.le_trans h.sz hs.size
 gB:=h.gB
 bB:=h.bB
 bg:=h.bg
theorem Stp.memo (h:Stp g b B M T tv m xs w0 W k) (ho:Only b W W') {M':Nat→Nat} {T':Nat→Bool} (hm:Mem W' b M' T'):Stp g b B M' T' tv m xs w0 W' k where
 wk:=ho.blk (Ne.symm h.bg) h.wk
 row:=h.row.kept (row:=some b) ⟨(ho.1 0 (Nat.zero_le _) (Nat.zero_le _)).os,(ho.1 0 (Nat.zero_le _) (Nat.zero_le _)).tape,(ho.1 0 (Nat.zero_le _) (Nat.zero_le _)).output,ho.size,fun k' hk h'=>ho.2 k' (fun e=>h' (by rw [e])) hk⟩ (Or.inr (fun e=>by have:=(h.row.lt b e).1;have:=h.bB;omega))
 tc:=h.tc
 mem:=hm
 os:=(ho.1 0 (Nat.zero_le _) (Nat.zero_le _)).os.trans h.os
 tape:=(ho.1 0 (Nat.zero_le _) (Nat.zero_le _)).tape.trans h.tape
 output:=(ho.1 0 (Nat.zero_le _) (Nat.zero_le _)).output.trans h.output
 size:=Nat.le_trans h.size ho.size
 block i hi hg hbb:=(ho.2 i hbb (Nat.lt_of_lt_of_le hi h.sz)).trans (h.block i hi hg hbb)
 sz:=Nat.le_trans h.sz ho.size
 gB:=h.gB
 bB:=h.bB
 bg:=h.bg
theorem Stp.touch (h:Stp g b B M T tv m xs w0 W k) (wh n:Int) (a:Nat) (hm:m≤65536):Calls Tryz.prog 89 #[.pointer (some ⟨g,0,none⟩),.int .i64 wh,.int .u32 (a:Int),.int .i64 n] W fun e w'=>e=.returned (.tuple #[])∧∃ v,Stp g b B M T v (m+1) (xs++[.int .i64 wh,.int .u32 (a:Int),.int .i64 n]) w0 w' (k.tc v):=by
 refine (c89 g B k wh n a tv m xs W h.wk h.tc h.row h.gB h.sz hm).mono ?_
 rintro e w' ⟨rfl,v,hk,hr,hs⟩
 refine ⟨rfl,v,hk,hr,rfl,?_,hs.os.trans h.os,hs.tape.trans h.tape,hs.output.trans h.output,Nat.le_trans h.size hs.size,fun i hi hg hbb=>(hs.block i hi hg).trans (h.block i hi hg hbb),Nat.le_trans h.sz hs.size,h.gB,h.bB,h.bg⟩
 obtain ⟨C,h1,r⟩:=h.mem
 exact ⟨C,hs.blk h.bB h.bg h1,r⟩
end
end Go.Proofs.YtnkoknfihhdelaaGreatDoor
namespace Go.Proofs.YtnkoknfihhdelaaGreatDoor
open Go.ChangeShapes Go.WideShapes Go.ChangeAt Go.RowKit
set_option linter.unusedVariables false
set_option linter.unusedSimpArgs false
set_option maxRecDepth 100000
theorem c147 (b:Bool) (w:World):Calls Tryz.prog 147 #[.bool b] w fun e w'=>e=.returned (.int .u32 (if b=true then 1 else 0))∧w=w':=by
 cases b <;> (go_enter Tryz.func147,Tryz.ntmps147;go_wp2_with fail;go_ret;exact ⟨rfl,rfl⟩)
def Cq.told (q:Cq) (o:Nat):Nat :=
 if o=59 then q.bs%4294967296 else if o=60 then min q.ln 4294967295 else if o=57 then q.p else if o=58 then q.y else if o=61 then (if q.g=true then 1 else 0) else q.a
theorem Cq.bs_lt (q:Cq) (h:q.fit):q.bs<4294967296:=Ca.bs_lt _ _ _ (by omega) (by omega) h.1
theorem Cq.ln_le (q:Cq):q.ln<18446744073709551616-4294967296:=by
 have:=Ca.ln_le (q.e%16) (q.b%512) (q.t%512) (by omega)
 unfold Cq.ln
 omega
set_option maxHeartbeats 1000000 in
theorem c149_57 (q:Cq) (hf:q.fit) (w:World):Calls Tryz.prog 149 #[.int .u8 57,.agg #[.bool q.g,.int .u32 (q.a:Int),.int .u8 (q.p:Int),.int .u8 (q.y:Int),.int .u8 (q.e:Int),.int .u16 (q.b:Int),.int .u16 (q.t:Int)]] w fun e w'=>e=.returned (.int .u32 (q.told 57:Int))∧Below w.heap.size w w':=by
 have hp:=hf.2.1
 have h1:q.told 57=q.p:=rfl
 rw [h1]
 clear hf
 go_enter Tryz.func149,Tryz.ntmps149
 go_wp2_with fail
 go_ret
 exact ⟨rfl,(Below.refl _ _).alloc (Nat.le_refl _) _⟩
set_option maxHeartbeats 1000000 in
theorem c149_58 (q:Cq) (hf:q.fit) (w:World):Calls Tryz.prog 149 #[.int .u8 58,.agg #[.bool q.g,.int .u32 (q.a:Int),.int .u8 (q.p:Int),.int .u8 (q.y:Int),.int .u8 (q.e:Int),.int .u16 (q.b:Int),.int .u16 (q.t:Int)]] w fun e w'=>e=.returned (.int .u32 (q.told 58:Int))∧Below w.heap.size w w':=by
 have hp:=hf.2.2.1
 have h1:q.told 58=q.y:=rfl
 rw [h1]
 clear hf
 go_enter Tryz.func149,Tryz.ntmps149
 go_wp2_with fail
 go_ret
 exact ⟨rfl,(Below.refl _ _).alloc (Nat.le_refl _) _⟩
set_option maxHeartbeats 1000000 in
theorem c149_61 (q:Cq) (hf:q.fit) (w:World):Calls Tryz.prog 149 #[.int .u8 61,.agg #[.bool q.g,.int .u32 (q.a:Int),.int .u8 (q.p:Int),.int .u8 (q.y:Int),.int .u8 (q.e:Int),.int .u16 (q.b:Int),.int .u16 (q.t:Int)]] w fun e w'=>e=.returned (.int .u32 (q.told 61:Int))∧Below w.heap.size w w':=by
 obtain ⟨qg,qa,qp,qy,qe,qb,qt⟩:=q
 have K:=Lib.hid (c147 qg)
 cases qg
 ·go_enter Tryz.func149,Tryz.ntmps149
  go_wp2_with fail
  refine (K.out _).mono ?_
  rintro _ _ ⟨rfl,rfl⟩
  go_wp2_with fail
  go_ret
  exact ⟨rfl,(Below.refl _ _).alloc (Nat.le_refl _) _⟩
 ·go_enter Tryz.func149,Tryz.ntmps149
  go_wp2_with fail
  refine (K.out _).mono ?_
  rintro _ _ ⟨rfl,rfl⟩
  go_wp2_with fail
  go_ret
  exact ⟨rfl,(Below.refl _ _).alloc (Nat.le_refl _) _⟩
set_option maxHeartbeats 1000000 in
theorem c149_59 (q:Cq) (hf:q.fit) (w:World):Calls Tryz.prog 149 #[.int .u8 59,.agg #[.bool q.g,.int .u32 (q.a:Int),.int .u8 (q.p:Int),.int .u8 (q.y:Int),.int .u8 (q.e:Int),.int .u16 (q.b:Int),.int .u16 (q.t:Int)]] w fun e w'=>e=.returned (.int .u32 (q.told 59:Int))∧Below w.heap.size w w':=by
 have h1:q.told 59=q.bs:=by
  show q.bs%4294967296=q.bs
  have:=q.bs_lt hf
  omega
 rw [h1]
 have hlt:=q.bs_lt hf
 have K:=Lib.hid (bs_call q hf)
 obtain ⟨B,hB⟩:∃ B,q.bs=B:=⟨_,rfl⟩
 rw [hB] at K hlt ⊢
 clear hf h1 hB
 go_enter Tryz.func149,Tryz.ntmps149
 go_wp2_with fail
 refine (K.out _).mono ?_
 rintro _ w1 ⟨rfl,hb⟩
 have HB:=Lib.hid ((((Below.refl w.heap.size w).alloc (Nat.le_refl _) _).trans (hb.mono (by simp))))
 clear hb
 go_wp2_with fail
 go_ret
 exact ⟨rfl,HB.out⟩
set_option maxHeartbeats 1000000 in
theorem c149_60 (q:Cq) (hf:q.fit) (w:World):Calls Tryz.prog 149 #[.int .u8 60,.agg #[.bool q.g,.int .u32 (q.a:Int),.int .u8 (q.p:Int),.int .u8 (q.y:Int),.int .u8 (q.e:Int),.int .u16 (q.b:Int),.int .u16 (q.t:Int)]] w fun e w'=>e=.returned (.int .u32 (q.told 60:Int))∧Below w.heap.size w w':=by
 have h1:q.told 60=min q.ln 4294967295:=rfl
 rw [h1]
 have hlt:=q.bs_lt hf
 have hll:=q.ln_le
 have k1:=bs_call q hf
 have k2:=tp_call q hf
 obtain ⟨B,hB⟩:∃ B,q.bs=B:=⟨_,rfl⟩
 obtain ⟨L,hL⟩:∃ L,q.ln=L:=⟨_,rfl⟩
 rw [hB] at k1 k2 hlt
 rw [hL] at k2 hll ⊢
 obtain ⟨T,hT⟩:∃ T,B+L=T:=⟨_,rfl⟩
 rw [hT] at k2
 have hs:IntKind.u64.wrap ((T:Int)-(B:Int))=(L:Int):=by rw [IntKind.wrap_u64];omega
 obtain ⟨m,hm⟩:∃ m,min L 4294967295=m:=⟨_,rfl⟩
 have hmi:(if (4294967295:Int)<(L:Int) then (4294967295:Int) else (L:Int))=(m:Int):=by
  split <;> omega
 have hm2:m<4294967296:=by omega
 have hmw:IntKind.u32.wrap (m:Int)=(m:Int):=by rw [IntKind.wrap_u32];omega
 rw [hm]
 have K1:=Lib.hid k1
 have K2:=Lib.hid k2
 have HS:=Lib.hid (Ca.start7 w (.bool q.g) (.int .u32 (q.a:Int)) (.int .u8 (q.p:Int)) (.int .u8 (q.y:Int)) (.int .u8 (q.e:Int)) (.int .u16 (q.b:Int)) (.int .u16 (q.t:Int)) 29)
 clear k1 k2 hf h1 hB hL hT hm
 go_enter Tryz.func149,Tryz.ntmps149
 go_upto_region 5 with fail
 have hS:=HS.out
 go_region_held3 (fun w'=>Below w.heap.size w w'∧w.heap.size<w'.heap.size∧w'.cell? ⟨w.heap.size,0,none⟩=some (.bool q.g)∧w'.cell? ⟨w.heap.size,1,none⟩=some (.int .u32 (q.a:Int))∧w'.cell? ⟨w.heap.size,2,none⟩=some (.int .u8 (q.p:Int))∧w'.cell? ⟨w.heap.size,3,none⟩=some (.int .u8 (q.y:Int))∧w'.cell? ⟨w.heap.size,4,none⟩=some (.int .u8 (q.e:Int))∧w'.cell? ⟨w.heap.size,5,none⟩=some (.int .u16 (q.b:Int))∧w'.cell? ⟨w.heap.size,6,none⟩=some (.int .u16 (q.t:Int)))
  (first | assumption | exact Ca.keep7 (by assumption) ((Below.refl _ _).drew) | exact Ca.keep7 (by assumption) hbx)
  (first | (go_at_call 171;(with_reducible refine (K1.out _).mono ?_);rintro _ wx ⟨rfl,hbx⟩) | (go_at_call 172;(with_reducible refine (K2.out _).mono ?_);rintro _ wx ⟨rfl,hbx⟩))
 all_goals
  have hE:Below w.heap.size w wx:=And.left (by assumption)
  go_wp2
  go_ret
  exact ⟨rfl,hE⟩
set_option maxHeartbeats 1000000 in
theorem c149_a (o:Nat) (h57:o≠57) (h58:o≠58) (h59:o≠59) (h60:o≠60) (h61:o≠61) (q:Cq) (hf:q.fit) (w:World):Calls Tryz.prog 149 #[.int .u8 (o:Int),.agg #[.bool q.g,.int .u32 (q.a:Int),.int .u8 (q.p:Int),.int .u8 (q.y:Int),.int .u8 (q.e:Int),.int .u16 (q.b:Int),.int .u16 (q.t:Int)]] w fun e w'=>e=.returned (.int .u32 (q.told o:Int))∧Below w.heap.size w w':=by
 have h1:q.told o=q.a:=by unfold Cq.told;rw [if_neg h59,if_neg h60,if_neg h57,if_neg h58,if_neg h61]
 rw [h1]
 have b57:((o:Int)==57)=false:=by rw [beq_eq_false_iff_ne];omega
 have b58:((o:Int)==58)=false:=by rw [beq_eq_false_iff_ne];omega
 have b59:((o:Int)==59)=false:=by rw [beq_eq_false_iff_ne];omega
 have b60:((o:Int)==60)=false:=by rw [beq_eq_false_iff_ne];omega
 have b61:((o:Int)==61)=false:=by rw [beq_eq_false_iff_ne];omega
 clear hf h57 h58 h59 h60 h61 h1
 go_enter Tryz.func149,Tryz.ntmps149
 go_wp2_with fail
 go_ret
 exact ⟨rfl,(Below.refl _ _).alloc (Nat.le_refl _) _⟩
theorem c149 (o:Nat) (q:Cq) (hf:q.fit) (w:World):Calls Tryz.prog 149 #[.int .u8 (o:Int),.agg #[.bool q.g,.int .u32 (q.a:Int),.int .u8 (q.p:Int),.int .u8 (q.y:Int),.int .u8 (q.e:Int),.int .u16 (q.b:Int),.int .u16 (q.t:Int)]] w fun e w'=>e=.returned (.int .u32 (q.told o:Int))∧Below w.heap.size w w':=by
 by_cases h57:o=57
 ·subst h57;exact c149_57 q hf w
 by_cases h58:o=58
 ·subst h58;exact c149_58 q hf w
 by_cases h59:o=59
 ·subst h59;exact c149_59 q hf w
 by_cases h60:o=60
 ·subst h60;exact c149_60 q hf w
 by_cases h61:o=61
 ·subst h61;exact c149_61 q hf w
 exact c149_a o h57 h58 h59 h60 h61 q hf w
end Go.Proofs.YtnkoknfihhdelaaGreatDoor
