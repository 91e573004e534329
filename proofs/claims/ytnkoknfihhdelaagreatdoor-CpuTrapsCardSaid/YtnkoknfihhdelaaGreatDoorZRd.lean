import Derived.Test.YtnkoknfihhdelaaGreatDoorZRa
namespace Go.Proofs.YtnkoknfihhdelaaGreatDoor
open Go.ChangeShapes Go.WideShapes Go.ChangeAt Go.RowKit
set_option linter.unusedVariables false
set_option linter.unusedSimpArgs false
set_option maxRecDepth 100000
def WK.onN (k:WK) (b:Bool):WK:={ k with N:={ k.N with on:=b } }
theorem onN_put (x:Value) (A F T:List Value) (c0 o0 w0 h0 b:Value) (hA:A.length=151) (hF:F.length=147):(x :: (A++((F++[c0,o0,w0,h0])++T))).toArray.setIfInBounds 300 b=(x :: (A++((F++[c0,b,w0,h0])++T))).toArray:=by
 apply Array.ext'
 rw [Array.toList_setIfInBounds]
 show (x :: (A++((F++[c0,o0,w0,h0])++T))).set 300 b=_
 rw [show 300=299+1 by omega,List.set_cons_succ,List.set_append_right _ _ (by omega),hA,List.set_append_left _ _ (by simp;omega),List.set_append_right _ _ (by omega),hF]
 rfl
theorem WK.onN_L (k:WK) (b:Bool):k.L.toArray.setIfInBounds 300 (.bool b)=(k.onN b).L.toArray :=
 onN_put k.mp k.A.L (flat k.N.c 21) (k.i.L++(.int .u32 (k.ans:Int) :: k.d.L)) _ _ _ _ _ k.A.len (flat_len _ _)
theorem u8and8 (p:Nat) (hp:p<256) (h:p/8%2=1):bits .and .u8 (p:Int) 8=8:=by rw [Ca.and8 p hp,h];rfl
theorem u8and8z (p:Nat) (hp:p<256) (h:p/8%2=0):bits .and .u8 (p:Int) 8=0:=by rw [Ca.and8 p hp,h];rfl
set_option maxHeartbeats 2000000 in
theorem c133_0 (g:Nat) (k:WK) (r1 n qa qp qe qb qt:Nat) (w:World) (h:Wk w g k) (hr:k.i.r1=r1) (hr16:r1<16) (hq:k.A.c r1=⟨true,qa,qp,0,qe,qb,qt⟩) (hf:(⟨true,qa,qp,0,qe,qb,qt⟩:Cq).fit) (hp8:qp/8%2=1) (hn:k.i.im%4294967296=(n:Int)) :
  Calls Tryz.prog 133 #[.pointer (some ⟨g,0,none⟩)] w fun e w'=>e=.returned (.tuple #[])∧Wk w' g (k.putN 16 ((⟨true,qa,qp,0,qe,qb,qt⟩:Cq).sa ((qa+n)%4294967296)))∧Sv g w.heap.size w w':=by
 obtain ⟨m,hm⟩:∃ m,(qa+n)%4294967296=m:=⟨_,rfl⟩
 have hn2:n<4294967296:=by omega
 have hw:IntKind.u32.wrap ((qa:Int)+(n:Int))=(m:Int):=by rw [IntKind.wrap_u32];omega
 have hm2:m<4294967296:=by omega
 rw [hm]
 have ha8:=u8and8 qp hf.2.1 hp8
 have hf0:(⟨true,qa,qp,0,qe,qb,qt⟩:Cq).fit:=⟨hf.1,hf.2.1,Nat.zero_lt_succ _,hf.2.2.2⟩
 obtain ⟨q2,hq2⟩:∃ q2,(⟨true,qa,qp,0,qe,qb,qt⟩:Cq).sa m=q2:=⟨_,rfl⟩
 have K91:=Lib.hid (sa_call _ hf0 m hm2)
 rw [hq2] at K91 ⊢
 have K136:=Lib.hid (c136 g k w h r1 _ hr hq hr16)
 have hl0:=Blk.lt h
 have HW:=Lib.hid h
 have x307:w.cell? ⟨g,307,none⟩=some (.int .i32 k.i.im):=h.cellT 4 307 rfl
 have HP:=Lib.hid (k.putN_L 16 q2 (by decide))
 have HI:Hid (k.i.im%4294967296=(n:Int)):=Lib.hid hn
 clear h hq hf hm hq2 hr hn hf0
 go_enter Tryz.func133,Tryz.ntmps133
 go_wp2_with fail
 refine K136.out.mono ?_
 rintro _ w1 ⟨rfl,hb1⟩
 have HA1:Hid (Blk (w1.alloc (.cells #[.bool true,.int .u32 (qa:Int),.int .u8 (qp:Int),.int .u8 0,.int .u8 (qe:Int),.int .u16 (qb:Int),.int .u16 (qt:Int)] 29)) w1.heap.size 29 #[.bool true,.int .u32 (qa:Int),.int .u8 (qp:Int),.int .u8 0,.int .u8 (qe:Int),.int .u16 (qb:Int),.int .u16 (qt:Int)]):=Lib.hid (Blk.new w1 29 #[.bool true,.int .u32 (qa:Int),.int .u8 (qp:Int),.int .u8 0,.int .u8 (qe:Int),.int .u16 (qb:Int),.int .u16 (qt:Int)])
 have HB1:Hid (Below w.heap.size w (w1.alloc (.cells #[.bool true,.int .u32 (qa:Int),.int .u8 (qp:Int),.int .u8 0,.int .u8 (qe:Int),.int .u16 (qb:Int),.int .u16 (qt:Int)] 29))):=Lib.hid (hb1.alloc hb1.size _)
 have HK1:Hid (Wk (w1.alloc (.cells #[.bool true,.int .u32 (qa:Int),.int .u8 (qp:Int),.int .u8 0,.int .u8 (qe:Int),.int .u16 (qb:Int),.int .u16 (qt:Int)] 29)) g k):=Lib.hid (Blk.below HW.out HB1.out hl0)
 have hlp:w.heap.size≤w1.heap.size:=hb1.size
 obtain ⟨pb,hpe⟩:∃ p,w1.heap.size=p:=⟨_,rfl⟩
 rw [hpe] at HA1 hlp
 have x307b:(w1.alloc (.cells #[.bool true,.int .u32 (qa:Int),.int .u8 (qp:Int),.int .u8 0,.int .u8 (qe:Int),.int .u16 (qb:Int),.int .u16 (qt:Int)] 29)).cell? ⟨g,307,none⟩=some (.int .i32 k.i.im):=HK1.out.cellT 4 307 rfl
 clear hb1 x307
 go_upto_region 1 with fail
 generalize w1.alloc (.cells #[.bool true,.int .u32 (qa:Int),.int .u8 (qp:Int),.int .u8 0,.int .u8 (qe:Int),.int .u16 (qb:Int),.int .u16 (qt:Int)] 29)=W1 at *
 have y0:=HA1.out.cell 0
 have y1:=HA1.out.cell 1
 have y2:=HA1.out.cell 2
 have y3:=HA1.out.cell 3
 have y4:=HA1.out.cell 4
 have y5:=HA1.out.cell 5
 have y6:=HA1.out.cell 6
 simp only [List.getElem?_toArray,List.getElem?_cons_zero,List.getElem?_cons_succ] at y0 y1 y2 y3 y4 y5 y6
 have fz3:=HA1.out.frozen 3
 have hlW:=HA1.out.lt
 have hlg:g<W1.heap.size:=HK1.out.lt
 have hfo:=Blk.frozen HK1.out 300
 have hx300:W1.cell? ⟨g,300,none⟩=some (.bool k.N.on):=by
  rw [Blk.cell HK1.out,List.getElem?_toArray,show 300=152+(147+1) by omega,k.atN _ (by omega),k.N.tl 1]
  rfl
 have hgp:pb≠g:=by omega
 have hgp2:g≠pb:=by omega
 clear hpe
 have HK2:=HK1
 have HA2:=HA1
 have HS2:Hid (Sv g w.heap.size w W1):=Lib.hid (Below.sv HB1.out (Nat.le_refl _))
 have HK3:Hid (Wk (W1.setCell ⟨pb,3,none⟩ (.int .u8 0)) g k):=Lib.hid (Blk.far HK2.out hgp2 _)
 have HA3:Hid (Blk (W1.setCell ⟨pb,3,none⟩ (.int .u8 0)) pb 29 #[.bool true,.int .u32 (qa:Int),.int .u8 (qp:Int),.int .u8 0,.int .u8 (qe:Int),.int .u16 (qb:Int),.int .u16 (qt:Int)]):=Lib.hid (by
  have:=Blk.set_ HA2.out 3 (.int .u8 0)
  simpa using this)
 have HS3:Hid (Sv g w.heap.size w (W1.setCell ⟨pb,3,none⟩ (.int .u8 0))):=Lib.hid (HS2.out.trans ⟨rfl,rfl,rfl,by simp,fun k' hk' hg'=>Below.heap_setCell _ _ _ _ (by show k'≠pb;omega)⟩)
 have HZ3:Hid (w.heap.size≤((W1.setCell ⟨pb,3,none⟩ (.int .u8 0))).heap.size):=Lib.hid HS3.out.size
 go_upto_region 9 with fail
 generalize (W1.setCell ⟨pb,3,none⟩ (.int .u8 0))=W3 at *
 clear y0 y1 y2 y3 y4 y5 y6 fz3 hfo hx300 hlW hlg x307b
 have HSt:=Lib.hid (Stays.blk g pb 29 #[.bool true,.int .u32 (qa:Int),.int .u8 (qp:Int),.int .u8 0,.int .u8 (qe:Int),.int .u16 (qb:Int),.int .u16 (qt:Int)] hgp)
 refine at_eq fun T0 hT=>?_
 have hts:T0.size=60:=by rw [hT];rfl
 have fx0:T0.getD 0 undef=.pointer (some ⟨g,0,none⟩):=by rw [hT];rfl
 have fx2:T0.getD 2 undef=.pointer (some ⟨pb,0,none⟩):=by rw [hT];rfl
 have HT:=Lib.hid hT
 clear hT
 obtain ⟨ex,hex⟩:∃ ex:Nat→Ex,ex=fun p=>[(0,49,.pointer (some ⟨g,0,none⟩)),(1,50,.agg #[.bool true,.int .u32 (qa:Int),.int .u8 (qp:Int),.int .u8 0,.int .u8 (qe:Int),.int .u16 (qb:Int),.int .u16 (qt:Int)]),(2,51,.pointer (some ⟨pb,1,none⟩)),(3,52,.int .u32 (qa:Int)),(4,53,.pointer (some ⟨g,0,none⟩)),(5,54,.int .u32 (n:Int)),(6,55,.int .u32 (m:Int)),(7,56,.agg #[.bool q2.g,.int .u32 (q2.a:Int),.int .u8 (q2.p:Int),.int .u8 (q2.y:Int),.int .u8 (q2.e:Int),.int .u16 (q2.b:Int),.int .u16 (q2.t:Int)]),(8,57,.pointer (some ⟨g,0,none⟩)),(9,58,.pointer (some ⟨g,152,none⟩)),(10,59,.pointer (some ⟨g,264,none⟩))]:=⟨_,rfl⟩
 have HN:∀ p,apartB (ex p)=true:=by rw [hex];intro p;kernel_rfl
 have M0:∀ p,(0,49,.pointer (some ⟨g,0,none⟩))∈ex p:=by rw [hex];intro p;simp
 have M1:∀ p,(1,50,.agg #[.bool true,.int .u32 (qa:Int),.int .u8 (qp:Int),.int .u8 0,.int .u8 (qe:Int),.int .u16 (qb:Int),.int .u16 (qt:Int)])∈ex p:=by rw [hex];intro p;simp
 have M2:∀ p,(2,51,.pointer (some ⟨pb,1,none⟩))∈ex p:=by rw [hex];intro p;simp
 have M3:∀ p,(3,52,.int .u32 (qa:Int))∈ex p:=by rw [hex];intro p;simp
 have M4:∀ p,(4,53,.pointer (some ⟨g,0,none⟩))∈ex p:=by rw [hex];intro p;simp
 have M5:∀ p,(5,54,.int .u32 (n:Int))∈ex p:=by rw [hex];intro p;simp
 have M6:∀ p,(6,55,.int .u32 (m:Int))∈ex p:=by rw [hex];intro p;simp
 have M7:∀ p,(7,56,.agg #[.bool q2.g,.int .u32 (q2.a:Int),.int .u8 (q2.p:Int),.int .u8 (q2.y:Int),.int .u8 (q2.e:Int),.int .u16 (q2.b:Int),.int .u16 (q2.t:Int)])∈ex p:=by rw [hex];intro p;simp
 have M8:∀ p,(8,57,.pointer (some ⟨g,0,none⟩))∈ex p:=by rw [hex];intro p;simp
 have M9:∀ p,(9,58,.pointer (some ⟨g,152,none⟩))∈ex p:=by rw [hex];intro p;simp
 have M10:∀ p,(10,59,.pointer (some ⟨g,264,none⟩))∈ex p:=by rw [hex];intro p;simp
 refine wp_region_tm (by kernel_rfl) (by kernel_rfl) ex ((fun _=>JG g w.heap.size W3 k (k.putN 16 q2) (fun W=>Blk W pb 29 #[.bool true,.int .u32 (qa:Int),.int .u8 (qp:Int),.int .u8 0,.int .u8 (qe:Int),.int .u16 (qb:Int),.int .u16 (qt:Int)]) 11 0)) 0 (JG.begin HSt.out HK3.out HA3.out HZ3.out _ _) ?_ (by rw [hex];intro p;kernel_rfl) ?_
 ·intro p l W i o hls hop hun hdep hj
  have hi:i<12:=(Array.getElem?_eq_some_iff.1 hop).1
  have hil:i<l.size:=by rw [hls];exact hi
  rcases (by omega:i=0∨i=1∨i=2∨i=3∨i=4∨i=5∨i=6∨i=7∨i=8∨i=9∨i=10∨i=11) with rfl | rfl | rfl | rfl | rfl | rfl | rfl | rfl | rfl | rfl | rfl | rfl
  ·cases hop
   have r0:=(tmA_none T0 (ex p) l 0 (by rw [hex];kernel_rfl)).trans fx0
   refine wpOp_of rfl rfl ?_
   refine wp_move (.tmp 0) rfl _ r0 ?_
   exact step_val (p':=p) _ (HN _) (M0 _) hil (by rw [hts];decide) rfl (hj.other HSt.out 0 (by decide) (Below.refl _ _))
  ·cases hop
   have r2:=(tmA_none T0 (ex p) l 2 (by rw [hex];kernel_rfl)).trans fx2
   refine wpOp_of rfl rfl ?_
   refine wp_load_row 29 (.tmp 2) rfl pb r2 29 #[.bool true,.int .u32 (qa:Int),.int .u8 (qp:Int),.int .u8 0,.int .u8 (qe:Int),.int .u16 (qb:Int),.int .u16 (qt:Int)] (0,0) _ hj.x Tryz.underlying29 rfl info29s ?_
   exact step_val (p':=p) _ (HN _) (M1 _) hil (by rw [hts];decide) rfl (hj.other HSt.out 1 (by decide) (Below.refl _ _))
  ·cases hop
   have r2:=(tmA_none T0 (ex p) l 2 (by rw [hex];kernel_rfl)).trans fx2
   refine wpOp_of rfl rfl ?_
   refine wp_fa 29 (.tmp 2) 1 0 rfl pb 0 1 r2 (fa29_1 pb) ?_
   exact step_val (p':=p) _ (HN _) (M2 _) hil (by rw [hts];decide) rfl (hj.other HSt.out 2 (by decide) (Below.refl _ _))
  ·cases hop
   have r51:=tmA_some T0 _ _ (HN p) 2 51 _ (M2 p) (hdep ⟨2,.data⟩ (by simp) rfl) (by rw [hts];decide)
   refine wpOp_of rfl rfl ?_
   refine wp_ld 25 (.tmp 51) rfl ⟨pb,1,none⟩ _ r51 agg25 (hj.x.cell 1) ?_
   exact step_val (p':=p) _ (HN _) (M3 _) hil (by rw [hts];decide) rfl (hj.other HSt.out 3 (by decide) (Below.refl _ _))
  ·cases hop
   have r0:=(tmA_none T0 (ex p) l 0 (by rw [hex];kernel_rfl)).trans fx0
   refine wpOp_of rfl rfl ?_
   refine wp_move (.tmp 0) rfl _ r0 ?_
   exact step_val (p':=p) _ (HN _) (M4 _) hil (by rw [hts];decide) rfl (hj.other HSt.out 4 (by decide) (Below.refl _ _))
  ·cases hop
   have r53:=tmA_some T0 _ _ (HN p) 4 53 _ (M4 p) (hdep ⟨4,.data⟩ (by simp) rfl) (by rw [hts];decide)
   refine wpOp_of rfl rfl ?_
   refine wp_call1 97 (.tmp 53) 116 rfl _ r53 (cf97 _) ?_
   refine (hj.imm rfl rfl n HI.out).mono ?_
   rintro _ _ ⟨rfl,rfl⟩
   exact step_val (p':=p) _ (HN _) (M5 _) hil (by rw [hts];decide) rfl (hj.other HSt.out 5 (by decide) (Below.refl _ _))
  ·cases hop
   have r52:=tmA_some T0 _ _ (HN p) 3 52 _ (M3 p) (hdep ⟨3,.data⟩ (by simp) rfl) (by rw [hts];decide)
   have r54:=tmA_some T0 _ _ (HN p) 5 54 _ (M5 p) (hdep ⟨5,.data⟩ (by simp) rfl) (by rw [hts];decide)
   refine wpOp_of rfl rfl ?_
   refine wp_add (.tmp 52) (.tmp 54) rfl _ _ _ r52 r54 hw ?_
   exact step_val (p':=p) _ (HN _) (M6 _) hil (by rw [hts];decide) rfl (hj.other HSt.out 6 (by decide) (Below.refl _ _))
  ·cases hop
   have r50:=tmA_some T0 _ _ (HN p) 1 50 _ (M1 p) (hdep ⟨1,.data⟩ (by simp) rfl) (by rw [hts];decide)
   have r55:=tmA_some T0 _ _ (HN p) 6 55 _ (M6 p) (hdep ⟨6,.data⟩ (by simp) rfl) (by rw [hts];decide)
   refine wpOp_of rfl rfl ?_
   refine wp_call2 91 (.tmp 50) (.tmp 55) 29 25 rfl _ _ r50 r55 (cf91 _ _) ?_
   refine (K91.out W).mono ?_
   rintro _ W' ⟨rfl,hb⟩
   exact step_val (p':=p) _ (HN _) (M7 _) hil (by rw [hts];decide) rfl (hj.other HSt.out 7 (by decide) hb)
  ·cases hop
   have r49:=tmA_some T0 _ _ (HN p) 0 49 _ (M0 p) (hdep ⟨0,.data⟩ (by simp) rfl) (by rw [hts];decide)
   refine wpOp_of rfl rfl ?_
   refine wp_nil (.tmp 49) rfl _ r49 ?_
   exact step_val (p':=p) _ (HN _) (M8 _) hil (by rw [hts];decide) rfl (hj.other HSt.out 8 (by decide) (Below.refl _ _))
  ·cases hop
   have r57:=tmA_some T0 _ _ (HN p) 8 57 _ (M8 p) (hdep ⟨8,.data⟩ (by simp) rfl) (by rw [hts];decide)
   refine wpOp_of rfl rfl ?_
   refine wp_fa 81 (.tmp 57) 2 0 rfl g 0 152 r57 (fa81_2 g) ?_
   exact step_val (p':=p) _ (HN _) (M9 _) hil (by rw [hts];decide) rfl (hj.other HSt.out 9 (by decide) (Below.refl _ _))
  ·cases hop
   have r58:=tmA_some T0 _ _ (HN p) 9 58 _ (M9 p) (hdep ⟨9,.data⟩ (by simp) rfl) (by rw [hts];decide)
   refine wpOp_of rfl rfl ?_
   refine wp_fa 32 (.tmp 58) 1 0 rfl g 152 264 r58 (fa32N_1 g) ?_
   exact step_val (p':=p) _ (HN _) (M10 _) hil (by rw [hts];decide) rfl (hj.other HSt.out 10 (by decide) (Below.refl _ _))
  ·cases hop
   have hun':=getD_un hun
   have r59:=tmA_some T0 _ _ (HN p) 10 59 _ (M10 p) (hdep ⟨10,.data⟩ (by simp) rfl) (by rw [hts];decide)
   have r56:=tmA_some T0 _ _ (HN p) 7 56 _ (M7 p) (hdep ⟨7,.data⟩ (by simp) rfl) (by rw [hts];decide)
   refine wpOp_of rfl rfl ?_
   have hput:putA k.L.toArray 264 (#[.bool q2.g,.int .u32 (q2.a:Int),.int .u8 (q2.p:Int),.int .u8 (q2.y:Int),.int .u8 (q2.e:Int),.int .u16 (q2.b:Int),.int .u16 (q2.t:Int)]).toList=(k.putN 16 q2).L.toArray:=HP.out
   refine wp_store_sub 29 (.tmp 59) (.tmp 56) rfl g 264 #[.bool q2.g,.int .u32 (q2.a:Int),.int .u8 (q2.p:Int),.int .u8 (q2.y:Int),.int .u8 (q2.e:Int),.int .u16 (q2.b:Int),.int .u16 (q2.t:Int)] r59 r56 81 k.L.toArray (hj.first hun') info29s (by have:=k.len;simp;omega) (arr_all q2) ?_
   rw [hput]
   exact step_none (by rw [hex];kernel_rfl) _ (hj.stored HSt.out hil (blk_row (hj.first hun') _) (only_row _ g _))
 ·intro p l W hall hj
  have hk:=hj.last (hall 11 (by show 11<12;omega))
  have hs:=HS3.out.trans hj.sv
  subst hex
  rw [HT.out]
  simp only [putAll]
  clear hj hall
  go_wp2_with fail
  go_end0
  exact ⟨rfl,hk,hs⟩
set_option maxHeartbeats 2000000 in
theorem c133_1 (g:Nat) (k:WK) (r1 n qa qp qe qb qt:Nat) (w:World) (h:Wk w g k) (hr:k.i.r1=r1) (hr16:r1<16) (hq:k.A.c r1=⟨true,qa,qp,1,qe,qb,qt⟩) (hf:(⟨true,qa,qp,1,qe,qb,qt⟩:Cq).fit) (hp8:qp/8%2=1) (hn:k.i.im%4294967296=(n:Int)) (him:k.i.im=0) :
  Calls Tryz.prog 133 #[.pointer (some ⟨g,0,none⟩)] w fun e w'=>e=.returned (.tuple #[])∧Wk w' g (k.putN 16 ((⟨true,qa,qp,0,qe,qb,qt⟩:Cq).sa ((qa+n)%4294967296)))∧Sv g w.heap.size w w':=by
 obtain ⟨m,hm⟩:∃ m,(qa+n)%4294967296=m:=⟨_,rfl⟩
 have hn2:n<4294967296:=by omega
 have hw:IntKind.u32.wrap ((qa:Int)+(n:Int))=(m:Int):=by rw [IntKind.wrap_u32];omega
 have hm2:m<4294967296:=by omega
 rw [hm]
 have ha8:=u8and8 qp hf.2.1 hp8
 have hf0:(⟨true,qa,qp,0,qe,qb,qt⟩:Cq).fit:=⟨hf.1,hf.2.1,Nat.zero_lt_succ _,hf.2.2.2⟩
 obtain ⟨q2,hq2⟩:∃ q2,(⟨true,qa,qp,0,qe,qb,qt⟩:Cq).sa m=q2:=⟨_,rfl⟩
 have K91:=Lib.hid (sa_call _ hf0 m hm2)
 rw [hq2] at K91 ⊢
 have K136:=Lib.hid (c136 g k w h r1 _ hr hq hr16)
 have hl0:=Blk.lt h
 have HW:=Lib.hid h
 have x307:w.cell? ⟨g,307,none⟩=some (.int .i32 k.i.im):=h.cellT 4 307 rfl
 have HP:=Lib.hid (k.putN_L 16 q2 (by decide))
 have HI:Hid (k.i.im%4294967296=(n:Int)):=Lib.hid hn
 clear h hq hf hm hq2 hr hn hf0
 go_enter Tryz.func133,Tryz.ntmps133
 go_wp2_with fail
 refine K136.out.mono ?_
 rintro _ w1 ⟨rfl,hb1⟩
 have HA1:Hid (Blk (w1.alloc (.cells #[.bool true,.int .u32 (qa:Int),.int .u8 (qp:Int),.int .u8 1,.int .u8 (qe:Int),.int .u16 (qb:Int),.int .u16 (qt:Int)] 29)) w1.heap.size 29 #[.bool true,.int .u32 (qa:Int),.int .u8 (qp:Int),.int .u8 1,.int .u8 (qe:Int),.int .u16 (qb:Int),.int .u16 (qt:Int)]):=Lib.hid (Blk.new w1 29 #[.bool true,.int .u32 (qa:Int),.int .u8 (qp:Int),.int .u8 1,.int .u8 (qe:Int),.int .u16 (qb:Int),.int .u16 (qt:Int)])
 have HB1:Hid (Below w.heap.size w (w1.alloc (.cells #[.bool true,.int .u32 (qa:Int),.int .u8 (qp:Int),.int .u8 1,.int .u8 (qe:Int),.int .u16 (qb:Int),.int .u16 (qt:Int)] 29))):=Lib.hid (hb1.alloc hb1.size _)
 have HK1:Hid (Wk (w1.alloc (.cells #[.bool true,.int .u32 (qa:Int),.int .u8 (qp:Int),.int .u8 1,.int .u8 (qe:Int),.int .u16 (qb:Int),.int .u16 (qt:Int)] 29)) g k):=Lib.hid (Blk.below HW.out HB1.out hl0)
 have hlp:w.heap.size≤w1.heap.size:=hb1.size
 obtain ⟨pb,hpe⟩:∃ p,w1.heap.size=p:=⟨_,rfl⟩
 rw [hpe] at HA1 hlp
 have x307b:(w1.alloc (.cells #[.bool true,.int .u32 (qa:Int),.int .u8 (qp:Int),.int .u8 1,.int .u8 (qe:Int),.int .u16 (qb:Int),.int .u16 (qt:Int)] 29)).cell? ⟨g,307,none⟩=some (.int .i32 k.i.im):=HK1.out.cellT 4 307 rfl
 clear hb1 x307
 rw [him] at x307b
 go_upto_region 1 with fail
 generalize w1.alloc (.cells #[.bool true,.int .u32 (qa:Int),.int .u8 (qp:Int),.int .u8 1,.int .u8 (qe:Int),.int .u16 (qb:Int),.int .u16 (qt:Int)] 29)=W1 at *
 have y0:=HA1.out.cell 0
 have y1:=HA1.out.cell 1
 have y2:=HA1.out.cell 2
 have y3:=HA1.out.cell 3
 have y4:=HA1.out.cell 4
 have y5:=HA1.out.cell 5
 have y6:=HA1.out.cell 6
 simp only [List.getElem?_toArray,List.getElem?_cons_zero,List.getElem?_cons_succ] at y0 y1 y2 y3 y4 y5 y6
 have fz3:=HA1.out.frozen 3
 have hlW:=HA1.out.lt
 have hlg:g<W1.heap.size:=HK1.out.lt
 have hfo:=Blk.frozen HK1.out 300
 have hx300:W1.cell? ⟨g,300,none⟩=some (.bool k.N.on):=by
  rw [Blk.cell HK1.out,List.getElem?_toArray,show 300=152+(147+1) by omega,k.atN _ (by omega),k.N.tl 1]
  rfl
 have hgp:pb≠g:=by omega
 have hgp2:g≠pb:=by omega
 clear hpe
 have HK2:=HK1
 have HA2:=HA1
 have HS2:Hid (Sv g w.heap.size w W1):=Lib.hid (Below.sv HB1.out (Nat.le_refl _))
 have HK3:Hid (Wk (W1.setCell ⟨pb,3,none⟩ (.int .u8 0)) g k):=Lib.hid (Blk.far HK2.out hgp2 _)
 have HA3:Hid (Blk (W1.setCell ⟨pb,3,none⟩ (.int .u8 0)) pb 29 #[.bool true,.int .u32 (qa:Int),.int .u8 (qp:Int),.int .u8 0,.int .u8 (qe:Int),.int .u16 (qb:Int),.int .u16 (qt:Int)]):=Lib.hid (by
  have:=Blk.set_ HA2.out 3 (.int .u8 0)
  simpa using this)
 have HS3:Hid (Sv g w.heap.size w (W1.setCell ⟨pb,3,none⟩ (.int .u8 0))):=Lib.hid (HS2.out.trans ⟨rfl,rfl,rfl,by simp,fun k' hk' hg'=>Below.heap_setCell _ _ _ _ (by show k'≠pb;omega)⟩)
 have HZ3:Hid (w.heap.size≤((W1.setCell ⟨pb,3,none⟩ (.int .u8 0))).heap.size):=Lib.hid HS3.out.size
 go_upto_region 9 with fail
 generalize (W1.setCell ⟨pb,3,none⟩ (.int .u8 0))=W3 at *
 clear y0 y1 y2 y3 y4 y5 y6 fz3 hfo hx300 hlW hlg x307b
 have HSt:=Lib.hid (Stays.blk g pb 29 #[.bool true,.int .u32 (qa:Int),.int .u8 (qp:Int),.int .u8 0,.int .u8 (qe:Int),.int .u16 (qb:Int),.int .u16 (qt:Int)] hgp)
 refine at_eq fun T0 hT=>?_
 have hts:T0.size=60:=by rw [hT];rfl
 have fx0:T0.getD 0 undef=.pointer (some ⟨g,0,none⟩):=by rw [hT];rfl
 have fx2:T0.getD 2 undef=.pointer (some ⟨pb,0,none⟩):=by rw [hT];rfl
 have HT:=Lib.hid hT
 clear hT
 obtain ⟨ex,hex⟩:∃ ex:Nat→Ex,ex=fun p=>[(0,49,.pointer (some ⟨g,0,none⟩)),(1,50,.agg #[.bool true,.int .u32 (qa:Int),.int .u8 (qp:Int),.int .u8 0,.int .u8 (qe:Int),.int .u16 (qb:Int),.int .u16 (qt:Int)]),(2,51,.pointer (some ⟨pb,1,none⟩)),(3,52,.int .u32 (qa:Int)),(4,53,.pointer (some ⟨g,0,none⟩)),(5,54,.int .u32 (n:Int)),(6,55,.int .u32 (m:Int)),(7,56,.agg #[.bool q2.g,.int .u32 (q2.a:Int),.int .u8 (q2.p:Int),.int .u8 (q2.y:Int),.int .u8 (q2.e:Int),.int .u16 (q2.b:Int),.int .u16 (q2.t:Int)]),(8,57,.pointer (some ⟨g,0,none⟩)),(9,58,.pointer (some ⟨g,152,none⟩)),(10,59,.pointer (some ⟨g,264,none⟩))]:=⟨_,rfl⟩
 have HN:∀ p,apartB (ex p)=true:=by rw [hex];intro p;kernel_rfl
 have M0:∀ p,(0,49,.pointer (some ⟨g,0,none⟩))∈ex p:=by rw [hex];intro p;simp
 have M1:∀ p,(1,50,.agg #[.bool true,.int .u32 (qa:Int),.int .u8 (qp:Int),.int .u8 0,.int .u8 (qe:Int),.int .u16 (qb:Int),.int .u16 (qt:Int)])∈ex p:=by rw [hex];intro p;simp
 have M2:∀ p,(2,51,.pointer (some ⟨pb,1,none⟩))∈ex p:=by rw [hex];intro p;simp
 have M3:∀ p,(3,52,.int .u32 (qa:Int))∈ex p:=by rw [hex];intro p;simp
 have M4:∀ p,(4,53,.pointer (some ⟨g,0,none⟩))∈ex p:=by rw [hex];intro p;simp
 have M5:∀ p,(5,54,.int .u32 (n:Int))∈ex p:=by rw [hex];intro p;simp
 have M6:∀ p,(6,55,.int .u32 (m:Int))∈ex p:=by rw [hex];intro p;simp
 have M7:∀ p,(7,56,.agg #[.bool q2.g,.int .u32 (q2.a:Int),.int .u8 (q2.p:Int),.int .u8 (q2.y:Int),.int .u8 (q2.e:Int),.int .u16 (q2.b:Int),.int .u16 (q2.t:Int)])∈ex p:=by rw [hex];intro p;simp
 have M8:∀ p,(8,57,.pointer (some ⟨g,0,none⟩))∈ex p:=by rw [hex];intro p;simp
 have M9:∀ p,(9,58,.pointer (some ⟨g,152,none⟩))∈ex p:=by rw [hex];intro p;simp
 have M10:∀ p,(10,59,.pointer (some ⟨g,264,none⟩))∈ex p:=by rw [hex];intro p;simp
 refine wp_region_tm (by kernel_rfl) (by kernel_rfl) ex ((fun _=>JG g w.heap.size W3 k (k.putN 16 q2) (fun W=>Blk W pb 29 #[.bool true,.int .u32 (qa:Int),.int .u8 (qp:Int),.int .u8 0,.int .u8 (qe:Int),.int .u16 (qb:Int),.int .u16 (qt:Int)]) 11 0)) 0 (JG.begin HSt.out HK3.out HA3.out HZ3.out _ _) ?_ (by rw [hex];intro p;kernel_rfl) ?_
 ·intro p l W i o hls hop hun hdep hj
  have hi:i<12:=(Array.getElem?_eq_some_iff.1 hop).1
  have hil:i<l.size:=by rw [hls];exact hi
  rcases (by omega:i=0∨i=1∨i=2∨i=3∨i=4∨i=5∨i=6∨i=7∨i=8∨i=9∨i=10∨i=11) with rfl | rfl | rfl | rfl | rfl | rfl | rfl | rfl | rfl | rfl | rfl | rfl
  ·cases hop
   have r0:=(tmA_none T0 (ex p) l 0 (by rw [hex];kernel_rfl)).trans fx0
   refine wpOp_of rfl rfl ?_
   refine wp_move (.tmp 0) rfl _ r0 ?_
   exact step_val (p':=p) _ (HN _) (M0 _) hil (by rw [hts];decide) rfl (hj.other HSt.out 0 (by decide) (Below.refl _ _))
  ·cases hop
   have r2:=(tmA_none T0 (ex p) l 2 (by rw [hex];kernel_rfl)).trans fx2
   refine wpOp_of rfl rfl ?_
   refine wp_load_row 29 (.tmp 2) rfl pb r2 29 #[.bool true,.int .u32 (qa:Int),.int .u8 (qp:Int),.int .u8 0,.int .u8 (qe:Int),.int .u16 (qb:Int),.int .u16 (qt:Int)] (0,0) _ hj.x Tryz.underlying29 rfl info29s ?_
   exact step_val (p':=p) _ (HN _) (M1 _) hil (by rw [hts];decide) rfl (hj.other HSt.out 1 (by decide) (Below.refl _ _))
  ·cases hop
   have r2:=(tmA_none T0 (ex p) l 2 (by rw [hex];kernel_rfl)).trans fx2
   refine wpOp_of rfl rfl ?_
   refine wp_fa 29 (.tmp 2) 1 0 rfl pb 0 1 r2 (fa29_1 pb) ?_
   exact step_val (p':=p) _ (HN _) (M2 _) hil (by rw [hts];decide) rfl (hj.other HSt.out 2 (by decide) (Below.refl _ _))
  ·cases hop
   have r51:=tmA_some T0 _ _ (HN p) 2 51 _ (M2 p) (hdep ⟨2,.data⟩ (by simp) rfl) (by rw [hts];decide)
   refine wpOp_of rfl rfl ?_
   refine wp_ld 25 (.tmp 51) rfl ⟨pb,1,none⟩ _ r51 agg25 (hj.x.cell 1) ?_
   exact step_val (p':=p) _ (HN _) (M3 _) hil (by rw [hts];decide) rfl (hj.other HSt.out 3 (by decide) (Below.refl _ _))
  ·cases hop
   have r0:=(tmA_none T0 (ex p) l 0 (by rw [hex];kernel_rfl)).trans fx0
   refine wpOp_of rfl rfl ?_
   refine wp_move (.tmp 0) rfl _ r0 ?_
   exact step_val (p':=p) _ (HN _) (M4 _) hil (by rw [hts];decide) rfl (hj.other HSt.out 4 (by decide) (Below.refl _ _))
  ·cases hop
   have r53:=tmA_some T0 _ _ (HN p) 4 53 _ (M4 p) (hdep ⟨4,.data⟩ (by simp) rfl) (by rw [hts];decide)
   refine wpOp_of rfl rfl ?_
   refine wp_call1 97 (.tmp 53) 116 rfl _ r53 (cf97 _) ?_
   refine (hj.imm rfl rfl n HI.out).mono ?_
   rintro _ _ ⟨rfl,rfl⟩
   exact step_val (p':=p) _ (HN _) (M5 _) hil (by rw [hts];decide) rfl (hj.other HSt.out 5 (by decide) (Below.refl _ _))
  ·cases hop
   have r52:=tmA_some T0 _ _ (HN p) 3 52 _ (M3 p) (hdep ⟨3,.data⟩ (by simp) rfl) (by rw [hts];decide)
   have r54:=tmA_some T0 _ _ (HN p) 5 54 _ (M5 p) (hdep ⟨5,.data⟩ (by simp) rfl) (by rw [hts];decide)
   refine wpOp_of rfl rfl ?_
   refine wp_add (.tmp 52) (.tmp 54) rfl _ _ _ r52 r54 hw ?_
   exact step_val (p':=p) _ (HN _) (M6 _) hil (by rw [hts];decide) rfl (hj.other HSt.out 6 (by decide) (Below.refl _ _))
  ·cases hop
   have r50:=tmA_some T0 _ _ (HN p) 1 50 _ (M1 p) (hdep ⟨1,.data⟩ (by simp) rfl) (by rw [hts];decide)
   have r55:=tmA_some T0 _ _ (HN p) 6 55 _ (M6 p) (hdep ⟨6,.data⟩ (by simp) rfl) (by rw [hts];decide)
   refine wpOp_of rfl rfl ?_
   refine wp_call2 91 (.tmp 50) (.tmp 55) 29 25 rfl _ _ r50 r55 (cf91 _ _) ?_
   refine (K91.out W).mono ?_
   rintro _ W' ⟨rfl,hb⟩
   exact step_val (p':=p) _ (HN _) (M7 _) hil (by rw [hts];decide) rfl (hj.other HSt.out 7 (by decide) hb)
  ·cases hop
   have r49:=tmA_some T0 _ _ (HN p) 0 49 _ (M0 p) (hdep ⟨0,.data⟩ (by simp) rfl) (by rw [hts];decide)
   refine wpOp_of rfl rfl ?_
   refine wp_nil (.tmp 49) rfl _ r49 ?_
   exact step_val (p':=p) _ (HN _) (M8 _) hil (by rw [hts];decide) rfl (hj.other HSt.out 8 (by decide) (Below.refl _ _))
  ·cases hop
   have r57:=tmA_some T0 _ _ (HN p) 8 57 _ (M8 p) (hdep ⟨8,.data⟩ (by simp) rfl) (by rw [hts];decide)
   refine wpOp_of rfl rfl ?_
   refine wp_fa 81 (.tmp 57) 2 0 rfl g 0 152 r57 (fa81_2 g) ?_
   exact step_val (p':=p) _ (HN _) (M9 _) hil (by rw [hts];decide) rfl (hj.other HSt.out 9 (by decide) (Below.refl _ _))
  ·cases hop
   have r58:=tmA_some T0 _ _ (HN p) 9 58 _ (M9 p) (hdep ⟨9,.data⟩ (by simp) rfl) (by rw [hts];decide)
   refine wpOp_of rfl rfl ?_
   refine wp_fa 32 (.tmp 58) 1 0 rfl g 152 264 r58 (fa32N_1 g) ?_
   exact step_val (p':=p) _ (HN _) (M10 _) hil (by rw [hts];decide) rfl (hj.other HSt.out 10 (by decide) (Below.refl _ _))
  ·cases hop
   have hun':=getD_un hun
   have r59:=tmA_some T0 _ _ (HN p) 10 59 _ (M10 p) (hdep ⟨10,.data⟩ (by simp) rfl) (by rw [hts];decide)
   have r56:=tmA_some T0 _ _ (HN p) 7 56 _ (M7 p) (hdep ⟨7,.data⟩ (by simp) rfl) (by rw [hts];decide)
   refine wpOp_of rfl rfl ?_
   have hput:putA k.L.toArray 264 (#[.bool q2.g,.int .u32 (q2.a:Int),.int .u8 (q2.p:Int),.int .u8 (q2.y:Int),.int .u8 (q2.e:Int),.int .u16 (q2.b:Int),.int .u16 (q2.t:Int)]).toList=(k.putN 16 q2).L.toArray:=HP.out
   refine wp_store_sub 29 (.tmp 59) (.tmp 56) rfl g 264 #[.bool q2.g,.int .u32 (q2.a:Int),.int .u8 (q2.p:Int),.int .u8 (q2.y:Int),.int .u8 (q2.e:Int),.int .u16 (q2.b:Int),.int .u16 (q2.t:Int)] r59 r56 81 k.L.toArray (hj.first hun') info29s (by have:=k.len;simp;omega) (arr_all q2) ?_
   rw [hput]
   exact step_none (by rw [hex];kernel_rfl) _ (hj.stored HSt.out hil (blk_row (hj.first hun') _) (only_row _ g _))
 ·intro p l W hall hj
  have hk:=hj.last (hall 11 (by show 11<12;omega))
  have hs:=HS3.out.trans hj.sv
  subst hex
  rw [HT.out]
  simp only [putAll]
  clear hj hall
  go_wp2_with fail
  go_end0
  exact ⟨rfl,hk,hs⟩
set_option maxHeartbeats 2000000 in
theorem c133_2 (g:Nat) (k:WK) (r1 n qa qp qe qb qt:Nat) (w:World) (h:Wk w g k) (hr:k.i.r1=r1) (hr16:r1<16) (hq:k.A.c r1=⟨true,qa,qp,2,qe,qb,qt⟩) (hf:(⟨true,qa,qp,2,qe,qb,qt⟩:Cq).fit) (hp8:qp/8%2=1) (hn:k.i.im%4294967296=(n:Int)) (him:k.i.im=0) :
  Calls Tryz.prog 133 #[.pointer (some ⟨g,0,none⟩)] w fun e w'=>e=.returned (.tuple #[])∧Wk w' g ((k.onN false).putN 16 ((⟨true,qa,qp,0,qe,qb,qt⟩:Cq).sa ((qa+n)%4294967296)))∧Sv g w.heap.size w w':=by
 obtain ⟨m,hm⟩:∃ m,(qa+n)%4294967296=m:=⟨_,rfl⟩
 have hn2:n<4294967296:=by omega
 have hw:IntKind.u32.wrap ((qa:Int)+(n:Int))=(m:Int):=by rw [IntKind.wrap_u32];omega
 have hm2:m<4294967296:=by omega
 rw [hm]
 have ha8:=u8and8 qp hf.2.1 hp8
 have hf0:(⟨true,qa,qp,0,qe,qb,qt⟩:Cq).fit:=⟨hf.1,hf.2.1,Nat.zero_lt_succ _,hf.2.2.2⟩
 obtain ⟨q2,hq2⟩:∃ q2,(⟨true,qa,qp,0,qe,qb,qt⟩:Cq).sa m=q2:=⟨_,rfl⟩
 have K91:=Lib.hid (sa_call _ hf0 m hm2)
 rw [hq2] at K91 ⊢
 have K136:=Lib.hid (c136 g k w h r1 _ hr hq hr16)
 have hl0:=Blk.lt h
 have HW:=Lib.hid h
 have x307:w.cell? ⟨g,307,none⟩=some (.int .i32 k.i.im):=h.cellT 4 307 rfl
 have HP:=Lib.hid ((k.onN false).putN_L 16 q2 (by decide))
 have HI:Hid (k.i.im%4294967296=(n:Int)):=Lib.hid hn
 clear h hq hf hm hq2 hr hn hf0
 go_enter Tryz.func133,Tryz.ntmps133
 go_wp2_with fail
 refine K136.out.mono ?_
 rintro _ w1 ⟨rfl,hb1⟩
 have HA1:Hid (Blk (w1.alloc (.cells #[.bool true,.int .u32 (qa:Int),.int .u8 (qp:Int),.int .u8 2,.int .u8 (qe:Int),.int .u16 (qb:Int),.int .u16 (qt:Int)] 29)) w1.heap.size 29 #[.bool true,.int .u32 (qa:Int),.int .u8 (qp:Int),.int .u8 2,.int .u8 (qe:Int),.int .u16 (qb:Int),.int .u16 (qt:Int)]):=Lib.hid (Blk.new w1 29 #[.bool true,.int .u32 (qa:Int),.int .u8 (qp:Int),.int .u8 2,.int .u8 (qe:Int),.int .u16 (qb:Int),.int .u16 (qt:Int)])
 have HB1:Hid (Below w.heap.size w (w1.alloc (.cells #[.bool true,.int .u32 (qa:Int),.int .u8 (qp:Int),.int .u8 2,.int .u8 (qe:Int),.int .u16 (qb:Int),.int .u16 (qt:Int)] 29))):=Lib.hid (hb1.alloc hb1.size _)
 have HK1:Hid (Wk (w1.alloc (.cells #[.bool true,.int .u32 (qa:Int),.int .u8 (qp:Int),.int .u8 2,.int .u8 (qe:Int),.int .u16 (qb:Int),.int .u16 (qt:Int)] 29)) g k):=Lib.hid (Blk.below HW.out HB1.out hl0)
 have hlp:w.heap.size≤w1.heap.size:=hb1.size
 obtain ⟨pb,hpe⟩:∃ p,w1.heap.size=p:=⟨_,rfl⟩
 rw [hpe] at HA1 hlp
 have x307b:(w1.alloc (.cells #[.bool true,.int .u32 (qa:Int),.int .u8 (qp:Int),.int .u8 2,.int .u8 (qe:Int),.int .u16 (qb:Int),.int .u16 (qt:Int)] 29)).cell? ⟨g,307,none⟩=some (.int .i32 k.i.im):=HK1.out.cellT 4 307 rfl
 clear hb1 x307
 rw [him] at x307b
 go_upto_region 1 with fail
 generalize w1.alloc (.cells #[.bool true,.int .u32 (qa:Int),.int .u8 (qp:Int),.int .u8 2,.int .u8 (qe:Int),.int .u16 (qb:Int),.int .u16 (qt:Int)] 29)=W1 at *
 have y0:=HA1.out.cell 0
 have y1:=HA1.out.cell 1
 have y2:=HA1.out.cell 2
 have y3:=HA1.out.cell 3
 have y4:=HA1.out.cell 4
 have y5:=HA1.out.cell 5
 have y6:=HA1.out.cell 6
 simp only [List.getElem?_toArray,List.getElem?_cons_zero,List.getElem?_cons_succ] at y0 y1 y2 y3 y4 y5 y6
 have fz3:=HA1.out.frozen 3
 have hlW:=HA1.out.lt
 have hlg:g<W1.heap.size:=HK1.out.lt
 have hfo:=Blk.frozen HK1.out 300
 have hx300:W1.cell? ⟨g,300,none⟩=some (.bool k.N.on):=by
  rw [Blk.cell HK1.out,List.getElem?_toArray,show 300=152+(147+1) by omega,k.atN _ (by omega),k.N.tl 1]
  rfl
 have hgp:pb≠g:=by omega
 have hgp2:g≠pb:=by omega
 clear hpe
 have HK2:Hid (Wk (W1.setCell ⟨g,300,none⟩ (.bool false)) g (k.onN false)):=Lib.hid (by
  have:=Blk.set_ HK1.out 300 (.bool false)
  rw [k.onN_L] at this
  exact this)
 have HA2:Hid (Blk (W1.setCell ⟨g,300,none⟩ (.bool false)) pb 29 #[.bool true,.int .u32 (qa:Int),.int .u8 (qp:Int),.int .u8 2,.int .u8 (qe:Int),.int .u16 (qb:Int),.int .u16 (qt:Int)]):=Lib.hid (Blk.far HA1.out hgp _)
 have HS2:Hid (Sv g w.heap.size w (W1.setCell ⟨g,300,none⟩ (.bool false))):=Lib.hid ((Below.sv HB1.out (Nat.le_refl _)).trans ⟨rfl,rfl,rfl,by simp,fun k' hk' hg'=>Below.heap_setCell _ _ _ _ hg'⟩)
 have HK3:Hid (Wk ((W1.setCell ⟨g,300,none⟩ (.bool false)).setCell ⟨pb,3,none⟩ (.int .u8 0)) g (k.onN false)):=Lib.hid (Blk.far HK2.out hgp2 _)
 have HA3:Hid (Blk ((W1.setCell ⟨g,300,none⟩ (.bool false)).setCell ⟨pb,3,none⟩ (.int .u8 0)) pb 29 #[.bool true,.int .u32 (qa:Int),.int .u8 (qp:Int),.int .u8 0,.int .u8 (qe:Int),.int .u16 (qb:Int),.int .u16 (qt:Int)]):=Lib.hid (by
  have:=Blk.set_ HA2.out 3 (.int .u8 0)
  simpa using this)
 have HS3:Hid (Sv g w.heap.size w ((W1.setCell ⟨g,300,none⟩ (.bool false)).setCell ⟨pb,3,none⟩ (.int .u8 0))):=Lib.hid (HS2.out.trans ⟨rfl,rfl,rfl,by simp,fun k' hk' hg'=>Below.heap_setCell _ _ _ _ (by show k'≠pb;omega)⟩)
 have HZ3:Hid (w.heap.size≤(((W1.setCell ⟨g,300,none⟩ (.bool false)).setCell ⟨pb,3,none⟩ (.int .u8 0))).heap.size):=Lib.hid HS3.out.size
 go_upto_region 9 with fail
 generalize ((W1.setCell ⟨g,300,none⟩ (.bool false)).setCell ⟨pb,3,none⟩ (.int .u8 0))=W3 at *
 clear y0 y1 y2 y3 y4 y5 y6 fz3 hfo hx300 hlW hlg x307b
 have HSt:=Lib.hid (Stays.blk g pb 29 #[.bool true,.int .u32 (qa:Int),.int .u8 (qp:Int),.int .u8 0,.int .u8 (qe:Int),.int .u16 (qb:Int),.int .u16 (qt:Int)] hgp)
 refine at_eq fun T0 hT=>?_
 have hts:T0.size=60:=by rw [hT];rfl
 have fx0:T0.getD 0 undef=.pointer (some ⟨g,0,none⟩):=by rw [hT];rfl
 have fx2:T0.getD 2 undef=.pointer (some ⟨pb,0,none⟩):=by rw [hT];rfl
 have HT:=Lib.hid hT
 clear hT
 obtain ⟨ex,hex⟩:∃ ex:Nat→Ex,ex=fun p=>[(0,49,.pointer (some ⟨g,0,none⟩)),(1,50,.agg #[.bool true,.int .u32 (qa:Int),.int .u8 (qp:Int),.int .u8 0,.int .u8 (qe:Int),.int .u16 (qb:Int),.int .u16 (qt:Int)]),(2,51,.pointer (some ⟨pb,1,none⟩)),(3,52,.int .u32 (qa:Int)),(4,53,.pointer (some ⟨g,0,none⟩)),(5,54,.int .u32 (n:Int)),(6,55,.int .u32 (m:Int)),(7,56,.agg #[.bool q2.g,.int .u32 (q2.a:Int),.int .u8 (q2.p:Int),.int .u8 (q2.y:Int),.int .u8 (q2.e:Int),.int .u16 (q2.b:Int),.int .u16 (q2.t:Int)]),(8,57,.pointer (some ⟨g,0,none⟩)),(9,58,.pointer (some ⟨g,152,none⟩)),(10,59,.pointer (some ⟨g,264,none⟩))]:=⟨_,rfl⟩
 have HN:∀ p,apartB (ex p)=true:=by rw [hex];intro p;kernel_rfl
 have M0:∀ p,(0,49,.pointer (some ⟨g,0,none⟩))∈ex p:=by rw [hex];intro p;simp
 have M1:∀ p,(1,50,.agg #[.bool true,.int .u32 (qa:Int),.int .u8 (qp:Int),.int .u8 0,.int .u8 (qe:Int),.int .u16 (qb:Int),.int .u16 (qt:Int)])∈ex p:=by rw [hex];intro p;simp
 have M2:∀ p,(2,51,.pointer (some ⟨pb,1,none⟩))∈ex p:=by rw [hex];intro p;simp
 have M3:∀ p,(3,52,.int .u32 (qa:Int))∈ex p:=by rw [hex];intro p;simp
 have M4:∀ p,(4,53,.pointer (some ⟨g,0,none⟩))∈ex p:=by rw [hex];intro p;simp
 have M5:∀ p,(5,54,.int .u32 (n:Int))∈ex p:=by rw [hex];intro p;simp
 have M6:∀ p,(6,55,.int .u32 (m:Int))∈ex p:=by rw [hex];intro p;simp
 have M7:∀ p,(7,56,.agg #[.bool q2.g,.int .u32 (q2.a:Int),.int .u8 (q2.p:Int),.int .u8 (q2.y:Int),.int .u8 (q2.e:Int),.int .u16 (q2.b:Int),.int .u16 (q2.t:Int)])∈ex p:=by rw [hex];intro p;simp
 have M8:∀ p,(8,57,.pointer (some ⟨g,0,none⟩))∈ex p:=by rw [hex];intro p;simp
 have M9:∀ p,(9,58,.pointer (some ⟨g,152,none⟩))∈ex p:=by rw [hex];intro p;simp
 have M10:∀ p,(10,59,.pointer (some ⟨g,264,none⟩))∈ex p:=by rw [hex];intro p;simp
 refine wp_region_tm (by kernel_rfl) (by kernel_rfl) ex ((fun _=>JG g w.heap.size W3 (k.onN false) ((k.onN false).putN 16 q2) (fun W=>Blk W pb 29 #[.bool true,.int .u32 (qa:Int),.int .u8 (qp:Int),.int .u8 0,.int .u8 (qe:Int),.int .u16 (qb:Int),.int .u16 (qt:Int)]) 11 0)) 0 (JG.begin HSt.out HK3.out HA3.out HZ3.out _ _) ?_ (by rw [hex];intro p;kernel_rfl) ?_
 ·intro p l W i o hls hop hun hdep hj
  have hi:i<12:=(Array.getElem?_eq_some_iff.1 hop).1
  have hil:i<l.size:=by rw [hls];exact hi
  rcases (by omega:i=0∨i=1∨i=2∨i=3∨i=4∨i=5∨i=6∨i=7∨i=8∨i=9∨i=10∨i=11) with rfl | rfl | rfl | rfl | rfl | rfl | rfl | rfl | rfl | rfl | rfl | rfl
  ·cases hop
   have r0:=(tmA_none T0 (ex p) l 0 (by rw [hex];kernel_rfl)).trans fx0
   refine wpOp_of rfl rfl ?_
   refine wp_move (.tmp 0) rfl _ r0 ?_
   exact step_val (p':=p) _ (HN _) (M0 _) hil (by rw [hts];decide) rfl (hj.other HSt.out 0 (by decide) (Below.refl _ _))
  ·cases hop
   have r2:=(tmA_none T0 (ex p) l 2 (by rw [hex];kernel_rfl)).trans fx2
   refine wpOp_of rfl rfl ?_
   refine wp_load_row 29 (.tmp 2) rfl pb r2 29 #[.bool true,.int .u32 (qa:Int),.int .u8 (qp:Int),.int .u8 0,.int .u8 (qe:Int),.int .u16 (qb:Int),.int .u16 (qt:Int)] (0,0) _ hj.x Tryz.underlying29 rfl info29s ?_
   exact step_val (p':=p) _ (HN _) (M1 _) hil (by rw [hts];decide) rfl (hj.other HSt.out 1 (by decide) (Below.refl _ _))
  ·cases hop
   have r2:=(tmA_none T0 (ex p) l 2 (by rw [hex];kernel_rfl)).trans fx2
   refine wpOp_of rfl rfl ?_
   refine wp_fa 29 (.tmp 2) 1 0 rfl pb 0 1 r2 (fa29_1 pb) ?_
   exact step_val (p':=p) _ (HN _) (M2 _) hil (by rw [hts];decide) rfl (hj.other HSt.out 2 (by decide) (Below.refl _ _))
  ·cases hop
   have r51:=tmA_some T0 _ _ (HN p) 2 51 _ (M2 p) (hdep ⟨2,.data⟩ (by simp) rfl) (by rw [hts];decide)
   refine wpOp_of rfl rfl ?_
   refine wp_ld 25 (.tmp 51) rfl ⟨pb,1,none⟩ _ r51 agg25 (hj.x.cell 1) ?_
   exact step_val (p':=p) _ (HN _) (M3 _) hil (by rw [hts];decide) rfl (hj.other HSt.out 3 (by decide) (Below.refl _ _))
  ·cases hop
   have r0:=(tmA_none T0 (ex p) l 0 (by rw [hex];kernel_rfl)).trans fx0
   refine wpOp_of rfl rfl ?_
   refine wp_move (.tmp 0) rfl _ r0 ?_
   exact step_val (p':=p) _ (HN _) (M4 _) hil (by rw [hts];decide) rfl (hj.other HSt.out 4 (by decide) (Below.refl _ _))
  ·cases hop
   have r53:=tmA_some T0 _ _ (HN p) 4 53 _ (M4 p) (hdep ⟨4,.data⟩ (by simp) rfl) (by rw [hts];decide)
   refine wpOp_of rfl rfl ?_
   refine wp_call1 97 (.tmp 53) 116 rfl _ r53 (cf97 _) ?_
   refine (hj.imm rfl rfl n HI.out).mono ?_
   rintro _ _ ⟨rfl,rfl⟩
   exact step_val (p':=p) _ (HN _) (M5 _) hil (by rw [hts];decide) rfl (hj.other HSt.out 5 (by decide) (Below.refl _ _))
  ·cases hop
   have r52:=tmA_some T0 _ _ (HN p) 3 52 _ (M3 p) (hdep ⟨3,.data⟩ (by simp) rfl) (by rw [hts];decide)
   have r54:=tmA_some T0 _ _ (HN p) 5 54 _ (M5 p) (hdep ⟨5,.data⟩ (by simp) rfl) (by rw [hts];decide)
   refine wpOp_of rfl rfl ?_
   refine wp_add (.tmp 52) (.tmp 54) rfl _ _ _ r52 r54 hw ?_
   exact step_val (p':=p) _ (HN _) (M6 _) hil (by rw [hts];decide) rfl (hj.other HSt.out 6 (by decide) (Below.refl _ _))
  ·cases hop
   have r50:=tmA_some T0 _ _ (HN p) 1 50 _ (M1 p) (hdep ⟨1,.data⟩ (by simp) rfl) (by rw [hts];decide)
   have r55:=tmA_some T0 _ _ (HN p) 6 55 _ (M6 p) (hdep ⟨6,.data⟩ (by simp) rfl) (by rw [hts];decide)
   refine wpOp_of rfl rfl ?_
   refine wp_call2 91 (.tmp 50) (.tmp 55) 29 25 rfl _ _ r50 r55 (cf91 _ _) ?_
   refine (K91.out W).mono ?_
   rintro _ W' ⟨rfl,hb⟩
   exact step_val (p':=p) _ (HN _) (M7 _) hil (by rw [hts];decide) rfl (hj.other HSt.out 7 (by decide) hb)
  ·cases hop
   have r49:=tmA_some T0 _ _ (HN p) 0 49 _ (M0 p) (hdep ⟨0,.data⟩ (by simp) rfl) (by rw [hts];decide)
   refine wpOp_of rfl rfl ?_
   refine wp_nil (.tmp 49) rfl _ r49 ?_
   exact step_val (p':=p) _ (HN _) (M8 _) hil (by rw [hts];decide) rfl (hj.other HSt.out 8 (by decide) (Below.refl _ _))
  ·cases hop
   have r57:=tmA_some T0 _ _ (HN p) 8 57 _ (M8 p) (hdep ⟨8,.data⟩ (by simp) rfl) (by rw [hts];decide)
   refine wpOp_of rfl rfl ?_
   refine wp_fa 81 (.tmp 57) 2 0 rfl g 0 152 r57 (fa81_2 g) ?_
   exact step_val (p':=p) _ (HN _) (M9 _) hil (by rw [hts];decide) rfl (hj.other HSt.out 9 (by decide) (Below.refl _ _))
  ·cases hop
   have r58:=tmA_some T0 _ _ (HN p) 9 58 _ (M9 p) (hdep ⟨9,.data⟩ (by simp) rfl) (by rw [hts];decide)
   refine wpOp_of rfl rfl ?_
   refine wp_fa 32 (.tmp 58) 1 0 rfl g 152 264 r58 (fa32N_1 g) ?_
   exact step_val (p':=p) _ (HN _) (M10 _) hil (by rw [hts];decide) rfl (hj.other HSt.out 10 (by decide) (Below.refl _ _))
  ·cases hop
   have hun':=getD_un hun
   have r59:=tmA_some T0 _ _ (HN p) 10 59 _ (M10 p) (hdep ⟨10,.data⟩ (by simp) rfl) (by rw [hts];decide)
   have r56:=tmA_some T0 _ _ (HN p) 7 56 _ (M7 p) (hdep ⟨7,.data⟩ (by simp) rfl) (by rw [hts];decide)
   refine wpOp_of rfl rfl ?_
   have hput:putA (k.onN false).L.toArray 264 (#[.bool q2.g,.int .u32 (q2.a:Int),.int .u8 (q2.p:Int),.int .u8 (q2.y:Int),.int .u8 (q2.e:Int),.int .u16 (q2.b:Int),.int .u16 (q2.t:Int)]).toList=((k.onN false).putN 16 q2).L.toArray:=HP.out
   refine wp_store_sub 29 (.tmp 59) (.tmp 56) rfl g 264 #[.bool q2.g,.int .u32 (q2.a:Int),.int .u8 (q2.p:Int),.int .u8 (q2.y:Int),.int .u8 (q2.e:Int),.int .u16 (q2.b:Int),.int .u16 (q2.t:Int)] r59 r56 81 (k.onN false).L.toArray (hj.first hun') info29s (by have:=(k.onN false).len;simp;omega) (arr_all q2) ?_
   rw [hput]
   exact step_none (by rw [hex];kernel_rfl) _ (hj.stored HSt.out hil (blk_row (hj.first hun') _) (only_row _ g _))
 ·intro p l W hall hj
  have hk:=hj.last (hall 11 (by show 11<12;omega))
  have hs:=HS3.out.trans hj.sv
  subst hex
  rw [HT.out]
  simp only [putAll]
  clear hj hall
  go_wp2_with fail
  go_end0
  exact ⟨rfl,hk,hs⟩
set_option maxHeartbeats 2000000 in
theorem c133_3 (g:Nat) (k:WK) (r1 n qa qp qe qb qt:Nat) (w:World) (h:Wk w g k) (hr:k.i.r1=r1) (hr16:r1<16) (hq:k.A.c r1=⟨true,qa,qp,3,qe,qb,qt⟩) (hf:(⟨true,qa,qp,3,qe,qb,qt⟩:Cq).fit) (hp8:qp/8%2=1) (hn:k.i.im%4294967296=(n:Int)) (him:k.i.im=0) :
  Calls Tryz.prog 133 #[.pointer (some ⟨g,0,none⟩)] w fun e w'=>e=.returned (.tuple #[])∧Wk w' g ((k.onN true).putN 16 ((⟨true,qa,qp,0,qe,qb,qt⟩:Cq).sa ((qa+n)%4294967296)))∧Sv g w.heap.size w w':=by
 obtain ⟨m,hm⟩:∃ m,(qa+n)%4294967296=m:=⟨_,rfl⟩
 have hn2:n<4294967296:=by omega
 have hw:IntKind.u32.wrap ((qa:Int)+(n:Int))=(m:Int):=by rw [IntKind.wrap_u32];omega
 have hm2:m<4294967296:=by omega
 rw [hm]
 have ha8:=u8and8 qp hf.2.1 hp8
 have hf0:(⟨true,qa,qp,0,qe,qb,qt⟩:Cq).fit:=⟨hf.1,hf.2.1,Nat.zero_lt_succ _,hf.2.2.2⟩
 obtain ⟨q2,hq2⟩:∃ q2,(⟨true,qa,qp,0,qe,qb,qt⟩:Cq).sa m=q2:=⟨_,rfl⟩
 have K91:=Lib.hid (sa_call _ hf0 m hm2)
 rw [hq2] at K91 ⊢
 have K136:=Lib.hid (c136 g k w h r1 _ hr hq hr16)
 have hl0:=Blk.lt h
 have HW:=Lib.hid h
 have x307:w.cell? ⟨g,307,none⟩=some (.int .i32 k.i.im):=h.cellT 4 307 rfl
 have HP:=Lib.hid ((k.onN true).putN_L 16 q2 (by decide))
 have HI:Hid (k.i.im%4294967296=(n:Int)):=Lib.hid hn
 clear h hq hf hm hq2 hr hn hf0
 go_enter Tryz.func133,Tryz.ntmps133
 go_wp2_with fail
 refine K136.out.mono ?_
 rintro _ w1 ⟨rfl,hb1⟩
 have HA1:Hid (Blk (w1.alloc (.cells #[.bool true,.int .u32 (qa:Int),.int .u8 (qp:Int),.int .u8 3,.int .u8 (qe:Int),.int .u16 (qb:Int),.int .u16 (qt:Int)] 29)) w1.heap.size 29 #[.bool true,.int .u32 (qa:Int),.int .u8 (qp:Int),.int .u8 3,.int .u8 (qe:Int),.int .u16 (qb:Int),.int .u16 (qt:Int)]):=Lib.hid (Blk.new w1 29 #[.bool true,.int .u32 (qa:Int),.int .u8 (qp:Int),.int .u8 3,.int .u8 (qe:Int),.int .u16 (qb:Int),.int .u16 (qt:Int)])
 have HB1:Hid (Below w.heap.size w (w1.alloc (.cells #[.bool true,.int .u32 (qa:Int),.int .u8 (qp:Int),.int .u8 3,.int .u8 (qe:Int),.int .u16 (qb:Int),.int .u16 (qt:Int)] 29))):=Lib.hid (hb1.alloc hb1.size _)
 have HK1:Hid (Wk (w1.alloc (.cells #[.bool true,.int .u32 (qa:Int),.int .u8 (qp:Int),.int .u8 3,.int .u8 (qe:Int),.int .u16 (qb:Int),.int .u16 (qt:Int)] 29)) g k):=Lib.hid (Blk.below HW.out HB1.out hl0)
 have hlp:w.heap.size≤w1.heap.size:=hb1.size
 obtain ⟨pb,hpe⟩:∃ p,w1.heap.size=p:=⟨_,rfl⟩
 rw [hpe] at HA1 hlp
 have x307b:(w1.alloc (.cells #[.bool true,.int .u32 (qa:Int),.int .u8 (qp:Int),.int .u8 3,.int .u8 (qe:Int),.int .u16 (qb:Int),.int .u16 (qt:Int)] 29)).cell? ⟨g,307,none⟩=some (.int .i32 k.i.im):=HK1.out.cellT 4 307 rfl
 clear hb1 x307
 rw [him] at x307b
 go_upto_region 1 with fail
 generalize w1.alloc (.cells #[.bool true,.int .u32 (qa:Int),.int .u8 (qp:Int),.int .u8 3,.int .u8 (qe:Int),.int .u16 (qb:Int),.int .u16 (qt:Int)] 29)=W1 at *
 have y0:=HA1.out.cell 0
 have y1:=HA1.out.cell 1
 have y2:=HA1.out.cell 2
 have y3:=HA1.out.cell 3
 have y4:=HA1.out.cell 4
 have y5:=HA1.out.cell 5
 have y6:=HA1.out.cell 6
 simp only [List.getElem?_toArray,List.getElem?_cons_zero,List.getElem?_cons_succ] at y0 y1 y2 y3 y4 y5 y6
 have fz3:=HA1.out.frozen 3
 have hlW:=HA1.out.lt
 have hlg:g<W1.heap.size:=HK1.out.lt
 have hfo:=Blk.frozen HK1.out 300
 have hx300:W1.cell? ⟨g,300,none⟩=some (.bool k.N.on):=by
  rw [Blk.cell HK1.out,List.getElem?_toArray,show 300=152+(147+1) by omega,k.atN _ (by omega),k.N.tl 1]
  rfl
 have hgp:pb≠g:=by omega
 have hgp2:g≠pb:=by omega
 clear hpe
 have HK2:Hid (Wk (W1.setCell ⟨g,300,none⟩ (.bool true)) g (k.onN true)):=Lib.hid (by
  have:=Blk.set_ HK1.out 300 (.bool true)
  rw [k.onN_L] at this
  exact this)
 have HA2:Hid (Blk (W1.setCell ⟨g,300,none⟩ (.bool true)) pb 29 #[.bool true,.int .u32 (qa:Int),.int .u8 (qp:Int),.int .u8 3,.int .u8 (qe:Int),.int .u16 (qb:Int),.int .u16 (qt:Int)]):=Lib.hid (Blk.far HA1.out hgp _)
 have HS2:Hid (Sv g w.heap.size w (W1.setCell ⟨g,300,none⟩ (.bool true))):=Lib.hid ((Below.sv HB1.out (Nat.le_refl _)).trans ⟨rfl,rfl,rfl,by simp,fun k' hk' hg'=>Below.heap_setCell _ _ _ _ hg'⟩)
 have HK3:Hid (Wk ((W1.setCell ⟨g,300,none⟩ (.bool true)).setCell ⟨pb,3,none⟩ (.int .u8 0)) g (k.onN true)):=Lib.hid (Blk.far HK2.out hgp2 _)
 have HA3:Hid (Blk ((W1.setCell ⟨g,300,none⟩ (.bool true)).setCell ⟨pb,3,none⟩ (.int .u8 0)) pb 29 #[.bool true,.int .u32 (qa:Int),.int .u8 (qp:Int),.int .u8 0,.int .u8 (qe:Int),.int .u16 (qb:Int),.int .u16 (qt:Int)]):=Lib.hid (by
  have:=Blk.set_ HA2.out 3 (.int .u8 0)
  simpa using this)
 have HS3:Hid (Sv g w.heap.size w ((W1.setCell ⟨g,300,none⟩ (.bool true)).setCell ⟨pb,3,none⟩ (.int .u8 0))):=Lib.hid (HS2.out.trans ⟨rfl,rfl,rfl,by simp,fun k' hk' hg'=>Below.heap_setCell _ _ _ _ (by show k'≠pb;omega)⟩)
 have HZ3:Hid (w.heap.size≤(((W1.setCell ⟨g,300,none⟩ (.bool true)).setCell ⟨pb,3,none⟩ (.int .u8 0))).heap.size):=Lib.hid HS3.out.size
 go_upto_region 9 with fail
 generalize ((W1.setCell ⟨g,300,none⟩ (.bool true)).setCell ⟨pb,3,none⟩ (.int .u8 0))=W3 at *
 clear y0 y1 y2 y3 y4 y5 y6 fz3 hfo hx300 hlW hlg x307b
 have HSt:=Lib.hid (Stays.blk g pb 29 #[.bool true,.int .u32 (qa:Int),.int .u8 (qp:Int),.int .u8 0,.int .u8 (qe:Int),.int .u16 (qb:Int),.int .u16 (qt:Int)] hgp)
 refine at_eq fun T0 hT=>?_
 have hts:T0.size=60:=by rw [hT];rfl
 have fx0:T0.getD 0 undef=.pointer (some ⟨g,0,none⟩):=by rw [hT];rfl
 have fx2:T0.getD 2 undef=.pointer (some ⟨pb,0,none⟩):=by rw [hT];rfl
 have HT:=Lib.hid hT
 clear hT
 obtain ⟨ex,hex⟩:∃ ex:Nat→Ex,ex=fun p=>[(0,49,.pointer (some ⟨g,0,none⟩)),(1,50,.agg #[.bool true,.int .u32 (qa:Int),.int .u8 (qp:Int),.int .u8 0,.int .u8 (qe:Int),.int .u16 (qb:Int),.int .u16 (qt:Int)]),(2,51,.pointer (some ⟨pb,1,none⟩)),(3,52,.int .u32 (qa:Int)),(4,53,.pointer (some ⟨g,0,none⟩)),(5,54,.int .u32 (n:Int)),(6,55,.int .u32 (m:Int)),(7,56,.agg #[.bool q2.g,.int .u32 (q2.a:Int),.int .u8 (q2.p:Int),.int .u8 (q2.y:Int),.int .u8 (q2.e:Int),.int .u16 (q2.b:Int),.int .u16 (q2.t:Int)]),(8,57,.pointer (some ⟨g,0,none⟩)),(9,58,.pointer (some ⟨g,152,none⟩)),(10,59,.pointer (some ⟨g,264,none⟩))]:=⟨_,rfl⟩
 have HN:∀ p,apartB (ex p)=true:=by rw [hex];intro p;kernel_rfl
 have M0:∀ p,(0,49,.pointer (some ⟨g,0,none⟩))∈ex p:=by rw [hex];intro p;simp
 have M1:∀ p,(1,50,.agg #[.bool true,.int .u32 (qa:Int),.int .u8 (qp:Int),.int .u8 0,.int .u8 (qe:Int),.int .u16 (qb:Int),.int .u16 (qt:Int)])∈ex p:=by rw [hex];intro p;simp
 have M2:∀ p,(2,51,.pointer (some ⟨pb,1,none⟩))∈ex p:=by rw [hex];intro p;simp
 have M3:∀ p,(3,52,.int .u32 (qa:Int))∈ex p:=by rw [hex];intro p;simp
 have M4:∀ p,(4,53,.pointer (some ⟨g,0,none⟩))∈ex p:=by rw [hex];intro p;simp
 have M5:∀ p,(5,54,.int .u32 (n:Int))∈ex p:=by rw [hex];intro p;simp
 have M6:∀ p,(6,55,.int .u32 (m:Int))∈ex p:=by rw [hex];intro p;simp
 have M7:∀ p,(7,56,.agg #[.bool q2.g,.int .u32 (q2.a:Int),.int .u8 (q2.p:Int),.int .u8 (q2.y:Int),.int .u8 (q2.e:Int),.int .u16 (q2.b:Int),.int .u16 (q2.t:Int)])∈ex p:=by rw [hex];intro p;simp
 have M8:∀ p,(8,57,.pointer (some ⟨g,0,none⟩))∈ex p:=by rw [hex];intro p;simp
 have M9:∀ p,(9,58,.pointer (some ⟨g,152,none⟩))∈ex p:=by rw [hex];intro p;simp
 have M10:∀ p,(10,59,.pointer (some ⟨g,264,none⟩))∈ex p:=by rw [hex];intro p;simp
 refine wp_region_tm (by kernel_rfl) (by kernel_rfl) ex ((fun _=>JG g w.heap.size W3 (k.onN true) ((k.onN true).putN 16 q2) (fun W=>Blk W pb 29 #[.bool true,.int .u32 (qa:Int),.int .u8 (qp:Int),.int .u8 0,.int .u8 (qe:Int),.int .u16 (qb:Int),.int .u16 (qt:Int)]) 11 0)) 0 (JG.begin HSt.out HK3.out HA3.out HZ3.out _ _) ?_ (by rw [hex];intro p;kernel_rfl) ?_
 ·intro p l W i o hls hop hun hdep hj
  have hi:i<12:=(Array.getElem?_eq_some_iff.1 hop).1
  have hil:i<l.size:=by rw [hls];exact hi
  rcases (by omega:i=0∨i=1∨i=2∨i=3∨i=4∨i=5∨i=6∨i=7∨i=8∨i=9∨i=10∨i=11) with rfl | rfl | rfl | rfl | rfl | rfl | rfl | rfl | rfl | rfl | rfl | rfl
  ·cases hop
   have r0:=(tmA_none T0 (ex p) l 0 (by rw [hex];kernel_rfl)).trans fx0
   refine wpOp_of rfl rfl ?_
   refine wp_move (.tmp 0) rfl _ r0 ?_
   exact step_val (p':=p) _ (HN _) (M0 _) hil (by rw [hts];decide) rfl (hj.other HSt.out 0 (by decide) (Below.refl _ _))
  ·cases hop
   have r2:=(tmA_none T0 (ex p) l 2 (by rw [hex];kernel_rfl)).trans fx2
   refine wpOp_of rfl rfl ?_
   refine wp_load_row 29 (.tmp 2) rfl pb r2 29 #[.bool true,.int .u32 (qa:Int),.int .u8 (qp:Int),.int .u8 0,.int .u8 (qe:Int),.int .u16 (qb:Int),.int .u16 (qt:Int)] (0,0) _ hj.x Tryz.underlying29 rfl info29s ?_
   exact step_val (p':=p) _ (HN _) (M1 _) hil (by rw [hts];decide) rfl (hj.other HSt.out 1 (by decide) (Below.refl _ _))
  ·cases hop
   have r2:=(tmA_none T0 (ex p) l 2 (by rw [hex];kernel_rfl)).trans fx2
   refine wpOp_of rfl rfl ?_
   refine wp_fa 29 (.tmp 2) 1 0 rfl pb 0 1 r2 (fa29_1 pb) ?_
   exact step_val (p':=p) _ (HN _) (M2 _) hil (by rw [hts];decide) rfl (hj.other HSt.out 2 (by decide) (Below.refl _ _))
  ·cases hop
   have r51:=tmA_some T0 _ _ (HN p) 2 51 _ (M2 p) (hdep ⟨2,.data⟩ (by simp) rfl) (by rw [hts];decide)
   refine wpOp_of rfl rfl ?_
   refine wp_ld 25 (.tmp 51) rfl ⟨pb,1,none⟩ _ r51 agg25 (hj.x.cell 1) ?_
   exact step_val (p':=p) _ (HN _) (M3 _) hil (by rw [hts];decide) rfl (hj.other HSt.out 3 (by decide) (Below.refl _ _))
  ·cases hop
   have r0:=(tmA_none T0 (ex p) l 0 (by rw [hex];kernel_rfl)).trans fx0
   refine wpOp_of rfl rfl ?_
   refine wp_move (.tmp 0) rfl _ r0 ?_
   exact step_val (p':=p) _ (HN _) (M4 _) hil (by rw [hts];decide) rfl (hj.other HSt.out 4 (by decide) (Below.refl _ _))
  ·cases hop
   have r53:=tmA_some T0 _ _ (HN p) 4 53 _ (M4 p) (hdep ⟨4,.data⟩ (by simp) rfl) (by rw [hts];decide)
   refine wpOp_of rfl rfl ?_
   refine wp_call1 97 (.tmp 53) 116 rfl _ r53 (cf97 _) ?_
   refine (hj.imm rfl rfl n HI.out).mono ?_
   rintro _ _ ⟨rfl,rfl⟩
   exact step_val (p':=p) _ (HN _) (M5 _) hil (by rw [hts];decide) rfl (hj.other HSt.out 5 (by decide) (Below.refl _ _))
  ·cases hop
   have r52:=tmA_some T0 _ _ (HN p) 3 52 _ (M3 p) (hdep ⟨3,.data⟩ (by simp) rfl) (by rw [hts];decide)
   have r54:=tmA_some T0 _ _ (HN p) 5 54 _ (M5 p) (hdep ⟨5,.data⟩ (by simp) rfl) (by rw [hts];decide)
   refine wpOp_of rfl rfl ?_
   refine wp_add (.tmp 52) (.tmp 54) rfl _ _ _ r52 r54 hw ?_
   exact step_val (p':=p) _ (HN _) (M6 _) hil (by rw [hts];decide) rfl (hj.other HSt.out 6 (by decide) (Below.refl _ _))
  ·cases hop
   have r50:=tmA_some T0 _ _ (HN p) 1 50 _ (M1 p) (hdep ⟨1,.data⟩ (by simp) rfl) (by rw [hts];decide)
   have r55:=tmA_some T0 _ _ (HN p) 6 55 _ (M6 p) (hdep ⟨6,.data⟩ (by simp) rfl) (by rw [hts];decide)
   refine wpOp_of rfl rfl ?_
   refine wp_call2 91 (.tmp 50) (.tmp 55) 29 25 rfl _ _ r50 r55 (cf91 _ _) ?_
   refine (K91.out W).mono ?_
   rintro _ W' ⟨rfl,hb⟩
   exact step_val (p':=p) _ (HN _) (M7 _) hil (by rw [hts];decide) rfl (hj.other HSt.out 7 (by decide) hb)
  ·cases hop
   have r49:=tmA_some T0 _ _ (HN p) 0 49 _ (M0 p) (hdep ⟨0,.data⟩ (by simp) rfl) (by rw [hts];decide)
   refine wpOp_of rfl rfl ?_
   refine wp_nil (.tmp 49) rfl _ r49 ?_
   exact step_val (p':=p) _ (HN _) (M8 _) hil (by rw [hts];decide) rfl (hj.other HSt.out 8 (by decide) (Below.refl _ _))
  ·cases hop
   have r57:=tmA_some T0 _ _ (HN p) 8 57 _ (M8 p) (hdep ⟨8,.data⟩ (by simp) rfl) (by rw [hts];decide)
   refine wpOp_of rfl rfl ?_
   refine wp_fa 81 (.tmp 57) 2 0 rfl g 0 152 r57 (fa81_2 g) ?_
   exact step_val (p':=p) _ (HN _) (M9 _) hil (by rw [hts];decide) rfl (hj.other HSt.out 9 (by decide) (Below.refl _ _))
  ·cases hop
   have r58:=tmA_some T0 _ _ (HN p) 9 58 _ (M9 p) (hdep ⟨9,.data⟩ (by simp) rfl) (by rw [hts];decide)
   refine wpOp_of rfl rfl ?_
   refine wp_fa 32 (.tmp 58) 1 0 rfl g 152 264 r58 (fa32N_1 g) ?_
   exact step_val (p':=p) _ (HN _) (M10 _) hil (by rw [hts];decide) rfl (hj.other HSt.out 10 (by decide) (Below.refl _ _))
  ·cases hop
   have hun':=getD_un hun
   have r59:=tmA_some T0 _ _ (HN p) 10 59 _ (M10 p) (hdep ⟨10,.data⟩ (by simp) rfl) (by rw [hts];decide)
   have r56:=tmA_some T0 _ _ (HN p) 7 56 _ (M7 p) (hdep ⟨7,.data⟩ (by simp) rfl) (by rw [hts];decide)
   refine wpOp_of rfl rfl ?_
   have hput:putA (k.onN true).L.toArray 264 (#[.bool q2.g,.int .u32 (q2.a:Int),.int .u8 (q2.p:Int),.int .u8 (q2.y:Int),.int .u8 (q2.e:Int),.int .u16 (q2.b:Int),.int .u16 (q2.t:Int)]).toList=((k.onN true).putN 16 q2).L.toArray:=HP.out
   refine wp_store_sub 29 (.tmp 59) (.tmp 56) rfl g 264 #[.bool q2.g,.int .u32 (q2.a:Int),.int .u8 (q2.p:Int),.int .u8 (q2.y:Int),.int .u8 (q2.e:Int),.int .u16 (q2.b:Int),.int .u16 (q2.t:Int)] r59 r56 81 (k.onN true).L.toArray (hj.first hun') info29s (by have:=(k.onN true).len;simp;omega) (arr_all q2) ?_
   rw [hput]
   exact step_none (by rw [hex];kernel_rfl) _ (hj.stored HSt.out hil (blk_row (hj.first hun') _) (only_row _ g _))
 ·intro p l W hall hj
  have hk:=hj.last (hall 11 (by show 11<12;omega))
  have hs:=HS3.out.trans hj.sv
  subst hex
  rw [HT.out]
  simp only [putAll]
  clear hj hall
  go_wp2_with fail
  go_end0
  exact ⟨rfl,hk,hs⟩
def Cq.jok (q:Cq) (im:Int):Bool:=q.g&&(decide (q.p/8%2=1)&&(decide (q.y≤3)&&(decide (q.y=0)||decide (im=0))))
set_option maxHeartbeats 1000000 in
theorem c133_ta (g:Nat) (k:WK) (r1:Nat) (qg:Bool) (qa qp qy qe qb qt:Nat) (w:World) (h:Wk w g k) (hr:k.i.r1=r1) (hr16:r1<16) (hq:k.A.c r1=⟨qg,qa,qp,qy,qe,qb,qt⟩) (hf:(⟨qg,qa,qp,qy,qe,qb,qt⟩:Cq).fit) (hg:qg=false) :
  Calls Tryz.prog 133 #[.pointer (some ⟨g,0,none⟩)] w fun e w'=>e=.panicked [{ v:=.iface 118 (.agg #[.int .u32 5]),recovered:=false }]∧Below w.heap.size w w':=by
 subst hg
 have K136:=Lib.hid (c136 g k w h r1 _ hr hq hr16)
 have hl0:=Blk.lt h
 have HW:=Lib.hid h
 have hfp:=hf.2.1
 clear h hq hr hf
 go_enter Tryz.func133,Tryz.ntmps133
 go_wp2_with fail
 refine K136.out.mono ?_
 rintro _ w1 ⟨rfl,hb1⟩
 have HB1:=Lib.hid (hb1.alloc hb1.size (.cells #[.bool false,.int .u32 (qa:Int),.int .u8 (qp:Int),.int .u8 (qy:Int),.int .u8 (qe:Int),.int .u16 (qb:Int),.int .u16 (qt:Int)] 29))
 have x307:(w1.alloc (.cells #[.bool false,.int .u32 (qa:Int),.int .u8 (qp:Int),.int .u8 (qy:Int),.int .u8 (qe:Int),.int .u16 (qb:Int),.int .u16 (qt:Int)] 29)).cell? ⟨g,307,none⟩=some (.int .i32 k.i.im):=(HW.out.under HB1.out hl0).cellT 4 307 rfl
 have hlg:g<w1.heap.size:=by have:=hb1.size;omega
 clear hb1 HW
 go_wp2_with fail
 exact ⟨rfl,rfl,HB1.out⟩
set_option maxHeartbeats 1000000 in
theorem c133_tb (g:Nat) (k:WK) (r1:Nat) (qg:Bool) (qa qp qy qe qb qt:Nat) (w:World) (h:Wk w g k) (hr:k.i.r1=r1) (hr16:r1<16) (hq:k.A.c r1=⟨qg,qa,qp,qy,qe,qb,qt⟩) (hf:(⟨qg,qa,qp,qy,qe,qb,qt⟩:Cq).fit) (hg:qg=true) (h8:qp/8%2=0) :
  Calls Tryz.prog 133 #[.pointer (some ⟨g,0,none⟩)] w fun e w'=>e=.panicked [{ v:=.iface 118 (.agg #[.int .u32 5]),recovered:=false }]∧Below w.heap.size w w':=by
 subst hg
 have ha8:=u8and8z qp hf.2.1 h8
 have K136:=Lib.hid (c136 g k w h r1 _ hr hq hr16)
 have hl0:=Blk.lt h
 have HW:=Lib.hid h
 have hfp:=hf.2.1
 clear h hq hr hf
 go_enter Tryz.func133,Tryz.ntmps133
 go_wp2_with fail
 refine K136.out.mono ?_
 rintro _ w1 ⟨rfl,hb1⟩
 have HB1:=Lib.hid (hb1.alloc hb1.size (.cells #[.bool true,.int .u32 (qa:Int),.int .u8 (qp:Int),.int .u8 (qy:Int),.int .u8 (qe:Int),.int .u16 (qb:Int),.int .u16 (qt:Int)] 29))
 have x307:(w1.alloc (.cells #[.bool true,.int .u32 (qa:Int),.int .u8 (qp:Int),.int .u8 (qy:Int),.int .u8 (qe:Int),.int .u16 (qb:Int),.int .u16 (qt:Int)] 29)).cell? ⟨g,307,none⟩=some (.int .i32 k.i.im):=(HW.out.under HB1.out hl0).cellT 4 307 rfl
 have hlg:g<w1.heap.size:=by have:=hb1.size;omega
 clear hb1 HW
 go_wp2_with fail
 exact ⟨rfl,rfl,HB1.out⟩
set_option maxHeartbeats 1000000 in
theorem c133_tc (g:Nat) (k:WK) (r1:Nat) (qg:Bool) (qa qp qy qe qb qt:Nat) (w:World) (h:Wk w g k) (hr:k.i.r1=r1) (hr16:r1<16) (hq:k.A.c r1=⟨qg,qa,qp,qy,qe,qb,qt⟩) (hf:(⟨qg,qa,qp,qy,qe,qb,qt⟩:Cq).fit) (hg:qg=true) (h8:qp/8%2=1) (h3:3<qy) :
  Calls Tryz.prog 133 #[.pointer (some ⟨g,0,none⟩)] w fun e w'=>e=.panicked [{ v:=.iface 118 (.agg #[.int .u32 5]),recovered:=false }]∧Below w.heap.size w w':=by
 subst hg
 have ha8:=u8and8 qp hf.2.1 h8
 have b3:decide ((3:Int)<(qy:Int))=true:=decide_eq_true (by omega)
 have K136:=Lib.hid (c136 g k w h r1 _ hr hq hr16)
 have hl0:=Blk.lt h
 have HW:=Lib.hid h
 have hfp:=hf.2.1
 clear h hq hr hf
 go_enter Tryz.func133,Tryz.ntmps133
 go_wp2_with fail
 refine K136.out.mono ?_
 rintro _ w1 ⟨rfl,hb1⟩
 have HB1:=Lib.hid (hb1.alloc hb1.size (.cells #[.bool true,.int .u32 (qa:Int),.int .u8 (qp:Int),.int .u8 (qy:Int),.int .u8 (qe:Int),.int .u16 (qb:Int),.int .u16 (qt:Int)] 29))
 have x307:(w1.alloc (.cells #[.bool true,.int .u32 (qa:Int),.int .u8 (qp:Int),.int .u8 (qy:Int),.int .u8 (qe:Int),.int .u16 (qb:Int),.int .u16 (qt:Int)] 29)).cell? ⟨g,307,none⟩=some (.int .i32 k.i.im):=(HW.out.under HB1.out hl0).cellT 4 307 rfl
 have hlg:g<w1.heap.size:=by have:=hb1.size;omega
 clear hb1 HW
 go_wp2_with fail
 exact ⟨rfl,rfl,HB1.out⟩
set_option maxHeartbeats 1000000 in
theorem c133_td (g:Nat) (k:WK) (r1:Nat) (qg:Bool) (qa qp qy qe qb qt:Nat) (w:World) (h:Wk w g k) (hr:k.i.r1=r1) (hr16:r1<16) (hq:k.A.c r1=⟨qg,qa,qp,qy,qe,qb,qt⟩) (hf:(⟨qg,qa,qp,qy,qe,qb,qt⟩:Cq).fit) (hg:qg=true) (h8:qp/8%2=1) (h3:qy≤3) (h0:qy≠0) (him:k.i.im≠0) :
  Calls Tryz.prog 133 #[.pointer (some ⟨g,0,none⟩)] w fun e w'=>e=.panicked [{ v:=.iface 118 (.agg #[.int .u32 5]),recovered:=false }]∧Below w.heap.size w w':=by
 subst hg
 have ha8:=u8and8 qp hf.2.1 h8
 have b3:decide ((3:Int)<(qy:Int))=false:=decide_eq_false (by omega)
 have b0:((qy:Int)==0)=false:=by rw [beq_eq_false_iff_ne];omega
 have bn:((qy:Int) != 0)=true:=by simp;omega
 have bi:(k.i.im != 0)=true:=by simp;exact him
 have K136:=Lib.hid (c136 g k w h r1 _ hr hq hr16)
 have hl0:=Blk.lt h
 have HW:=Lib.hid h
 have hfp:=hf.2.1
 clear h hq hr hf
 go_enter Tryz.func133,Tryz.ntmps133
 go_wp2_with fail
 refine K136.out.mono ?_
 rintro _ w1 ⟨rfl,hb1⟩
 have HB1:=Lib.hid (hb1.alloc hb1.size (.cells #[.bool true,.int .u32 (qa:Int),.int .u8 (qp:Int),.int .u8 (qy:Int),.int .u8 (qe:Int),.int .u16 (qb:Int),.int .u16 (qt:Int)] 29))
 have x307:(w1.alloc (.cells #[.bool true,.int .u32 (qa:Int),.int .u8 (qp:Int),.int .u8 (qy:Int),.int .u8 (qe:Int),.int .u16 (qb:Int),.int .u16 (qt:Int)] 29)).cell? ⟨g,307,none⟩=some (.int .i32 k.i.im):=(HW.out.under HB1.out hl0).cellT 4 307 rfl
 have hlg:g<w1.heap.size:=by have:=hb1.size;omega
 clear hb1 HW
 go_wp2_with fail
 exact ⟨rfl,rfl,HB1.out⟩
theorem c133_trap (g:Nat) (k:WK) (r1:Nat) (q:Cq) (w:World) (h:Wk w g k) (hr:k.i.r1=r1) (hr16:r1<16) (hq:k.A.c r1=q) (hf:q.fit) (hj:q.jok k.i.im=false) :
  Calls Tryz.prog 133 #[.pointer (some ⟨g,0,none⟩)] w fun e w'=>e=.panicked [{ v:=.iface 118 (.agg #[.int .u32 5]),recovered:=false }]∧Below w.heap.size w w':=by
 obtain ⟨qg,qa,qp,qy,qe,qb,qt⟩:=q
 unfold Cq.jok at hj
 cases hg:qg with
 | false=>subst hg;exact c133_ta g k r1 false qa qp qy qe qb qt w h hr hr16 hq hf rfl
 | true =>
  subst hg
  by_cases h8:qp/8%2=1
  ·by_cases h3:qy≤3
   ·by_cases h0:qy=0
    ·simp [h8,h0] at hj
    ·by_cases hi:k.i.im=0
     ·simp [h8,h3,hi] at hj
     ·exact c133_td g k r1 true qa qp qy qe qb qt w h hr hr16 hq hf rfl h8 h3 h0 hi
   ·exact c133_tc g k r1 true qa qp qy qe qb qt w h hr hr16 hq hf rfl h8 (by omega)
  ·exact c133_tb g k r1 true qa qp qy qe qb qt w h hr hr16 hq hf rfl (by omega)
def WK.jmp (k:WK) (q:Cq) (n:Nat):WK:=(if q.y=2 then k.onN false else if q.y=3 then k.onN true else k).putN 16 ((q.ty 0).sa ((q.a+n)%4294967296))
theorem c133_ok (g:Nat) (k:WK) (r1 n:Nat) (q:Cq) (w:World) (h:Wk w g k) (hr:k.i.r1=r1) (hr16:r1<16) (hq:k.A.c r1=q) (hf:q.fit) (hn:k.i.im%4294967296=(n:Int)) (hj:q.jok k.i.im=true) :
  Calls Tryz.prog 133 #[.pointer (some ⟨g,0,none⟩)] w fun e w'=>e=.returned (.tuple #[])∧Wk w' g (k.jmp q n)∧Sv g w.heap.size w w':=by
 obtain ⟨qg,qa,qp,qy,qe,qb,qt⟩:=q
 unfold Cq.jok at hj
 simp only [Bool.and_eq_true,Bool.or_eq_true,decide_eq_true_eq] at hj
 obtain ⟨rfl,h8,h3,h0⟩:=hj
 have:qy=0∨qy=1∨qy=2∨qy=3:=by omega
 rcases this with rfl | rfl | rfl | rfl
 ·exact c133_0 g k r1 n qa qp qe qb qt w h hr hr16 hq hf h8 hn
 ·exact c133_1 g k r1 n qa qp qe qb qt w h hr hr16 hq hf h8 hn (by rcases h0 with h0 | h0;cases h0;exact h0)
 ·exact c133_2 g k r1 n qa qp qe qb qt w h hr hr16 hq hf h8 hn (by rcases h0 with h0 | h0;cases h0;exact h0)
 ·exact c133_3 g k r1 n qa qp qe qb qt w h hr hr16 hq hf h8 hn (by rcases h0 with h0 | h0;cases h0;exact h0)
end Go.Proofs.YtnkoknfihhdelaaGreatDoor
