import Derived.Test.YtnkoknfihhdelaaGreatDoorZTc
import Derived.Test.YtnkoknfihhdelaaGreatDoorZSf
import Derived.Test.YtnkoknfihhdelaaGreatDoorZUA
import Derived.Test.YtnkoknfihhdelaaGreatDoorZIYa
import Derived.Test.YtnkoknfihhdelaaGreatDoorZQ
import Derived.Test.YtnkoknfihhdelaaGreatDoorZIO
namespace Go.Proofs.YtnkoknfihhdelaaGreatDoor
open Go.ChangeShapes Go.WideShapes Go.ChangeAt Go.RowKit
set_option linter.unusedVariables false
set_option maxRecDepth 100000
theorem WK.tl_c (k:WK) (o t:Nat) (x y z:Bool):(k.tl o t x y z).d.cause=k.d.cause:=rfl
theorem ite_c (p:Prop) [Decidable p] (a b:WK) (c:Nat) (h1:a.d.cause=c) (h2:b.d.cause=c):(if p then a else b).d.cause=c:=by
 split
 ·exact h1
 ·exact h2
theorem WK.putN_c (k:WK) (r:Nat) (x:Cq):(k.putN r x).d.cause=k.d.cause:=rfl
theorem WK.putN_cc (k:WK) (r:Nat) (x:Cq) (r2:Nat) (x2:Cq):((k.putN r x).putN r2 x2).d.cause=k.d.cause:=rfl
theorem WK.onN_c (k:WK) (r:Nat) (x:Cq) (z:Bool):((k.putN r x).onN z).d.cause=k.d.cause:=rfl
theorem WK.jmp_c (k:WK) (q:Cq) (n r:Nat) (x:Cq):((k.jmp q n).putN r x).d.cause=k.d.cause:=by rw [WK.putN_c,WK.jmp_tc]
theorem WK.spec_c (k:WK) (rd r1:Nat) (q:Cq):(k.spec rd r1 q).d.cause=k.d.cause:=by rw [WK.spec_d]
theorem WK.doK_c (k:WK) (aD:Nat→Nat→Nat→Nat) (aI:Nat→Nat→Nat→Bool) (M:Nat→Nat) (T:Nat→Bool):(k.doK aD aI M T).d.cause=k.d.cause:=by
 unfold WK.doK
 exact (ite_c _ _ _ _ (WK.putN_c _ _ _) (ite_c _ _ _ _ (WK.putN_c _ _ _) (ite_c _ _ _ _ (WK.putN_cc _ _ _ _ _) (ite_c _ _ _ _ (WK.jmp_c _ _ _ _ _) (ite_c _ _ _ _ (ite_c _ _ _ _ (WK.putN_c _ _ _) rfl) (ite_c _ _ _ _ (WK.putN_c _ _ _) (ite_c _ _ _ _ (ite_c _ _ _ _ (WK.tl_c _ _ _ _ _ _) rfl) (ite_c _ _ _ _ (WK.putN_c _ _ _) (ite_c _ _ _ _ (WK.putN_c _ _ _) (ite_c _ _ _ _ (WK.putN_c _ _ _) (ite_c _ _ _ _ (WK.putN_c _ _ _) (ite_c _ _ _ _ (WK.spec_c _ _ _ _) (ite_c _ _ _ _ (WK.onN_c _ _ _ _) (ite_c _ _ _ _ (WK.putN_c _ _ _) (ite_c _ _ _ _ (WK.putN_c _ _ _) (ite_c _ _ _ _ (WK.putN_c _ _ _) (ite_c _ _ _ _ (WK.putN_c _ _ _) (ite_c _ _ _ _ (WK.putN_c _ _ _) (ite_c _ _ _ _ (WK.putN_c _ _ _) (ite_c _ _ _ _ (WK.putN_c _ _ _) (ite_c _ _ _ _ (WK.putN_c _ _ _) (ite_c _ _ _ _ (WK.putN_c _ _ _) (ite_c _ _ _ _ (WK.putN_c _ _ _) (WK.putN_c _ _ _))))))))))))))))))))))))
theorem Stepped.only {b:Nat} {w w':World} {v:Value} {m:Nat} {xs:List Value} {M:Nat→Nat} {T:Nat→Bool} (h:Stepped b w w' v m xs M T):Only b w w' :=
 ⟨fun B hB hs=>⟨h.os,h.tape,h.output,h.size,fun k hk=>h.block k (by omega) (by omega)⟩,fun k hk hl=>h.block k hl hk⟩
theorem WK.tc_c (k:WK) (v:Value):(k.tc v).d.cause=k.d.cause:=rfl
theorem c10_six (w0:World) (b r x y:Nat) (B:Nat→Nat) (T:Nat→Bool) (w:World) (hJ:J w0 b r x y B T w) (s:St) (hf:∀ i,(s.c i).fit) (hh:s.halted=false) (tm:Bool) (hgl:In.Glob w) :
  Calls Tryz.prog 10 #[.pointer (some ⟨b,0,none⟩),.agg s.L.toArray,.bool tm,.int .u32 0] w fun e w'=>∃ (X:St) (D:Dn),(∃ q l c,D.tc=.slice q l c)∧e=.returned (.tuple #[.agg X.L.toArray,.agg D.L.toArray,.int .i64 0])∧Below w0.heap.size w0 w' ∧
   (D.cause=0∨(D.cause≠0∧X=trp (s.put 0 nul) D.cause∧J w0 b r x y B T w')):=by
 have hM:∀ i,B i<256:=hJ.rm.lt
 by_cases hon:(tm&&s.on)=true
 ·simp only [Bool.and_eq_true] at hon
  obtain ⟨rfl,ho⟩:=hon
  refine (c10_timer b s 0 B T w hJ.m hh ho).mono ?_
  rintro e w' ⟨hb,rfl⟩
  have J2:=hJ.below hb
  exact ⟨trp (s.put 0 nul) 2147483655,dnT,⟨none,0,0,rfl⟩,rfl,J2.bel,Or.inr ⟨by decide,rfl,J2⟩⟩
 ·have hon2:(tm&&s.on)=false:=by simpa using hon
  obtain ⟨k,hk⟩:∃ k,wk0 (.pointer (some ⟨b,0,none⟩)) (s.put 0 nul) 0=k:=⟨_,rfl⟩
  have hkc:k.d.cause=0:=by rw [←hk];rfl
  refine (c10_go b s tm 0 k B T aluD ali w hJ.m hM hh hon2 hf hgl hgl.size alu_ok hk).mono ?_
  rintro e w' ⟨k',v,m',xs',M',T',hA,hv,hS,rfl⟩
  have hO:=hS.only
  have hbel:Below w0.heap.size w0 w':=hJ.bel.trans (hO.1 _ hJ.lb hJ.bel.size)
  obtain ⟨q,l,c,hq⟩:∃ q l c,k'.d.tc=.slice q l c:=by
   rw [hv]
   exact tc_slice hS.row
  rcases hA with ⟨h0,h1,h2,h3,h4,h5⟩ | ⟨h0,⟨v0,h1⟩,h2,h3,h4,h5⟩
  ·subst h4 h5
   have J2:=hJ.only hO hS.mem
   refine ⟨_,_,?_,rfl,hbel,Or.inr ⟨?_,?_,hS.mem,J2.2.2,hJ.br,hJ.bx,hJ.by_,hJ.lb,hJ.lr,hJ.lx,hJ.ly,hbel⟩⟩
   ·unfold stepD
    rw [if_neg h0]
    exact ⟨q,l,c,hq⟩
   ·unfold stepD
    rw [if_neg h0]
    exact h0
   ·unfold stepD stepS
    rw [if_neg h0,if_neg h0]
  ·refine ⟨_,_,?_,rfl,hbel,Or.inl ?_⟩
   ·unfold stepD
    rw [if_pos h0]
    exact ⟨q,l,c,hq⟩
   ·unfold stepD
    rw [if_pos h0,h1,WK.tc_c,WK.doK_c,WK.tc_c,WK.k1_d]
    exact hkc
theorem info30s:(Tryz.prog.info? 30).map (·.size)=some 112:=by kernel_rfl
theorem Fls.below {w w':World} {A:Option Addr} {n:Nat} {f:Nat→Nat} {q:Nat→Cq} (h:Fls w A n f q) (hb:Below w.heap.size w w'):Fls w' A n f q:=fun hn=>by
 obtain ⟨b,o,rfl,hl,hc⟩:=h hn
 refine ⟨b,o,rfl,Nat.lt_of_lt_of_le hl hb.size,fun j hj=>?_⟩
 obtain ⟨h1,h2,h3,h4⟩:=hc j hj
 exact ⟨(hb.cell (p:=⟨b,o+j*8,none⟩) hl).trans h1,fun i v hv=>(hb.cell (p:=⟨b,o+j*8+1+i,none⟩) hl).trans (h2 i v hv),h3,h4⟩
set_option maxHeartbeats 4000000 in
theorem law6w (IA:Array Value) (E pw:Nat) (s t:St) (A2:Option Addr) (n2 c2:Nat) (f2:Nat→Nat) (q2:Nat→Cq) (tm:Bool) (w:World) (hg:In.Glob w) (h2:Fls w A2 n2 f2 q2) (hI:IA.size=5)
  (K15:∀ W,Calls Tryz.prog 15 #[.agg IA] W fun en w'=>en=.returned (.tuple #[.int .u32 (pw:Int),.int .i64 (E:Int)])∧Below W.heap.size W w') (hp:pw<4294967296)
  (K9:∀ W,Calls Tryz.prog 9 #[.agg s.L.toArray] W fun en w'=>en=.returned (.agg t.L.toArray)∧Below W.heap.size W w') (htf:∀ i,(t.c i).fit) :
  Calls Tryz.prog 6 #[.agg IA,.slice A2 n2 c2,.agg s.L.toArray,.bool tm] w fun en w'=>en=.returned (.bool true)∧Below w.heap.size w w':=by
 have hsz:=hg.size
 have HG:=Lib.hid hg
 have HF:=Lib.hid h2
 have H15:=Lib.hid K15
 have H9:=Lib.hid K9
 have HTF:=Lib.hid htf
 have hsS:s.L.toArray.size=151:=by rw [List.size_toArray];exact s.len
 have hsT:t.L.toArray.size=151:=by rw [List.size_toArray];exact t.len
 have h1T:t.L.toArray.all (·.oneCell')=true:=St.one _
 have NI:=Lib.hid hI
 obtain ⟨SA,hSA⟩:∃ SA,s.L.toArray=SA:=⟨_,rfl⟩
 obtain ⟨TA,hTA⟩:∃ TA,t.L.toArray=TA:=⟨_,rfl⟩
 rw [hSA] at hsS H9
 rw [hTA] at hsT h1T H9
 rw [hSA]
 have NS:=Lib.hid hsS
 have NT:=Lib.hid hsT
 have O1:=Lib.hid h1T
 have ETA:=Lib.hid hTA
 clear hsS hsT h1T hI h2 K15 K9 htf hSA hTA hg
 obtain ⟨N,hN⟩:∃ N,w.heap.size=N:=⟨_,rfl⟩
 have HI:Hid (Blk ((w.alloc (.cells IA 53)).alloc (.cells SA 32)) N 53 IA):=Lib.hid (by rw [←hN];exact (Blk.new w 53 IA).alloc _)
 have HS:Hid (Blk ((w.alloc (.cells IA 53)).alloc (.cells SA 32)) (N+1) 32 SA):=Lib.hid (by
  rw [←hN]
  have:=Blk.new (w.alloc (.cells IA 53)) 32 SA
  simpa using this)
 have HO:Hid (Below w.heap.size w ((w.alloc (.cells IA 53)).alloc (.cells SA 32))):=Lib.hid (((Below.refl _ _).alloc (Nat.le_refl _) _).alloc (by simp) _)
 have HN:=Lib.hid hN
 clear hsz
 go_enter Tryz.func6,Tryz.ntmps6
 go_upto_region 1 with fail
 generalize (w.alloc (.cells IA 53)).alloc (.cells SA 32)=W at *
 go_wp2_with (first | (refine wpList_load_row rfl 53 (.tmp 4) rfl N rfl 53 IA (0,0) _ HI.out Tryz.underlying53 rfl (by rw [info53s,NI.out]) ?_))
 refine (H15.out W).mono ?_
 rintro _ W1 ⟨rfl,hb1⟩
 have HS1:Hid (Blk W1 (N+1) 32 SA):=Lib.hid (HS.out.below hb1 HS.out.lt)
 have HO1:Hid (Below w.heap.size w W1):=Lib.hid (HO.out.trans (hb1.mono HO.out.size))
 clear hb1 HS HI HO
 go_wp2_with (first | (refine wpList_load_row rfl 32 (.tmp 6) rfl (N+1) rfl 32 SA (0,0) _ HS1.out Tryz.underlying32 rfl (by rw [info32s,NS.out]) ?_))
 refine (H9.out W1).mono ?_
 rintro _ W2 ⟨rfl,hb2⟩
 have HS2:Hid (Blk W2 (N+1) 32 SA):=Lib.hid (HS1.out.below hb2 HS1.out.lt)
 have HO2:Hid (Below w.heap.size w W2):=Lib.hid (HO1.out.trans (hb2.mono HO1.out.size))
 clear hb2 HS1 HO1
 have HS3:Hid (Blk (W2.setRow (N+1) TA) (N+1) 32 TA):=Lib.hid (blk_row HS2.out _)
 have HO3:Hid (Below w.heap.size w (W2.setRow (N+1) TA)):=Lib.hid (below_setRow HO2.out (by rw [HN.out];omega) _)
 have HT3:Hid (Sb (W2.setRow (N+1) TA) (N+1) t):=Lib.hid (by unfold Sb;rw [ETA.out];exact HS3.out)
 go_upto_region 3 with (first | (refine wpList_store_row rfl 32 (.tmp 6) (.tmp 22) rfl (N+1) TA rfl rfl 32 SA HS2.out (by rw [info32s,NT.out]) (by rw [NS.out,NT.out]) O1.out ?_))
 generalize W2.setRow (N+1) TA=W3 at *
 clear HS2 HO2
 have hh:=HT3.out.tail.2.2.2
 by_cases hE:E=0
 ·subst hE
  cases hhl:t.halted with
  | true =>
   rw [hhl] at hh
   clear hhl
   go_wp2_with fail
   refine (lives W3 (HG.out.below HO3.out HG.out.size)).mono ?_
   rintro _ w8 ⟨rfl,hb8⟩
   have HB8:Hid (Below w.heap.size w w8):=Lib.hid (HO3.out.trans (hb8.mono HO3.out.size))
   clear hb8 hh
   go_wp2_with fail
   go_ret
   exact ⟨rfl,HB8.out⟩
  | false =>
   rw [hhl] at hh
   have hpc:W3.cell? ⟨N+1,113,none⟩=some (.int .u32 ((t.c 16).a:Int)):=HT3.out.cap 16 1 113 (by decide) (by decide) rfl
   have HHL:=Lib.hid hhl
   clear hhl
   obtain ⟨ad,had⟩:∃ ad,(t.c 16).a=ad:=⟨_,rfl⟩
   rw [had] at hpc
   clear had
   obtain ⟨u,hu⟩:∃ u:Nat,ad%65536=u:=⟨_,rfl⟩
   have hu2:IntKind.u16.wrap (ad:Int)=(u:Int):=by rw [IntKind.wrap_u16];omega
   have HU:Hid (u<65536):=Lib.hid (by omega)
   clear hu
   go_wp2_with fail
   have hOb:Below W3.heap.size W3 (W3.alloc (.cells #[.int .u32 (pw:Int)] 25)):=(Below.refl _ _).alloc (Nat.le_refl _) _
   have HOb:Hid (Below w.heap.size w (W3.alloc (.cells #[.int .u32 (pw:Int)] 25))):=Lib.hid (HO3.out.trans (hOb.mono HO3.out.size))
   have HWD:Hid (Wds (W3.alloc (.cells #[.int .u32 (pw:Int)] 25)) (some ⟨W3.heap.size,0,none⟩) 1 (fun _=>pw)):=Lib.hid (fun _=>⟨W3.heap.size,0,rfl,by simp,fun j hj=>by
    have:j=0:=by omega
    subst this
    refine ⟨?_,hp⟩
    rw [Blk.cell (Blk.new W3 25 #[.int .u32 (pw:Int)])]
    rfl⟩)
   have HFb:Hid (Fls (W3.alloc (.cells #[.int .u32 (pw:Int)] 25)) A2 n2 f2 q2):=Lib.hid (HF.out.below HOb.out)
   have HSb:Hid (Blk (W3.alloc (.cells #[.int .u32 (pw:Int)] 25)) (N+1) 32 TA):=Lib.hid (HS3.out.alloc _)
   refine (both_call u HU.out _ 1 1 _ A2 n2 c2 f2 q2 _ HWD.out HFb.out).mono ?_
   clear hOb HWD HFb hpc hh HS3 HT3
   generalize W3.alloc (.cells #[.int .u32 (pw:Int)] 25)=W4 at *
   rintro _ W5 ⟨b,r,x,y,rfl,B,T,hJ⟩
   have HJ:=Lib.hid hJ
   have HS5:Hid (Blk W5 (N+1) 32 TA):=Lib.hid (HSb.out.below hJ.bel HSb.out.lt)
   have HO5:Hid (Below w.heap.size w W5):=Lib.hid (HOb.out.trans (hJ.bel.mono HOb.out.size))
   have hlt5:=HSb.out.lt
   have K10:Hid (Calls Tryz.prog 10 #[.pointer (some ⟨b,0,none⟩),.agg TA,.bool tm,.int .u32 0] W5 fun e w'=>∃ (X:St) (D:Dn),(∃ q l c,D.tc=.slice q l c)∧e=.returned (.tuple #[.agg X.L.toArray,.agg D.L.toArray,.int .i64 0])∧Below W4.heap.size W4 w' ∧
    (D.cause=0∨(D.cause≠0∧X=trp (t.put 0 nul) D.cause∧J W4 b r x y B T w'))):=Lib.hid (by rw [←ETA.out];exact c10_six W4 b r x y B T W5 hJ t HTF.out HHL.out tm (HG.out.below HO5.out HG.out.size))
   clear hJ
   go_wp2_with (first | (refine wpList_load_row rfl 32 (.tmp 6) rfl (N+1) rfl 32 TA (0,0) _ HS5.out Tryz.underlying32 rfl (by rw [info32s,NT.out]) ?_))
   refine K10.out.mono ?_
   rintro _ W6 ⟨X,D,hsl,rfl,hb6,hXD⟩
   have HXD:=Lib.hid hXD
   have hO6:Below w.heap.size w W6:=HOb.out.trans (hb6.mono HOb.out.size)
   have HS6:Hid (Blk W6 (N+1) 32 TA):=Lib.hid (HSb.out.below hb6 HSb.out.lt)
   have hz:∀ W,(zeroValue 32).run Tryz.prog W=.ok (.agg st0.L.toArray) W:=z32
   have hz2:∀ W,(zeroValue 41).run Tryz.prog W=.ok (.agg dn0.L.toArray) W:=z41
   have hX1:X.L.toArray.size=151:=by rw [List.size_toArray];exact X.len
   have hX2:X.L.toArray.all (·.oneCell')=true:=St.one _
   have hZ1:st0.L.toArray.size=151:=by rw [List.size_toArray];exact st0.len
   have hD1:D.L.toArray.size=5:=rfl
   have hD2:D.L.toArray.all (·.oneCell')=true:=by
    obtain ⟨q,l,c,h⟩:=hsl
    exact dn_one D q l c h
   have hD3:∀ (W:World) (g:Nat),Blk W g 41 D.L.toArray→W.cell? ⟨g,0,none⟩=some (.int .u32 (D.cause:Int)):=fun W g h=>by rw [h.cell 0];rfl
   obtain ⟨XA,hXA⟩:∃ XA,X.L.toArray=XA:=⟨_,rfl⟩
   obtain ⟨ZA,hZA⟩:∃ ZA,st0.L.toArray=ZA:=⟨_,rfl⟩
   obtain ⟨DA,hDA⟩:∃ DA,D.L.toArray=DA:=⟨_,rfl⟩
   obtain ⟨D0,hD0⟩:∃ D0,dn0.L.toArray=D0:=⟨_,rfl⟩
   have hD4:D0.size=5:=by rw [←hD0];rfl
   rw [hXA] at hX1 hX2
   rw [hZA] at hZ1 hz
   rw [hDA] at hD1 hD2 hD3
   rw [hD0] at hz2
   rw [hXA,hDA]
   have PX1:=Lib.hid hX1
   have PX2:=Lib.hid hX2
   have PZ1:=Lib.hid hZ1
   have PD1:=Lib.hid hD1
   have PD2:=Lib.hid hD2
   have PD3:=Lib.hid hD3
   have PD4:=Lib.hid hD4
   have EXA:=Lib.hid hXA
   obtain ⟨P,hP⟩:∃ P,W6.heap.size=P:=⟨_,rfl⟩
   have hNP:N+1<P:=by rw [←hP];exact HS6.out.lt
   have HNP:=Lib.hid hNP
   have hQ0:Blk ((W6.alloc (.cells ZA 32)).alloc (.cells D0 41)) P 32 ZA:=by rw [←hP];exact (Blk.new W6 32 ZA).alloc _
   have hR0:Blk ((W6.alloc (.cells ZA 32)).alloc (.cells D0 41)) (P+1) 41 D0:=by
    rw [←hP]
    have:=Blk.new (W6.alloc (.cells ZA 32)) 41 D0
    simpa using this
   have hbA:Below W6.heap.size W6 ((W6.alloc (.cells ZA 32)).alloc (.cells D0 41)):=((Below.refl _ _).alloc (Nat.le_refl _) _).alloc (by simp) _
   have hbB:Below W6.heap.size W6 (((W6.alloc (.cells ZA 32)).alloc (.cells D0 41)).setRow P XA):=below_setRow hbA (by omega) _
   have hbC:Below W6.heap.size W6 ((((W6.alloc (.cells ZA 32)).alloc (.cells D0 41)).setRow P XA).setRow (P+1) DA):=below_setRow hbB (by omega) _
   have HQ0:=Lib.hid hQ0
   have HR1:Hid (Blk (((W6.alloc (.cells ZA 32)).alloc (.cells D0 41)).setRow P XA) (P+1) 41 D0):=Lib.hid ((only_row _ P XA).blk (by omega) hR0)
   have HQ2:Hid (Blk ((((W6.alloc (.cells ZA 32)).alloc (.cells D0 41)).setRow P XA).setRow (P+1) DA) P 32 XA):=Lib.hid ((only_row _ (P+1) DA).blk (by omega) (blk_row hQ0 XA))
   have HR2:Hid (Blk ((((W6.alloc (.cells ZA 32)).alloc (.cells D0 41)).setRow P XA).setRow (P+1) DA) (P+1) 41 DA):=Lib.hid (blk_row HR1.out DA)
   have HS7:Hid (Blk ((((W6.alloc (.cells ZA 32)).alloc (.cells D0 41)).setRow P XA).setRow (P+1) DA) (N+1) 32 TA):=Lib.hid (HS6.out.below hbC HS6.out.lt)
   have HO7:Hid (Below w.heap.size w ((((W6.alloc (.cells ZA 32)).alloc (.cells D0 41)).setRow P XA).setRow (P+1) DA)):=Lib.hid (hO6.trans (hbC.mono hO6.size))
   have HBC:=Lib.hid hbC
   clear hb6 hXD hO6 hX1 hX2 hZ1 hD1 hD2 hD3 hD4 hXA hZA hDA hD0 hQ0 hR0 hbA hbB hbC K10 HS5 HO5 HJ hsl hNP
   go_upto_region 7 with (first
    | (rw [hP])
    | (refine wpList_store_row rfl 32 (.tmp 13) (.tmp 46) rfl P XA rfl rfl 32 ZA HQ0.out (by rw [info32s,PX1.out]) (by rw [PZ1.out,PX1.out]) PX2.out ?_)
    | (refine wpList_store_row rfl 41 (.tmp 14) (.tmp 47) rfl (P+1) DA rfl rfl 41 D0 HR1.out (by rw [info41s,PD1.out]) (by rw [PD1.out,PD4.out]) PD2.out ?_))
   generalize (((W6.alloc (.cells ZA 32)).alloc (.cells D0 41)).setRow P XA).setRow (P+1) DA=W7 at *
   clear hP hz hz2 HQ0 HR1 HS6
   have x0:=PD3.out W7 (P+1) HR2.out
   by_cases hc0:D.cause=0
   ·rw [hc0] at x0
    clear hc0
    go_wp2_with fail
    refine (lives W7 (HG.out.below HO7.out HG.out.size)).mono ?_
    rintro _ w8 ⟨rfl,hb8⟩
    have HB8:Hid (Below w.heap.size w w8):=Lib.hid (HO7.out.trans (hb8.mono HO7.out.size))
    clear hb8 x0
    go_wp2_with fail
    go_ret
    exact ⟨rfl,HB8.out⟩
   ·have hXD:=HXD.out
    obtain ⟨_,hX,hJ6⟩:D.cause≠0∧X=trp (t.put 0 nul) D.cause∧J W4 b r x y B T W6:=by
     rcases hXD with h | h
     ·exact absurd h hc0
     ·exact h
    clear hXD HXD
    have hc1:((D.cause:Int)==0)=false:=by simp;omega
    generalize D.cause=z at *
    clear hc0
    have hput:putA TA 0 nul.L=(t.put 0 nul).L.toArray:=by rw [←ETA.out];exact t.putL 0 nul (by decide)
    obtain ⟨S,hS⟩:∃ S,t.put 0 nul=S:=⟨_,rfl⟩
    rw [hS] at hput hX
    have hS1:S.L.toArray.size=151:=by rw [List.size_toArray];exact S.len
    obtain ⟨S0,hS0⟩:∃ S0,S.L.toArray=S0:=⟨_,rfl⟩
    rw [hS0] at hput hS1
    have HPUT:Hid (putA TA 0 (#[Value.bool nul.g,.int .u32 (nul.a:Int),.int .u8 (nul.p:Int),.int .u8 (nul.y:Int),.int .u8 (nul.e:Int),.int .u16 (nul.b:Int),.int .u16 (nul.t:Int)]).toList=S0):=Lib.hid hput
    have HS8:Hid (Blk (W7.setRow (N+1) S0) (N+1) 32 S0):=Lib.hid (blk_row HS7.out _)
    have HQ8:Hid (Blk (W7.setRow (N+1) S0) P 32 XA):=Lib.hid ((only_row W7 (N+1) S0).blk (by have:=HNP.out;omega) HQ2.out)
    have HR8:Hid (Blk (W7.setRow (N+1) S0) (P+1) 41 DA):=Lib.hid ((only_row W7 (N+1) S0).blk (by have:=HNP.out;omega) HR2.out)
    have HO8:Hid (Below w.heap.size w (W7.setRow (N+1) S0)):=Lib.hid (below_setRow HO7.out (by rw [HN.out];omega) _)
    have J7:=hJ6.below HBC.out
    have HM8:Hid (Mem (W7.setRow (N+1) S0) b B T):=Lib.hid (J7.m.far (only_row W7 (N+1) S0) (by have:=J7.lb;omega))
    have HRM8:Hid (RM (W7.setRow (N+1) S0) r x y 65536 8192 B T):=Lib.hid (J7.rm.only (only_row W7 (N+1) S0) (by have:=J7.lr;omega) (by have:=J7.lx;omega) (by have:=J7.ly;omega))
    have HBL:Hid (∀ i,B i<256):=Lib.hid J7.rm.lt
    clear J7 hJ6 hput HO7 HBC
    go_upto_region 12 with (first
     | (refine wpList_store_sub rfl 29 (.tmp 57) (.tmp 55) rfl (N+1) 0 #[.bool nul.g,.int .u32 (nul.a:Int),.int .u8 (nul.p:Int),.int .u8 (nul.y:Int),.int .u8 (nul.e:Int),.int .u16 (nul.b:Int),.int .u16 (nul.t:Int)] rfl rfl 32 TA HS7.out info29s (by rw [NT.out];decide) (arr_all nul) ?_;rw [HPUT.out]))
    generalize W7.setRow (N+1) S0=W8 at *
    have X16:X.c 16=S.c 17:=by rw [hX];rfl
    have X20:X.c 20=S.c 16:=by rw [hX];rfl
    have XR:∀ i,i<16→X.c i=S.c i:=fun i hi=>by
     rw [hX]
     show upd (upd S.c 20 (S.c 16)) 16 (S.c 17) i=S.c i
     unfold upd
     rw [if_neg (by omega),if_neg (by omega)]
    have Xon:X.on=false:=by rw [hX];rfl
    have Xwas:X.was=S.on:=by rw [hX];rfl
    have Xca:X.cause=z:=by rw [hX];rfl
    have Xh:X.halted=(!(S.c 17).g||decide ((S.c 17).y≠0)):=by rw [hX];rfl
    clear hX
    have bX:Sb W8 P X:=by unfold Sb;rw [EXA.out];exact HQ8.out
    have bS:Sb W8 (N+1) S:=by unfold Sb;rw [hS0];exact HS8.out
    obtain ⟨RL,hRL⟩:∃ RL,flat S.c 16=RL:=⟨_,rfl⟩
    have RL7:RL.length=112:=by rw [←hRL,flat_len]
    have hRa:∀ i,i<16→∀ j v,(S.c i).L[j]?=some v→RL[i*7+j]?=some v:=fun i hi j v hv=>by
     have hj:j<7:=by
      have:=(List.getElem?_eq_some_iff.1 hv).1
      simpa using this
     rw [←hRL,Nat.mul_comm,flat_at S.c 16 i j hi hj]
     exact hv
    have e30:∀ W,(Op.equalIn 10000 30 (.agg RL.toArray) (.agg RL.toArray)).run Tryz.prog W=.ok true W:=fun W=>eq30 9996 _ _ S.c (fun i hi j v hv=>by rw [List.getElem?_toArray];exact hRa i hi j v hv) (fun i hi j v hv=>by rw [List.getElem?_toArray];exact hRa i hi j v hv) W
    have LX:Hid (∀ j v,RL[j]?=some v→XA[0+j]?=some v):=Lib.hid (fun j v hv=>by
     have hj:j<112:=by rw [←RL7];exact (List.getElem?_eq_some_iff.1 hv).1
     have h1:=flat_at S.c 16 (j/7) (j%7) (by omega) (by omega)
     rw [show 7*(j/7)+j%7=j by omega,hRL,hv] at h1
     rw [←EXA.out,List.getElem?_toArray,Nat.zero_add]
     have h2:=X.cap (j/7) (j%7) (by omega) (by omega)
     rw [show 7*(j/7)+j%7=j by omega] at h2
     rw [h2,XR _ (by omega)]
     exact h1.symm)
    have LS:Hid (∀ j v,RL[j]?=some v→S0[0+j]?=some v):=Lib.hid (fun j v hv=>by
     have hj:j<112:=by rw [←RL7];exact (List.getElem?_eq_some_iff.1 hv).1
     have h1:=flat_at S.c 16 (j/7) (j%7) (by omega) (by omega)
     rw [show 7*(j/7)+j%7=j by omega,hRL,hv] at h1
     rw [←hS0,List.getElem?_toArray,Nat.zero_add]
     have h2:=S.cap (j/7) (j%7) (by omega) (by omega)
     rw [show 7*(j/7)+j%7=j by omega] at h2
     rw [h2]
     exact h1.symm)
    have HR7:=Lib.hid RL7
    have HFX:Hid (∀ W,Blk W P 32 XA→Sb W P X):=Lib.hid (fun W h=>by unfold Sb;rw [EXA.out];exact h)
    have HFS:Hid (∀ W,Blk W (N+1) 32 S0→Sb W (N+1) S):=Lib.hid (fun W h=>by unfold Sb;rw [hS0];exact h)
    have HX16:=Lib.hid X16
    have HX20:=Lib.hid X20
    have HXT:=Lib.hid (And.intro Xon (And.intro Xwas (And.intro Xca Xh)))
    clear hRL RL7 hRa XR X16 X20 Xon Xwas Xca Xh bX bS hS0
    go_wp2_with (first
     | (refine wpList_load_sub rfl 30 (.tmp 58) rfl P 0 rfl 32 XA RL (0,0) _ HQ8.out LX.out Tryz.underlying30 rfl (by rw [info30s,HR7.out]) ?_)
     | (refine wpList_load_sub rfl 30 (.tmp 60) rfl (N+1) 0 rfl 32 S0 RL (0,0) _ HS8.out LS.out Tryz.underlying30 rfl (by rw [info30s,HR7.out]) ?_))
    refine (alike_call b r x y 0 0 B T W8 HM8.out HRM8.out HBL.out).mono ?_
    rintro _ W9 ⟨rfl,hb9⟩
    have HO9:Hid (Below w.heap.size w W9):=Lib.hid (HO8.out.trans (hb9.mono HO8.out.size))
    have bX:=HFX.out W9 (HQ8.out.below hb9 HQ8.out.lt)
    have bS:=HFS.out W9 (HS8.out.below hb9 HS8.out.lt)
    have y0:=PD3.out W9 (P+1) (HR8.out.below hb9 HR8.out.lt)
    obtain ⟨a0,a1,a2,a3,a4,a5,a6⟩:=bX.seven 16 112 (by decide) rfl
    obtain ⟨b0,b1,b2,b3,b4,b5,b6⟩:=bS.seven 17 119 (by decide) rfl
    obtain ⟨d0,d1,d2,d3,d4,d5,d6⟩:=bX.seven 20 140 (by decide) rfl
    obtain ⟨g0,g1,g2,g3,g4,g5,g6⟩:=bS.seven 16 112 (by decide) rfl
    obtain ⟨t0,t1,t2,t3⟩:=bX.tail
    obtain ⟨_,v1,_,_⟩:=bS.tail
    obtain ⟨Xon,Xwas,Xca,Xh⟩:=HXT.out
    rw [HX16.out] at a0 a1 a2 a3 a4 a5 a6
    rw [HX20.out] at d0 d1 d2 d3 d4 d5 d6
    rw [Xca] at t0
    rw [Xon] at t1
    rw [Xwas] at t2
    rw [Xh] at t3
    clear hb9 bX bS HFX HFS HXT HX16 HX20 Xca Xon Xwas Xh HQ8 HS8 HR8 HM8 HRM8 HO8 LX LS e30 x0
    generalize S.c 16=u16 at *
    generalize S.c 17=u17 at *
    generalize S.on=son at *
    obtain ⟨ug,ua,up,uy,ue,ub,ut⟩:=u16
    obtain ⟨vg,va,vp,vy,ve,vb,vt⟩:=u17
    simp only at a0 a1 a2 a3 a4 a5 a6 b0 b1 b2 b3 b4 b5 b6 d0 d1 d2 d3 d4 d5 d6 g0 g1 g2 g3 g4 g5 g6 t3
    have KL:∀ W,Below w.heap.size w W→Calls Tryz.prog 14 #[] W fun en w'=>en=.returned (.bool true)∧Below w.heap.size w w':=fun W hb=>(lives W (HG.out.below hb HG.out.size)).mono (by rintro _ w8 ⟨rfl,hb8⟩;exact ⟨rfl,hb.trans (hb8.mono hb.size)⟩)
    have HKL:=Lib.hid KL
    clear KL
    cases vg with
    | false =>
     simp only [Bool.not_false,Bool.true_or] at t3
     go_wp2_with fail
     refine (HKL.out W9 HO9.out).mono ?_
     rintro _ Wz ⟨rfl,hbz⟩
     have HZ:=Lib.hid hbz
     clear hbz
     go_wp2_with fail
     go_ret
     exact ⟨rfl,HZ.out⟩
    | true =>
     simp only [Bool.not_true,Bool.false_or] at t3
     by_cases hy:vy=0
     ·subst hy
      simp only [ne_eq,not_true_eq_false,decide_false] at t3
      go_wp2_with fail
      refine (HKL.out W9 HO9.out).mono ?_
      rintro _ Wz ⟨rfl,hbz⟩
      have HZ:=Lib.hid hbz
      clear hbz
      go_wp2_with fail
      go_ret
      exact ⟨rfl,HZ.out⟩
     ·rw [decide_eq_true hy] at t3
      have hy2:((vy:Int) != 0)=true:=by simp;omega
      clear hy
      go_wp2_with fail
      refine (HKL.out W9 HO9.out).mono ?_
      rintro _ Wz ⟨rfl,hbz⟩
      have HZ:=Lib.hid hbz
      clear hbz
      go_wp2_with fail
      go_ret
      exact ⟨rfl,HZ.out⟩
 ·have hE2:((E:Int) != 0)=true:=by simp;omega
  go_wp2_with fail
  refine (lives W3 (HG.out.below HO3.out HG.out.size)).mono ?_
  rintro _ w8 ⟨rfl,hb8⟩
  have HB8:Hid (Below w.heap.size w w8):=Lib.hid (HO3.out.trans (hb8.mono HO3.out.size))
  clear hb8
  go_wp2_with fail
  go_ret
  exact ⟨rfl,HB8.out⟩
theorem put_lt (o d a b:Nat) (n:Int) (hn:In.i32 n):(In.put o d a b n).1<4294967296:=by
 unfold In.put
 split
 ·show 0<4294967296
  omega
 ·rename_i ho
  split
  ·rename_i hk
   show In.wordF (In.FL (o-1)) (In.WL (o-1)) d a b n<4294967296
   obtain ⟨hf,hl⟩:=In.FL_free ⟨o-1,by omega⟩
   simp only at hf hl
   generalize In.FL (o-1)=f at *
   generalize In.WL (o-1)=W at *
   have:f=0∨f=1∨f=2∨f=3∨f=4∨f=5∨f=6∨f=7∨f=8∨f=9∨f=10:=by omega
   rcases this with rfl | rfl | rfl | rfl | rfl | rfl | rfl | rfl | rfl | rfl | rfl
   ·exact (In.back0 W d a b n hn hf hk).1
   ·exact (In.back1 W d a b n hn hf hk).1
   ·exact (In.back2 W d a b n hn hf hk).1
   ·exact (In.back3 W d a b n hn hf hk).1
   ·exact (In.back4 W d a b n hn hf hk).1
   ·exact (In.back5 W d a b n hn hf hk).1
   ·exact (In.back6 W d a b n hn hf hk).1
   ·exact (In.back7 W d a b n hn hf hk).1
   ·exact (In.back8 W d a b n hn hf hk).1
   ·exact (In.back9 W d a b n hn hf hk).1
   ·exact (In.back10 W d a b n hn hf hk).1
  ·show 0<4294967296
   omega
theorem law6 (o d a b:Nat) (n:Int) (A2:Option Addr) (n2 c2:Nat) (f2:Nat→Nat) (q2:Nat→Cq) (s:St) (tm:Bool) (ho:o<256) (hd:d<256) (ha:a<256) (hb:b<256) (hn:In.i32 n) (w:World) (h2:Fls w A2 n2 f2 q2) (hf:∀ i,(s.c i).fit) (hg:In.Glob w) :
  Calls Tryz.prog 6 #[.agg #[.int .u8 (o:Int),.int .u8 (d:Int),.int .u8 (a:Int),.int .u8 (b:Int),.int .i32 n],.slice A2 n2 c2,.agg s.L.toArray,.bool tm] w fun en w'=>en=.returned (.bool true)∧Below w.heap.size w w' :=
 law6w _ (In.put o d a b n).2 (In.put o d a b n).1 s (s.clk 21) A2 n2 c2 f2 q2 tm w hg h2 rfl (fun W=>In.c8 o d a b n ho hd ha hb hn W) (put_lt o d a b n hn) (fun W=>td_call s hf W) (s.clk_fit hf 21)
end Go.Proofs.YtnkoknfihhdelaaGreatDoor
