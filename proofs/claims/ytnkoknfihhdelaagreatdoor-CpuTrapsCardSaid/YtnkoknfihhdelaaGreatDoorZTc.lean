import Derived.Test.YtnkoknfihhdelaaGreatDoorZMBh
import Derived.Test.YtnkoknfihhdelaaGreatDoorZMY
import Derived.Test.YtnkoknfihhdelaaGreatDoorZKQ
import Derived.Test.YtnkoknfihhdelaaGreatDoorZRa
import Derived.Test.YtnkoknfihhdelaaGreatDoorZN
import Derived.Test.YtnkoknfihhdelaaGreatDoorZRe
import Derived.Laws.IdiomStrings
import Derived.Laws.StructEq
import Derived.ChangeKeysEq
namespace Go.Proofs.YtnkoknfihhdelaaGreatDoor
open Go.ChangeShapes Go.WideShapes Go.ChangeAt Go.RowKit
set_option linter.unusedVariables false
set_option maxRecDepth 100000
theorem own_rd {w':World} {base n:Nat} {v:Value} {f:Nat→Nat} (h:w'.ownsRow base 5 1 v n (Pt.rowL f n)):∃ A c,v=.slice A n c∧Pt.Rd w' A n f:=by
 obtain ⟨hl,h2⟩:=h
 rcases h2 with ⟨hv,h0⟩ | ⟨g,cap,cur,rfl,hg,hh,hc1,hc2,hs,ht⟩
 ·subst h0
  exact ⟨_,_,hv,fun h=>absurd h (by omega)⟩
 ·refine ⟨_,_,rfl,fun h0=>⟨g,0,rfl,?_,fun j hj=>?_⟩⟩
  ·have hb:Blk w' g 5 cur:=hh
   exact hb.lt
  ·have hb:Blk w' g 5 cur:=hh
   rw [hb.cell]
   have h3:=Pt.rowL_get f n j hj
   rw [←ht,Nat.mul_one,List.getElem?_take_of_lt hj] at h3
   rw [Nat.zero_add,←Array.getElem?_toList,h3]
def txtN (f:Nat→Nat) (n:Nat):ByteArray:=⟨((List.range n).map fun k=>UInt8.ofNat (f k)).toArray⟩
theorem cvT (w:World) (A:Option Addr) (n c:Nat) (f:Nat→Nat) (hn:0<n) (hf:∀ j,f j<256) (h:Pt.Rd w A n f):(convert 93 9 (.slice A n c)).run Tryz.prog w=.ok (.string (txtN f n)) w:=by
 obtain ⟨b,o,rfl,hlt,hc⟩:=h hn
 have hl:((List.range n).map fun k=>UInt8.ofNat (f k)).length=n:=by simp
 have h1:=run_convert_bytes_back (P:=Tryz.prog) w 93 9 5 ⟨b,o,none⟩ c ((List.range n).map fun k=>UInt8.ofNat (f k)) Tryz.underlying93 Tryz.underlying5 Tryz.underlying9 (fun j hj=>by
  rw [hl] at hj
  have ea:(⟨b,o,none⟩:Addr).add j=⟨b,o+j,none⟩:=by
   unfold Addr.add
   split <;> simp_all
  rw [ea,hc j hj]
  simp only [List.getElem_map,List.getElem_range]
  rw [UInt8.toNat_ofNat']
  have:=hf j
  have:f j%2 ^ 8=f j:=by omega
  rw [this])
 rw [hl] at h1
 exact h1
theorem alike_call (b r x y c1 c2:Nat) (B:Nat→Nat) (T:Nat→Bool) (w:World) (hm:Mem w b B T) (hr:RM w r x y 65536 8192 B T) (hB:∀ i,B i<256) :
  Calls Tryz.prog 13 #[.pointer (some ⟨b,0,none⟩),.pointer (some ⟨r,0,none⟩)] w fun e w'=>e=.returned (.bool true)∧Below w.heap.size w w':=by
 have K1:=Lib.hid (mBytes b 0 65536 B T w hm (by omega))
 have K2:Hid (∀ w',Below w.heap.size w w'→Calls Tryz.prog 41 #[.pointer (some ⟨r,0,none⟩),.int .i64 0,.int .i64 65536] w' (Pt.PartOut w' 65536 (fun j=>B (0+j)))):=Lib.hid (fun w' hb=>rBytes r x y _ 0 65536 B T w' (hr.below hb) (by omega))
 have K3:Hid (∀ w',Below w.heap.size w w'→Calls Tryz.prog 42 #[.pointer (some ⟨b,0,none⟩),.int .i64 0,.int .i64 65536] w' fun e w2=>e=.returned (.tuple #[.int .i64 (tagsN T 0 65536:Int),.int .i64 0])∧w'=w2):=Lib.hid (fun w' hb=>mTags b 0 65536 B T w' (hm.below hb hm.lt) (by omega))
 have K4:Hid (∀ w',Below w.heap.size w w'→Calls Tryz.prog 43 #[.pointer (some ⟨r,0,none⟩),.int .i64 0,.int .i64 65536] w' fun e w2=>e=.returned (.tuple #[.int .i64 (tagsN T 0 65536:Int),.int .i64 0])∧w'=w2):=Lib.hid (fun w' hb=>rTags r x y _ 0 65536 B T w' (hr.below hb) (by omega))
 have HF:Hid (∀ j,(fun j=>B (0+j)) j<256):=Lib.hid (fun j=>hB _)
 generalize (fun j=>B (0+j))=f at *
 generalize tagsN T 0 65536=n at *
 clear hm hr hB
 go_enter Tryz.func13,Tryz.ntmps13
 go_wp2_with fail
 refine K1.out.mono ?_
 rintro _ w1 ⟨v1,rfl,hb1,ho1⟩
 obtain ⟨A1,d1,rfl,hd1⟩:=own_rd ho1
 have HB1:=Lib.hid hb1
 have HD1:=Lib.hid hd1
 clear hb1 ho1 hd1 K1
 go_wp2_with fail
 refine (K2.out w1 HB1.out).mono ?_
 rintro _ w2 ⟨v2,rfl,hb2,ho2⟩
 obtain ⟨A2,d2,rfl,hd2⟩:=own_rd ho2
 have HB2:Hid (Below w.heap.size w w2):=Lib.hid (HB1.out.trans (hb2.mono HB1.out.size))
 have HD2:=Lib.hid hd2
 have HD1':=Lib.hid (HD1.out.below hb2)
 clear hb2 ho2 hd2 K2
 go_wp2_with fail
 refine (K3.out w2 HB2.out).mono ?_
 rintro _ _ ⟨rfl,rfl⟩
 go_wp2_with fail
 refine (K4.out w2 HB2.out).mono ?_
 rintro _ _ ⟨rfl,rfl⟩
 have c1:=cvT w2 A1 65536 d1 f (by omega) HF.out HD1'.out
 have c2:=cvT w2 A2 65536 d2 f (by omega) HF.out HD2.out
 generalize txtN f 65536=S at *
 clear K3 K4
 go_wp2_with fail
 go_ret
 exact ⟨rfl,HB2.out⟩
def Cq.cut (q:Cq):Cq:=⟨q.g,q.a,q.p%128,q.y%8,q.e%16,q.b%512,q.t%512⟩
def Cq.cl (q:Cq):Cq:=⟨q.g&&decide (q.cut.bs+q.cut.ln≤65536),q.a,q.p%128,q.y%8,q.e%16,q.b%512,q.t%512⟩
theorem tpr_call (q:Cq) (hq:q.fit) (w:World):Calls Tryz.prog 55 #[q.v] w fun e w'=>e=.returned (.int .u64 ((q.bs+q.ln:Nat):Int))∧Below w.heap.size w w' :=
 Ca.c41 q.g q.a q.p q.y q.e q.b q.t hq.1 hq.2.2.2.1 hq.2.2.2.2.1 hq.2.2.2.2.2 w
theorem cl_call (q:Cq) (hq:q.fit) (w:World):Calls Tryz.prog 25 #[q.v] w fun e w'=>e=.returned q.cl.v∧Below w.heap.size w w':=by
 have hc:q.cl=⟨q.g&&decide (q.cut.bs+q.cut.ln≤65536),q.a,q.p%128,q.y%8,q.e%16,q.b%512,q.t%512⟩:=rfl
 rw [hc]
 clear hc
 have hcut:q.cut=⟨q.g,q.a,q.p%128,q.y%8,q.e%16,q.b%512,q.t%512⟩:=rfl
 have k1:=tpr_call q.cut
 generalize q.cut.bs+q.cut.ln=n at *
 rw [hcut] at k1
 clear hcut
 obtain ⟨g,a,p,y,e,b,t⟩:=q
 obtain ⟨ha,hp,hy,he,hb,ht⟩:=hq
 simp only at ha hp hy he hb ht k1 ⊢
 have xP:(p:Int)%128=((p%128:Nat):Int):=by omega
 have xY:(y:Int)%8=((y%8:Nat):Int):=by omega
 have xE:(e:Int)%16=((e%16:Nat):Int):=by omega
 have xB:(b:Int)%512=((b%512:Nat):Int):=by omega
 have xT:(t:Int)%512=((t%512:Nat):Int):=by omega
 have lP:p%128<256:=by omega
 have lY:y%8<256:=by omega
 have lE:e%16<256:=by omega
 have lB:b%512<65536:=by omega
 have lT:t%512<65536:=by omega
 generalize p%128=P at *
 generalize y%8=Y at *
 generalize e%16=E at *
 generalize b%512=B at *
 generalize t%512=T at *
 have K1:=Lib.hid (k1 ⟨ha,lP,lY,lE,lB,lT⟩)
 clear k1 hp hy he hb ht
 obtain ⟨G,hG⟩:∃ G,(g&&decide (n≤65536))=G:=⟨_,rfl⟩
 rw [hG]
 have HG:=Lib.hid hG
 clear hG
 go_enter Tryz.func25,Tryz.ntmps25
 go_wp2_with fail
 refine (K1.out _).mono ?_
 rintro _ w1 ⟨rfl,hb1⟩
 have z0:w.heap.size<w1.heap.size:=by have:=hb1.size;simp at this;omega
 have z1:w.heap.size+1<w1.heap.size:=by have:=hb1.size;simp at this;omega
 have hB:Below w.heap.size w w1:=(((Below.refl _ _).alloc (Nat.le_refl _) _).alloc (by simp) _).trans (hb1.mono (by simp;omega))
 have Q0:Blk w1 w.heap.size 29 #[.bool g,.int .u32 (a:Int),.int .u8 (P:Int),.int .u8 (Y:Int),.int .u8 (E:Int),.int .u16 (B:Int),.int .u16 (T:Int)]:=((Blk.new w 29 _).alloc _).below hb1 (by simp;omega)
 have Q1:Blk w1 (w.heap.size+1) 29 #[.bool false,.int .u32 0,.int .u8 0,.int .u8 0,.int .u8 0,.int .u16 0,.int .u16 0]:=by
  have:=Blk.new (w.alloc (.cells #[.bool g,.int .u32 (a:Int),.int .u8 (P:Int),.int .u8 (Y:Int),.int .u8 (E:Int),.int .u16 (B:Int),.int .u16 (T:Int)] 29)) 29 #[.bool false,.int .u32 0,.int .u8 0,.int .u8 0,.int .u8 0,.int .u16 0,.int .u16 0]
  have h2:=this.below hb1 (by simp)
  simpa using h2
 clear hb1 xP xY xE xB xT
 have HB:=Lib.hid hB
 have H0:=Lib.hid Q0
 have H1:=Lib.hid Q1
 have c0:=Q0.cell 0
 have f0:=Q0.frozen 0
 simp only [List.getElem?_toArray,List.getElem?_cons_zero] at c0
 by_cases hn:n≤65536
 ·have hd:decide ((65536:Int)<(n:Int))=false:=by simp;omega
  have hd2:decide (n≤65536)=true:=by simpa using hn
  have hG:=HG.out
  rw [hd2,Bool.and_true] at hG
  subst hG
  obtain ⟨RA,hRA⟩:∃ R:Array Value,R=#[.bool g,.int .u32 (a:Int),.int .u8 (P:Int),.int .u8 (Y:Int),.int .u8 (E:Int),.int .u16 (B:Int),.int .u16 (T:Int)]:=⟨_,rfl⟩
  obtain ⟨ZA,hZA⟩:∃ R:Array Value,R=#[.bool false,.int .u32 0,.int .u8 0,.int .u8 0,.int .u8 0,.int .u16 0,.int .u16 0]:=⟨_,rfl⟩
  have G0:Hid (Blk w1 w.heap.size 29 RA):=Lib.hid (by rw [hRA];exact H0.out)
  have G1:Hid (Blk w1 (w.heap.size+1) 29 ZA):=Lib.hid (by rw [hZA];exact H1.out)
  have R7:Hid (RA.size=7):=Lib.hid (by rw [hRA];rfl)
  have Z7:Hid (ZA.size=7):=Lib.hid (by rw [hZA];rfl)
  have R1:Hid (RA.all (·.oneCell')=true):=Lib.hid (by rw [hRA];simp [Value.oneCell'])
  have HRA:=Lib.hid hRA
  clear hRA hZA hB Q0 Q1 hd2 hn HG H0 H1 c0 f0
  go_wp2_with (first
   | (refine wpList_load_row rfl 29 (.tmp 1) rfl w.heap.size rfl 29 RA (0,0) _ G0.out Tryz.underlying29 rfl (by rw [info29s,R7.out]) ?_)
   | (refine wpList_store_row rfl 29 (.tmp 2) (.tmp 33) rfl (w.heap.size+1) RA rfl rfl 29 ZA G1.out (by rw [info29s,R7.out]) (by rw [R7.out,Z7.out]) R1.out ?_))
  exact bodyPost_ret (results_cell_row rfl _ _ (w.heap.size+1) 29 RA (0,0) _ rfl (blk_row G1.out _) Tryz.underlying29 rfl (by rw [info29s,R7.out])) rfl ⟨by rw [HRA.out],below_setRow HB.out (by omega) _⟩
 ·have hd:decide ((65536:Int)<(n:Int))=true:=by simp;omega
  have hd2:decide (n≤65536)=false:=by simpa using hn
  have hG:=HG.out
  rw [hd2,Bool.and_false] at hG
  subst hG
  have H0b:Hid (Blk (w1.setCell ⟨w.heap.size,0,none⟩ (.bool false)) w.heap.size 29 #[.bool false,.int .u32 (a:Int),.int .u8 (P:Int),.int .u8 (Y:Int),.int .u8 (E:Int),.int .u16 (B:Int),.int .u16 (T:Int)]):=Lib.hid (H0.out.set_ 0 (.bool false))
  have H1b:=Lib.hid (H1.out.far (p:=⟨w.heap.size,0,none⟩) (by show w.heap.size+1≠w.heap.size;omega) (.bool false))
  have HBb:=Lib.hid (HB.out.setCell (p:=⟨w.heap.size,0,none⟩) (Nat.le_refl _) (.bool false))
  obtain ⟨RA,hRA⟩:∃ R:Array Value,R=#[.bool false,.int .u32 (a:Int),.int .u8 (P:Int),.int .u8 (Y:Int),.int .u8 (E:Int),.int .u16 (B:Int),.int .u16 (T:Int)]:=⟨_,rfl⟩
  obtain ⟨ZA,hZA⟩:∃ R:Array Value,R=#[.bool false,.int .u32 0,.int .u8 0,.int .u8 0,.int .u8 0,.int .u16 0,.int .u16 0]:=⟨_,rfl⟩
  have G0:Hid (Blk (w1.setCell ⟨w.heap.size,0,none⟩ (.bool false)) w.heap.size 29 RA):=Lib.hid (by rw [hRA];exact H0b.out)
  have G1:Hid (Blk (w1.setCell ⟨w.heap.size,0,none⟩ (.bool false)) (w.heap.size+1) 29 ZA):=Lib.hid (by rw [hZA];exact H1b.out)
  have R7:Hid (RA.size=7):=Lib.hid (by rw [hRA];rfl)
  have Z7:Hid (ZA.size=7):=Lib.hid (by rw [hZA];rfl)
  have R1:Hid (RA.all (·.oneCell')=true):=Lib.hid (by rw [hRA];simp [Value.oneCell'])
  have HRA:=Lib.hid hRA
  clear hRA hZA hB Q0 Q1 hd2 hn HB HG H0 H1 H0b H1b
  go_wp2_with (first
   | (refine wpList_load_row rfl 29 (.tmp 1) rfl w.heap.size rfl 29 RA (0,0) _ G0.out Tryz.underlying29 rfl (by rw [info29s,R7.out]) ?_)
   | (refine wpList_store_row rfl 29 (.tmp 2) (.tmp 33) rfl (w.heap.size+1) RA rfl rfl 29 ZA G1.out (by rw [info29s,R7.out]) (by rw [R7.out,Z7.out]) R1.out ?_))
  exact bodyPost_ret (results_cell_row rfl _ _ (w.heap.size+1) 29 RA (0,0) _ rfl (blk_row G1.out _) Tryz.underlying29 rfl (by rw [info29s,R7.out])) rfl ⟨by rw [HRA.out],below_setRow HBb.out (by omega) _⟩
theorem Cq.fit_cl (q:Cq) (h:q.fit):q.cl.fit:=by
 obtain ⟨h1,h2,h3,h4,h5,h6⟩:=h
 exact ⟨h1,by show _%128<_;omega,by show _%8<_;omega,by show _%16<_;omega,by show _%512<_;omega,by show _%512<_;omega⟩
def St.clk (s:St) (k:Nat):St:={ s with c:=fun i=>if i<k then (s.c i).cl else s.c i }
theorem St.sev (s:St) (r off:Nat) (hr:r<21) (ho:off=7*r):∀ j v,(s.c r).L[j]?=some v→s.L.toArray[off+j]?=some v:=fun j v hv=>by
 have hj:j<7:=by
  have:=(List.getElem?_eq_some_iff.1 hv).1
  simpa using this
 rw [List.getElem?_toArray,ho,s.cap r j hr hj]
 exact hv
theorem St.clk_at (s:St) (k:Nat):(s.clk k).c k=s.c k:=by
 show (if k<k then _ else _)=_
 rw [if_neg (by omega)]
theorem St.clk_put (s:St) (k off:Nat) (hk:k<21) (ho:off=7*k):putA (s.clk k).L.toArray off (s.c k).cl.L=(s.clk (k+1)).L.toArray:=by
 rw [ho,St.putL (s.clk k) k _ hk]
 congr 2
 show (⟨upd (fun i=>if i<k then (s.c i).cl else s.c i) k (s.c k).cl,s.cause,s.on,s.was,s.halted⟩:St)=⟨fun i=>if i<k+1 then (s.c i).cl else s.c i,s.cause,s.on,s.was,s.halted⟩
 congr 1
 funext i
 unfold upd
 by_cases e:i=k
 ·rw [if_pos e,if_pos (by omega),e]
 ·rw [if_neg e]
  show (if i<k then (s.c i).cl else s.c i)=_
  by_cases h:i<k
  ·rw [if_pos h,if_pos (by omega)]
  ·rw [if_neg h,if_neg (by omega)]
structure TdR (s:St) (N:Nat) (w:World) (k:Nat) (ZA:Array Value) (W:World):Prop where
 bel:Below N w W
 sb:Blk W N 32 (s.clk k).L.toArray
 z:Blk W (N+1) 32 ZA
theorem TdR.step {s:St} {N k:Nat} {w W:World} {ZA:Array Value} (h:TdR s N w k ZA W) {W1:World} (hb:Below W.heap.size W W1) (hN:N≤w.heap.size) (L2:Array Value) (hL:(s.clk (k+1)).L.toArray=L2):TdR s N w (k+1) ZA (W1.setRow N L2):=by
 subst hL
 have hs:=h.bel.size
 refine ⟨below_setRow (h.bel.trans (hb.mono (by omega))) (Nat.le_refl _) _,blk_row (h.sb.below hb h.sb.lt) _,?_⟩
 exact (only_row W1 N _).blk (by omega) (h.z.below hb h.z.lt)
set_option maxHeartbeats 1000000 in
theorem td_call (s:St) (hf:∀ i,(s.c i).fit) (w:World):Calls Tryz.prog 9 #[.agg s.L.toArray] w fun e w'=>e=.returned (.agg (s.clk 21).L.toArray)∧Below w.heap.size w w':=by
 have hz:∀ W,(zeroValue 32).run Tryz.prog W=.ok (.agg st0.L.toArray) W:=z32
 have HZS:Hid (st0.L.toArray.size=151):=Lib.hid (by rw [List.size_toArray];exact st0.len)
 obtain ⟨SA,hSA⟩:∃ SA,s.L.toArray=SA:=⟨_,rfl⟩
 rw [hSA]
 obtain ⟨SZ,hSZ⟩:∃ SZ,(s.clk 21).L.toArray=SZ:=⟨_,rfl⟩
 rw [hSZ]
 have HSZ:=Lib.hid hSZ
 clear hSZ
 generalize st0.L.toArray=ZA at *
 obtain ⟨N,hN⟩:∃ N,w.heap.size=N:=⟨_,rfl⟩
 have hNle:N≤w.heap.size:=by omega
 have H0:Hid (TdR s N w 0 ZA ((w.alloc (.cells SA 32)).alloc (.cells ZA 32))):=Lib.hid (by
  subst hN
  refine ⟨((Below.refl _ _).alloc (Nat.le_refl _) _).alloc (by simp) _,?_,?_⟩
  ·have:(s.clk 0).L.toArray=SA:=by rw [←hSA];rfl
   rw [this]
   exact (Blk.new w 32 SA).alloc _
  ·have:=Blk.new (w.alloc (.cells SA 32)) 32 ZA
   simpa using this)
 have HSEV:Hid (∀ k,k<21→∀ off,off=7*k→∀ j v,(s.c k).L[j]?=some v→(s.clk k).L.toArray[off+j]?=some v):=Lib.hid (fun k hk off ho=>by rw [←St.clk_at s k];exact (s.clk k).sev k off hk ho)
 have HPUT:Hid (∀ k,k<21→∀ off,off=7*k→∀ c:Cq,(s.c k).cl=c→putA (s.clk k).L.toArray off c.L=(s.clk (k+1)).L.toArray):=Lib.hid (fun k hk off ho c hc=>by rw [←hc];exact s.clk_put k off hk ho)
 have HLEN:Hid (∀ k,(s.clk k).L.toArray.size=151):=Lib.hid (fun k=>by rw [List.size_toArray];exact St.len _)
 have HONE:Hid (∀ k,(s.clk k).L.toArray.all (·.oneCell')=true):=Lib.hid (fun k=>St.one _)
 have KC:Hid (∀ k c,(s.c k).cl=c→∀ w,Calls Tryz.prog 25 #[(s.c k).v] w fun e w'=>e=.returned c.v∧Below w.heap.size w w'):=Lib.hid (fun k c hc w=>by rw [←hc];exact cl_call _ (hf k) w)
 clear hSA hf
 have HN:=Lib.hid hN
 go_enter Tryz.func9,Tryz.ntmps9
 go_upto_region 1 with fail
 generalize (w.alloc (.cells SA 32)).alloc (.cells ZA 32)=W at *
 go_wp2_with fail
 go_loopw [3] (fun i wr=>∃ k:Nat,k≤16∧i=.int .i64 (k:Int)∧TdR s N w k ZA wr) (fun i _=>16-(intOf i).toNat)
 case atStart=>exact ⟨0,by omega,rfl,H0.out⟩
 case round =>
  obtain ⟨k,hk,rfl,hr⟩:=hrel
  have HR:=Lib.hid hr
  clear hr H0 hz hN
  by_cases hlt:k<16
  ·have hd:decide ((k:Int)<16)=true:=by simp;omega
   have HK:=Lib.hid hlt
   obtain ⟨c,hc⟩:∃ c,(s.c k).cl=c:=⟨_,rfl⟩
   obtain ⟨q,hq⟩:∃ q,s.c k=q:=⟨_,rfl⟩
   obtain ⟨L1,hL1⟩:∃ L1,(s.clk k).L.toArray=L1:=⟨_,rfl⟩
   obtain ⟨L2,hL2⟩:∃ L2,(s.clk (k+1)).L.toArray=L2:=⟨_,rfl⟩
   have HB1:Hid (Blk wr N 32 L1):=Lib.hid (by rw [←hL1];exact HR.out.sb)
   have HS1:Hid (∀ j v,q.L[j]?=some v→L1[k*7+j]?=some v):=Lib.hid (by rw [←hL1,←hq];exact HSEV.out k (by omega) _ (by omega))
   have HP1:Hid (putA L1 (k*7) c.L=L2):=Lib.hid (by rw [←hL1,←hL2];exact HPUT.out k (by omega) _ (by omega) c hc)
   have HZ1:Hid (L1.size=151):=Lib.hid (by rw [←hL1];exact HLEN.out _)
   have K1:Hid (∀ w,Calls Tryz.prog 25 #[q.v] w fun e w'=>e=.returned c.v∧Below w.heap.size w w'):=Lib.hid (by rw [←hq];exact KC.out k c hc)
   have HL2:=Lib.hid hL2
   have HOF:Hid (k*7+7≤151):=Lib.hid (by omega)
   clear hc hq hL1 hL2
   go_wp2_with (refine wpList_load_sub rfl 29 (.tmp 11) rfl N (k*7) rfl 32 L1 q.L (0,0) _ HB1.out HS1.out Tryz.underlying29 rfl info29s ?_)
   refine (K1.out wr).mono ?_
   rintro _ W1 ⟨rfl,hb1⟩
   have HB2:Hid (Blk W1 N 32 L1):=Lib.hid (HB1.out.below hb1 HB1.out.lt)
   have HR2:Hid (TdR s N w (k+1) ZA (W1.setRow N L2)):=Lib.hid (HR.out.step hb1 hNle L2 HL2.out)
   have hput:putA L1 (k*7) (#[.bool c.g,.int .u32 (c.a:Int),.int .u8 (c.p:Int),.int .u8 (c.y:Int),.int .u8 (c.e:Int),.int .u16 (c.b:Int),.int .u16 (c.t:Int)]).toList=L2:=HP1.out
   clear hb1 HB1
   go_wp2_with (refine wpList_store_sub rfl 29 (.tmp 15) (.tmp 13) rfl N (k*7) #[.bool c.g,.int .u32 (c.a:Int),.int .u8 (c.p:Int),.int .u8 (c.y:Int),.int .u8 (c.e:Int),.int .u16 (c.b:Int),.int .u16 (c.t:Int)] rfl rfl 32 L1 HB2.out info29s (by rw [HZ1.out];exact HOF.out) (arr_all c) ?_;rw [hput])
   go_roundw
   case rel=>exact ⟨k+1,by have:=HK.out;omega,by go_num,HR2.out⟩
   case measure=>simp [intOf];have:=HK.out;omega
  ·have hd:decide ((k:Int)<16)=false:=by simp;omega
   have hk6:k=16:=by omega
   subst hk6
   clear hk hlt
   go_upto_region 5 with fail
   obtain ⟨c_0,hc_0⟩:∃ c_0,(s.c 16).cl=c_0:=⟨_,rfl⟩
   obtain ⟨q_0,hq_0⟩:∃ q_0,s.c 16=q_0:=⟨_,rfl⟩
   obtain ⟨L1_0,hL1_0⟩:∃ L1_0,(s.clk 16).L.toArray=L1_0:=⟨_,rfl⟩
   obtain ⟨L2_0,hL2_0⟩:∃ L2_0,(s.clk (17)).L.toArray=L2_0:=⟨_,rfl⟩
   have HB1_0:Hid (Blk wr N 32 L1_0):=Lib.hid (by rw [←hL1_0];exact HR.out.sb)
   have HS1_0:Hid (∀ j v,q_0.L[j]?=some v→L1_0[112+j]?=some v):=Lib.hid (by rw [←hL1_0,←hq_0];exact HSEV.out 16 (by omega) _ (by omega))
   have HP1_0:Hid (putA L1_0 (112) c_0.L=L2_0):=Lib.hid (by rw [←hL1_0,←hL2_0];exact HPUT.out 16 (by omega) _ (by omega) c_0 hc_0)
   have HZ1_0:Hid (L1_0.size=151):=Lib.hid (by rw [←hL1_0];exact HLEN.out _)
   have K1_0:Hid (∀ w,Calls Tryz.prog 25 #[q_0.v] w fun e w'=>e=.returned c_0.v∧Below w.heap.size w w'):=Lib.hid (by rw [←hq_0];exact KC.out 16 c_0 hc_0)
   have HL2_0:=Lib.hid hL2_0
   have HOF_0:Hid (112+7≤151):=Lib.hid (by omega)
   clear hc_0 hq_0 hL1_0 hL2_0
   go_wp2_with (refine wpList_load_sub rfl 29 (.tmp 16) rfl N (112) rfl 32 L1_0 q_0.L (0,0) _ HB1_0.out HS1_0.out Tryz.underlying29 rfl info29s ?_)
   refine (K1_0.out wr).mono ?_
   rintro _ W1_0 ⟨rfl,hb1_0⟩
   have HB2_0:Hid (Blk W1_0 N 32 L1_0):=Lib.hid (HB1_0.out.below hb1_0 HB1_0.out.lt)
   have HR20:Hid (TdR s N w (17) ZA (W1_0.setRow N L2_0)):=Lib.hid (HR.out.step hb1_0 hNle L2_0 HL2_0.out)
   have hput_0:putA L1_0 (112) (#[.bool c_0.g,.int .u32 (c_0.a:Int),.int .u8 (c_0.p:Int),.int .u8 (c_0.y:Int),.int .u8 (c_0.e:Int),.int .u16 (c_0.b:Int),.int .u16 (c_0.t:Int)]).toList=L2_0:=HP1_0.out
   clear hb1_0 HB1_0
   go_upto_region 6 with (refine wpList_store_sub rfl 29 (.tmp 19) (.tmp 18) rfl N (112) #[.bool c_0.g,.int .u32 (c_0.a:Int),.int .u8 (c_0.p:Int),.int .u8 (c_0.y:Int),.int .u8 (c_0.e:Int),.int .u16 (c_0.b:Int),.int .u16 (c_0.t:Int)] rfl rfl 32 L1_0 HB2_0.out info29s (by rw [HZ1_0.out];exact HOF_0.out) (arr_all c_0) ?_;rw [hput_0])
   generalize W1_0.setRow N L2_0=wr0 at *
   obtain ⟨c_1,hc_1⟩:∃ c_1,(s.c 17).cl=c_1:=⟨_,rfl⟩
   obtain ⟨q_1,hq_1⟩:∃ q_1,s.c 17=q_1:=⟨_,rfl⟩
   obtain ⟨L1_1,hL1_1⟩:∃ L1_1,(s.clk 17).L.toArray=L1_1:=⟨_,rfl⟩
   obtain ⟨L2_1,hL2_1⟩:∃ L2_1,(s.clk (18)).L.toArray=L2_1:=⟨_,rfl⟩
   have HB1_1:Hid (Blk wr0 N 32 L1_1):=Lib.hid (by rw [←hL1_1];exact HR20.out.sb)
   have HS1_1:Hid (∀ j v,q_1.L[j]?=some v→L1_1[119+j]?=some v):=Lib.hid (by rw [←hL1_1,←hq_1];exact HSEV.out 17 (by omega) _ (by omega))
   have HP1_1:Hid (putA L1_1 (119) c_1.L=L2_1):=Lib.hid (by rw [←hL1_1,←hL2_1];exact HPUT.out 17 (by omega) _ (by omega) c_1 hc_1)
   have HZ1_1:Hid (L1_1.size=151):=Lib.hid (by rw [←hL1_1];exact HLEN.out _)
   have K1_1:Hid (∀ w,Calls Tryz.prog 25 #[q_1.v] w fun e w'=>e=.returned c_1.v∧Below w.heap.size w w'):=Lib.hid (by rw [←hq_1];exact KC.out 17 c_1 hc_1)
   have HL2_1:=Lib.hid hL2_1
   have HOF_1:Hid (119+7≤151):=Lib.hid (by omega)
   clear hc_1 hq_1 hL1_1 hL2_1
   go_wp2_with (refine wpList_load_sub rfl 29 (.tmp 20) rfl N (119) rfl 32 L1_1 q_1.L (0,0) _ HB1_1.out HS1_1.out Tryz.underlying29 rfl info29s ?_)
   refine (K1_1.out wr0).mono ?_
   rintro _ W1_1 ⟨rfl,hb1_1⟩
   have HB2_1:Hid (Blk W1_1 N 32 L1_1):=Lib.hid (HB1_1.out.below hb1_1 HB1_1.out.lt)
   have HR21:Hid (TdR s N w (18) ZA (W1_1.setRow N L2_1)):=Lib.hid (HR20.out.step hb1_1 hNle L2_1 HL2_1.out)
   have hput_1:putA L1_1 (119) (#[.bool c_1.g,.int .u32 (c_1.a:Int),.int .u8 (c_1.p:Int),.int .u8 (c_1.y:Int),.int .u8 (c_1.e:Int),.int .u16 (c_1.b:Int),.int .u16 (c_1.t:Int)]).toList=L2_1:=HP1_1.out
   clear hb1_1 HB1_1
   go_upto_region 7 with (refine wpList_store_sub rfl 29 (.tmp 23) (.tmp 22) rfl N (119) #[.bool c_1.g,.int .u32 (c_1.a:Int),.int .u8 (c_1.p:Int),.int .u8 (c_1.y:Int),.int .u8 (c_1.e:Int),.int .u16 (c_1.b:Int),.int .u16 (c_1.t:Int)] rfl rfl 32 L1_1 HB2_1.out info29s (by rw [HZ1_1.out];exact HOF_1.out) (arr_all c_1) ?_;rw [hput_1])
   generalize W1_1.setRow N L2_1=wr1 at *
   obtain ⟨c_2,hc_2⟩:∃ c_2,(s.c 18).cl=c_2:=⟨_,rfl⟩
   obtain ⟨q_2,hq_2⟩:∃ q_2,s.c 18=q_2:=⟨_,rfl⟩
   obtain ⟨L1_2,hL1_2⟩:∃ L1_2,(s.clk 18).L.toArray=L1_2:=⟨_,rfl⟩
   obtain ⟨L2_2,hL2_2⟩:∃ L2_2,(s.clk (19)).L.toArray=L2_2:=⟨_,rfl⟩
   have HB1_2:Hid (Blk wr1 N 32 L1_2):=Lib.hid (by rw [←hL1_2];exact HR21.out.sb)
   have HS1_2:Hid (∀ j v,q_2.L[j]?=some v→L1_2[126+j]?=some v):=Lib.hid (by rw [←hL1_2,←hq_2];exact HSEV.out 18 (by omega) _ (by omega))
   have HP1_2:Hid (putA L1_2 (126) c_2.L=L2_2):=Lib.hid (by rw [←hL1_2,←hL2_2];exact HPUT.out 18 (by omega) _ (by omega) c_2 hc_2)
   have HZ1_2:Hid (L1_2.size=151):=Lib.hid (by rw [←hL1_2];exact HLEN.out _)
   have K1_2:Hid (∀ w,Calls Tryz.prog 25 #[q_2.v] w fun e w'=>e=.returned c_2.v∧Below w.heap.size w w'):=Lib.hid (by rw [←hq_2];exact KC.out 18 c_2 hc_2)
   have HL2_2:=Lib.hid hL2_2
   have HOF_2:Hid (126+7≤151):=Lib.hid (by omega)
   clear hc_2 hq_2 hL1_2 hL2_2
   go_wp2_with (refine wpList_load_sub rfl 29 (.tmp 24) rfl N (126) rfl 32 L1_2 q_2.L (0,0) _ HB1_2.out HS1_2.out Tryz.underlying29 rfl info29s ?_)
   refine (K1_2.out wr1).mono ?_
   rintro _ W1_2 ⟨rfl,hb1_2⟩
   have HB2_2:Hid (Blk W1_2 N 32 L1_2):=Lib.hid (HB1_2.out.below hb1_2 HB1_2.out.lt)
   have HR22:Hid (TdR s N w (19) ZA (W1_2.setRow N L2_2)):=Lib.hid (HR21.out.step hb1_2 hNle L2_2 HL2_2.out)
   have hput_2:putA L1_2 (126) (#[.bool c_2.g,.int .u32 (c_2.a:Int),.int .u8 (c_2.p:Int),.int .u8 (c_2.y:Int),.int .u8 (c_2.e:Int),.int .u16 (c_2.b:Int),.int .u16 (c_2.t:Int)]).toList=L2_2:=HP1_2.out
   clear hb1_2 HB1_2
   go_upto_region 8 with (refine wpList_store_sub rfl 29 (.tmp 27) (.tmp 26) rfl N (126) #[.bool c_2.g,.int .u32 (c_2.a:Int),.int .u8 (c_2.p:Int),.int .u8 (c_2.y:Int),.int .u8 (c_2.e:Int),.int .u16 (c_2.b:Int),.int .u16 (c_2.t:Int)] rfl rfl 32 L1_2 HB2_2.out info29s (by rw [HZ1_2.out];exact HOF_2.out) (arr_all c_2) ?_;rw [hput_2])
   generalize W1_2.setRow N L2_2=wr2 at *
   obtain ⟨c_3,hc_3⟩:∃ c_3,(s.c 19).cl=c_3:=⟨_,rfl⟩
   obtain ⟨q_3,hq_3⟩:∃ q_3,s.c 19=q_3:=⟨_,rfl⟩
   obtain ⟨L1_3,hL1_3⟩:∃ L1_3,(s.clk 19).L.toArray=L1_3:=⟨_,rfl⟩
   obtain ⟨L2_3,hL2_3⟩:∃ L2_3,(s.clk (20)).L.toArray=L2_3:=⟨_,rfl⟩
   have HB1_3:Hid (Blk wr2 N 32 L1_3):=Lib.hid (by rw [←hL1_3];exact HR22.out.sb)
   have HS1_3:Hid (∀ j v,q_3.L[j]?=some v→L1_3[133+j]?=some v):=Lib.hid (by rw [←hL1_3,←hq_3];exact HSEV.out 19 (by omega) _ (by omega))
   have HP1_3:Hid (putA L1_3 (133) c_3.L=L2_3):=Lib.hid (by rw [←hL1_3,←hL2_3];exact HPUT.out 19 (by omega) _ (by omega) c_3 hc_3)
   have HZ1_3:Hid (L1_3.size=151):=Lib.hid (by rw [←hL1_3];exact HLEN.out _)
   have K1_3:Hid (∀ w,Calls Tryz.prog 25 #[q_3.v] w fun e w'=>e=.returned c_3.v∧Below w.heap.size w w'):=Lib.hid (by rw [←hq_3];exact KC.out 19 c_3 hc_3)
   have HL2_3:=Lib.hid hL2_3
   have HOF_3:Hid (133+7≤151):=Lib.hid (by omega)
   clear hc_3 hq_3 hL1_3 hL2_3
   go_wp2_with (refine wpList_load_sub rfl 29 (.tmp 28) rfl N (133) rfl 32 L1_3 q_3.L (0,0) _ HB1_3.out HS1_3.out Tryz.underlying29 rfl info29s ?_)
   refine (K1_3.out wr2).mono ?_
   rintro _ W1_3 ⟨rfl,hb1_3⟩
   have HB2_3:Hid (Blk W1_3 N 32 L1_3):=Lib.hid (HB1_3.out.below hb1_3 HB1_3.out.lt)
   have HR23:Hid (TdR s N w (20) ZA (W1_3.setRow N L2_3)):=Lib.hid (HR22.out.step hb1_3 hNle L2_3 HL2_3.out)
   have hput_3:putA L1_3 (133) (#[.bool c_3.g,.int .u32 (c_3.a:Int),.int .u8 (c_3.p:Int),.int .u8 (c_3.y:Int),.int .u8 (c_3.e:Int),.int .u16 (c_3.b:Int),.int .u16 (c_3.t:Int)]).toList=L2_3:=HP1_3.out
   clear hb1_3 HB1_3
   go_upto_region 9 with (refine wpList_store_sub rfl 29 (.tmp 31) (.tmp 30) rfl N (133) #[.bool c_3.g,.int .u32 (c_3.a:Int),.int .u8 (c_3.p:Int),.int .u8 (c_3.y:Int),.int .u8 (c_3.e:Int),.int .u16 (c_3.b:Int),.int .u16 (c_3.t:Int)] rfl rfl 32 L1_3 HB2_3.out info29s (by rw [HZ1_3.out];exact HOF_3.out) (arr_all c_3) ?_;rw [hput_3])
   generalize W1_3.setRow N L2_3=wr3 at *
   obtain ⟨c_4,hc_4⟩:∃ c_4,(s.c 20).cl=c_4:=⟨_,rfl⟩
   obtain ⟨q_4,hq_4⟩:∃ q_4,s.c 20=q_4:=⟨_,rfl⟩
   obtain ⟨L1_4,hL1_4⟩:∃ L1_4,(s.clk 20).L.toArray=L1_4:=⟨_,rfl⟩
   obtain ⟨L2_4,hL2_4⟩:∃ L2_4,(s.clk (21)).L.toArray=L2_4:=⟨_,rfl⟩
   have HB1_4:Hid (Blk wr3 N 32 L1_4):=Lib.hid (by rw [←hL1_4];exact HR23.out.sb)
   have HS1_4:Hid (∀ j v,q_4.L[j]?=some v→L1_4[140+j]?=some v):=Lib.hid (by rw [←hL1_4,←hq_4];exact HSEV.out 20 (by omega) _ (by omega))
   have HP1_4:Hid (putA L1_4 (140) c_4.L=L2_4):=Lib.hid (by rw [←hL1_4,←hL2_4];exact HPUT.out 20 (by omega) _ (by omega) c_4 hc_4)
   have HZ1_4:Hid (L1_4.size=151):=Lib.hid (by rw [←hL1_4];exact HLEN.out _)
   have K1_4:Hid (∀ w,Calls Tryz.prog 25 #[q_4.v] w fun e w'=>e=.returned c_4.v∧Below w.heap.size w w'):=Lib.hid (by rw [←hq_4];exact KC.out 20 c_4 hc_4)
   have HL2_4:=Lib.hid hL2_4
   have HOF_4:Hid (140+7≤151):=Lib.hid (by omega)
   clear hc_4 hq_4 hL1_4 hL2_4
   go_wp2_with (refine wpList_load_sub rfl 29 (.tmp 32) rfl N (140) rfl 32 L1_4 q_4.L (0,0) _ HB1_4.out HS1_4.out Tryz.underlying29 rfl info29s ?_)
   refine (K1_4.out wr3).mono ?_
   rintro _ W1_4 ⟨rfl,hb1_4⟩
   have HB2_4:Hid (Blk W1_4 N 32 L1_4):=Lib.hid (HB1_4.out.below hb1_4 HB1_4.out.lt)
   have HR24:Hid (TdR s N w (21) ZA (W1_4.setRow N L2_4)):=Lib.hid (HR23.out.step hb1_4 hNle L2_4 HL2_4.out)
   have hput_4:putA L1_4 (140) (#[.bool c_4.g,.int .u32 (c_4.a:Int),.int .u8 (c_4.p:Int),.int .u8 (c_4.y:Int),.int .u8 (c_4.e:Int),.int .u16 (c_4.b:Int),.int .u16 (c_4.t:Int)]).toList=L2_4:=HP1_4.out
   clear hb1_4 HB1_4
   go_upto_region 10 with (refine wpList_store_sub rfl 29 (.tmp 35) (.tmp 34) rfl N (140) #[.bool c_4.g,.int .u32 (c_4.a:Int),.int .u8 (c_4.p:Int),.int .u8 (c_4.y:Int),.int .u8 (c_4.e:Int),.int .u16 (c_4.b:Int),.int .u16 (c_4.t:Int)] rfl rfl 32 L1_4 HB2_4.out info29s (by rw [HZ1_4.out];exact HOF_4.out) (arr_all c_4) ?_;rw [hput_4])
   generalize W1_4.setRow N L2_4=wr4 at *
   have hL:(s.clk 21).L.toArray=SZ:=HSZ.out
   have HBZ:Hid (Blk wr4 N 32 SZ):=Lib.hid (by rw [←hL];exact HR24.out.sb)
   have HLZ:Hid (SZ.size=151):=Lib.hid (by rw [←hL];exact HLEN.out _)
   have HOZ:Hid (SZ.all (·.oneCell')=true):=Lib.hid (by rw [←hL];exact HONE.out _)
   clear hL
   go_wp2_with (first
    | (refine wpList_load_row rfl 32 (.tmp 1) rfl N rfl 32 SZ (0,0) _ HBZ.out Tryz.underlying32 rfl (by rw [info32s,HLZ.out]) ?_)
    | (refine wpList_store_row rfl 32 (.tmp 2) (.tmp 36) rfl (N+1) SZ rfl rfl 32 ZA HR24.out.z (by rw [info32s,HLZ.out]) (by rw [HZS.out,HLZ.out]) HOZ.out ?_))
   exact bodyPost_ret (results_cell_row rfl _ _ (N+1) 32 SZ (0,0) _ rfl (blk_row HR24.out.z _) Tryz.underlying32 rfl (by rw [info32s,HLZ.out])) rfl ⟨rfl,by rw [HN.out];exact below_setRow HR24.out.bel (by omega) _⟩
theorem St.clk_fit (s:St) (hf:∀ i,(s.c i).fit) (k:Nat):∀ i,((s.clk k).c i).fit:=fun i=>by
 show (if i<k then (s.c i).cl else s.c i).fit
 split
 ·exact Cq.fit_cl _ (hf i)
 ·exact hf i
def Wds (w:World) (A:Option Addr) (n:Nat) (f:Nat→Nat):Prop:=0<n→∃ b o,A=some ⟨b,o,none⟩∧b<w.heap.size∧∀ j,j<n→w.cell? ⟨b,o+j,none⟩=some (.int .u32 (f j:Int))∧f j<4294967296
def Fls (w:World) (A:Option Addr) (n:Nat) (f:Nat→Nat) (q:Nat→Cq):Prop:=0<n→∃ b o,A=some ⟨b,o,none⟩∧b<w.heap.size∧∀ j,j<n→w.cell? ⟨b,o+j*8,none⟩=some (.int .u16 (f j:Int))∧(∀ i v,(q j).L[i]?=some v→w.cell? ⟨b,o+j*8+1+i,none⟩=some v)∧f j<65536∧(q j).fit
theorem no_bits (a:Nat) (ha:a<65536) (k:Nat) (hk:k=2∨k=3):∃ m:Nat,bits .andNot .u32 (a:Int) ((2 ^ k-1:Nat):Int)=(m:Int)∧m%2 ^ k=0∧m<65536:=by
 have h2:(2 ^ k-1:Nat)<4294967296:=by rcases hk with rfl | rfl <;> decide
 have h:=u32_andNot_nat a (2 ^ k-1) (by omega) h2
 refine ⟨_,h,?_,Nat.lt_of_le_of_lt Nat.and_le_left ha⟩
 rw [Nat.and_mod_two_pow]
 rcases hk with rfl | rfl
 ·show a%2 ^ 2 &&& 0=0
  exact Nat.and_zero _
 ·show a%2 ^ 3 &&& 0=0
  exact Nat.and_zero _
theorem J.half {w0:World} {b r x y:Nat} {B:Nat→Nat} {T:Nat→Bool} {w:World} (hJ:J w0 b r x y B T w) (a n:Nat) (ha:a<65536) (h4:a%4=0) (hn:n<4294967296) :
  Calls Tryz.prog 22 #[.pointer (some ⟨b,0,none⟩),.int .u32 (a:Int),.int .i64 4,.int .u32 (n:Int)] w fun e w2=>e=.returned (.int .i64 0)∧Below w0.heap.size w0 w2∧Mem w2 b (stB B a 4 n) (stT T a false)∧RM w2 r x y 65536 8192 B T:=by
 have hw:wordB a 4=true:=by unfold wordB;simp;omega
 refine (mStore b a n 4 B T w hJ.m hn hw).mono ?_
 rintro _ w2 ⟨rfl,ho,hm⟩
 have:=hJ.only ho hm
 exact ⟨rfl,this.1,this.2.1,this.2.2⟩
theorem J.whole {w0:World} {b r x y:Nat} {B:Nat→Nat} {T:Nat→Bool} {w W:World} (hJ:J w0 b r x y B T w) (a n:Nat) (ha:a<65536) (h4:a%4=0) (hn:n<4294967296) (h1:Below w0.heap.size w0 W) (h2:Mem W b (stB B a 4 n) (stT T a false)) (h3:RM W r x y 65536 8192 B T) :
  Calls Tryz.prog 23 #[.pointer (some ⟨r,0,none⟩),.int .u32 (a:Int),.int .i64 4,.int .u32 (n:Int)] W fun e w2=>e=.returned (.int .i64 0)∧J w0 b r x y (stB B a 4 n) (stT T a false) w2:=by
 have hw:wordB a 4=true:=by unfold wordB;simp;omega
 refine (rStore r x y 65536 8192 a n 4 B T W h3 hn hw).mono ?_
 rintro _ w2 ⟨rfl,ho,hm⟩
 exact ⟨rfl,h2.only2 ho hJ.bx hJ.by_,hm,hJ.br,hJ.bx,hJ.by_,hJ.lb,hJ.lr,hJ.lx,hJ.ly,h1.trans (ho.1 _ hJ.lx hJ.ly h1.size)⟩
theorem J.halfC {w0:World} {b r x y:Nat} {B:Nat→Nat} {T:Nat→Bool} {w:World} (hJ:J w0 b r x y B T w) (a:Nat) (q:Cq) (hf:q.fit) (ha:a<65536) (h8:a%8=0) :
  Calls Tryz.prog 24 #[.pointer (some ⟨b,0,none⟩),.int .u32 (a:Int),q.v] w fun e w2=>e=.returned (.int .i64 0)∧Below w0.heap.size w0 w2∧Mem w2 b (scB B a (capB q)) (stT T a q.g)∧RM w2 r x y 65536 8192 B T:=by
 refine (scap_call b a q B T w hJ.m hf ha h8).mono ?_
 rintro _ w2 ⟨rfl,ho,hm⟩
 have:=hJ.only ho hm
 exact ⟨rfl,this.1,this.2.1,this.2.2⟩
theorem J.wholeC {w0:World} {b r x y:Nat} {B:Nat→Nat} {T:Nat→Bool} {w W:World} (hJ:J w0 b r x y B T w) (a:Nat) (q:Cq) (hf:q.fit) (ha:a<65536) (h8:a%8=0) (h1:Below w0.heap.size w0 W) (h2:Mem W b (scB B a (capB q)) (stT T a q.g)) (h3:RM W r x y 65536 8192 B T) :
  Calls Tryz.prog 26 #[.pointer (some ⟨r,0,none⟩),.int .u32 (a:Int),q.v] W fun e w2=>e=.returned (.int .i64 0)∧J w0 b r x y (scB B a (capB q)) (stT T a q.g) w2:=by
 obtain ⟨f1,f2,f3,f4,f5,f6⟩:=hf
 refine (rStoreCap r x y 65536 8192 a q.g q.a q.p q.y q.e q.b q.t B T W h3 f1 f2 f3 f4 f5 f6 (by unfold granB;simp;omega)).mono ?_
 rintro _ w2 ⟨rfl,ho,hm⟩
 exact ⟨rfl,h2.only2 ho hJ.bx hJ.by_,hm,hJ.br,hJ.bx,hJ.by_,hJ.lb,hJ.lr,hJ.lx,hJ.ly,h1.trans (ho.1 _ hJ.lx hJ.ly h1.size)⟩
theorem rNew2 (w:World):Calls Tryz.prog 21 #[] w fun en w'=>∃ r x y,en=.returned (.pointer (some ⟨r,0,none⟩))∧Below w.heap.size w w'∧RM w' r x y 65536 8192 (fun _=>0) (fun _=>false)∧w.heap.size≤r∧w.heap.size≤x∧w.heap.size≤y:=by
 obtain ⟨i0,hi,hz0,hz1,hz2⟩:=info_parts Pt.info5
 obtain ⟨j0,ki,kz0,kz1,kz2⟩:=info_parts info4
 have hmk:=fun W=>run_make_row (P:=Tryz.prog) 93 5 i0 (.int .u8 0) Tryz.underlying93 hi hz0 hz1 rfl .i64 .i64 65536 (by rw [hz2];omega) (by omega) W
 have kmk:=fun W=>run_make_row (P:=Tryz.prog) 33 4 j0 (.bool false) Tryz.underlying33 ki kz0 kz1 rfl .i64 .i64 8192 (by rw [kz2];omega) (by omega) W
 have m1:∀ j,j<65536→(madeCells #[(.int .u8 0:Value)] 65536)[j]?=some (.int .u8 0):=fun j hj=>made_at _ _ j hj
 have m2:∀ j,j<8192→(madeCells #[(.bool false:Value)] 8192)[j]?=some (.bool false):=fun j hj=>made_at _ _ j hj
 have s1:(madeCells #[(.int .u8 0:Value)] 65536).size=65536:=size_madeCells _ _
 have s2:(madeCells #[(.bool false:Value)] 8192).size=8192:=size_madeCells _ _
 generalize madeCells #[(.int .u8 0:Value)] 65536=M1 at *
 generalize madeCells #[(.bool false:Value)] 8192=M2 at *
 have hmk':∀ W,(Instr.makeSlice 93 (.int .i64 65536) (.int .i64 65536)).run Tryz.prog W=.ok (.slice (some ⟨W.heap.size,0,none⟩) 65536 65536) (W.alloc (.cells M1 5)):=hmk
 have kmk':∀ W,(Instr.makeSlice 33 (.int .i64 8192) (.int .i64 8192)).run Tryz.prog W=.ok (.slice (some ⟨W.heap.size,0,none⟩) 8192 8192) (W.alloc (.cells M2 4)):=kmk
 clear hmk kmk
 go_enter Tryz.func21,Tryz.ntmps21
 go_wp2_with fail
 go_region
 all_goals
  go_wp2_with fail
  go_ret
 ·exact ⟨_,_,_,rfl,(((((Below.refl _ _).alloc (Nat.le_refl _) _).alloc (by simp) _).alloc (by simp;omega) _).drew),⟨Blk.drew (n3 _ _ _ _ _),⟨M1,(n1 w M1 5 _ _).drew,by omega,m1⟩,⟨M2,(n2 w _ M2 4 _).drew,by omega,m2⟩,fun _=>by omega,by omega,by omega,by omega⟩,by omega,by omega,by omega⟩
 ·exact ⟨_,_,_,rfl,(((((Below.refl _ _).alloc (Nat.le_refl _) _).alloc (by simp) _).alloc (by simp;omega) _).drew),⟨Blk.drew (n3 _ _ _ _ _),⟨M1,(n2 w _ M1 5 _).drew,by omega,m1⟩,⟨M2,(n1 w M2 4 _ _).drew,by omega,m2⟩,fun _=>by omega,by omega,by omega,by omega⟩,by omega,by omega,by omega⟩
theorem wpList_load_at {P:Program} {ops:Array Oper} {rest:List Oper} {o:Oper} {a:Act} {w:World} {Q:Exit→Act→World→Prop} (hgd:o.guard=none) (ty:TypeId) (x:Operand) (ho:o.op=.load ty x)
  (g off:Nat) (hx:a.eval x=.pointer (some ⟨g,off,none⟩)) (l:List Value) (d:TypeDesc) (hl:∀ j v,l[j]?=some v→w.cell? ⟨g,off+j,none⟩=some v)
  (hu:P.underlying ty=some d) (hd:(match d with | .struct _ | .array _ _=>true | _=>false)=true) (hi:(P.info? ty).map (·.size)=some l.length)
  (h:wpList P ops Q rest (a.put o.dst (.agg l.toArray)) w):wpList P ops Q (o :: rest) a w:=by
 refine wpList_plain hgd fun K hK=>?_
 have hr:(loadVar ty ⟨g,off,none⟩).run P w=.ok (.agg l.toArray) w:=by
  have h:=run_loadCells_list (P:=P) w ⟨g,off,none⟩ l (fun j v hv=>by rw [add_off];exact hl j v hv)
  cases hq:P.info? ty with
  | none=>simp [hq] at hi
  | some i =>
   have hs:i.size=l.length:=by simpa [hq] using hi
   have hagg:(isAgg ty).run P w=.ok true w:=by
    unfold isAgg
    rw [Sem.run_bind,run_underlying hu w]
    cases d <;> simp_all
   simp [loadVar,Sem.run_bind,hagg,sizeOf,typeInfo,hq,hs,h]
 unfold Oper.wp execOp
 simp only [ho,hx,Instr.loadAt,Instr.sureAddr,Sem.run_bind,Sem.run_pure,Result.andThen_ok,hr]
 exact hK _ _ h
def BL1 (w:World) (b r x y n:Nat) (i:Value) (wr:World):Prop:=∃ k:Nat,k≤n∧i=.int .i64 (k:Int)∧End w b r x y wr
set_option maxHeartbeats 4000000 in
theorem both_call (at_:Nat) (hat:at_<65536) (A1:Option Addr) (n1 c1:Nat) (f1:Nat→Nat) (A2:Option Addr) (n2 c2:Nat) (f2:Nat→Nat) (q2:Nat→Cq) (w:World) (h1:Wds w A1 n1 f1) (h2:Fls w A2 n2 f2 q2) :
  Calls Tryz.prog 8 #[.int .u16 (at_:Int),.slice A1 n1 c1,.slice A2 n2 c2] w fun e w'=>∃ b r x y,e=.returned (.tuple #[.pointer (some ⟨b,0,none⟩),.pointer (some ⟨r,0,none⟩)])∧End w b r x y w':=by
 have HI:=Lib.hid h1
 have HF:=Lib.hid h2
 obtain ⟨m,hm,hm4,hml⟩:=no_bits at_ hat 2 (Or.inl rfl)
 have hm:bits .andNot .u32 (at_:Int) 3=(m:Int):=hm
 have HM4:Hid (m%4=0):=Lib.hid hm4
 have bm:m≤65535:=by omega
 have ba:at_≤65535:=by omega
 clear h1 h2 hm4 hml hat
 go_enter Tryz.func8,Tryz.ntmps8
 go_wp2_with fail
 refine (mNew _).mono ?_
 rintro _ w1 ⟨rfl,q1,s1,m1⟩
 go_wp2_with fail
 refine (rNew2 _).mono ?_
 rintro _ w2 ⟨r,x,y,rfl,q2',rm2,l1,l2,l3⟩
 have START:Hid (BL1 w w.heap.size r x y n1 (.int .i64 0) w2):=Lib.hid ⟨0,by omega,rfl,_,_,m1.below q2' (by omega),rm2,by omega,by omega,by omega,Nat.le_refl _,by omega,by omega,by omega,q1.trans (q2'.mono (by omega))⟩
 clear q1 s1 m1 q2' rm2 l1 l2 l3
 generalize w.heap.size=b at *
 go_wp2_with fail
 go_loopw [10] (fun i wr=>BL1 w b r x y n1 i wr) (fun i _=>n1-(intOf i).toNat)
 case atStart=>exact START.out
 case round =>
  obtain ⟨k,hk,rfl,hE⟩:=hrel
  have HE:=Lib.hid hE
  clear hE START
  by_cases hlt:k<n1∧k<200
  ·obtain ⟨hlt,h200⟩:=hlt
   obtain ⟨ba,o,rfl,hbl,hc⟩:=HI.out (by omega)
   obtain ⟨c0,hv⟩:=hc k hlt
   have z:wr.cell? ⟨ba,o+k,none⟩=w.cell? ⟨ba,o+k,none⟩:=by obtain ⟨B,T,hJ⟩:=HE.out;exact hJ.bel.cell (p:=⟨ba,o+k,none⟩) hbl
   have HC0:=Lib.hid c0
   rw [←z] at c0
   have HV:=Lib.hid hv
   have d200:decide ((k:Int)<200)=true:=by simp;omega
   have HK:Hid (k+1≤n1):=Lib.hid hlt
   have bk:k≤199:=by omega
   clear z hv hc h200 hk
   generalize f1 k=v at *
   obtain ⟨a,ha⟩:∃ a,m+4*k=a:=⟨_,rfl⟩
   have wk:IntKind.u32.wrap (k:Int)=(k:Int):=by rw [IntKind.wrap_u32];omega
   have wa:IntKind.u32.wrap ((m:Int)+4*(k:Int))=(a:Int):=by rw [IntKind.wrap_u32];omega
   have wm:IntKind.u32.wrap (4*(k:Int))=4*(k:Int):=by rw [IntKind.wrap_u32];omega
   by_cases h6:a<65536
   ·have d6:decide ((a:Int)<65536)=true:=by simp;omega
    have HA:Hid (a<65536∧a%4=0):=Lib.hid ⟨h6,by have:=HM4.out;omega⟩
    clear h6 ha
    go_wp2_with fail
    obtain ⟨B,T,hJ⟩:=HE.out
    have HJ:=Lib.hid hJ
    clear hJ HE
    refine (HJ.out.half a v HA.out.1 HA.out.2 HV.out).mono ?_
    rintro _ w3 ⟨rfl,g1,g2,g3⟩
    have c1:w3.cell? ⟨ba,o+k,none⟩=some (.int .u32 (v:Int)):=(g1.cell (p:=⟨ba,o+k,none⟩) hbl).trans HC0.out
    have HG:=Lib.hid (And.intro g1 (And.intro g2 g3))
    clear g1 g2 g3 c0
    go_wp2_with fail
    refine (HJ.out.whole a v HA.out.1 HA.out.2 HV.out HG.out.1 HG.out.2.1 HG.out.2.2).mono ?_
    rintro _ w4 ⟨rfl,hJ4⟩
    have HJ4:=Lib.hid hJ4
    clear hJ4 c1 HG
    go_wp2_with fail
    go_roundw
    case rel=>exact ⟨k+1,HK.out,by go_num,_,_,HJ4.out⟩
    case measure=>simp [intOf];have:=HK.out;omega
   ·have d6:decide ((a:Int)<65536)=false:=by simp;omega
    clear h6 ha
    go_wp2_with fail
    go_roundw
    case rel=>exact ⟨k+1,HK.out,by go_num,HE.out⟩
    case measure=>simp [intOf];have:=HK.out;omega
  ·have hex:(k<n1∧decide ((k:Int)<200)=false)∨¬ k<n1:=by
    by_cases h:k<n1
    ·exact Or.inl ⟨h,by simp;omega⟩
    ·exact Or.inr h
   clear hlt hk
   rcases hex with ⟨hx,d40⟩ | hx
   all_goals
    go_wp2_with fail
    clear hx
    have START2:Hid (BL1 w b r x y n2 (.int .i64 0) wr):=Lib.hid ⟨0,by omega,rfl,HE.out⟩
    clear HE
    go_loopw [12] (fun i wr=>BL1 w b r x y n2 i wr) (fun i _=>n2-(intOf i).toNat)
    case atStart=>exact START2.out
    case round =>
     obtain ⟨j,hj,rfl,hE⟩:=hrel
     have HE:=Lib.hid hE
     clear hE START2
     by_cases hlt:j<n2∧j<50
     ·obtain ⟨hlt,h50⟩:=hlt
      obtain ⟨ba,o,rfl,hbl,hc⟩:=HF.out (by omega)
      obtain ⟨c0,c7,hv,hfit⟩:=hc j hlt
      obtain ⟨B,T,hJ⟩:=HE.out
      have HJ:=Lib.hid hJ
      clear hJ HE
      have z:∀ i,wr.cell? ⟨ba,i,none⟩=w.cell? ⟨ba,i,none⟩:=fun i=>HJ.out.bel.cell (p:=⟨ba,i,none⟩) hbl
      rw [←z] at c0
      have HC7:Hid (∀ W,Below w.heap.size w W→∀ i v,(q2 j).L[i]?=some v→W.cell? ⟨ba,o+j*8+1+i,none⟩=some v):=Lib.hid (fun W hb i v h=>(hb.cell (p:=⟨ba,o+j*8+1+i,none⟩) hbl).trans (c7 i v h))
      have HFIT:=Lib.hid hfit
      obtain ⟨m8,hm8,hm88,hml8⟩:=no_bits (f2 j) hv 3 (Or.inr rfl)
      have hm8:bits .andNot .u32 ((f2 j:Nat):Int) 7=(m8:Int):=hm8
      have H8:=Lib.hid (And.intro hml8 hm88)
      have d50:decide ((j:Int)<50)=true:=by simp;omega
      have HK:Hid (j+1≤n2):=Lib.hid hlt
      have bj:j≤49:=by omega
      have bv:f2 j≤65535:=by omega
      have KC:Hid (∀ W,Calls Tryz.prog 25 #[(q2 j).v] W fun e w'=>e=.returned (q2 j).cl.v∧Below W.heap.size W w'):=Lib.hid (fun W=>cl_call _ HFIT.out W)
      have HFC:Hid ((q2 j).cl.fit):=Lib.hid (Cq.fit_cl _ HFIT.out)
      clear z c7 hc hfit h50 hj hm88 hml8 hv HFIT
      generalize (q2 j).cl=qc at *
      generalize q2 j=q at *
      generalize f2 j=v at *
      go_wp2_with (first | (refine wpList_load_at rfl 29 (.tmp 71) rfl ba (o+j*8+1) rfl q.L _ (HC7.out _ HJ.out.bel) Tryz.underlying29 rfl info29s ?_))
      refine (KC.out wr).mono ?_
      rintro _ W1 ⟨rfl,hb1⟩
      have HJ1:=Lib.hid (HJ.out.below hb1)
      clear hb1 c0
      go_wp2_with fail
      refine (HJ1.out.halfC m8 qc HFC.out H8.out.1 H8.out.2).mono ?_
      rintro _ w3 ⟨rfl,g1,g2,g3⟩
      have HG1:=Lib.hid g1
      have HG2:=Lib.hid g2
      have HG3:=Lib.hid g3
      clear g1 g2 g3
      go_wp2_with (first | (refine wpList_load_at rfl 29 (.tmp 80) rfl ba (o+j*8+1) rfl q.L _ (HC7.out _ HG1.out) Tryz.underlying29 rfl info29s ?_))
      refine (KC.out w3).mono ?_
      rintro _ w4 ⟨rfl,hb4⟩
      have HG1':=Lib.hid (HG1.out.trans (hb4.mono HG1.out.size))
      have HG2':=Lib.hid (HG2.out.below hb4 HG2.out.lt)
      have HG3':=Lib.hid (HG3.out.below hb4)
      clear hb4 HG1 HG2 HG3
      go_wp2_with fail
      refine (HJ1.out.wholeC m8 qc HFC.out H8.out.1 H8.out.2 HG1'.out HG2'.out HG3'.out).mono ?_
      rintro _ w5 ⟨rfl,hJ5⟩
      have HJ5:=Lib.hid hJ5
      clear hJ5 HG1' HG2' HG3'
      go_wp2_with fail
      go_roundw
      case rel=>exact ⟨j+1,HK.out,by go_num,_,_,HJ5.out⟩
      case measure=>simp [intOf];have:=HK.out;omega
     ·have hex2:(j<n2∧decide ((j:Int)<50)=false)∨¬ j<n2:=by
       by_cases h:j<n2
       ·exact Or.inl ⟨h,by simp;omega⟩
       ·exact Or.inr h
      clear hlt hj
      rcases hex2 with ⟨hy,d50⟩ | hy
      all_goals
       go_wp2_with fail
       go_ret2
       exact ⟨_,_,_,_,rfl,HE.out⟩
end Go.Proofs.YtnkoknfihhdelaaGreatDoor
namespace Go.Proofs.YtnkoknfihhdelaaGreatDoor
open Go.ChangeShapes Go.WideShapes Go.ChangeAt Go.RowKit
set_option linter.unusedVariables false
set_option linter.unusedSimpArgs false
set_option maxRecDepth 100000
theorem cells29c:Tryz.prog.cellsOf 29=7:=by kernel_rfl
theorem info29e:∃ i,Tryz.prog.info? 29=some i:=info_of_underlying Tryz.underlying29
theorem extr7 (xs:Array Value) (off:Nat) (l:List Value) (h:∀ j v,l[j]?=some v→xs[off+j]?=some v):xs.extract off (off+l.length)=l.toArray:=by
 apply Array.ext'
 rw [Array.toList_extract]
 apply List.ext_getElem?
 intro j
 simp only [List.extract,Nat.add_sub_cancel_left,List.getElem?_take,List.getElem?_drop]
 by_cases hj:j<l.length
 ·rw [if_pos hj,List.getElem?_eq_getElem hj]
  have:=h j _ (List.getElem?_eq_getElem hj)
  rw [←Array.getElem?_toList] at this
  exact this
 ·rw [if_neg hj,List.getElem?_eq_none (by omega)]
theorem part29 (xs:Array Value) (off:Nat) (q:Cq) (h:∀ j v,q.L[j]?=some v→xs[off+j]?=some v) (W:World):(part 29 xs off).run Tryz.prog W=.ok q.v W:=by
 obtain ⟨i,hi⟩:=info29e
 have e:=extr7 xs off q.L h
 have:(part 29 xs off).run Tryz.prog W=.ok (.agg (xs.extract off (off+7))) W:=by
  simp [part,isAgg,run_underlying Tryz.underlying29,run_sizeOf W hi,cells29c]
 rw [this]
 show Result.ok (Value.agg (xs.extract off (off+q.L.length))) W=_
 rw [e]
theorem eq29 (d:Nat) (q:Cq) (W:World):(Op.equalIn (d+3) 29 q.v q.v).run Tryz.prog W=.ok true W:=by
 go_simp
theorem eq30items (xs ys:Array Value) (c:Nat→Cq) (d:Nat) (W:World):∀ is:List Nat,(∀ i∈is,(∀ j v,(c i).L[j]?=some v→xs[i*7+j]?=some v)∧∀ j v,(c i).L[j]?=some v→ys[i*7+j]?=some v)→(Op.eqItems (d+3) 29 7 xs ys is).run Tryz.prog W=.ok true W
 | [],_=>by simp [Op.eqItems]
 | i :: is,h=>by
  have h1:=h i (by simp)
  have ih:=eq30items xs ys c d W is (fun k hk=>h k (by simp [hk]))
  simp only [Op.eqItems,Sem.run_bind,part29 xs (i*7) (c i) h1.1,part29 ys (i*7) (c i) h1.2,Result.andThen_ok,eq29 d (c i) W]
  simpa using ih
theorem eq30 (d:Nat) (xs ys:Array Value) (c:Nat→Cq) (hx:∀ i,i<16→∀ j v,(c i).L[j]?=some v→xs[i*7+j]?=some v) (hy:∀ i,i<16→∀ j v,(c i).L[j]?=some v→ys[i*7+j]?=some v) (W:World):(Op.equalIn (d+4) 30 (.agg xs) (.agg ys)).run Tryz.prog W=.ok true W:=by
 obtain ⟨i,hi⟩:=info29e
 rw [run_equalIn_array W (d+3) _ _ Tryz.underlying30 hi,cells29c]
 exact eq30items xs ys c d W _ (fun i hi=>by
  have:=List.mem_range.1 hi
  exact ⟨hx i this,hy i this⟩)
end Go.Proofs.YtnkoknfihhdelaaGreatDoor
