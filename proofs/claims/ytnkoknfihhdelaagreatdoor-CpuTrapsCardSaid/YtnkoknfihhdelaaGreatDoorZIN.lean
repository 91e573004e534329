import Derived.Test.YtnkoknfihhdelaaGreatDoorRows
import Derived.Test.YtnkoknfihhdelaaGreatDoorZIFc
import Derived.Test.YtnkoknfihhdelaaGreatDoorZMKE
import Derived.Test.YtnkoknfihhdelaaGreatDoorZA
import Derived.Test.YtnkoknfihhdelaaGreatDoorZTc
import Derived.LaidMore
import Derived.Stop.Joined
import Derived.ShutString
import Derived.ChangeOld
import Derived.Lib.SmallJoins
import Derived.Deep.Slices
import Derived.Deep.Fields
namespace Go.Proofs.YtnkoknfihhdelaaGreatDoor.In
open Go.ChangeShapes Go.WideShapes Go.ChangeAt Go.RowKit Go.Joins
set_option linter.unusedVariables false
set_option maxRecDepth 100000
theorem cells24:Tryz.prog.cellsOf 53=5:=by kernel_rfl
theorem cells22:Tryz.prog.cellsOf 51=1:=by kernel_rfl
theorem cells5:Tryz.prog.cellsOf 5=1:=by kernel_rfl
theorem cells21:Tryz.prog.cellsOf 21=1:=by kernel_rfl
theorem cells25:Tryz.prog.cellsOf 25=1:=by kernel_rfl
theorem nat_u8 {n:Int} (h:(Lit.int .u8 n).wf=true):∃ k:Nat,n=(k:Int)∧k<256:=by
 have:=bounds_u8 h;exact ⟨n.toNat,by omega,by omega⟩
section
variable {H:Type} {enc:TypeId × Value→H} {W:World} {base:Nat} {spare:Nat→Bool} {held:Bool}
theorem open_ins {r:Reach} {b0:Nat} {v:Value} {d:DataW H} {p:List MemPlace} (hv:Value.okWide Tryz.prog W r b0 53 v) (h:DataW.Trod enc Tryz.prog W base spare held 53 v d p) :
  ∃ (o a b c:Nat) (n:Int),v=.agg #[.int .u8 (o:Int),.int .u8 (a:Int),.int .u8 (b:Int),.int .u8 (c:Int),.int .i32 n]∧o<256∧a<256∧b<256∧c<256∧i32 n:=by
 obtain ⟨cs,rfl,hsz⟩:=okWide_struct Tryz.underlying53 hv
 obtain ⟨l⟩:=cs
 match l,hsz.trans cells24 with
 | [c0,c1,c2,c3,c4],_ =>
  obtain ⟨fuel,hf⟩:=h
  obtain ⟨xs,n,_,hx,_,hlen,hg⟩:=DataW.trod_struct Tryz.underlying53 hf
  match xs,hlen with
  | [y0,y1,y2,y3,y4],_ =>
   have g0:DataW.trod enc Tryz.prog W base spare held n 51 (([c0,c1,c2,c3,c4].drop 0).take (Tryz.prog.cellsOf 51))=some y0:=hg 0 _ rfl
   rw [cells22] at g0
   have g1:DataW.trod enc Tryz.prog W base spare held n 5 (([c0,c1,c2,c3,c4].drop 1).take (Tryz.prog.cellsOf 5))=some y1:=hg 1 _ rfl
   rw [cells5] at g1
   have g2:DataW.trod enc Tryz.prog W base spare held n 5 (([c0,c1,c2,c3,c4].drop 2).take (Tryz.prog.cellsOf 5))=some y2:=hg 2 _ rfl
   rw [cells5] at g2
   have g3:DataW.trod enc Tryz.prog W base spare held n 5 (([c0,c1,c2,c3,c4].drop 3).take (Tryz.prog.cellsOf 5))=some y3:=hg 3 _ rfl
   rw [cells5] at g3
   have g4:DataW.trod enc Tryz.prog W base spare held n 21 (([c0,c1,c2,c3,c4].drop 4).take (Tryz.prog.cellsOf 21))=some y4:=hg 4 _ rfl
   rw [cells21] at g4
   obtain ⟨o,e0,-,w0⟩:=DataW.trod_int Tryz.underlying51 g0
   obtain ⟨a,e1,-,w1⟩:=DataW.trod_int Tryz.underlying5 g1
   obtain ⟨b,e2,-,w2⟩:=DataW.trod_int Tryz.underlying5 g2
   obtain ⟨c,e3,-,w3⟩:=DataW.trod_int Tryz.underlying5 g3
   obtain ⟨m,e4,-,w4⟩:=DataW.trod_int Tryz.underlying21 g4
   obtain rfl:c0=.int .u8 o:=List.cons.inj e0 |>.1
   obtain rfl:c1=.int .u8 a:=List.cons.inj e1 |>.1
   obtain rfl:c2=.int .u8 b:=List.cons.inj e2 |>.1
   obtain rfl:c3=.int .u8 c:=List.cons.inj e3 |>.1
   obtain rfl:c4=.int .i32 m:=List.cons.inj e4 |>.1
   obtain ⟨o,rfl,ho⟩:=nat_u8 w0
   obtain ⟨a,rfl,ha⟩:=nat_u8 w1
   obtain ⟨b,rfl,hb⟩:=nat_u8 w2
   obtain ⟨c,rfl,hc⟩:=nat_u8 w3
   exact ⟨o,a,b,c,m,rfl,ho,ha,hb,hc,bounds_i32 w4⟩
theorem ints_of_trod {t e:TypeId} {k:IntKind} {n f:Nat} {cs:Array Value} {L:List Nat} {p:List MemPlace} (ht:Tryz.prog.underlying t=some (.array n e)) (he:Tryz.prog.underlying e=some (.int k)) (hc:Tryz.prog.cellsOf e=1)
  (hcs:Tryz.prog.cellsOf t=n) (h:DataW.trod enc Tryz.prog W base spare held f t cs.toList=some (.agg (L.map fun (x:Nat)=>.lit (.int k (x:Int))),p)):cs=(L.map fun (x:Nat)=>Value.int k (x:Int)).toArray:=by
 obtain ⟨xs,m,_,hx,hl,hn,hel⟩:=DataW.trod_array ht h
 have h1:L.map (fun (x:Nat)=>(DataW.lit (.int k (x:Int)):DataW H))=xs.map (·.1):=by
  have:=(Prod.mk.inj hx).1
  exact DataW.agg.inj this
 have hLn:L.length=n:=by
  have:=congrArg List.length h1
  simp at this
  omega
 obtain ⟨l⟩:=cs
 simp only at hl hel
 congr 1
 apply List.ext_getElem
 ·simp;omega
 ·intro i h2 h3
  have hi:i<n:=by omega
  have h4:=hel i hi
  rw [hc,Nat.mul_one] at h4
  have h5:(List.drop i l).take 1=[l[i]]:=by
   rw [List.drop_eq_getElem_cons h2]
   rfl
  rw [h5,List.getElem?_eq_getElem (show i<xs.length by omega)] at h4
  obtain ⟨z,e1,e2,_⟩:=DataW.trod_int he h4
  have e3:l[i]=.int k z:=(List.cons.inj e1).1
  have e4:(xs[i]).1=DataW.lit (.int k ((L[i]'(by omega):Nat):Int)):=by
   have h6:(L.map (fun (x:Nat)=>(DataW.lit (.int k (x:Int)):DataW H)))[i]?=(xs.map (·.1))[i]?:=by rw [h1]
   rw [List.getElem?_map,List.getElem?_map,List.getElem?_eq_getElem (show i<xs.length by omega),List.getElem?_eq_getElem (show i<L.length by omega)] at h6
   exact (Option.some.inj h6).symm
  rw [e2] at e4
  simp only [DataW.lit.injEq,Lit.int.injEq] at e4
  rw [e3,e4.2]
  simp
end
theorem gF:Tryz.prog.globalNamed "bulwark/instr.forms"=some 0:=by kernel_rfl
theorem gW:Tryz.prog.globalNamed "bulwark/instr.words"=some 1:=by kernel_rfl
theorem gX:Tryz.prog.globalNamed "bulwark/instr.fixed"=some 2:=by kernel_rfl
theorem tF:(Tryz.prog.globals[0]?).map (·.type)=some 162:=by kernel_rfl
theorem tW:(Tryz.prog.globals[1]?).map (·.type)=some 169:=by kernel_rfl
theorem tX:(Tryz.prog.globals[2]?).map (·.type)=some 170:=by kernel_rfl
theorem cells45:Tryz.prog.cellsOf 162=68:=by kernel_rfl
theorem cells47:Tryz.prog.cellsOf 169=68:=by kernel_rfl
theorem cells69:Tryz.prog.cellsOf 170=11:=by kernel_rfl
theorem u45:Tryz.prog.underlying 162=some (.array 68 5):=by kernel_rfl
theorem u47n:Tryz.prog.underlying 169=some (.array 68 25):=by kernel_rfl
theorem u69:Tryz.prog.underlying 170=some (.array 11 25):=by kernel_rfl
theorem block_of_var {W:World} {n:String} {g:Nat} {cs:Array Value} (hg:Tryz.prog.globalNamed n=some g) (h:W.var? Tryz.prog n=some cs):∃ t f,W.heap[g]?=some (.cells cs t f):=by
 simp only [World.var?,hg,Option.bind_some] at h
 split at h
 ·rename_i c t f hb
  exact ⟨t,f,by rw [hb,Option.some.inj h]⟩
 ·cases h
def laid3:List (String × DataW Unit):=[("bulwark/instr.fixed",Rows.laid_bulwark_instr_fixed),("bulwark/instr.words",Rows.laid_bulwark_instr_words),("bulwark/instr.forms",Rows.laid_bulwark_instr_forms)]
theorem eX:(Rows.laid_bulwark_instr_fixed:DataW Unit)=.agg (XLl.map fun (x:Nat)=>.lit (.int .u32 (x:Int))):=rfl
theorem eW:(Rows.laid_bulwark_instr_words:DataW Unit)=.agg (WLl.map fun (x:Nat)=>.lit (.int .u32 (x:Int))):=rfl
theorem eF:(Rows.laid_bulwark_instr_forms:DataW Unit)=.agg (FLl.map fun (x:Nat)=>.lit (.int .u8 (x:Int))):=rfl
theorem glob_of_laid {W:World} (h:laidMetH Tryz.prog laid3 W):Glob W:=by
 rw [MakeChecks.laidMetH_plain _ _ _ (by kernel_rfl)] at h
 obtain ⟨ps,⟨g0,t0,cs0,f0,p0,q0,hg0,ht0,hv0,hd0,⟨g1,t1,cs1,f1,p1,q1,hg1,ht1,hv1,hd1,⟨g2,t2,cs2,f2,p2,q2,hg2,ht2,hv2,hd2,_,_⟩,_⟩,_⟩,_,_⟩:=h
 obtain rfl:=Option.some.inj (gX.symm.trans hg0)
 obtain rfl:=Option.some.inj (gW.symm.trans hg1)
 obtain rfl:=Option.some.inj (gF.symm.trans hg2)
 obtain rfl:=Option.some.inj (tX.symm.trans ht0)
 obtain rfl:=Option.some.inj (tW.symm.trans ht1)
 obtain rfl:=Option.some.inj (tF.symm.trans ht2)
 rw [eX] at hd0
 rw [eW] at hd1
 rw [eF] at hd2
 have a0:=ints_of_trod u69 Tryz.underlying25 cells25 cells69 hd0
 have a1:=ints_of_trod u47n Tryz.underlying25 cells25 cells47 hd1
 have a2:=ints_of_trod u45 Tryz.underlying5 cells5 cells45 hd2
 subst a0 a1 a2
 exact ⟨block_of_var hg2 hv2,block_of_var hg1 hv1,block_of_var hg0 hv0⟩
theorem door_met (os:Os) (args:Array Value):laidMetH Tryz.prog laid3 ((World.doorLaid Tryz.prog 178 os).forCall (fun _ _=>0) ⟨#[],args,[]⟩).memory :=
 laidMetH_of_parts3 (fuel:=8) (laidMet_of_run' 8 (by kernel_rfl) (by kernel_rfl)) (by kernel_rfl) (by kernel_rfl)
end Go.Proofs.YtnkoknfihhdelaaGreatDoor.In
namespace Go.Proofs.YtnkoknfihhdelaaGreatDoor
open Go.ChangeShapes Go.WideShapes Go.ChangeAt Go.RowKit Go.Joins
set_option linter.unusedVariables false
set_option maxRecDepth 100000
theorem cells30:Tryz.prog.cellsOf 30=112:=by kernel_rfl
theorem cells32:Tryz.prog.cellsOf 32=151:=by kernel_rfl
section
variable {H:Type} {enc:TypeId × Value→H} {W:World} {base:Nat} {spare:Nat→Bool} {held:Bool}
theorem cap_of_trod {fuel:Nat} {l:List Value} {x:DataW H × List MemPlace} (hl:l.length=7) (hf:DataW.trod enc Tryz.prog W base spare held fuel 29 l=some x):∃ q:Cq,l=q.L∧q.fit:=by
 match l,hl with
 | [c0,c1,c2,c3,c4,c5,c6],_ =>
  obtain ⟨xs,n,_,hx,_,hlen,hg⟩:=DataW.trod_struct Tryz.underlying29 hf
  match xs,hlen with
  | [y0,y1,y2,y3,y4],_ =>
   have g0:DataW.trod enc Tryz.prog W base spare held n 4 (([c0,c1,c2,c3,c4,c5,c6].drop 0).take (Tryz.prog.cellsOf 4))=some y0:=hg 0 _ rfl
   rw [Cp.cells4] at g0
   have g1:DataW.trod enc Tryz.prog W base spare held n 25 (([c0,c1,c2,c3,c4,c5,c6].drop 1).take (Tryz.prog.cellsOf 25))=some y1:=hg 1 _ rfl
   rw [Cp.cells22] at g1
   have g2:DataW.trod enc Tryz.prog W base spare held n 5 (([c0,c1,c2,c3,c4,c5,c6].drop 2).take (Tryz.prog.cellsOf 5))=some y2:=hg 2 _ rfl
   rw [Cp.cells5] at g2
   have g3:DataW.trod enc Tryz.prog W base spare held n 5 (([c0,c1,c2,c3,c4,c5,c6].drop 3).take (Tryz.prog.cellsOf 5))=some y3:=hg 3 _ rfl
   rw [Cp.cells5] at g3
   have g4:DataW.trod enc Tryz.prog W base spare held n 27 (([c0,c1,c2,c3,c4,c5,c6].drop 4).take (Tryz.prog.cellsOf 27))=some y4:=hg 4 _ rfl
   rw [Cp.cells25] at g4
   obtain ⟨g,e0,-⟩:=DataW.trod_bool Tryz.underlying4 g0
   obtain ⟨a,e1,-,wa⟩:=DataW.trod_int Tryz.underlying25 g1
   obtain ⟨p,e2,-,wp⟩:=DataW.trod_int Tryz.underlying5 g2
   obtain ⟨y,e3,-,wy⟩:=DataW.trod_int Tryz.underlying5 g3
   obtain ⟨zs,m,_,hz,_,hzl,hh⟩:=DataW.trod_struct Tryz.underlying27 g4
   match zs,hzl with
   | [z0,z1,z2],_ =>
    have k0:DataW.trod enc Tryz.prog W base spare held m 5 (((([c0,c1,c2,c3,c4,c5,c6].drop 4).take 3).drop 0).take (Tryz.prog.cellsOf 5))=some z0:=hh 0 _ rfl
    rw [Cp.cells5] at k0
    have k1:DataW.trod enc Tryz.prog W base spare held m 22 (((([c0,c1,c2,c3,c4,c5,c6].drop 4).take 3).drop 1).take (Tryz.prog.cellsOf 22))=some z1:=hh 1 _ rfl
    rw [Cp.cells23] at k1
    have k2:DataW.trod enc Tryz.prog W base spare held m 22 (((([c0,c1,c2,c3,c4,c5,c6].drop 4).take 3).drop 2).take (Tryz.prog.cellsOf 22))=some z2:=hh 2 _ rfl
    rw [Cp.cells23] at k2
    obtain ⟨e,e4,-,we⟩:=DataW.trod_int Tryz.underlying5 k0
    obtain ⟨b,e5,-,wb⟩:=DataW.trod_int Tryz.underlying22 k1
    obtain ⟨t,e6,-,wt⟩:=DataW.trod_int Tryz.underlying22 k2
    obtain rfl:c0=.bool g:=List.cons.inj e0 |>.1
    obtain rfl:c1=.int .u32 a:=List.cons.inj e1 |>.1
    obtain rfl:c2=.int .u8 p:=List.cons.inj e2 |>.1
    obtain rfl:c3=.int .u8 y:=List.cons.inj e3 |>.1
    obtain rfl:c4=.int .u8 e:=List.cons.inj e4 |>.1
    obtain rfl:c5=.int .u16 b:=List.cons.inj e5 |>.1
    obtain rfl:c6=.int .u16 t:=List.cons.inj e6 |>.1
    obtain ⟨a,rfl,ha⟩:=Cp.nat_u32 wa
    obtain ⟨p,rfl,hp⟩:=Cp.nat_u8 wp
    obtain ⟨y,rfl,hy⟩:=Cp.nat_u8 wy
    obtain ⟨e,rfl,he⟩:=Cp.nat_u8 we
    obtain ⟨b,rfl,hb⟩:=Cp.nat_u16 wb
    obtain ⟨t,rfl,ht⟩:=Cp.nat_u16 wt
    exact ⟨⟨g,a,p,y,e,b,t⟩,rfl,ha,hp,hy,he,hb,ht⟩
theorem flat_of {L:List Value} {c:Nat→Cq}:∀ n,7*n≤L.length→(∀ r,r<n→(L.drop (7*r)).take 7=(c r).L)→L.take (7*n)=flat c n
 | 0,_,_=>rfl
 | n+1,hl,h=>by
  rw [flat,←flat_of n (by omega) (fun r hr=>h r (by omega)),←h n (by omega),show 7*(n+1)=7*n+7 by omega,List.take_add]
theorem open_state {r:Reach} {b0:Nat} {v:Value} {d:DataW H} {p:List MemPlace} (hv:Value.okWide Tryz.prog W r b0 32 v) (h:DataW.Trod enc Tryz.prog W base spare held 32 v d p) :
  ∃ s:St,v=.agg s.L.toArray∧(∀ i,(s.c i).fit)∧s.cause<4294967296:=by
 obtain ⟨cs,rfl,hsz⟩:=okWide_struct Tryz.underlying32 hv
 obtain ⟨L⟩:=cs
 have hL:L.length=151:=hsz.trans cells32
 obtain ⟨fuel,hf⟩:=h
 obtain ⟨xs,n,_,hx,_,hlen,hg⟩:=DataW.trod_struct Tryz.underlying32 hf
 match xs,hlen with
 | [y0,y1,y2,y3,y4,y5,y6,y7,y8,y9],_ =>
  have g0:DataW.trod enc Tryz.prog W base spare held n 30 ((L.drop 0).take (Tryz.prog.cellsOf 30))=some y0:=hg 0 _ rfl
  rw [cells30] at g0
  have g1:DataW.trod enc Tryz.prog W base spare held n 29 ((L.drop 112).take (Tryz.prog.cellsOf 29))=some y1:=hg 1 _ rfl
  have g2:DataW.trod enc Tryz.prog W base spare held n 29 ((L.drop 119).take (Tryz.prog.cellsOf 29))=some y2:=hg 2 _ rfl
  have g3:DataW.trod enc Tryz.prog W base spare held n 29 ((L.drop 126).take (Tryz.prog.cellsOf 29))=some y3:=hg 3 _ rfl
  have g4:DataW.trod enc Tryz.prog W base spare held n 29 ((L.drop 133).take (Tryz.prog.cellsOf 29))=some y4:=hg 4 _ rfl
  have g5:DataW.trod enc Tryz.prog W base spare held n 29 ((L.drop 140).take (Tryz.prog.cellsOf 29))=some y5:=hg 5 _ rfl
  rw [Cp.cells27] at g1 g2 g3 g4 g5
  have g6:DataW.trod enc Tryz.prog W base spare held n 25 ((L.drop 147).take (Tryz.prog.cellsOf 25))=some y6:=hg 6 _ rfl
  rw [Cp.cells22] at g6
  have g7:DataW.trod enc Tryz.prog W base spare held n 4 ((L.drop 148).take (Tryz.prog.cellsOf 4))=some y7:=hg 7 _ rfl
  have g8:DataW.trod enc Tryz.prog W base spare held n 4 ((L.drop 149).take (Tryz.prog.cellsOf 4))=some y8:=hg 8 _ rfl
  have g9:DataW.trod enc Tryz.prog W base spare held n 4 ((L.drop 150).take (Tryz.prog.cellsOf 4))=some y9:=hg 9 _ rfl
  rw [Cp.cells4] at g7 g8 g9
  obtain ⟨zs,m,_,hz,_,hzl,hel⟩:=DataW.trod_array Tryz.underlying30 g0
  have hex:∀ i,i<21→∃ q:Cq,(L.drop (7*i)).take 7=q.L∧q.fit:=fun i hi=>by
   by_cases h16:i<16
   ·have h4:=hel i h16
    rw [Cp.cells27,List.getElem?_eq_getElem (show i<zs.length by omega)] at h4
    have e:(((L.drop 0).take 112).drop (i*7)).take 7=(L.drop (7*i)).take 7:=by
     rw [List.drop_zero,List.drop_take,List.take_take,Nat.mul_comm i 7,Nat.min_eq_left (by omega)]
    rw [e] at h4
    exact cap_of_trod (by rw [List.length_take,List.length_drop,hL];omega) h4
   ·have:i=16∨i=17∨i=18∨i=19∨i=20:=by omega
    rcases this with rfl | rfl | rfl | rfl | rfl
    ·exact cap_of_trod (by rw [List.length_take,List.length_drop,hL];omega) g1
    ·exact cap_of_trod (by rw [List.length_take,List.length_drop,hL];omega) g2
    ·exact cap_of_trod (by rw [List.length_take,List.length_drop,hL];omega) g3
    ·exact cap_of_trod (by rw [List.length_take,List.length_drop,hL];omega) g4
    ·exact cap_of_trod (by rw [List.length_take,List.length_drop,hL];omega) g5
  have hch:∃ c:Nat→Cq,∀ i,(i<21→(L.drop (7*i)).take 7=(c i).L)∧(c i).fit:=by
   refine Classical.axiomOfChoice (r:=fun i q=>(i<21→(L.drop (7*i)).take 7=(Cq.L q))∧q.fit) fun i=>?_
   by_cases hi:i<21
   ·obtain ⟨q,hq,hf⟩:=hex i hi
    exact ⟨q,fun _=>hq,hf⟩
   ·exact ⟨nul,fun q=>absurd q hi,by decide,by decide,by decide,by decide,by decide,by decide⟩
  obtain ⟨c,hc⟩:=hch
  have hfl:=flat_of (c:=c) (L:=L) 21 (by omega) (fun r hr=>(hc r).1 hr)
  have hd:(L.drop 147).length=4:=by rw [List.length_drop,hL]
  have e7:L.drop 148=(L.drop 147).drop 1:=by rw [List.drop_drop]
  have e8:L.drop 149=(L.drop 147).drop 2:=by rw [List.drop_drop]
  have e9:L.drop 150=(L.drop 147).drop 3:=by rw [List.drop_drop]
  rw [e7] at g7
  rw [e8] at g8
  rw [e9] at g9
  have hsplit:L=L.take 147++L.drop 147:=(List.take_append_drop _ _).symm
  generalize L.drop 147=D at *
  match D,hd with
  | [d0,d1,d2,d3],_ =>
   obtain ⟨a,e0,-,wa⟩:=DataW.trod_int Tryz.underlying25 g6
   obtain ⟨x1,e1,-⟩:=DataW.trod_bool Tryz.underlying4 g7
   obtain ⟨x2,e2,-⟩:=DataW.trod_bool Tryz.underlying4 g8
   obtain ⟨x3,e3,-⟩:=DataW.trod_bool Tryz.underlying4 g9
   obtain rfl:d0=.int .u32 a:=List.cons.inj e0 |>.1
   obtain rfl:d1=.bool x1:=List.cons.inj e1 |>.1
   obtain rfl:d2=.bool x2:=List.cons.inj e2 |>.1
   obtain rfl:d3=.bool x3:=List.cons.inj e3 |>.1
   obtain ⟨a,rfl,ha⟩:=Cp.nat_u32 wa
   refine ⟨⟨c,a,x1,x2,x3⟩,?_,fun i=>(hc i).2,ha⟩
   rw [hsplit,show L.take 147=flat c 21 from hfl]
   rfl
end
end Go.Proofs.YtnkoknfihhdelaaGreatDoor
namespace Go.Proofs.YtnkoknfihhdelaaGreatDoor
open Go.ChangeShapes Go.WideShapes Go.ChangeAt Go.RowKit Go.Deep
set_option linter.unusedVariables false
set_option maxRecDepth 100000
theorem cells74:Tryz.prog.cellsOf 74=8:=by kernel_rfl
section
variable {H:Type} {enc:TypeId × Value→H} {W:World} {base:Nat} {spare:Nat→Bool} {held:Bool}
theorem one_fill {fuel:Nat} {cs:List Value} {x:DataW H × List MemPlace} (hl:cs.length=8) (h:DataW.trod enc Tryz.prog W base spare held fuel 74 cs=some x):∃ (a:Nat) (q:Cq),a<65536∧q.fit∧cs=.int .u16 (a:Int) :: q.L:=by
 match cs,hl with
 | [c0,c1,c2,c3,c4,c5,c6,c7],_ =>
  obtain ⟨xs,n,_,hx,_,hlen,hg⟩:=DataW.trod_struct Tryz.underlying74 h
  match xs,hlen with
  | [y0,y1],_ =>
   have g0:DataW.trod enc Tryz.prog W base spare held n 22 (([c0,c1,c2,c3,c4,c5,c6,c7].drop 0).take (Tryz.prog.cellsOf 22))=some y0:=hg 0 _ rfl
   rw [Cp.cells23] at g0
   have g1:DataW.trod enc Tryz.prog W base spare held n 29 (([c0,c1,c2,c3,c4,c5,c6,c7].drop 1).take (Tryz.prog.cellsOf 29))=some y1:=hg 1 _ rfl
   rw [Cp.cells27] at g1
   obtain ⟨a,e0,-,w0⟩:=DataW.trod_int Tryz.underlying22 g0
   obtain rfl:c0=.int .u16 a:=List.cons.inj e0 |>.1
   obtain ⟨a,rfl,ha⟩:=Cp.nat_u16 w0
   obtain ⟨q,hq,hf⟩:=cap_of_trod (by rfl) g1
   refine ⟨a,q,ha,hf,?_⟩
   have:[c1,c2,c3,c4,c5,c6,c7]=q.L:=hq
   rw [←this]
theorem spot_of_cell {w:World} {a:Addr} {v:Value} (h:w.cell? a=some v):a.spot=none:=by
 unfold World.cell? at h
 split at h
 ·split at h
  ·cases h
  ·rename_i hs
   cases hs':a.spot <;> simp [hs'] at hs ⊢
 ·cases h
theorem open_fills {fuel:Nat} {A:Option Addr} {N c:Nat} {x:DataW H × List MemPlace} (h:DataW.trod enc Tryz.prog W base spare held fuel 24 [.slice A N c]=some x):∃ f q,Fls W A N f q:=by
 rcases open_slice Tryz.underlying24 h with ⟨h0,_⟩ | ⟨a,len,cap,m,n,D,Pl,hcs,hb,hl,hm,hmm,hx,hi⟩
 ·simp at h0
  obtain ⟨rfl,rfl,rfl⟩:=h0
  exact ⟨fun _=>0,fun _=>nul,fun h=>absurd h (by omega)⟩
 ·simp at hcs
  obtain ⟨rfl,rfl,rfl⟩:=hcs
  have hle:N≤m:=by rw [hmm];split <;> omega
  have hone:∀ i,∃ r:Nat × Cq,i<N→(r.1<65536∧r.2.fit)∧∀ j v,(.int .u16 (r.1:Int) :: r.2.L)[j]?=some v→W.cell? ((a.add (i*8)).add j)=some v:=by
   intro i
   by_cases hlt:i<N
   ·obtain ⟨cs',hc,ht⟩:=hi i (by omega)
    rw [cells74] at hc
    obtain ⟨_,hcl,hat⟩:=World.cells?_some hc
    obtain ⟨r,q,h1,h2,rfl⟩:=one_fill hcl ht
    refine ⟨(r,q),fun _=>⟨⟨h1,h2⟩,fun j v hj=>?_⟩⟩
    have hj8:j<8:=by
     have:=(List.getElem?_eq_some_iff.1 hj).1
     simpa using this
    rw [hat j hj8]
    exact hj
   ·exact ⟨(0,nul),fun h=>absurd h hlt⟩
  obtain ⟨f,hf⟩:=Classical.axiomOfChoice hone
  refine ⟨fun i=>(f i).1,fun i=>(f i).2,fun h0=>?_⟩
  have c0:=(hf 0 h0).2 0 _ rfl
  have e0:(a.add (0*8)).add 0=a:=by simp [Addr.add]
  rw [e0] at c0
  have hs:=spot_of_cell c0
  obtain ⟨b,o,s⟩:=a
  simp only at hs
  subst hs
  refine ⟨b,o,rfl,World.block_lt_of_cell? W _ c0,fun k hk=>?_⟩
  obtain ⟨⟨h1,h2⟩,hc⟩:=hf k hk
  have ea:∀ j,((⟨b,o,none⟩:Addr).add (k*8)).add j=⟨b,o+k*8+j,none⟩:=fun j=>by rw [add_off,add_off]
  have z:∀ j v,(.int .u16 ((f k).1:Int) :: (f k).2.L)[j]?=some v→W.cell? ⟨b,o+k*8+j,none⟩=some v:=fun j v hj=>by rw [←ea];exact hc j v hj
  refine ⟨z 0 _ rfl,fun i v hv=>?_,h1,h2⟩
  have:=z (1+i) v (by rw [Nat.add_comm];exact hv)
  rw [Nat.add_assoc (o+k*8) 1 i]
  exact this
end
end Go.Proofs.YtnkoknfihhdelaaGreatDoor
