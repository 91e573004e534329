import Derived.Test.YtnkoknfihhdelaaGreatDoorZME
import Derived.Test.YtnkoknfihhdelaaGreatDoorZMC
import Derived.Deep.DeepCutAuto
import Derived.Deep.CutBlock
import Derived.Laws.Tables
namespace Go.Proofs.YtnkoknfihhdelaaGreatDoor
open Go.ChangeShapes Go.WideShapes Go.ChangeAt Go.RowKit
open Cp (cp arr mt num4)
set_option linter.unusedVariables false
set_option maxRecDepth 100000
abbrev z8:Array Value:=#[.int .u8 0,.int .u8 0,.int .u8 0,.int .u8 0,.int .u8 0,.int .u8 0,.int .u8 0,.int .u8 0]
theorem putA8 (l:List Value) (h:l.length=8):putA z8 0 l=l.toArray:=by
 unfold putA
 rw [h]
 simp
abbrev nCap:Array Value:=#[.bool false,.int .u32 0,.int .u8 0,.int .u8 0,.int .u8 0,.int .u16 0,.int .u16 0]
set_option maxHeartbeats 1000000 in
set_option maxRecDepth 100000 in
theorem loadCap (b at_:Nat) (C:Array Value) (g:Bool) (x0 x1 x2 x3 x4 x5 x6 x7:Nat) (a p y e bb t:Nat) (w:World) (hm:Me w b C) (ha:at_+8≤65536) (hw:granB at_=true)
  (hx:∀ j v,(bytes8 x0 x1 x2 x3 x4 x5 x6 x7)[j]?=some v→C[1+at_+j]?=some v) (hg:C[65537+at_/8]?=some (.bool g))
  (KO:Hid (∀ w:World,Calls Tryz.prog 52 #[arr x0 x1 x2 x3 x4 x5 x6 x7,.bool g] w fun en w'=>en=.returned (cp g a p y e bb t)∧Below w.heap.size w w')) :
  Calls Tryz.prog 19 #[.pointer (some ⟨b,0,none⟩),.int .u32 (at_:Int)] w fun en w'=>en=.returned (.tuple #[cp g a p y e bb t,.int .i64 0])∧Below w.heap.size w w':=by
 have K:=Lib.hid (c31 at_)
 rw [hw] at K
 have z0:=hm.1.lt
 have HM:=Lib.hid hm
 have z1:w.heap.size<w.heap.size+1:=by omega
 have HX:=Lib.hid hx;have HG:=Lib.hid hg
 clear hw hm hx hg
 go_enter Tryz.func19,Tryz.ntmps19
 go_wp2_with fail
 refine (Me.there (C:=C) (w:=w.alloc _) ⟨HM.out.1.alloc _,HM.out.2⟩).mono ?_
 rintro _ _ ⟨rfl,rfl⟩
 go_wp2_with fail
 refine (K.out _).mono ?_
 rintro _ _ ⟨rfl,rfl⟩
 go_wp2_with fail
 obtain ⟨q,hq⟩:∃ q,q=at_+8:=⟨_,rfl⟩
 have i1:(at_:Int)+8=(q:Int):=by omega
 have i3:q≤65536:=by omega
 have i5:IntKind.u32.wrap (q:Int)=(q:Int):=by show (q:Int)%4294967296=_;omega
 have hsl:=slice8 b at_ q hq i3
 have hsa:=sliceArr (w.heap.size+1)
 have HQ:=Lib.hid hq;have HA:=Lib.hid ha
 clear ha hq i3
 have hM1:Me ((w.alloc (.cells nCap 29)).alloc (.cells z8 109)) b C:=⟨(HM.out.1.alloc _).alloc _,HM.out.2⟩
 have hB:Blk ((w.alloc (.cells nCap 29)).alloc (.cells z8 109)) (w.heap.size+1) 109 z8:=by
  have:=Blk.new (w.alloc (.cells nCap 29)) 109 z8
  simpa using this
 have hR:Blk ((w.alloc (.cells nCap 29)).alloc (.cells z8 109)) w.heap.size 29 nCap:=(Blk.new w 29 nCap).alloc _
 have hO:Below w.heap.size w ((w.alloc (.cells nCap 29)).alloc (.cells z8 109)):=((Below.refl _ _).alloc (Nat.le_refl _) _).alloc (by simp) _
 have HM1:=Lib.hid hM1;have HB:=Lib.hid hB;have HR:=Lib.hid hR;have HO:=Lib.hid hO
 clear hM1 hB hR hO
 generalize hW:(w.alloc (.cells nCap 29)).alloc (.cells z8 109)=W at *
 clear hW
 go_cut [] from 15 to 25 (fun wx=>Below w.heap.size w wx∧Blk wx (w.heap.size+1) 109 (bytes8 x0 x1 x2 x3 x4 x5 x6 x7).toArray∧Blk wx w.heap.size 29 nCap∧Me wx b C)
 case first =>
  go_still_tail 10,(by kernel_rfl)
  change wpList _ _ _ _ _ (World.drew _)
  refine cp8 rfl (.tmp 15) (.tmp 24) rfl (w.heap.size+1) 0 8 b (1+at_) 8 rfl rfl 109 z8 HB.out.drew (bytes8 x0 x1 x2 x3 x4 x5 x6 x7) rfl ?_ (by simp [z8]) ?_ ?_
  ·intro j v hj
   rw [HM1.out.1.drew.cell]
   exact HX.out j v hj
  ·intro v hv
   simp only [bytes8,List.mem_cons,List.not_mem_nil,or_false] at hv
   rcases hv with rfl | rfl | rfl | rfl | rfl | rfl | rfl | rfl <;> rfl
  rw [putA8 _ rfl]
  intro w2 hb2 hg2
  have hO2:Below w.heap.size w w2:=HO.out.drew.grown hg2 (Nat.le_of_lt (by have:=HB.out.lt;show w.heap.size<W.heap.size;omega)) (fun k e=>by cases e;omega)
  have hbk:w2.heap[b]?=W.heap[b]?:=hg2.block b (by show b<W.heap.size;have:=HB.out.lt;omega) (fun e=>by have:=Option.some.inj e;omega)
  have hM2:Me w2 b C:=⟨hbk.trans HM1.out.1,HM1.out.2⟩
  have hR2:Blk w2 w.heap.size 29 nCap:=(hg2.block w.heap.size (by show w.heap.size<W.heap.size;have:=HB.out.lt;omega) (fun e=>by have:=Option.some.inj e;omega)).trans HR.out
  have HH:Hid (Below w.heap.size w w2∧Blk w2 (w.heap.size+1) 109 (bytes8 x0 x1 x2 x3 x4 x5 x6 x7).toArray∧Blk w2 w.heap.size 29 nCap∧Me w2 b C):=Lib.hid ⟨hO2,hb2,hR2,hM2⟩
  clear hbk hO2 hM2 hR2 hb2 hg2
  go_wp2_with fail
  go_meet
  case rel=>exact HH.out
 case rest =>
  obtain ⟨hO2,hb2,hR2,hM2⟩:=hcut
  obtain ⟨r,hr⟩:∃ r,r=at_/8:=⟨_,rfl⟩
  have hrl:r<8192:=by have:=HA.out;omega
  have hi:((r:Int)<8192)=True:=eq_true (by omega)
  have i7:(at_:Int)/8=(r:Int):=by omega
  have i8:IntKind.u32.wrap (r:Int)=(r:Int):=by show (r:Int)%4294967296=_;omega
  have ht:wc.cell? ⟨b,65537+r,none⟩=some (.bool g):=by rw [hM2.1.cell,hr];exact HG.out
  have y0:=hb2.cell 0
  have y1:=hb2.cell 1
  have y2:=hb2.cell 2
  have y3:=hb2.cell 3
  have y4:=hb2.cell 4
  have y5:=hb2.cell 5
  have y6:=hb2.cell 6
  have y7:=hb2.cell 7
  simp only [bytes8,List.getElem?_toArray,List.getElem?_cons_zero,List.getElem?_cons_succ] at y0 y1 y2 y3 y4 y5 y6 y7
  have HR2:=Lib.hid hR2;have HO2:=Lib.hid hO2;have HRr:=Lib.hid hr
  have zz:w.heap.size<wc.heap.size:=hR2.lt
  clear hr hM2 hR2 hO2 hb2 hsl hsa hrl i1 i5 HM1 HB HR HO HX HG
  clear W
  go_wp2_with fail
  refine wp_region_still_tail 8 (by kernel_rfl) (by kernel_rfl) ?_
  simp only [List.take_succ_cons,List.take_zero,List.drop_succ_cons,List.drop_zero]
  still_step
  clear y0 y1 y2 y3 y4 y5 y6 y7
  repeat (with_reducible refine wpStill_step (fun K hK=>?_);go_simp;with_reducible refine hK _ ?_;clear hK K)
  try refine wpStill_nil ?_
  change wpList _ _ _ _ _ (World.drew _)
  generalize hw3:World.drew _=w3
  have zz3:w.heap.size<w3.heap.size:=by rw [←hw3];exact zz
  have HR3:Hid (Blk w3 w.heap.size 29 nCap):=Lib.hid (by rw [←hw3];exact HR2.out.drew)
  have HO3:Hid (Below w.heap.size w w3):=Lib.hid (by rw [←hw3];exact HO2.out.drew)
  clear hw3
  go_wp2_with fail
  refine (KO.out _).mono ?_
  rintro _ w4 ⟨rfl,q4⟩
  have HR4:Blk w4 w.heap.size 29 nCap:=HR3.out.below q4 zz3
  have HO4:Hid (Below w.heap.size w w4):=Lib.hid (HO3.out.trans (q4.mono (Nat.le_of_lt zz3)))
  have zz4:=HR4.lt
  have y0:=HR4.cell 0
  have y1:=HR4.cell 1
  have y2:=HR4.cell 2
  have y3:=HR4.cell 3
  have y4:=HR4.cell 4
  have y5:=HR4.cell 5
  have y6:=HR4.cell 6
  simp only [nCap,List.getElem?_toArray,List.getElem?_cons_zero,List.getElem?_cons_succ] at y0 y1 y2 y3 y4 y5 y6
  have f0:=HR4.frozen 0
  have f1:=HR4.frozen 1
  have f2:=HR4.frozen 2
  have f3:=HR4.frozen 3
  have f4:=HR4.frozen 4
  have f5:=HR4.frozen 5
  have f6:=HR4.frozen 6
  clear q4 HR4 ht
  go_wp2_with fail
  refine bodyPost_ret (v:=.tuple #[cp g a p y e bb t,.int .i64 0]) (by simp [results,Tryz.results19,go_sem,y0,y1,y2,y3,y4,y5,y6]) rfl ⟨rfl,?_⟩
  exact (((((((HO4.out.setCell (Nat.le_refl _) _).setCell (Nat.le_refl _) _).setCell (Nat.le_refl _) _).setCell (Nat.le_refl _) _).setCell (Nat.le_refl _) _).setCell (Nat.le_refl _) _).setCell (Nat.le_refl _) _)
end Go.Proofs.YtnkoknfihhdelaaGreatDoor
namespace Go.Proofs.YtnkoknfihhdelaaGreatDoor
open Go.ChangeShapes Go.WideShapes Go.ChangeAt Go.RowKit
set_option linter.unusedVariables false
set_option maxRecDepth 100000
theorem Zone:Z.toList.all (·.oneCell')=true:=by kernel_rfl
theorem size64:(Tryz.prog.info? 69).map (·.size)=some 73729:=by kernel_rfl
def One (C:Array Value):Prop:=C.toList.all (·.oneCell')=true
theorem One.at_ {C:Array Value} (h:One C):C.all (·.oneCell')=true:=by
 rw [←Array.all_toList];exact h
theorem One.set_ {C:Array Value} (h:One C) (i:Nat) (v:Value) (hv:v.oneCell'=true):One (C.setIfInBounds i v):=by
 unfold One at *
 rw [Array.toList_setIfInBounds,List.all_eq_true]
 intro x hx
 rcases List.mem_or_eq_of_mem_set hx with h1 | h1
 ·exact List.all_eq_true.1 h x h1
 ·rw [h1];exact hv
theorem One.put {C:Array Value} (h:One C) (at_ n:Nat):∀ k,One (putB C at_ n k)
 | 0=>h
 | k+1=>(One.put h at_ n k).set_ _ _ rfl
set_option maxHeartbeats 1000000 in
theorem copy (b:Nat) (C:Array Value) (w:World) (hm:Me w b C) (h1:One C) :
  Calls Tryz.prog 16 #[.pointer (some ⟨b,0,none⟩)] w fun e w'=>e=.returned (.pointer (some ⟨w.heap.size,0,none⟩))∧Below w.heap.size w w'∧w'.heap.size=w.heap.size+1∧Me w' w.heap.size C:=by
 have KT:=Lib.hid hm.there
 have HM:=Lib.hid hm
 have HO:=Lib.hid h1
 have hz:=zeroValue64
 have hne:=Zne
 clear hm h1
 go_enter Tryz.func16,Tryz.ntmps16
 go_wp2_with fail
 refine KT.out.mono ?_
 rintro _ _ ⟨rfl,rfl⟩
 go_wp2_with (first | (refine wpList_load_row rfl 69 (.tmp 8) rfl b rfl 69 C (0,0) _ HM.out.1 Tryz.underlying69 rfl (by rw [size64,HM.out.2.1]) ?_) | (refine wpList_store_row rfl 69 (.tmp 3) (.tmp 9) rfl w.heap.size C rfl rfl 69 Z (Blk.new w 69 Z) (by rw [size64,HM.out.2.1]) (by rw [Zsize,HM.out.2.1]) HO.out.at_ ?_))
 go_ret
 exact ⟨rfl,below_setRow ((Below.refl _ _).alloc (Nat.le_refl _) _) (Nat.le_refl _) _,by simp [World.setRow],setRow_heap _ _ _ _ _ _ (Blk.new w 69 Z),HM.out.2⟩
end Go.Proofs.YtnkoknfihhdelaaGreatDoor
