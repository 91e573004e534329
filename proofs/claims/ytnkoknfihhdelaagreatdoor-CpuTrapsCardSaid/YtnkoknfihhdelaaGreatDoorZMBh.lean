import Derived.Test.YtnkoknfihhdelaaGreatDoorZMY
import Derived.Test.YtnkoknfihhdelaaGreatDoorZMBe
import Derived.StillTailTactics
import Derived.Deep.RegionHeld3
namespace Go.Proofs.YtnkoknfihhdelaaGreatDoor
open Go.ChangeShapes Go.WideShapes Go.ChangeAt Go.RowKit
open Pt (info5)
set_option linter.unusedVariables false
set_option maxRecDepth 100000
theorem info4:(Tryz.prog.info? 4).map (fun i=>(i.zero,i.size,i.bytes))=some (some (.bool false),1,1):=by kernel_rfl
theorem made_at (z:Value) (n j:Nat) (hj:j<n):(madeCells #[z] n)[j]?=some z:=by
 rw [←Array.getElem?_toList,toList_madeCells_one,List.getElem?_replicate,if_pos hj]
theorem n1 (w:World) (M:Array Value) (t:TypeId) (o1 o2:Obj):Blk (((w.alloc (.cells M t)).alloc o1).alloc o2) w.heap.size t M:=((Blk.new w t M).alloc _).alloc _
theorem n2 (w:World) (o1:Obj) (M:Array Value) (t:TypeId) (o2:Obj):Blk (((w.alloc o1).alloc (.cells M t)).alloc o2) (w.heap.size+1) t M:=by
 have:=(Blk.new (w.alloc o1) t M).alloc o2
 simpa using this
theorem n3 (w:World) (o1 o2:Obj) (M:Array Value) (t:TypeId):Blk (((w.alloc o1).alloc o2).alloc (.cells M t)) (w.heap.size+1+1) t M:=by
 have:=Blk.new ((w.alloc o1).alloc o2) t M
 simpa using this
end Go.Proofs.YtnkoknfihhdelaaGreatDoor
namespace Go.Proofs.YtnkoknfihhdelaaGreatDoor
open Go.ChangeShapes Go.WideShapes Go.ChangeAt Go.RowKit
open Cp (cp arr mt num4)
set_option linter.unusedVariables false
set_option maxRecDepth 100000
theorem Only2.size {x y:Nat} {w w1:World} (h:Only2 x y w w1):w.heap.size≤w1.heap.size:=(h.1 0 (Nat.zero_le _) (Nat.zero_le _) (Nat.zero_le _)).size
theorem Only2.below {x y:Nat} {w w1 w2:World} (h:Only2 x y w w1) (hb:Below w1.heap.size w1 w2):Only2 x y w w2 :=
 ⟨fun K h1 h2 h3=>(h.1 K h1 h2 h3).trans (hb.mono (Nat.le_trans h3 h.size)),fun g h1 h2 h3=>(hb.block g (Nat.lt_of_lt_of_le h3 h.size)).trans (h.2 g h1 h2 h3)⟩
theorem Only2.blk {x y g:Nat} {w w1:World} {t:TypeId} {C:Array Value} (h:Only2 x y w w1) (hb:Blk w g t C) (h1:g≠x) (h2:g≠y):Blk w1 g t C:=(h.2 g h1 h2 hb.lt).trans hb
theorem Tkm.lt {w:World} {g:Nat} {T:Nat→Bool} (h:Tkm w g T):g<w.heap.size:=by obtain ⟨c,h1,_⟩:=h;exact h1.lt
theorem RM.below {w w':World} {r x y c1 c2:Nat} {B:Nat→Nat} {T:Nat→Bool} (h:RM w r x y c1 c2 B T) (hb:Below w.heap.size w w'):RM w' r x y c1 c2 B T :=
 ⟨h.box.below hb h.box.lt,h.by_.below hb h.by_.lt,h.tg.below hb h.tg.lt,h.lt,h.xy,h.rx,h.ry⟩
def stS (B:Nat→Nat) (a k:Nat) (f:Nat→Nat) (i:Nat):Nat:=if a≤i∧i<a+k then f (i-a) else B i
theorem stS_step (B:Nat→Nat) (a k:Nat) (f:Nat→Nat):(fun i=>if i=a+k then f k else stS B a k f i)=stS B a (k+1) f:=by
 funext i
 unfold stS
 by_cases e:i=a+k
 ·rw [if_pos e,if_pos (by omega),e,Nat.add_sub_cancel_left]
 ·rw [if_neg e]
  by_cases c:a≤i∧i<a+k
  ·rw [if_pos c,if_pos (by omega)]
  ·rw [if_neg c,if_neg (by omega)]
theorem stS_0 (B:Nat→Nat) (a:Nat) (f:Nat→Nat):stS B a 0 f=B:=by
 funext i
 unfold stS
 rw [if_neg (by omega)]
theorem stS_8 (B:Nat→Nat) (a:Nat) (f:Nat→Nat):stS B a 8 f=scB B a f:=rfl
theorem b8_at (x0 x1 x2 x3 x4 x5 x6 x7 j:Nat) (hj:j<8):(#[.int .u8 (x0:Int),.int .u8 (x1:Int),.int .u8 (x2:Int),.int .u8 (x3:Int),.int .u8 (x4:Int),.int .u8 (x5:Int),.int .u8 (x6:Int),.int .u8 (x7:Int)]:Array Value)[j]?=some (.int .u8 (b8 x0 x1 x2 x3 x4 x5 x6 x7 j:Int)):=by
 have:j=0∨j=1∨j=2∨j=3∨j=4∨j=5∨j=6∨j=7:=by omega
 rcases this with rfl | rfl | rfl | rfl | rfl | rfl | rfl | rfl <;> rfl
def RSC (w:World) (r x y c1 c2 a:Nat) (B:Nat→Nat) (T:Nat→Bool) (f:Nat→Nat) (q:Nat) (V:Array Value) (p:Nat) (U:Array Value) (i:Value) (wr:World):Prop :=
 ∃ k:Nat,k≤8∧i=.int .i64 (k:Int)∧Only2 x y w wr∧RM wr r x y c1 c2 (stS B a k f) T∧Blk wr q 109 V∧Blk wr p 29 U
set_option maxRecDepth 100000 in
set_option maxHeartbeats 8000000 in
theorem rStoreCapW (r x y c1 c2 at_:Nat) (g:Bool) (u1 u2 u3 u4 u5 u6:Value) (x0 x1 x2 x3 x4 x5 x6 x7:Nat) (B:Nat→Nat) (T:Nat→Bool) (w:World) (hm:RM w r x y c1 c2 B T) (ha:at_<65536) (hw:at_%8=0)
  (hf:∀ j,b8 x0 x1 x2 x3 x4 x5 x6 x7 j<256)
  (K:Hid (∀ w,Calls Tryz.prog 56 #[.agg #[.bool g,u1,u2,u3,u4,u5,u6]] w fun en w'=>en=.returned (arr x0 x1 x2 x3 x4 x5 x6 x7)∧Below w.heap.size w w')) :
  Calls Tryz.prog 26 #[.pointer (some ⟨r,0,none⟩),.int .u32 (at_:Int),.agg #[.bool g,u1,u2,u3,u4,u5,u6]] w fun e w'=>e=.returned (.int .i64 0)∧Only2 x y w w'∧RM w' r x y c1 c2 (scB B at_ (b8 x0 x1 x2 x3 x4 x5 x6 x7)) (stT T at_ g):=by
 have HM:=Lib.hid hm
 obtain ⟨f,hff⟩:∃ f,f=b8 x0 x1 x2 x3 x4 x5 x6 x7:=⟨_,rfl⟩
 have HF:Hid (∀ j,f j<256):=Lib.hid (by rw [hff];exact hf)
 have HA:=Lib.hid (And.intro ha hw)
 have hr:((at_:Int)%8 != 0)=false:=by simp;omega
 have hq:decide ((65536:Int)≤(at_:Int))=false:=by simp;omega
 have ba:at_≤65536:=by omega
 clear hm hf hw ha
 go_enter Tryz.func26,Tryz.ntmps26
 go_wp2_with fail
 refine (K.out _).mono ?_
 rintro en w1 ⟨rfl,hb1⟩
 have hz1:w.heap.size<w1.heap.size:=by have:=hb1.size;simp at this;omega
 have hB1:Below w.heap.size w w1:=((Below.refl _ _).alloc (Nat.le_refl _) _).trans (hb1.mono (by simp))
 have P1:Blk w1 w.heap.size 29 #[.bool g,u1,u2,u3,u4,u5,u6]:=(Blk.new w 29 _).below hb1 (by simp)
 have M1:=HM.out.below hB1
 have O1:Only2 x y w w1:=(Only2.refl x y w).below hB1
 clear hb1
 go_wp2_with fail
 have Q2:Blk (w1.alloc (.cells #[.int .u8 (x0:Int),.int .u8 (x1:Int),.int .u8 (x2:Int),.int .u8 (x3:Int),.int .u8 (x4:Int),.int .u8 (x5:Int),.int .u8 (x6:Int),.int .u8 (x7:Int)] 109)) w1.heap.size 109 #[.int .u8 (x0:Int),.int .u8 (x1:Int),.int .u8 (x2:Int),.int .u8 (x3:Int),.int .u8 (x4:Int),.int .u8 (x5:Int),.int .u8 (x6:Int),.int .u8 (x7:Int)]:=Blk.new w1 109 _
 have hal:Below w1.heap.size w1 (w1.alloc (.cells #[.int .u8 (x0:Int),.int .u8 (x1:Int),.int .u8 (x2:Int),.int .u8 (x3:Int),.int .u8 (x4:Int),.int .u8 (x5:Int),.int .u8 (x6:Int),.int .u8 (x7:Int)] 109)):=(Below.refl _ _).alloc (Nat.le_refl _) _
 have START:Hid (RSC w r x y c1 c2 at_ B T f w1.heap.size #[.int .u8 (x0:Int),.int .u8 (x1:Int),.int .u8 (x2:Int),.int .u8 (x3:Int),.int .u8 (x4:Int),.int .u8 (x5:Int),.int .u8 (x6:Int),.int .u8 (x7:Int)] w.heap.size #[.bool g,u1,u2,u3,u4,u5,u6] (.int .i64 0) (w1.alloc (.cells #[.int .u8 (x0:Int),.int .u8 (x1:Int),.int .u8 (x2:Int),.int .u8 (x3:Int),.int .u8 (x4:Int),.int .u8 (x5:Int),.int .u8 (x6:Int),.int .u8 (x7:Int)] 109))) :=
  Lib.hid ⟨0,by omega,rfl,O1.below hal,by rw [stS_0];exact M1.below hal,Q2,P1.below hal hz1⟩
 have hne1:w1.heap.size≠x:=by have:=M1.by_.lt;omega
 have hne2:w1.heap.size≠y:=by have:=M1.tg.lt;omega
 have hne3:w.heap.size≠x:=by have:=HM.out.by_.lt;omega
 have hne4:w.heap.size≠y:=by have:=HM.out.tg.lt;omega
 have HB8:Hid (∀ j,j<8→(#[.int .u8 (x0:Int),.int .u8 (x1:Int),.int .u8 (x2:Int),.int .u8 (x3:Int),.int .u8 (x4:Int),.int .u8 (x5:Int),.int .u8 (x6:Int),.int .u8 (x7:Int)]:Array Value)[j]?=some (.int .u8 (f j:Int))):=Lib.hid fun j hj=>by rw [hff];exact b8_at _ _ _ _ _ _ _ _ j hj
 have HFF:=Lib.hid hff
 clear hff
 generalize (#[.int .u8 (x0:Int),.int .u8 (x1:Int),.int .u8 (x2:Int),.int .u8 (x3:Int),.int .u8 (x4:Int),.int .u8 (x5:Int),.int .u8 (x6:Int),.int .u8 (x7:Int)]:Array Value)=V at HB8 START
 generalize w1.heap.size=q at *
 clear Q2 hal O1 M1 P1 hB1 hr hq
 go_loopw [8] (fun i wr=>RSC w r x y c1 c2 at_ B T f q V w.heap.size #[.bool g,u1,u2,u3,u4,u5,u6] i wr) (fun i _=>8-(intOf i).toNat)
 case atStart=>exact START.out
 case round =>
  obtain ⟨k,hk,rfl,ho,hm,hQ,hP⟩:=hrel
  have p0:=hm.box.cell 0
  have p1:=hm.box.cell 1
  simp only [List.getElem?_toArray,List.getElem?_cons_zero,List.getElem?_cons_succ] at p0 p1
  have HO:=Lib.hid ho;have HM2:=Lib.hid hm;have HQ:=Lib.hid hQ;have HP:=Lib.hid hP
  clear ho hm hQ hP START
  by_cases hlt:k<8
  ·have hk8:k=0∨k=1∨k=2∨k=3∨k=4∨k=5∨k=6∨k=7:=by omega
   clear hlt hk
   rcases hk8 with rfl | rfl | rfl | rfl | rfl | rfl | rfl | rfl
   ·have v0:wr.cell? ⟨q,0,none⟩=some (.int .u8 (f 0:Int)):=by rw [HQ.out.cell];exact HB8.out 0 (by omega)
    obtain ⟨hv,hf⟩:=HM2.out.by_.cell (at_+0) (by have:=HA.out;omega)
    have hi:(at_:Int)<65536:=by have:=HA.out;omega
    have hv:wr.cell? ⟨x,at_,none⟩=some (.int .u8 (stS B at_ 0 f (at_+0):Int)):=hv
    have hf:wr.frozen? ⟨x,at_,none⟩=false:=hf
    have wa:IntKind.i64.wrap (at_:Int)=(at_:Int):=by rw [IntKind.wrap_i64];have:=HA.out;omega
    generalize stS B at_ 0 f (at_+0)=old at hv
    have HS:Hid (∀ (wz:World) (u:Nat),u=f 0→Below wr.heap.size wr wz→RSC w r x y c1 c2 at_ B T f q V w.heap.size #[.bool g,u1,u2,u3,u4,u5,u6] (.int .i64 1) (wz.setCell ⟨x,at_+0,none⟩ (.int .u8 (u:Int)))):=Lib.hid fun wz u hu hb=>by
     subst hu
     refine ⟨0+1,by omega,rfl,(HO.out.below hb).setX _ _,?_,(HQ.out.below hb HQ.out.lt).far hne1 _,(HP.out.below hb HP.out.lt).far hne3 _⟩
     rw [←stS_step]
     exact (HM2.out.below hb).setX (at_+0) (by have:=HA.out;omega) _ (HF.out 0)
    have hbl':=HF.out 0
    generalize f 0=bb at *
    have hbl:bb≤255:=by omega
    clear hbl'
    go_wp2_with fail
    refine wp_region_still_tail 12 (by kernel_rfl) (by kernel_rfl) ?_
    simp only [List.take_succ_cons,List.take_zero,List.drop_succ_cons,List.drop_zero]
    repeat (with_reducible refine wpStill_step (fun K hK=>?_);go_simp;with_reducible refine hK _ ?_;clear hK K)
    try refine wpStill_nil ?_
    clear wa
    change wpList _ _ _ _ _ (World.drew _)
    go_wp2_with fail
    go_roundw
    case rel =>
     have:=HS.out wr.drew bb rfl (Below.refl _ _).drew
     exact this
    case measure=>simp [intOf]
   ·have v0:wr.cell? ⟨q,1,none⟩=some (.int .u8 (f 1:Int)):=by rw [HQ.out.cell];exact HB8.out 1 (by omega)
    obtain ⟨hv,hf⟩:=HM2.out.by_.cell (at_+1) (by have:=HA.out;omega)
    obtain ⟨q2,hq2⟩:∃ q2:Nat,at_+1=q2:=⟨_,rfl⟩
    have hqi:(at_:Int)+1=(q2:Int):=by omega
    have hi:(q2:Int)<65536:=by have:=HA.out;omega
    have wa:IntKind.i64.wrap (at_:Int)=(at_:Int):=by rw [IntKind.wrap_i64];have:=HA.out;omega
    have wq:IntKind.i64.wrap (q2:Int)=(q2:Int):=by rw [IntKind.wrap_i64];have:=HA.out;omega
    generalize stS B at_ 1 f (at_+1)=old at hv
    have HS:Hid (∀ (wz:World) (u:Nat),u=f 1→Below wr.heap.size wr wz→RSC w r x y c1 c2 at_ B T f q V w.heap.size #[.bool g,u1,u2,u3,u4,u5,u6] (.int .i64 2) (wz.setCell ⟨x,at_+1,none⟩ (.int .u8 (u:Int)))):=Lib.hid fun wz u hu hb=>by
     subst hu
     refine ⟨1+1,by omega,rfl,(HO.out.below hb).setX _ _,?_,(HQ.out.below hb HQ.out.lt).far hne1 _,(HP.out.below hb HP.out.lt).far hne3 _⟩
     rw [←stS_step]
     exact (HM2.out.below hb).setX (at_+1) (by have:=HA.out;omega) _ (HF.out 1)
    rw [hq2] at hv hf
    have HQ2:=Lib.hid hq2
    clear hq2
    have hbl':=HF.out 1
    generalize f 1=bb at *
    have hbl:bb≤255:=by omega
    clear hbl'
    go_wp2_with fail
    refine wp_region_still_tail 12 (by kernel_rfl) (by kernel_rfl) ?_
    simp only [List.take_succ_cons,List.take_zero,List.drop_succ_cons,List.drop_zero]
    repeat (with_reducible refine wpStill_step (fun K hK=>?_);go_simp;with_reducible refine hK _ ?_;clear hK K)
    try refine wpStill_nil ?_
    clear wa wq hqi
    change wpList _ _ _ _ _ (World.drew _)
    go_wp2_with fail
    go_roundw
    case rel =>
     have:=HS.out wr.drew bb rfl (Below.refl _ _).drew
     rw [HQ2.out] at this
     exact this
    case measure=>simp [intOf]
   ·have v0:wr.cell? ⟨q,2,none⟩=some (.int .u8 (f 2:Int)):=by rw [HQ.out.cell];exact HB8.out 2 (by omega)
    obtain ⟨hv,hf⟩:=HM2.out.by_.cell (at_+2) (by have:=HA.out;omega)
    obtain ⟨q2,hq2⟩:∃ q2:Nat,at_+2=q2:=⟨_,rfl⟩
    have hqi:(at_:Int)+2=(q2:Int):=by omega
    have hi:(q2:Int)<65536:=by have:=HA.out;omega
    have wa:IntKind.i64.wrap (at_:Int)=(at_:Int):=by rw [IntKind.wrap_i64];have:=HA.out;omega
    have wq:IntKind.i64.wrap (q2:Int)=(q2:Int):=by rw [IntKind.wrap_i64];have:=HA.out;omega
    generalize stS B at_ 2 f (at_+2)=old at hv
    have HS:Hid (∀ (wz:World) (u:Nat),u=f 2→Below wr.heap.size wr wz→RSC w r x y c1 c2 at_ B T f q V w.heap.size #[.bool g,u1,u2,u3,u4,u5,u6] (.int .i64 3) (wz.setCell ⟨x,at_+2,none⟩ (.int .u8 (u:Int)))):=Lib.hid fun wz u hu hb=>by
     subst hu
     refine ⟨2+1,by omega,rfl,(HO.out.below hb).setX _ _,?_,(HQ.out.below hb HQ.out.lt).far hne1 _,(HP.out.below hb HP.out.lt).far hne3 _⟩
     rw [←stS_step]
     exact (HM2.out.below hb).setX (at_+2) (by have:=HA.out;omega) _ (HF.out 2)
    rw [hq2] at hv hf
    have HQ2:=Lib.hid hq2
    clear hq2
    have hbl':=HF.out 2
    generalize f 2=bb at *
    have hbl:bb≤255:=by omega
    clear hbl'
    go_wp2_with fail
    refine wp_region_still_tail 12 (by kernel_rfl) (by kernel_rfl) ?_
    simp only [List.take_succ_cons,List.take_zero,List.drop_succ_cons,List.drop_zero]
    repeat (with_reducible refine wpStill_step (fun K hK=>?_);go_simp;with_reducible refine hK _ ?_;clear hK K)
    try refine wpStill_nil ?_
    clear wa wq hqi
    change wpList _ _ _ _ _ (World.drew _)
    go_wp2_with fail
    go_roundw
    case rel =>
     have:=HS.out wr.drew bb rfl (Below.refl _ _).drew
     rw [HQ2.out] at this
     exact this
    case measure=>simp [intOf]
   ·have v0:wr.cell? ⟨q,3,none⟩=some (.int .u8 (f 3:Int)):=by rw [HQ.out.cell];exact HB8.out 3 (by omega)
    obtain ⟨hv,hf⟩:=HM2.out.by_.cell (at_+3) (by have:=HA.out;omega)
    obtain ⟨q2,hq2⟩:∃ q2:Nat,at_+3=q2:=⟨_,rfl⟩
    have hqi:(at_:Int)+3=(q2:Int):=by omega
    have hi:(q2:Int)<65536:=by have:=HA.out;omega
    have wa:IntKind.i64.wrap (at_:Int)=(at_:Int):=by rw [IntKind.wrap_i64];have:=HA.out;omega
    have wq:IntKind.i64.wrap (q2:Int)=(q2:Int):=by rw [IntKind.wrap_i64];have:=HA.out;omega
    generalize stS B at_ 3 f (at_+3)=old at hv
    have HS:Hid (∀ (wz:World) (u:Nat),u=f 3→Below wr.heap.size wr wz→RSC w r x y c1 c2 at_ B T f q V w.heap.size #[.bool g,u1,u2,u3,u4,u5,u6] (.int .i64 4) (wz.setCell ⟨x,at_+3,none⟩ (.int .u8 (u:Int)))):=Lib.hid fun wz u hu hb=>by
     subst hu
     refine ⟨3+1,by omega,rfl,(HO.out.below hb).setX _ _,?_,(HQ.out.below hb HQ.out.lt).far hne1 _,(HP.out.below hb HP.out.lt).far hne3 _⟩
     rw [←stS_step]
     exact (HM2.out.below hb).setX (at_+3) (by have:=HA.out;omega) _ (HF.out 3)
    rw [hq2] at hv hf
    have HQ2:=Lib.hid hq2
    clear hq2
    have hbl':=HF.out 3
    generalize f 3=bb at *
    have hbl:bb≤255:=by omega
    clear hbl'
    go_wp2_with fail
    refine wp_region_still_tail 12 (by kernel_rfl) (by kernel_rfl) ?_
    simp only [List.take_succ_cons,List.take_zero,List.drop_succ_cons,List.drop_zero]
    repeat (with_reducible refine wpStill_step (fun K hK=>?_);go_simp;with_reducible refine hK _ ?_;clear hK K)
    try refine wpStill_nil ?_
    clear wa wq hqi
    change wpList _ _ _ _ _ (World.drew _)
    go_wp2_with fail
    go_roundw
    case rel =>
     have:=HS.out wr.drew bb rfl (Below.refl _ _).drew
     rw [HQ2.out] at this
     exact this
    case measure=>simp [intOf]
   ·have v0:wr.cell? ⟨q,4,none⟩=some (.int .u8 (f 4:Int)):=by rw [HQ.out.cell];exact HB8.out 4 (by omega)
    obtain ⟨hv,hf⟩:=HM2.out.by_.cell (at_+4) (by have:=HA.out;omega)
    obtain ⟨q2,hq2⟩:∃ q2:Nat,at_+4=q2:=⟨_,rfl⟩
    have hqi:(at_:Int)+4=(q2:Int):=by omega
    have hi:(q2:Int)<65536:=by have:=HA.out;omega
    have wa:IntKind.i64.wrap (at_:Int)=(at_:Int):=by rw [IntKind.wrap_i64];have:=HA.out;omega
    have wq:IntKind.i64.wrap (q2:Int)=(q2:Int):=by rw [IntKind.wrap_i64];have:=HA.out;omega
    generalize stS B at_ 4 f (at_+4)=old at hv
    have HS:Hid (∀ (wz:World) (u:Nat),u=f 4→Below wr.heap.size wr wz→RSC w r x y c1 c2 at_ B T f q V w.heap.size #[.bool g,u1,u2,u3,u4,u5,u6] (.int .i64 5) (wz.setCell ⟨x,at_+4,none⟩ (.int .u8 (u:Int)))):=Lib.hid fun wz u hu hb=>by
     subst hu
     refine ⟨4+1,by omega,rfl,(HO.out.below hb).setX _ _,?_,(HQ.out.below hb HQ.out.lt).far hne1 _,(HP.out.below hb HP.out.lt).far hne3 _⟩
     rw [←stS_step]
     exact (HM2.out.below hb).setX (at_+4) (by have:=HA.out;omega) _ (HF.out 4)
    rw [hq2] at hv hf
    have HQ2:=Lib.hid hq2
    clear hq2
    have hbl':=HF.out 4
    generalize f 4=bb at *
    have hbl:bb≤255:=by omega
    clear hbl'
    go_wp2_with fail
    refine wp_region_still_tail 12 (by kernel_rfl) (by kernel_rfl) ?_
    simp only [List.take_succ_cons,List.take_zero,List.drop_succ_cons,List.drop_zero]
    repeat (with_reducible refine wpStill_step (fun K hK=>?_);go_simp;with_reducible refine hK _ ?_;clear hK K)
    try refine wpStill_nil ?_
    clear wa wq hqi
    change wpList _ _ _ _ _ (World.drew _)
    go_wp2_with fail
    go_roundw
    case rel =>
     have:=HS.out wr.drew bb rfl (Below.refl _ _).drew
     rw [HQ2.out] at this
     exact this
    case measure=>simp [intOf]
   ·have v0:wr.cell? ⟨q,5,none⟩=some (.int .u8 (f 5:Int)):=by rw [HQ.out.cell];exact HB8.out 5 (by omega)
    obtain ⟨hv,hf⟩:=HM2.out.by_.cell (at_+5) (by have:=HA.out;omega)
    obtain ⟨q2,hq2⟩:∃ q2:Nat,at_+5=q2:=⟨_,rfl⟩
    have hqi:(at_:Int)+5=(q2:Int):=by omega
    have hi:(q2:Int)<65536:=by have:=HA.out;omega
    have wa:IntKind.i64.wrap (at_:Int)=(at_:Int):=by rw [IntKind.wrap_i64];have:=HA.out;omega
    have wq:IntKind.i64.wrap (q2:Int)=(q2:Int):=by rw [IntKind.wrap_i64];have:=HA.out;omega
    generalize stS B at_ 5 f (at_+5)=old at hv
    have HS:Hid (∀ (wz:World) (u:Nat),u=f 5→Below wr.heap.size wr wz→RSC w r x y c1 c2 at_ B T f q V w.heap.size #[.bool g,u1,u2,u3,u4,u5,u6] (.int .i64 6) (wz.setCell ⟨x,at_+5,none⟩ (.int .u8 (u:Int)))):=Lib.hid fun wz u hu hb=>by
     subst hu
     refine ⟨5+1,by omega,rfl,(HO.out.below hb).setX _ _,?_,(HQ.out.below hb HQ.out.lt).far hne1 _,(HP.out.below hb HP.out.lt).far hne3 _⟩
     rw [←stS_step]
     exact (HM2.out.below hb).setX (at_+5) (by have:=HA.out;omega) _ (HF.out 5)
    rw [hq2] at hv hf
    have HQ2:=Lib.hid hq2
    clear hq2
    have hbl':=HF.out 5
    generalize f 5=bb at *
    have hbl:bb≤255:=by omega
    clear hbl'
    go_wp2_with fail
    refine wp_region_still_tail 12 (by kernel_rfl) (by kernel_rfl) ?_
    simp only [List.take_succ_cons,List.take_zero,List.drop_succ_cons,List.drop_zero]
    repeat (with_reducible refine wpStill_step (fun K hK=>?_);go_simp;with_reducible refine hK _ ?_;clear hK K)
    try refine wpStill_nil ?_
    clear wa wq hqi
    change wpList _ _ _ _ _ (World.drew _)
    go_wp2_with fail
    go_roundw
    case rel =>
     have:=HS.out wr.drew bb rfl (Below.refl _ _).drew
     rw [HQ2.out] at this
     exact this
    case measure=>simp [intOf]
   ·have v0:wr.cell? ⟨q,6,none⟩=some (.int .u8 (f 6:Int)):=by rw [HQ.out.cell];exact HB8.out 6 (by omega)
    obtain ⟨hv,hf⟩:=HM2.out.by_.cell (at_+6) (by have:=HA.out;omega)
    obtain ⟨q2,hq2⟩:∃ q2:Nat,at_+6=q2:=⟨_,rfl⟩
    have hqi:(at_:Int)+6=(q2:Int):=by omega
    have hi:(q2:Int)<65536:=by have:=HA.out;omega
    have wa:IntKind.i64.wrap (at_:Int)=(at_:Int):=by rw [IntKind.wrap_i64];have:=HA.out;omega
    have wq:IntKind.i64.wrap (q2:Int)=(q2:Int):=by rw [IntKind.wrap_i64];have:=HA.out;omega
    generalize stS B at_ 6 f (at_+6)=old at hv
    have HS:Hid (∀ (wz:World) (u:Nat),u=f 6→Below wr.heap.size wr wz→RSC w r x y c1 c2 at_ B T f q V w.heap.size #[.bool g,u1,u2,u3,u4,u5,u6] (.int .i64 7) (wz.setCell ⟨x,at_+6,none⟩ (.int .u8 (u:Int)))):=Lib.hid fun wz u hu hb=>by
     subst hu
     refine ⟨6+1,by omega,rfl,(HO.out.below hb).setX _ _,?_,(HQ.out.below hb HQ.out.lt).far hne1 _,(HP.out.below hb HP.out.lt).far hne3 _⟩
     rw [←stS_step]
     exact (HM2.out.below hb).setX (at_+6) (by have:=HA.out;omega) _ (HF.out 6)
    rw [hq2] at hv hf
    have HQ2:=Lib.hid hq2
    clear hq2
    have hbl':=HF.out 6
    generalize f 6=bb at *
    have hbl:bb≤255:=by omega
    clear hbl'
    go_wp2_with fail
    refine wp_region_still_tail 12 (by kernel_rfl) (by kernel_rfl) ?_
    simp only [List.take_succ_cons,List.take_zero,List.drop_succ_cons,List.drop_zero]
    repeat (with_reducible refine wpStill_step (fun K hK=>?_);go_simp;with_reducible refine hK _ ?_;clear hK K)
    try refine wpStill_nil ?_
    clear wa wq hqi
    change wpList _ _ _ _ _ (World.drew _)
    go_wp2_with fail
    go_roundw
    case rel =>
     have:=HS.out wr.drew bb rfl (Below.refl _ _).drew
     rw [HQ2.out] at this
     exact this
    case measure=>simp [intOf]
   ·have v0:wr.cell? ⟨q,7,none⟩=some (.int .u8 (f 7:Int)):=by rw [HQ.out.cell];exact HB8.out 7 (by omega)
    obtain ⟨hv,hf⟩:=HM2.out.by_.cell (at_+7) (by have:=HA.out;omega)
    obtain ⟨q2,hq2⟩:∃ q2:Nat,at_+7=q2:=⟨_,rfl⟩
    have hqi:(at_:Int)+7=(q2:Int):=by omega
    have hi:(q2:Int)<65536:=by have:=HA.out;omega
    have wa:IntKind.i64.wrap (at_:Int)=(at_:Int):=by rw [IntKind.wrap_i64];have:=HA.out;omega
    have wq:IntKind.i64.wrap (q2:Int)=(q2:Int):=by rw [IntKind.wrap_i64];have:=HA.out;omega
    generalize stS B at_ 7 f (at_+7)=old at hv
    have HS:Hid (∀ (wz:World) (u:Nat),u=f 7→Below wr.heap.size wr wz→RSC w r x y c1 c2 at_ B T f q V w.heap.size #[.bool g,u1,u2,u3,u4,u5,u6] (.int .i64 8) (wz.setCell ⟨x,at_+7,none⟩ (.int .u8 (u:Int)))):=Lib.hid fun wz u hu hb=>by
     subst hu
     refine ⟨7+1,by omega,rfl,(HO.out.below hb).setX _ _,?_,(HQ.out.below hb HQ.out.lt).far hne1 _,(HP.out.below hb HP.out.lt).far hne3 _⟩
     rw [←stS_step]
     exact (HM2.out.below hb).setX (at_+7) (by have:=HA.out;omega) _ (HF.out 7)
    rw [hq2] at hv hf
    have HQ2:=Lib.hid hq2
    clear hq2
    have hbl':=HF.out 7
    generalize f 7=bb at *
    have hbl:bb≤255:=by omega
    clear hbl'
    go_wp2_with fail
    refine wp_region_still_tail 12 (by kernel_rfl) (by kernel_rfl) ?_
    simp only [List.take_succ_cons,List.take_zero,List.drop_succ_cons,List.drop_zero]
    repeat (with_reducible refine wpStill_step (fun K hK=>?_);go_simp;with_reducible refine hK _ ?_;clear hK K)
    try refine wpStill_nil ?_
    clear wa wq hqi
    change wpList _ _ _ _ _ (World.drew _)
    go_wp2_with fail
    go_roundw
    case rel =>
     have:=HS.out wr.drew bb rfl (Below.refl _ _).drew
     rw [HQ2.out] at this
     exact this
    case measure=>simp [intOf]
  ·have hk8:k=8:=by omega
   subst hk8
   obtain ⟨hv,hf⟩:=HM2.out.tg.cell (at_/8) (by have:=HA.out;omega)
   have v0:wr.cell? ⟨w.heap.size,0,none⟩=some (.bool g):=HP.out.cell 0
   obtain ⟨q8,hq8⟩:∃ q8:Nat,at_/8=q8:=⟨_,rfl⟩
   have h8i:(at_:Int)/8=(q8:Int):=by omega
   have hi:(q8:Int)<8192:=by have:=HA.out;omega
   generalize T (at_/8)=old at hv
   rw [hq8] at hv hf
   have wu:IntKind.u32.wrap (q8:Int)=(q8:Int):=by rw [IntKind.wrap_u32];have:=HA.out;omega
   have HQ8:=Lib.hid hq8
   clear hq8
   go_wp2_with fail
   refine wp_region_still_tail 9 (by kernel_rfl) (by kernel_rfl) ?_
   simp only [List.take_succ_cons,List.take_zero,List.drop_succ_cons,List.drop_zero]
   repeat (with_reducible refine wpStill_step (fun K hK=>?_);go_simp;with_reducible refine hK _ ?_;clear hK K)
   try refine wpStill_nil ?_
   clear h8i wu
   change wpList _ _ _ _ _ (World.drew _)
   go_wp2_with fail
   go_ret
   have hb:Below wr.heap.size wr wr.drew:=(Below.refl _ _).drew
   rw [←HQ8.out]
   refine ⟨rfl,(HO.out.below hb).setY _ _,?_⟩
   have:=(HM2.out.below hb).setY at_ (by have:=HA.out;omega) g
   rw [stS_8,HFF.out] at this
   exact this
def E8 (w:World) (q k:Nat) (f:Nat→Nat):Prop:=∃ C,Blk w q 109 C∧C.size=8∧∀ j,j<k→C[j]?=some (.int .u8 (f j:Int))
theorem E8.below {w w':World} {q k K:Nat} {f:Nat→Nat} (h:E8 w q k f) (hb:Below K w w') (hk:q<K):E8 w' q k f:=by obtain ⟨C,h1,h2⟩:=h;exact ⟨C,h1.below hb hk,h2⟩
theorem E8.cell {w:World} {q k:Nat} {f:Nat→Nat} (h:E8 w q k f) (j:Nat) (hj:j<8):∃ v,w.cell? ⟨q,j,none⟩=some v∧w.frozen? ⟨q,j,none⟩=false:=by
 obtain ⟨C,h1,h2,h3⟩:=h
 exact ⟨C[j],by rw [h1.cell];exact Array.getElem?_eq_getElem (by omega),h1.frozen j⟩
theorem E8.step {w:World} {q k:Nat} {f:Nat→Nat} (h:E8 w q k f) (hk:k<8):E8 (w.setCell ⟨q,k,none⟩ (.int .u8 (f k:Int))) q (k+1) f:=by
 obtain ⟨C,h1,h2,h3⟩:=h
 refine ⟨_,h1.set_ k _,by rw [Array.size_setIfInBounds];exact h2,fun j hj=>?_⟩
 by_cases e:j=k
 ·rw [e,Array.getElem?_setIfInBounds_self_of_lt (by omega)]
 ·rw [Array.getElem?_setIfInBounds_ne (by omega)];exact h3 j (by omega)
theorem E8.all {w:World} {q:Nat} {f:Nat→Nat} (h:E8 w q 8 f):Blk w q 109 #[.int .u8 (f 0:Int),.int .u8 (f 1:Int),.int .u8 (f 2:Int),.int .u8 (f 3:Int),.int .u8 (f 4:Int),.int .u8 (f 5:Int),.int .u8 (f 6:Int),.int .u8 (f 7:Int)]:=by
 obtain ⟨C,h1,h2,h3⟩:=h
 have:C=#[.int .u8 (f 0:Int),.int .u8 (f 1:Int),.int .u8 (f 2:Int),.int .u8 (f 3:Int),.int .u8 (f 4:Int),.int .u8 (f 5:Int),.int .u8 (f 6:Int),.int .u8 (f 7:Int)]:=by
  apply Array.ext_getElem?
  intro i
  by_cases hi:i<8
  ·rw [h3 i hi]
   have:i=0∨i=1∨i=2∨i=3∨i=4∨i=5∨i=6∨i=7:=by omega
   rcases this with rfl | rfl | rfl | rfl | rfl | rfl | rfl | rfl <;> rfl
  ·rw [Array.getElem?_eq_none (by omega),Array.getElem?_eq_none (by simp;omega)]
 rw [←this];exact h1
end Go.Proofs.YtnkoknfihhdelaaGreatDoor
namespace Go.Proofs.YtnkoknfihhdelaaGreatDoor
open Go.ChangeShapes Go.WideShapes Go.ChangeAt Go.RowKit
set_option linter.unusedVariables false
set_option maxRecDepth 100000
open Pt (rowL rowL_len rowL_one PartOut info5)
theorem own_nil (w:World):w.ownsRow w.heap.size 5 1 (.slice none 0 0) 0 []:=⟨rfl,.inl ⟨rfl,rfl⟩⟩
set_option maxRecDepth 100000 in
set_option maxHeartbeats 4000000 in
theorem rBytes (r x y c2 a n:Nat) (B:Nat→Nat) (T:Nat→Bool) (w:World) (hm:RM w r x y 65536 c2 B T) (h:a+n≤65536) :
  Calls Tryz.prog 41 #[.pointer (some ⟨r,0,none⟩),.int .i64 (a:Int),.int .i64 (n:Int)] w (PartOut w n (fun j=>B (a+j))):=by
 obtain ⟨g,hg⟩:∃ g,g=fun j=>B (a+j):=⟨_,rfl⟩
 rw [←hg]
 have p0:=hm.box.cell 0
 simp only [List.getElem?_toArray,List.getElem?_cons_zero] at p0
 have HR:Hid (Pt.Rd w (some ⟨x,a,none⟩) n g):=Lib.hid (by
  rw [hg]
  intro h0
  exact ⟨x,a,rfl,hm.by_.lt,fun j hj=>(hm.by_.cell (a+j) (by omega)).1⟩)
 have hown:=own_nil w
 obtain ⟨i0,hi,hz0,hz1,hz2⟩:=info_parts info5
 obtain ⟨q,hq⟩:∃ q:Nat,a+n=q:=⟨_,rfl⟩
 have hqi:(a:Int)+(n:Int)=(q:Int):=by omega
 have b1:decide ((65536:Int)<(a:Int))=false:=by simp;omega
 have b2:decide ((65536:Int)-(a:Int)<(n:Int))=false:=by simp;omega
 have ba:a≤q:=by omega
 have bq:q≤65536:=by omega
 have HQ:=Lib.hid hq
 have HN:Hid (n≤65536):=Lib.hid (by omega)
 have b3:decide ((a:Int)<0)=false:=by simp
 have b4:decide ((n:Int)<0)=false:=by simp
 have hsub:q-a=n:=by omega
 clear hg hm h hq
 have HNW:=Lib.hid HR.out.news
 by_cases hn:n=0
 ·subst hn
  have hqa:q=a:=by omega
  subst hqa
  clear HR HQ HNW hsub hqi
  go_enter Tryz.func41,Tryz.ntmps41
  have hlc:∀ (p:Addr) (W:World),(loadCellsFrom p 0 0 #[]).run Tryz.prog W=.ok #[] W:=fun p W=>rfl
  go_wp2
  all_goals
   go_ret2
   exact ⟨_,rfl,Below.refl _ _,own_nil _⟩
 ·have hne:¬ 65536-a=0:=by omega
  have hnz:((n:Int)==0)=false:=by simp;omega
  clear HR HQ
  go_enter Tryz.func41,Tryz.ntmps41
  go_wp2_with (at_builtin;refine wpList_append_own _ rfl (.tmp 27) (.tmp 36) 93 rfl w.heap.size 5 i0 (.int .u8 0) 1 1 Tryz.underlying93 hi hz0 hz1 hz2 rfl (by decide) _ 0 [] rfl hown ⟨x,a,none⟩ n (65536-a) (rowL g n) rfl (by rw [rowL_len];omega) HNW.out (rowL_one g n) (by unfold maxLen;have:=HN.out;omega) (by have:=HN.out;omega) (Nat.le_refl _) ?_;intro v2 w2 hown2 hg2 _)
  go_ret2
  refine ⟨_,rfl,(Below.refl _ _).grown hg2 (Nat.le_refl _) (fun k hk=>by cases hk),by simpa using hown2⟩
end Go.Proofs.YtnkoknfihhdelaaGreatDoor
namespace Go.Proofs.YtnkoknfihhdelaaGreatDoor
open Go.ChangeShapes Go.WideShapes Go.ChangeAt Go.RowKit
set_option linter.unusedVariables false
set_option maxRecDepth 100000
def tq (T:Nat→Bool) (a n k:Nat):Bool:=T k&&(decide (0<n)&&(decide (a<8*k+8)&&decide (8*k<a+n)))
def rc (T:Nat→Bool) (a n:Nat):Nat→Nat
 | 0=>0
 | k+1=>rc T a n k+if tq T a n k=true then 1 else 0
theorem rc_le (T:Nat→Bool) (a n:Nat):∀ k,rc T a n k≤k
 | 0=>Nat.le_refl _
 | k+1=>by
  have:=rc_le T a n k
  unfold rc
  split <;> omega
theorem rc_cnt (T:Nat→Bool) (a n:Nat) (hn:0<n):∀ k,rc T a n k=cntT T (a/8) (min k ((a+n-1)/8+1)-a/8)
 | 0=>by
  rw [Nat.zero_min,Nat.zero_sub];rfl
 | k+1=>by
  unfold rc
  rw [rc_cnt T a n hn k]
  unfold tq
  rw [decide_eq_true hn]
  by_cases h1:k<a/8
  ·rw [show min (k+1) ((a+n-1)/8+1)-a/8=0 by omega,show min k ((a+n-1)/8+1)-a/8=0 by omega,decide_eq_false (by omega:¬ a<8*k+8)]
   simp
  ·by_cases h2:(a+n-1)/8<k
   ·rw [show min (k+1) ((a+n-1)/8+1)-a/8=min k ((a+n-1)/8+1)-a/8 by omega,decide_eq_false (by omega:¬ 8*k<a+n)]
    simp
   ·rw [show min (k+1) ((a+n-1)/8+1)-a/8=(min k ((a+n-1)/8+1)-a/8)+1 by omega,decide_eq_true (by omega:a<8*k+8),decide_eq_true (by omega:8*k<a+n)]
    have e:∀ m,cntT T (a/8) (m+1)=cntT T (a/8) m+if T (a/8+m)=true then 1 else 0:=fun _=>rfl
    rw [e,show a/8+(min k ((a+n-1)/8+1)-a/8)=k by omega]
    simp
theorem rc_all (T:Nat→Bool) (a n:Nat) (h:a+n≤65536):rc T a n 8192=tagsN T a n:=by
 unfold tagsN
 by_cases h0:n=0
 ·rw [if_pos h0]
  have:∀ k,rc T a n k=0:=by
   intro k
   induction k with
   | zero=>rfl
   | succ k ih =>
    unfold rc tq
    rw [ih,decide_eq_false (by omega:¬ 0<n)]
    simp
  exact this _
 ·rw [if_neg h0,rc_cnt T a n (by omega),show min 8192 ((a+n-1)/8+1)=(a+n-1)/8+1 by omega]
set_option maxRecDepth 100000 in
set_option maxHeartbeats 8000000 in
theorem rTags (r x y c1 a n:Nat) (B:Nat→Nat) (T:Nat→Bool) (w:World) (hm:RM w r x y c1 8192 B T) (h:a+n≤65536) :
  Calls Tryz.prog 43 #[.pointer (some ⟨r,0,none⟩),.int .i64 (a:Int),.int .i64 (n:Int)] w fun e w'=>e=.returned (.tuple #[.int .i64 (tagsN T a n:Int),.int .i64 0])∧w=w':=by
 have p1:=hm.box.cell 1
 simp only [List.getElem?_toArray,List.getElem?_cons_zero,List.getElem?_cons_succ] at p1
 have HT:Hid (∀ k,k<8192→w.cell? ⟨y,k,none⟩=some (.bool (T k))):=Lib.hid fun k hk=>(hm.tg.cell k hk).1
 have HR:=Lib.hid (rc_all T a n h)
 obtain ⟨q,hq⟩:∃ q:Nat,a+n=q:=⟨_,rfl⟩
 have HQ:=Lib.hid hq
 have hqi:(a:Int)+(n:Int)=(q:Int):=by omega
 have b1:decide ((65536:Int)<(a:Int))=false:=by simp;omega
 have b2:decide ((65536:Int)-(a:Int)<(n:Int))=false:=by simp;omega
 have ba:a≤65536:=by omega
 have bn:n≤65536:=by omega
 have bq:q≤65536:=by omega
 have b3:decide ((a:Int)<0)=false:=by simp
 have b4:decide ((n:Int)<0)=false:=by simp
 clear hm h hq
 go_enter Tryz.func43,Tryz.ntmps43
 go_wp2_with fail
 clear b1 b2 b3 b4
 go_loopw [8,9] (fun v i wr=>∃ k:Nat,k≤8192∧i=.int .i64 (k:Int)∧v=.int .i64 (rc T a n k:Int)∧wr=w) (fun _ i _=>8192-(intOf i).toNat)
 case atStart=>exact ⟨0,by omega,rfl,rfl,rfl⟩
 case round =>
  obtain ⟨k,hk,rfl,rfl,rfl⟩:=hrel
  by_cases hlt:k<8192
  ·have hv:=HT.out k hlt
   have d1:decide ((k:Int)<8192)=true:=by simp;omega
   have hki:(k:Int)<8192:=by omega
   obtain ⟨e,he⟩:∃ e:Nat,8*k=e:=⟨_,rfl⟩
   have hei:(8:Int)*(k:Int)=(e:Int):=by omega
   obtain ⟨e8,he8⟩:∃ e8:Nat,e+8=e8:=⟨_,rfl⟩
   have he8i:(e:Int)+8=(e8:Int):=by omega
   have be:e≤65536:=by omega
   have be8:e8≤65536:=by omega
   have hc:=rc_le T a n k
   have hst:rc T a n (k+1)=rc T a n k+if tq T a n k=true then 1 else 0:=rfl
   have htq:tq T a n k=(T k&&(decide (0<n)&&(decide (a<e8)&&decide (e<q)))):=by unfold tq;rw [he,he8,HQ.out]
   rw [htq] at hst
   generalize rc T a n k=c at *
   obtain ⟨c',hc1⟩:∃ c',rc T a n (k+1)=c':=⟨_,rfl⟩
   rw [hc1] at hst
   have HC1:=Lib.hid hc1
   clear hc1
   generalize T k=t at *
   have hcb:c≤8192:=by omega
   have HK:Hid (k+1≤8192):=Lib.hid hlt
   have HS:=Lib.hid hst
   clear hst htq hc hk hlt he he8
   have no:∀ b:Bool,b=false→c'=c+(if b=true then 1 else 0)→c'=c:=fun b hb h=>by rw [h,hb];rfl
   cases t
   ·have hc':c'=c:=no _ rfl HS.out
    clear no HS
    subst hc'
    go_wp2_with fail
    go_roundw
    case rel=>exact ⟨_,HK.out,by go_num,by first | (rw [HC1.out];done) | (rw [HC1.out];rfl) | (rw [HC1.out];go_num),trivial⟩
    case measure=>simp [intOf];have:=HK.out;omega
   ·by_cases h1:0<n
    ·by_cases h2:a<e8
     ·by_cases h3:e<q
      ·have hc':c'=c+1:=by have:=HS.out;simpa [h1,h2,h3] using this
       have HC:=Lib.hid hc'
       clear no HS hc'
       go_wp2_with fail
       go_roundw
       case rel=>exact ⟨_,HK.out,by go_num,by first | (rw [HC1.out,HC.out];done) | (rw [HC1.out,HC.out];rfl) | (rw [HC1.out,HC.out];go_num),trivial⟩
       case measure=>simp [intOf];have:=HK.out;omega
      ·have hc':c'=c:=by have:=HS.out;simpa [h1,h2,h3] using this
       clear no HS
       subst hc'
       go_wp2_with fail
       go_roundw
       case rel=>exact ⟨_,HK.out,by go_num,by first | (rw [HC1.out];done) | (rw [HC1.out];rfl) | (rw [HC1.out];go_num),trivial⟩
       case measure=>simp [intOf];have:=HK.out;omega
     ·have hc':c'=c:=by have:=HS.out;simpa [h1,h2] using this
      clear no HS
      subst hc'
      go_wp2_with fail
      go_roundw
      case rel=>exact ⟨_,HK.out,by go_num,by first | (rw [HC1.out];done) | (rw [HC1.out];rfl) | (rw [HC1.out];go_num),trivial⟩
      case measure=>simp [intOf];have:=HK.out;omega
    ·have hc':c'=c:=by have:=HS.out;simpa [h1] using this
     clear no HS
     subst hc'
     go_wp2_with fail
     go_roundw
     case rel=>exact ⟨_,HK.out,by go_num,by first | (rw [HC1.out];done) | (rw [HC1.out];rfl) | (rw [HC1.out];go_num),trivial⟩
     case measure=>simp [intOf];have:=HK.out;omega
  ·have hk8:k=8192:=by omega
   subst hk8
   clear hk hlt
   go_wp2_with fail
   go_ret2
   exact ⟨by rw [←HR.out];rfl,rfl⟩
end Go.Proofs.YtnkoknfihhdelaaGreatDoor
namespace Go.Proofs.YtnkoknfihhdelaaGreatDoor
open Go.ChangeShapes Go.WideShapes Go.ChangeAt Go.RowKit
open Cp (cp arr mt num4)
set_option linter.unusedVariables false
set_option maxRecDepth 100000
structure J (w0:World) (b r x y:Nat) (B:Nat→Nat) (T:Nat→Bool) (w:World):Prop where
 m:Mem w b B T
 rm:RM w r x y 65536 8192 B T
 br:b≠r
 bx:b≠x
 by_:b≠y
 lb:w0.heap.size≤b
 lr:w0.heap.size≤r
 lx:w0.heap.size≤x
 ly:w0.heap.size≤y
 bel:Below w0.heap.size w0 w
theorem RM.only {w w':World} {r x y c1 c2 b:Nat} {B:Nat→Nat} {T:Nat→Bool} (h:RM w r x y c1 c2 B T) (ho:Only b w w') (h1:b≠r) (h2:b≠x) (h3:b≠y):RM w' r x y c1 c2 B T :=
 ⟨ho.blk h1.symm h.box,h.by_.far ho h2.symm,by obtain ⟨c,h4,h5⟩:=h.tg;exact ⟨c,ho.blk h3.symm h4,h5⟩,h.lt,h.xy,h.rx,h.ry⟩
theorem Mem.only2 {w w':World} {b x y:Nat} {B:Nat→Nat} {T:Nat→Bool} (h:Mem w b B T) (ho:Only2 x y w w') (h2:b≠x) (h3:b≠y):Mem w' b B T:=by
 obtain ⟨C,h4,h5⟩:=h
 exact ⟨C,ho.blk h4 h2 h3,h5⟩
theorem J.below {w0 w w':World} {b r x y:Nat} {B:Nat→Nat} {T:Nat→Bool} (h:J w0 b r x y B T w) (hb:Below w.heap.size w w'):J w0 b r x y B T w' :=
 ⟨h.m.below hb h.m.lt,h.rm.below hb,h.br,h.bx,h.by_,h.lb,h.lr,h.lx,h.ly,h.bel.trans (hb.mono h.bel.size)⟩
theorem J.only {w0 w w':World} {b r x y:Nat} {B B':Nat→Nat} {T T':Nat→Bool} (h:J w0 b r x y B T w) (ho:Only b w w') (hm:Mem w' b B' T') :
  Below w0.heap.size w0 w'∧Mem w' b B' T'∧RM w' r x y 65536 8192 B T :=
 ⟨h.bel.trans (ho.1 _ h.lb h.bel.size),hm,h.rm.only ho h.br h.bx h.by_⟩
def End (w0:World) (b r x y:Nat) (w2:World):Prop:=∃ B' T',J w0 b r x y B' T' w2
theorem rStoreCap (r x y c1 c2 at_:Nat) (g:Bool) (a p ye e bb t:Nat) (B:Nat→Nat) (T:Nat→Bool) (w:World) (hm:RM w r x y c1 c2 B T) (ha:a<4294967296) (hp:p<256) (hy:ye<256) (he:e<256) (hb:bb<65536) (ht:t<65536) (hw:granB at_=true) :
  Calls Tryz.prog 26 #[.pointer (some ⟨r,0,none⟩),.int .u32 (at_:Int),cp g a p ye e bb t] w fun en w'=>en=.returned (.int .i64 0)∧Only2 x y w w'∧RM w' r x y c1 c2 (scB B at_ (b8 (bt a 0) (bt a 1) (bt a 2) (bt a 3) (bt (mt p ye e bb t) 0) (bt (mt p ye e bb t) 1) (bt (mt p ye e bb t) 2) (bt (mt p ye e bb t) 3))) (stT T at_ g):=by
 have h8:at_<65536∧at_%8=0:=by
  unfold granB at hw
  simpa using hw
 have K12:=fun w=>Cp.cb12 g a p ye e bb t ha hp hy he hb ht w
 have eb:∀ m k,Cp.En.bt m k=bt m k:=fun m k=>rfl
 simp only [eb] at K12
 exact rStoreCapW r x y c1 c2 at_ g _ _ _ _ _ _ _ _ _ _ _ _ _ _ B T w hm h8.1 h8.2 (b8_lt _ _ _ _ _ _ _ _ (bt_lt _ _) (bt_lt _ _) (bt_lt _ _) (bt_lt _ _) (bt_lt _ _) (bt_lt _ _) (bt_lt _ _) (bt_lt _ _)) (Lib.hid K12)
end Go.Proofs.YtnkoknfihhdelaaGreatDoor
