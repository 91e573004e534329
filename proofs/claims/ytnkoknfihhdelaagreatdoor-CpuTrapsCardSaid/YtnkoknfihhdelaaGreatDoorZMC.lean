import Derived.Test.YtnkoknfihhdelaaGreatDoorZMB
import Derived.RegionTactic
import Derived.ChangeAlike
namespace Go.Proofs.YtnkoknfihhdelaaGreatDoor
open Go.ChangeShapes Go.WideShapes Go.ChangeAt Go.RowKit
set_option linter.unusedVariables false
def bt (n k:Nat):Nat:=n/256 ^ k%256
def putB (C:Array Value) (at_ n:Nat):Nat→Array Value
 | 0=>C
 | k+1=>(putB C at_ n k).setIfInBounds (1+(at_+k)) (.int .u8 (bt n k:Int))
def stC (C:Array Value) (at_ s n:Nat):Array Value:=(putB C at_ n s).setIfInBounds (65537+at_/8) (.bool false)
theorem putB_size (C:Array Value) (at_ n:Nat):∀ k,(putB C at_ n k).size=C.size
 | 0=>rfl
 | k+1=>by unfold putB;rw [Array.size_setIfInBounds,putB_size C at_ n k]
theorem putB_0 (C:Array Value) (at_ n:Nat):∀ k,(putB C at_ n k)[0]?=C[0]?
 | 0=>rfl
 | k+1=>by unfold putB;rw [Array.getElem?_setIfInBounds_ne (by omega),putB_0 C at_ n k]
theorem Me.put {w:World} {b:Nat} {C:Array Value} (h:Me w b C) (at_ n k:Nat):(putB C at_ n k).size=73729∧(putB C at_ n k)[0]?=some (.bool true) :=
 ⟨(putB_size C at_ n k).trans h.2.1,(putB_0 C at_ n k).trans h.2.2⟩
theorem Me.at_ {w:World} {b:Nat} {C:Array Value} (h:Me w b C) (i:Nat) (hi:i<73729):∃ v,w.cell? ⟨b,i,none⟩=some v:=by
 rw [h.1.cell,Array.getElem?_eq_getElem (by rw [h.2.1];exact hi)]
 exact ⟨_,rfl⟩
def SR (w:World) (b:Nat) (C:Array Value) (at_ n s:Nat) (i:Value) (wr:World):Prop:=∃ k:Nat,k≤s∧i=.int .i64 (k:Int)∧Only b w wr∧Me wr b (putB C at_ n k)
theorem SR.step {w wr:World} {b at_ n s k:Nat} {C:Array Value} (hk:k<s) (ho:Only b w wr) (hm:Me wr b (putB C at_ n k)) {i:Int} (hi:i=((k+1:Nat):Int)) {x:Int} (hx:x=(bt n k:Int)) {off:Nat} (hoff:off=1+(at_+k)) :
  SR w b C at_ n s (.int .i64 i) (wr.setCell ⟨b,off,none⟩ (.int .u8 x)).drew:=by
 subst hi hx hoff
 refine ⟨k+1,by omega,rfl,(ho.set_ _ _).drew,(hm.1.set_ _ _).drew,?_⟩
 show (putB C at_ n (k+1)).size=73729∧(putB C at_ n (k+1))[0]?=some (.bool true)
 unfold putB
 rw [Array.size_setIfInBounds,Array.getElem?_setIfInBounds_ne (by omega)]
 exact hm.2
theorem Me.tag_ {w:World} {b:Nat} {C:Array Value} (h:Me w b C) {i:Nat} (hi:1≤i) (v:Value):Me (w.setCell ⟨b,i,none⟩ v) b (C.setIfInBounds i v) :=
 ⟨h.1.set_ _ _,by rw [Array.size_setIfInBounds];exact h.2.1,by rw [Array.getElem?_setIfInBounds_ne (by omega)];exact h.2.2⟩
set_option maxHeartbeats 1000000 in
theorem store1 (b at_ n:Nat) (C:Array Value) (w:World) (hm:Me w b C) (hn:n<4294967296) (ha:at_+1≤65536) (hw:wordB at_ 1=true) :
  Calls Tryz.prog 22 #[.pointer (some ⟨b,0,none⟩),.int .u32 (at_:Int),.int .i64 1,.int .u32 (n:Int)] w fun e w'=>e=.returned (.int .i64 0)∧Only b w w'∧Me w' b (stC C at_ 1 n):=by
 have K:=Lib.hid (c30 at_ 1)
 rw [hw] at K
 have KT:=Lib.hid hm.there
 have HM:=Lib.hid hm
 clear hw hm
 go_enter Tryz.func22,Tryz.ntmps22
 go_wp2_with fail
 refine KT.out.mono ?_
 rintro _ _ ⟨rfl,rfl⟩
 go_wp2_with fail
 refine (K.out _).mono ?_
 rintro _ _ ⟨rfl,rfl⟩
 go_wp2_with fail
 go_loopw [9,18] (fun _ i wr=>SR w b C at_ n 1 i wr) (fun _ i _=>1-(intOf i).toNat)
 case atStart=>exact ⟨0,by omega,rfl,Only.refl _ _,HM.out⟩
 case round =>
  obtain ⟨k,hk,rfl,ho,hm⟩:=hrel
  have hk4:k=0∨k=1:=by omega
  clear hk
  rcases hk4 with rfl | rfl
  ·obtain ⟨v,hv⟩:=hm.at_ (1+(at_+0)) (by omega)
   have hf:=hm.1.frozen (1+(at_+0))
   have hv:wr.cell? ⟨b,1+at_,none⟩=some v:=hv
   have hf:wr.frozen? ⟨b,1+at_,none⟩=false:=hf
   have hi:(at_:Int)+0<65536:=by omega
   have HO:=Lib.hid ho;have HM2:=Lib.hid hm;have HA:=Lib.hid ha
   clear ho hm ha HM
   go_wp2_with fail
   go_region
   go_wp2_with fail
   exact ⟨SR.step (k:=0) (by omega) HO.out HM2.out rfl (by unfold bt;simp) rfl,by simp [intOf]⟩
  ·obtain ⟨v,hv⟩:=hm.at_ (65537+at_/8) (by omega)
   have hf:=hm.1.frozen (65537+at_/8)
   have hi:(at_:Int)/8<8192:=by omega
   have HO:=Lib.hid ho;have HM2:=Lib.hid hm;have HA:=Lib.hid ha
   clear ho hm ha HM
   go_wp2_with fail
   go_ret
   exact ⟨rfl,HO.out.set_ _ _,HM2.out.tag_ (by have:=HA.out;omega) _⟩
set_option maxHeartbeats 1000000 in
theorem store2 (b at_ n:Nat) (C:Array Value) (w:World) (hm:Me w b C) (hn:n<4294967296) (ha:at_+2≤65536) (hw:wordB at_ 2=true) :
  Calls Tryz.prog 22 #[.pointer (some ⟨b,0,none⟩),.int .u32 (at_:Int),.int .i64 2,.int .u32 (n:Int)] w fun e w'=>e=.returned (.int .i64 0)∧Only b w w'∧Me w' b (stC C at_ 2 n):=by
 have K:=Lib.hid (c30 at_ 2)
 rw [hw] at K
 have KT:=Lib.hid hm.there
 have HM:=Lib.hid hm
 clear hw hm
 go_enter Tryz.func22,Tryz.ntmps22
 go_wp2_with fail
 refine KT.out.mono ?_
 rintro _ _ ⟨rfl,rfl⟩
 go_wp2_with fail
 refine (K.out _).mono ?_
 rintro _ _ ⟨rfl,rfl⟩
 go_wp2_with fail
 go_loopw [9,18] (fun _ i wr=>SR w b C at_ n 2 i wr) (fun _ i _=>2-(intOf i).toNat)
 case atStart=>exact ⟨0,by omega,rfl,Only.refl _ _,HM.out⟩
 case round =>
  obtain ⟨k,hk,rfl,ho,hm⟩:=hrel
  have hk4:k=0∨k=1∨k=2:=by omega
  clear hk
  rcases hk4 with rfl | rfl | rfl
  ·obtain ⟨v,hv⟩:=hm.at_ (1+(at_+0)) (by omega)
   have hf:=hm.1.frozen (1+(at_+0))
   have hv:wr.cell? ⟨b,1+at_,none⟩=some v:=hv
   have hf:wr.frozen? ⟨b,1+at_,none⟩=false:=hf
   have hi:(at_:Int)+0<65536:=by omega
   have HO:=Lib.hid ho;have HM2:=Lib.hid hm;have HA:=Lib.hid ha
   clear ho hm ha HM
   go_wp2_with fail
   go_region
   go_wp2_with fail
   exact ⟨SR.step (k:=0) (by omega) HO.out HM2.out rfl (by unfold bt;simp) rfl,by simp [intOf]⟩
  ·obtain ⟨v,hv⟩:=hm.at_ (1+(at_+1)) (by omega)
   have hf:=hm.1.frozen (1+(at_+1))
   have hv:wr.cell? ⟨b,1+(at_+1),none⟩=some v:=hv
   have hf:wr.frozen? ⟨b,1+(at_+1),none⟩=false:=hf
   have hi:(at_:Int)+1<65536:=by omega
   have HO:=Lib.hid ho;have HM2:=Lib.hid hm;have HA:=Lib.hid ha
   clear ho hm ha HM
   go_wp2_with fail
   go_region
   go_wp2_with fail
   exact ⟨SR.step (k:=1) (by omega) HO.out HM2.out rfl (by unfold bt;simp) rfl,by simp [intOf]⟩
  ·obtain ⟨v,hv⟩:=hm.at_ (65537+at_/8) (by omega)
   have hf:=hm.1.frozen (65537+at_/8)
   have hi:(at_:Int)/8<8192:=by omega
   have HO:=Lib.hid ho;have HM2:=Lib.hid hm;have HA:=Lib.hid ha
   clear ho hm ha HM
   go_wp2_with fail
   go_ret
   exact ⟨rfl,HO.out.set_ _ _,HM2.out.tag_ (by have:=HA.out;omega) _⟩
set_option maxHeartbeats 1000000 in
theorem store4 (b at_ n:Nat) (C:Array Value) (w:World) (hm:Me w b C) (hn:n<4294967296) (ha:at_+4≤65536) (hw:wordB at_ 4=true) :
  Calls Tryz.prog 22 #[.pointer (some ⟨b,0,none⟩),.int .u32 (at_:Int),.int .i64 4,.int .u32 (n:Int)] w fun e w'=>e=.returned (.int .i64 0)∧Only b w w'∧Me w' b (stC C at_ 4 n):=by
 have K:=Lib.hid (c30 at_ 4)
 rw [hw] at K
 have KT:=Lib.hid hm.there
 have HM:=Lib.hid hm
 clear hw hm
 go_enter Tryz.func22,Tryz.ntmps22
 go_wp2_with fail
 refine KT.out.mono ?_
 rintro _ _ ⟨rfl,rfl⟩
 go_wp2_with fail
 refine (K.out _).mono ?_
 rintro _ _ ⟨rfl,rfl⟩
 go_wp2_with fail
 go_loopw [9,18] (fun _ i wr=>SR w b C at_ n 4 i wr) (fun _ i _=>4-(intOf i).toNat)
 case atStart=>exact ⟨0,by omega,rfl,Only.refl _ _,HM.out⟩
 case round =>
  obtain ⟨k,hk,rfl,ho,hm⟩:=hrel
  have hk4:k=0∨k=1∨k=2∨k=3∨k=4:=by omega
  clear hk
  rcases hk4 with rfl | rfl | rfl | rfl | rfl
  ·obtain ⟨v,hv⟩:=hm.at_ (1+(at_+0)) (by omega)
   have hf:=hm.1.frozen (1+(at_+0))
   have hv:wr.cell? ⟨b,1+at_,none⟩=some v:=hv
   have hf:wr.frozen? ⟨b,1+at_,none⟩=false:=hf
   have hi:(at_:Int)+0<65536:=by omega
   have HO:=Lib.hid ho;have HM2:=Lib.hid hm;have HA:=Lib.hid ha
   clear ho hm ha HM
   go_wp2_with fail
   go_region
   go_wp2_with fail
   exact ⟨SR.step (k:=0) (by omega) HO.out HM2.out rfl (by unfold bt;simp) rfl,by simp [intOf]⟩
  ·obtain ⟨v,hv⟩:=hm.at_ (1+(at_+1)) (by omega)
   have hf:=hm.1.frozen (1+(at_+1))
   have hv:wr.cell? ⟨b,1+(at_+1),none⟩=some v:=hv
   have hf:wr.frozen? ⟨b,1+(at_+1),none⟩=false:=hf
   have hi:(at_:Int)+1<65536:=by omega
   have HO:=Lib.hid ho;have HM2:=Lib.hid hm;have HA:=Lib.hid ha
   clear ho hm ha HM
   go_wp2_with fail
   go_region
   go_wp2_with fail
   exact ⟨SR.step (k:=1) (by omega) HO.out HM2.out rfl (by unfold bt;simp) rfl,by simp [intOf]⟩
  ·obtain ⟨v,hv⟩:=hm.at_ (1+(at_+2)) (by omega)
   have hf:=hm.1.frozen (1+(at_+2))
   have hv:wr.cell? ⟨b,1+(at_+2),none⟩=some v:=hv
   have hf:wr.frozen? ⟨b,1+(at_+2),none⟩=false:=hf
   have hi:(at_:Int)+2<65536:=by omega
   have HO:=Lib.hid ho;have HM2:=Lib.hid hm;have HA:=Lib.hid ha
   clear ho hm ha HM
   go_wp2_with fail
   go_region
   go_wp2_with fail
   exact ⟨SR.step (k:=2) (by omega) HO.out HM2.out rfl (by unfold bt;simp) rfl,by simp [intOf]⟩
  ·obtain ⟨v,hv⟩:=hm.at_ (1+(at_+3)) (by omega)
   have hf:=hm.1.frozen (1+(at_+3))
   have hv:wr.cell? ⟨b,1+(at_+3),none⟩=some v:=hv
   have hf:wr.frozen? ⟨b,1+(at_+3),none⟩=false:=hf
   have hi:(at_:Int)+3<65536:=by omega
   have HO:=Lib.hid ho;have HM2:=Lib.hid hm;have HA:=Lib.hid ha
   clear ho hm ha HM
   go_wp2_with fail
   go_region
   go_wp2_with fail
   exact ⟨SR.step (k:=3) (by omega) HO.out HM2.out rfl (by unfold bt;simp;omega) rfl,by simp [intOf]⟩
  ·obtain ⟨v,hv⟩:=hm.at_ (65537+at_/8) (by omega)
   have hf:=hm.1.frozen (65537+at_/8)
   have hi:(at_:Int)/8<8192:=by omega
   have HO:=Lib.hid ho;have HM2:=Lib.hid hm;have HA:=Lib.hid ha
   clear ho hm ha HM
   go_wp2_with fail
   go_ret
   exact ⟨rfl,HO.out.set_ _ _,HM2.out.tag_ (by have:=HA.out;omega) _⟩
end Go.Proofs.YtnkoknfihhdelaaGreatDoor
