import Derived.Test.YtnkoknfihhdelaaGreatDoorZMY
namespace Go.Proofs.YtnkoknfihhdelaaGreatDoor
open Go.ChangeShapes Go.WideShapes Go.ChangeAt Go.RowKit
set_option linter.unusedVariables false
set_option maxRecDepth 100000
def Tkm (w:World) (g:Nat) (T:Nat→Bool):Prop:=∃ cur,Blk w g 4 cur∧8192≤cur.size∧∀ j,j<8192→cur[j]?=some (.bool (T j))
theorem Tkm.below {w w':World} {g K:Nat} {T:Nat→Bool} (h:Tkm w g T) (hb:Below K w w') (hk:g<K):Tkm w' g T:=by obtain ⟨c,h1,h2⟩:=h;exact ⟨c,h1.below hb hk,h2⟩
theorem Tkm.farSet {w:World} {g g2:Nat} {T:Nat→Bool} (h:Tkm w g T) (hne:g≠g2) (j:Nat) (v:Value):Tkm (w.setCell ⟨g2,j,none⟩ v) g T:=by
 obtain ⟨c,h1,h2⟩:=h
 exact ⟨c,h1.far hne _,h2⟩
theorem Tkm.cell {w:World} {g:Nat} {T:Nat→Bool} (h:Tkm w g T) (j:Nat) (hj:j<8192):w.cell? ⟨g,j,none⟩=some (.bool (T j))∧w.frozen? ⟨g,j,none⟩=false:=by
 obtain ⟨c,h1,h2,h3⟩:=h
 exact ⟨by rw [h1.cell];exact h3 j hj,h1.frozen j⟩
theorem Tkm.set_ {w:World} {g:Nat} {T:Nat→Bool} (h:Tkm w g T) (a:Nat) (hj:a/8<8192) (x:Bool):Tkm (w.setCell ⟨g,a/8,none⟩ (.bool x)) g (stT T a x):=by
 obtain ⟨c,h1,h2,h3⟩:=h
 refine ⟨c.setIfInBounds (a/8) (.bool x),h1.set_ _ _,by rw [Array.size_setIfInBounds];exact h2,fun i hi=>?_⟩
 unfold stT
 by_cases e:i=a/8
 ·rw [if_pos e,e,Array.getElem?_setIfInBounds_self_of_lt (by omega)]
 ·rw [if_neg e,Array.getElem?_setIfInBounds_ne (by omega)]
  exact h3 i hi
def Only2 (x y:Nat) (w w':World):Prop:=(∀ K,K≤x→K≤y→K≤w.heap.size→Below K w w')∧∀ g,g≠x→g≠y→g<w.heap.size→w'.heap[g]?=w.heap[g]?
theorem Only2.refl (x y:Nat) (w:World):Only2 x y w w:=⟨fun _ _ _ _=>Below.refl _ _,fun _ _ _ _=>rfl⟩
theorem Only2.setX {x y:Nat} {w w1:World} (h:Only2 x y w w1) (i:Nat) (u:Value):Only2 x y w (w1.setCell ⟨x,i,none⟩ u) :=
 ⟨fun K h1 h2 h3=>(h.1 K h1 h2 h3).setCell h1 _,fun g h1 h2 h3=>(Below.heap_setCell w1 ⟨x,i,none⟩ u g h1).trans (h.2 g h1 h2 h3)⟩
theorem Only2.setY {x y:Nat} {w w1:World} (h:Only2 x y w w1) (i:Nat) (u:Value):Only2 x y w (w1.setCell ⟨y,i,none⟩ u) :=
 ⟨fun K h1 h2 h3=>(h.1 K h1 h2 h3).setCell h2 _,fun g h1 h2 h3=>(Below.heap_setCell w1 ⟨y,i,none⟩ u g h2).trans (h.2 g h1 h2 h3)⟩
structure RM (w:World) (r x y c1 c2:Nat) (B:Nat→Nat) (T:Nat→Bool):Prop where
 box:Blk w r 112 #[.slice (some ⟨x,0,none⟩) 65536 c1,.slice (some ⟨y,0,none⟩) 8192 c2]
 by_:Bk w x B
 tg:Tkm w y T
 lt:∀ i,B i<256
 xy:x≠y
 rx:r≠x
 ry:r≠y
theorem RM.setX {w:World} {r x y c1 c2:Nat} {B:Nat→Nat} {T:Nat→Bool} (h:RM w r x y c1 c2 B T) (j:Nat) (hj:j<65536) (v:Nat) (hv:v<256):RM (w.setCell ⟨x,j,none⟩ (.int .u8 (v:Int))) r x y c1 c2 (fun i=>if i=j then v else B i) T where
 box:=h.box.far h.rx _
 by_:=h.by_.set_ j hj v
 tg:=h.tg.farSet h.xy.symm _ _
 lt:=fun i=>by
  show (if i=j then v else B i)<256
  split
  ·exact hv
  ·exact h.lt i
 xy:=h.xy
 rx:=h.rx
 ry:=h.ry
theorem RM.setY {w:World} {r x y c1 c2:Nat} {B:Nat→Nat} {T:Nat→Bool} (h:RM w r x y c1 c2 B T) (a:Nat) (ha:a<65536) (g:Bool):RM (w.setCell ⟨y,a/8,none⟩ (.bool g)) r x y c1 c2 B (stT T a g) where
 box:=h.box.far h.ry _
 by_:=h.by_.farSet h.xy _ _
 tg:=h.tg.set_ a (by omega) g
 lt:=h.lt
 xy:=h.xy
 rx:=h.rx
 ry:=h.ry
theorem stB_step (B:Nat→Nat) (a k n:Nat):(fun i=>if i=a+k then bt n k else stB B a k n i)=stB B a (k+1) n:=by
 funext i
 unfold stB
 by_cases e:i=a+k
 ·rw [if_pos e,if_pos (by omega),e,Nat.add_sub_cancel_left]
 ·rw [if_neg e]
  by_cases c:a≤i∧i<a+k
  ·rw [if_pos c,if_pos (by omega)]
  ·rw [if_neg c,if_neg (by omega)]
theorem stB_0 (B:Nat→Nat) (a n:Nat):stB B a 0 n=B:=by
 funext i
 unfold stB
 rw [if_neg (by omega)]
def RSt (w:World) (r x y c1 c2 a s n:Nat) (B:Nat→Nat) (T:Nat→Bool) (i v:Value) (wr:World):Prop:=∃ k:Nat,k≤s∧i=.int .i64 (k:Int)∧v=.int .u32 ((n/256 ^ k:Nat):Int)∧Only2 x y w wr∧RM wr r x y c1 c2 (stB B a k n) T
theorem RSt.step {w wr:World} {r x y c1 c2 a s n k:Nat} {B:Nat→Nat} {T:Nat→Bool} (hk:k<s) (ha:a+s≤65536) (ho:Only2 x y w wr) (h:RM wr r x y c1 c2 (stB B a k n) T) {i:Int} (hi:i=((k+1:Nat):Int)) {off:Nat} (hoff:off=a+k) {u v:Int} (hu:u=(bt n k:Int)) (hv:v=((n/256 ^ (k+1):Nat):Int)) :
  RSt w r x y c1 c2 a s n B T (.int .i64 i) (.int .u32 v) (wr.setCell ⟨x,off,none⟩ (.int .u8 u)):=by
 subst hi hoff hu hv
 refine ⟨k+1,by omega,rfl,rfl,ho.setX _ _,?_⟩
 rw [←stB_step]
 exact h.setX (a+k) (by omega) (bt n k) (bt_lt n k)
set_option maxHeartbeats 2000000 in
theorem rStore1 (r x y c1 c2 at_ n:Nat) (B:Nat→Nat) (T:Nat→Bool) (w:World) (hm:RM w r x y c1 c2 B T) (hn:n<4294967296) (ha:at_+1≤65536) (hw:at_%1=0) :
  Calls Tryz.prog 23 #[.pointer (some ⟨r,0,none⟩),.int .u32 (at_:Int),.int .i64 1,.int .u32 (n:Int)] w fun e w'=>e=.returned (.int .i64 0)∧Only2 x y w w'∧RM w' r x y c1 c2 (stB B at_ 1 n) (stT T at_ false):=by
 obtain ⟨q,hq⟩:∃ q:Nat,(at_:Int)+1=(q:Int):=⟨at_+1,by omega⟩
 have hq2:decide ((65536:Int)<(q:Int))=false:=by simp;omega
 have hr:True:=trivial
 have ba:at_≤65536:=by omega
 have bq:q≤65536:=by omega
 have HM:Hid (RM w r x y c1 c2 (stB B at_ 0 n) T):=Lib.hid (by rw [stB_0];exact hm)
 have HA:=Lib.hid ha
 clear hm ha hw
 go_enter Tryz.func23,Tryz.ntmps23
 go_wp2_with fail
 clear hq hq2 hr bq
 go_loopw [9,3] (fun i v wr=>RSt w r x y c1 c2 at_ 1 n B T i v wr) (fun i _ _=>1-(intOf i).toNat)
 case atStart=>exact ⟨0,by omega,rfl,by simp,Only2.refl _ _ _,HM.out⟩
 case round =>
  obtain ⟨k,hk,rfl,rfl,ho,hm⟩:=hrel
  have hk4:k=0∨k=1:=by omega
  clear hk
  have p0:=hm.box.cell 0
  have p1:=hm.box.cell 1
  simp only [List.getElem?_toArray,List.getElem?_cons_zero,List.getElem?_cons_succ] at p0 p1
  have HO:=Lib.hid ho;have HM2:=Lib.hid hm
  clear ho hm HM
  rcases hk4 with rfl | rfl
  ·obtain ⟨hv,hf⟩:=HM2.out.by_.cell (at_+0) (by have:=HA.out;omega)
   have hv:wr.cell? ⟨x,at_,none⟩=some (.int .u8 (stB B at_ 0 n (at_+0):Int)):=hv
   have hf:wr.frozen? ⟨x,at_,none⟩=false:=hf
   generalize stB B at_ 0 n (at_+0)=old at *
   have hi:(at_:Int)+0<65536:=by have:=HA.out;omega
   obtain ⟨m,hm⟩:∃ m:Nat,m=n/256 ^ 0:=⟨_,rfl⟩
   have bm:m<4294967296:=by rw [hm];exact Nat.lt_of_le_of_lt (Nat.div_le_self _ _) hn
   rw [←hm]
   have e1:(m:Int)%256=(bt n 0:Int):=by rw [hm];unfold bt;omega
   have e2:(m:Int)/256=((n/256 ^ (0+1):Nat):Int):=by rw [hm,Nat.pow_succ,←Nat.div_div_eq_div_mul];omega
   have e3:bt n 0<256:=bt_lt n 0
   have HS:Hid (∀ i:Int,i=((0+1:Nat):Int)→∀ off:Nat,off=at_+0→RSt w r x y c1 c2 at_ 1 n B T (.int .i64 i) (.int .u32 ((n/256 ^ (0+1):Nat):Int)) (wr.setCell ⟨x,off,none⟩ (.int .u8 (bt n 0:Int)))):=Lib.hid fun i hi off hoff=>RSt.step (k:=0) (by omega) HA.out HO.out HM2.out hi hoff rfl rfl
   generalize bt n 0=bb at *
   generalize n/256 ^ (0+1)=nn at *
   clear hm
   go_wp2_with fail
   go_roundw
   case rel=>exact HS.out _ rfl _ rfl
   case measure=>simp [intOf]
  ·obtain ⟨hv,hf⟩:=HM2.out.tg.cell (at_/8) (by have:=HA.out;omega)
   have hi:(at_:Int)/8<8192:=by have:=HA.out;omega
   generalize T (at_/8)=old at hv
   go_wp2_with fail
   go_ret
   exact ⟨rfl,HO.out.setY _ _,HM2.out.setY at_ (by have:=HA.out;omega) false⟩
set_option maxHeartbeats 2000000 in
theorem rStore2 (r x y c1 c2 at_ n:Nat) (B:Nat→Nat) (T:Nat→Bool) (w:World) (hm:RM w r x y c1 c2 B T) (hn:n<4294967296) (ha:at_+2≤65536) (hw:at_%2=0) :
  Calls Tryz.prog 23 #[.pointer (some ⟨r,0,none⟩),.int .u32 (at_:Int),.int .i64 2,.int .u32 (n:Int)] w fun e w'=>e=.returned (.int .i64 0)∧Only2 x y w w'∧RM w' r x y c1 c2 (stB B at_ 2 n) (stT T at_ false):=by
 obtain ⟨q,hq⟩:∃ q:Nat,(at_:Int)+2=(q:Int):=⟨at_+2,by omega⟩
 have hq2:decide ((65536:Int)<(q:Int))=false:=by simp;omega
 have hr:((at_:Int)%2 != 0)=false:=by simp;omega
 have ba:at_≤65536:=by omega
 have bq:q≤65536:=by omega
 have HM:Hid (RM w r x y c1 c2 (stB B at_ 0 n) T):=Lib.hid (by rw [stB_0];exact hm)
 have HA:=Lib.hid ha
 clear hm ha hw
 go_enter Tryz.func23,Tryz.ntmps23
 go_wp2_with fail
 clear hq hq2 hr bq
 go_loopw [9,3] (fun i v wr=>RSt w r x y c1 c2 at_ 2 n B T i v wr) (fun i _ _=>2-(intOf i).toNat)
 case atStart=>exact ⟨0,by omega,rfl,by simp,Only2.refl _ _ _,HM.out⟩
 case round =>
  obtain ⟨k,hk,rfl,rfl,ho,hm⟩:=hrel
  have hk4:k=0∨k=1∨k=2:=by omega
  clear hk
  have p0:=hm.box.cell 0
  have p1:=hm.box.cell 1
  simp only [List.getElem?_toArray,List.getElem?_cons_zero,List.getElem?_cons_succ] at p0 p1
  have HO:=Lib.hid ho;have HM2:=Lib.hid hm
  clear ho hm HM
  rcases hk4 with rfl | rfl | rfl
  ·obtain ⟨hv,hf⟩:=HM2.out.by_.cell (at_+0) (by have:=HA.out;omega)
   have hv:wr.cell? ⟨x,at_,none⟩=some (.int .u8 (stB B at_ 0 n (at_+0):Int)):=hv
   have hf:wr.frozen? ⟨x,at_,none⟩=false:=hf
   generalize stB B at_ 0 n (at_+0)=old at *
   have hi:(at_:Int)+0<65536:=by have:=HA.out;omega
   obtain ⟨m,hm⟩:∃ m:Nat,m=n/256 ^ 0:=⟨_,rfl⟩
   have bm:m<4294967296:=by rw [hm];exact Nat.lt_of_le_of_lt (Nat.div_le_self _ _) hn
   rw [←hm]
   have e1:(m:Int)%256=(bt n 0:Int):=by rw [hm];unfold bt;omega
   have e2:(m:Int)/256=((n/256 ^ (0+1):Nat):Int):=by rw [hm,Nat.pow_succ,←Nat.div_div_eq_div_mul];omega
   have e3:bt n 0<256:=bt_lt n 0
   have HS:Hid (∀ i:Int,i=((0+1:Nat):Int)→∀ off:Nat,off=at_+0→RSt w r x y c1 c2 at_ 2 n B T (.int .i64 i) (.int .u32 ((n/256 ^ (0+1):Nat):Int)) (wr.setCell ⟨x,off,none⟩ (.int .u8 (bt n 0:Int)))):=Lib.hid fun i hi off hoff=>RSt.step (k:=0) (by omega) HA.out HO.out HM2.out hi hoff rfl rfl
   generalize bt n 0=bb at *
   generalize n/256 ^ (0+1)=nn at *
   clear hm
   go_wp2_with fail
   go_roundw
   case rel=>exact HS.out _ rfl _ rfl
   case measure=>simp [intOf]
  ·obtain ⟨hv,hf⟩:=HM2.out.by_.cell (at_+1) (by have:=HA.out;omega)
   have hv:wr.cell? ⟨x,at_+1,none⟩=some (.int .u8 (stB B at_ 1 n (at_+1):Int)):=hv
   have hf:wr.frozen? ⟨x,at_+1,none⟩=false:=hf
   generalize stB B at_ 1 n (at_+1)=old at *
   have hi:(at_:Int)+1<65536:=by have:=HA.out;omega
   obtain ⟨m,hm⟩:∃ m:Nat,m=n/256 ^ 1:=⟨_,rfl⟩
   have bm:m<4294967296:=by rw [hm];exact Nat.lt_of_le_of_lt (Nat.div_le_self _ _) hn
   rw [←hm]
   have e1:(m:Int)%256=(bt n 1:Int):=by rw [hm];unfold bt;omega
   have e2:(m:Int)/256=((n/256 ^ (1+1):Nat):Int):=by rw [hm,Nat.pow_succ,←Nat.div_div_eq_div_mul];omega
   have e3:bt n 1<256:=bt_lt n 1
   have HS:Hid (∀ i:Int,i=((1+1:Nat):Int)→∀ off:Nat,off=at_+1→RSt w r x y c1 c2 at_ 2 n B T (.int .i64 i) (.int .u32 ((n/256 ^ (1+1):Nat):Int)) (wr.setCell ⟨x,off,none⟩ (.int .u8 (bt n 1:Int)))):=Lib.hid fun i hi off hoff=>RSt.step (k:=1) (by omega) HA.out HO.out HM2.out hi hoff rfl rfl
   generalize bt n 1=bb at *
   generalize n/256 ^ (1+1)=nn at *
   clear hm
   go_wp2_with fail
   go_roundw
   case rel=>exact HS.out _ rfl _ rfl
   case measure=>simp [intOf]
  ·obtain ⟨hv,hf⟩:=HM2.out.tg.cell (at_/8) (by have:=HA.out;omega)
   have hi:(at_:Int)/8<8192:=by have:=HA.out;omega
   generalize T (at_/8)=old at hv
   go_wp2_with fail
   go_ret
   exact ⟨rfl,HO.out.setY _ _,HM2.out.setY at_ (by have:=HA.out;omega) false⟩
set_option maxHeartbeats 2000000 in
theorem rStore4 (r x y c1 c2 at_ n:Nat) (B:Nat→Nat) (T:Nat→Bool) (w:World) (hm:RM w r x y c1 c2 B T) (hn:n<4294967296) (ha:at_+4≤65536) (hw:at_%4=0) :
  Calls Tryz.prog 23 #[.pointer (some ⟨r,0,none⟩),.int .u32 (at_:Int),.int .i64 4,.int .u32 (n:Int)] w fun e w'=>e=.returned (.int .i64 0)∧Only2 x y w w'∧RM w' r x y c1 c2 (stB B at_ 4 n) (stT T at_ false):=by
 obtain ⟨q,hq⟩:∃ q:Nat,(at_:Int)+4=(q:Int):=⟨at_+4,by omega⟩
 have hq2:decide ((65536:Int)<(q:Int))=false:=by simp;omega
 have hr:((at_:Int)%4 != 0)=false:=by simp;omega
 have ba:at_≤65536:=by omega
 have bq:q≤65536:=by omega
 have HM:Hid (RM w r x y c1 c2 (stB B at_ 0 n) T):=Lib.hid (by rw [stB_0];exact hm)
 have HA:=Lib.hid ha
 clear hm ha hw
 go_enter Tryz.func23,Tryz.ntmps23
 go_wp2_with fail
 clear hq hq2 hr bq
 go_loopw [9,3] (fun i v wr=>RSt w r x y c1 c2 at_ 4 n B T i v wr) (fun i _ _=>4-(intOf i).toNat)
 case atStart=>exact ⟨0,by omega,rfl,by simp,Only2.refl _ _ _,HM.out⟩
 case round =>
  obtain ⟨k,hk,rfl,rfl,ho,hm⟩:=hrel
  have hk4:k=0∨k=1∨k=2∨k=3∨k=4:=by omega
  clear hk
  have p0:=hm.box.cell 0
  have p1:=hm.box.cell 1
  simp only [List.getElem?_toArray,List.getElem?_cons_zero,List.getElem?_cons_succ] at p0 p1
  have HO:=Lib.hid ho;have HM2:=Lib.hid hm
  clear ho hm HM
  rcases hk4 with rfl | rfl | rfl | rfl | rfl
  ·obtain ⟨hv,hf⟩:=HM2.out.by_.cell (at_+0) (by have:=HA.out;omega)
   have hv:wr.cell? ⟨x,at_,none⟩=some (.int .u8 (stB B at_ 0 n (at_+0):Int)):=hv
   have hf:wr.frozen? ⟨x,at_,none⟩=false:=hf
   generalize stB B at_ 0 n (at_+0)=old at *
   have hi:(at_:Int)+0<65536:=by have:=HA.out;omega
   obtain ⟨m,hm⟩:∃ m:Nat,m=n/256 ^ 0:=⟨_,rfl⟩
   have bm:m<4294967296:=by rw [hm];exact Nat.lt_of_le_of_lt (Nat.div_le_self _ _) hn
   rw [←hm]
   have e1:(m:Int)%256=(bt n 0:Int):=by rw [hm];unfold bt;omega
   have e2:(m:Int)/256=((n/256 ^ (0+1):Nat):Int):=by rw [hm,Nat.pow_succ,←Nat.div_div_eq_div_mul];omega
   have e3:bt n 0<256:=bt_lt n 0
   have HS:Hid (∀ i:Int,i=((0+1:Nat):Int)→∀ off:Nat,off=at_+0→RSt w r x y c1 c2 at_ 4 n B T (.int .i64 i) (.int .u32 ((n/256 ^ (0+1):Nat):Int)) (wr.setCell ⟨x,off,none⟩ (.int .u8 (bt n 0:Int)))):=Lib.hid fun i hi off hoff=>RSt.step (k:=0) (by omega) HA.out HO.out HM2.out hi hoff rfl rfl
   generalize bt n 0=bb at *
   generalize n/256 ^ (0+1)=nn at *
   clear hm
   go_wp2_with fail
   go_roundw
   case rel=>exact HS.out _ rfl _ rfl
   case measure=>simp [intOf]
  ·obtain ⟨hv,hf⟩:=HM2.out.by_.cell (at_+1) (by have:=HA.out;omega)
   have hv:wr.cell? ⟨x,at_+1,none⟩=some (.int .u8 (stB B at_ 1 n (at_+1):Int)):=hv
   have hf:wr.frozen? ⟨x,at_+1,none⟩=false:=hf
   generalize stB B at_ 1 n (at_+1)=old at *
   have hi:(at_:Int)+1<65536:=by have:=HA.out;omega
   obtain ⟨m,hm⟩:∃ m:Nat,m=n/256 ^ 1:=⟨_,rfl⟩
   have bm:m<4294967296:=by rw [hm];exact Nat.lt_of_le_of_lt (Nat.div_le_self _ _) hn
   rw [←hm]
   have e1:(m:Int)%256=(bt n 1:Int):=by rw [hm];unfold bt;omega
   have e2:(m:Int)/256=((n/256 ^ (1+1):Nat):Int):=by rw [hm,Nat.pow_succ,←Nat.div_div_eq_div_mul];omega
   have e3:bt n 1<256:=bt_lt n 1
   have HS:Hid (∀ i:Int,i=((1+1:Nat):Int)→∀ off:Nat,off=at_+1→RSt w r x y c1 c2 at_ 4 n B T (.int .i64 i) (.int .u32 ((n/256 ^ (1+1):Nat):Int)) (wr.setCell ⟨x,off,none⟩ (.int .u8 (bt n 1:Int)))):=Lib.hid fun i hi off hoff=>RSt.step (k:=1) (by omega) HA.out HO.out HM2.out hi hoff rfl rfl
   generalize bt n 1=bb at *
   generalize n/256 ^ (1+1)=nn at *
   clear hm
   go_wp2_with fail
   go_roundw
   case rel=>exact HS.out _ rfl _ rfl
   case measure=>simp [intOf]
  ·obtain ⟨hv,hf⟩:=HM2.out.by_.cell (at_+2) (by have:=HA.out;omega)
   have hv:wr.cell? ⟨x,at_+2,none⟩=some (.int .u8 (stB B at_ 2 n (at_+2):Int)):=hv
   have hf:wr.frozen? ⟨x,at_+2,none⟩=false:=hf
   generalize stB B at_ 2 n (at_+2)=old at *
   have hi:(at_:Int)+2<65536:=by have:=HA.out;omega
   obtain ⟨m,hm⟩:∃ m:Nat,m=n/256 ^ 2:=⟨_,rfl⟩
   have bm:m<4294967296:=by rw [hm];exact Nat.lt_of_le_of_lt (Nat.div_le_self _ _) hn
   rw [←hm]
   have e1:(m:Int)%256=(bt n 2:Int):=by rw [hm];unfold bt;omega
   have e2:(m:Int)/256=((n/256 ^ (2+1):Nat):Int):=by rw [hm,Nat.pow_succ,←Nat.div_div_eq_div_mul];omega
   have e3:bt n 2<256:=bt_lt n 2
   have HS:Hid (∀ i:Int,i=((2+1:Nat):Int)→∀ off:Nat,off=at_+2→RSt w r x y c1 c2 at_ 4 n B T (.int .i64 i) (.int .u32 ((n/256 ^ (2+1):Nat):Int)) (wr.setCell ⟨x,off,none⟩ (.int .u8 (bt n 2:Int)))):=Lib.hid fun i hi off hoff=>RSt.step (k:=2) (by omega) HA.out HO.out HM2.out hi hoff rfl rfl
   generalize bt n 2=bb at *
   generalize n/256 ^ (2+1)=nn at *
   clear hm
   go_wp2_with fail
   go_roundw
   case rel=>exact HS.out _ rfl _ rfl
   case measure=>simp [intOf]
  ·obtain ⟨hv,hf⟩:=HM2.out.by_.cell (at_+3) (by have:=HA.out;omega)
   have hv:wr.cell? ⟨x,at_+3,none⟩=some (.int .u8 (stB B at_ 3 n (at_+3):Int)):=hv
   have hf:wr.frozen? ⟨x,at_+3,none⟩=false:=hf
   generalize stB B at_ 3 n (at_+3)=old at *
   have hi:(at_:Int)+3<65536:=by have:=HA.out;omega
   obtain ⟨m,hm⟩:∃ m:Nat,m=n/256 ^ 3:=⟨_,rfl⟩
   have bm:m<4294967296:=by rw [hm];exact Nat.lt_of_le_of_lt (Nat.div_le_self _ _) hn
   rw [←hm]
   have e1:(m:Int)%256=(bt n 3:Int):=by rw [hm];unfold bt;omega
   have e2:(m:Int)/256=((n/256 ^ (3+1):Nat):Int):=by rw [hm,Nat.pow_succ,←Nat.div_div_eq_div_mul];omega
   have e3:bt n 3<256:=bt_lt n 3
   have HS:Hid (∀ i:Int,i=((3+1:Nat):Int)→∀ off:Nat,off=at_+3→RSt w r x y c1 c2 at_ 4 n B T (.int .i64 i) (.int .u32 ((n/256 ^ (3+1):Nat):Int)) (wr.setCell ⟨x,off,none⟩ (.int .u8 (bt n 3:Int)))):=Lib.hid fun i hi off hoff=>RSt.step (k:=3) (by omega) HA.out HO.out HM2.out hi hoff rfl rfl
   generalize bt n 3=bb at *
   generalize n/256 ^ (3+1)=nn at *
   clear hm
   go_wp2_with fail
   go_roundw
   case rel=>exact HS.out _ rfl _ rfl
   case measure=>simp [intOf]
  ·obtain ⟨hv,hf⟩:=HM2.out.tg.cell (at_/8) (by have:=HA.out;omega)
   have hi:(at_:Int)/8<8192:=by have:=HA.out;omega
   generalize T (at_/8)=old at hv
   go_wp2_with fail
   go_ret
   exact ⟨rfl,HO.out.setY _ _,HM2.out.setY at_ (by have:=HA.out;omega) false⟩
theorem rStore (r x y c1 c2 at_ n:Nat) (s:Int) (B:Nat→Nat) (T:Nat→Bool) (w:World) (hm:RM w r x y c1 c2 B T) (hn:n<4294967296) (hw:wordB at_ s=true) :
  Calls Tryz.prog 23 #[.pointer (some ⟨r,0,none⟩),.int .u32 (at_:Int),.int .i64 s,.int .u32 (n:Int)] w fun e w'=>e=.returned (.int .i64 0)∧Only2 x y w w'∧RM w' r x y c1 c2 (stB B at_ s.toNat n) (stT T at_ false):=by
 unfold wordB at hw
 rw [decide_eq_true_eq] at hw
 obtain ⟨hs,h1,h2⟩:=hw
 rcases hs with rfl | rfl | rfl
 ·exact rStore1 r x y c1 c2 at_ n B T w hm hn (by omega) (by omega)
 ·exact rStore2 r x y c1 c2 at_ n B T w hm hn (by omega) (by omega)
 ·exact rStore4 r x y c1 c2 at_ n B T w hm hn (by omega) (by omega)
end Go.Proofs.YtnkoknfihhdelaaGreatDoor
