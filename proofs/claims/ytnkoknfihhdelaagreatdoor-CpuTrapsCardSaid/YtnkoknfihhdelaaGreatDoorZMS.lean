import Derived.Test.YtnkoknfihhdelaaGreatDoorZMQ
namespace Go.Proofs.YtnkoknfihhdelaaGreatDoor
open Go.ChangeShapes Go.WideShapes Go.ChangeAt Go.RowKit
set_option linter.unusedVariables false
set_option maxRecDepth 100000
theorem or8 (m x:Nat) (hm:m<16777216) (hx:x<256):bits .or .u32 ((m*256:Nat):Int) (x:Int)=((m*256+x:Nat):Int):=by
 rw [u32_or_nat _ _ (by omega) (by omega),show 256=2 ^ 8 from rfl,nat_join 8 _ x (Nat.mul_mod_left _ _) hx]
theorem stepL (m x:Nat) (hm:m<16777216) (hx:x<256):∃ u r:Nat,(m:Int)*256=(u:Int)∧u<4294967296∧bits .or .u32 (u:Int) (x:Int)=(r:Int)∧r=m*256+x :=
 ⟨m*256,m*256+x,by omega,by omega,or8 m x hm hx,rfl⟩
set_option maxHeartbeats 2000000 in
set_option maxRecDepth 100000 in
theorem load2 (b at_ x0 x1:Nat) (C:Array Value) (w:World) (hm:Me w b C) (ha:at_+2≤65536) (hw:wordB at_ 2=true) (hx0:x0<256) (hx1:x1<256) (h0:C[1+(at_+0)]?=some (.int .u8 (x0:Int))) (h1:C[1+(at_+1)]?=some (.int .u8 (x1:Int))) :
  Calls Tryz.prog 27 #[.pointer (some ⟨b,0,none⟩),.int .u32 (at_:Int),.int .i64 2] w fun e w'=>e=.returned (.tuple #[.int .u32 ((x0+x1*256:Nat):Int),.int .i64 0])∧w=w':=by
 have KT:=Lib.hid hm.there
 have K:=Lib.hid (c30 at_ 2)
 rw [hw] at K
 have c0:w.cell? ⟨b,1+at_,none⟩=some (.int .u8 (x0:Int)):=by rw [hm.1.cell];exact h0
 have c1:w.cell? ⟨b,1+(at_+1),none⟩=some (.int .u8 (x1:Int)):=by rw [hm.1.cell];exact h1
 obtain ⟨u1,v1,sh1,ub1,or1,hv1⟩:=stepL x1 x0 (by omega) hx0
 have ho:bits .or .u32 0 (x1:Int)=(x1:Int):=by
  have:=u32_or_nat 0 x1 (by omega) (by omega)
  simpa using this
 have HF:Hid (v1=x0+x1*256):=Lib.hid (by omega)
 have hi0:(at_:Int)<65536:=by omega
 have hi1:(at_:Int)+1<65536:=by omega
 rw [←HF.out]
 clear HF
 clear hm h0 h1 hw ha hv1
 have C0:=Lib.hid c0
 have C1:=Lib.hid c1
 have HO:=Lib.hid ho
 have SH1:=Lib.hid sh1;have OR1:=Lib.hid or1
 have I0:=Lib.hid hi0
 have I1:=Lib.hid hi1
 clear ho c0 hi0 c1 hi1 sh1 or1
 go_enter Tryz.func27,Tryz.ntmps27
 go_wp2_with fail
 refine KT.out.mono ?_
 rintro _ _ ⟨rfl,rfl⟩
 go_wp2_with fail
 refine (K.out _).mono ?_
 rintro _ _ ⟨rfl,rfl⟩
 go_wp2_with fail
 go_loop [8,9] (fun t i=>(i=.int .i64 (1)∧t=.int .u32 0)∨(i=.int .i64 (0)∧t=.int .u32 (x1:Int))∨(i=.int .i64 (-1)∧t=.int .u32 (v1:Int))) (fun _ i=>(1+intOf i).toNat)
 case atStart=>exact Or.inl ⟨rfl,rfl⟩
 case round =>
  rcases hrel with ⟨rfl,rfl⟩ | ⟨rfl,rfl⟩ | ⟨rfl,rfl⟩
  ·have c1:=C1.out
   have hi1:=I1.out
   have ho:=HO.out
   go_wp2_with fail
   go_round
   case rel=>exact Or.inr (Or.inl ⟨rfl,rfl⟩)
   case measure=>simp [intOf]
  ·have c0:=C0.out
   have hi0:=I0.out
   have sh1:=SH1.out
   have or1:=OR1.out
   go_wp2_with fail
   go_round
   case rel=>exact Or.inr (Or.inr (⟨rfl,rfl⟩))
   case measure=>simp [intOf]
  ·go_wp2_with fail
   go_ret2
   exact ⟨rfl,rfl⟩
set_option maxHeartbeats 2000000 in
set_option maxRecDepth 100000 in
theorem load4 (b at_ x0 x1 x2 x3:Nat) (C:Array Value) (w:World) (hm:Me w b C) (ha:at_+4≤65536) (hw:wordB at_ 4=true) (hx0:x0<256) (hx1:x1<256) (hx2:x2<256) (hx3:x3<256) (h0:C[1+(at_+0)]?=some (.int .u8 (x0:Int))) (h1:C[1+(at_+1)]?=some (.int .u8 (x1:Int))) (h2:C[1+(at_+2)]?=some (.int .u8 (x2:Int))) (h3:C[1+(at_+3)]?=some (.int .u8 (x3:Int))) :
  Calls Tryz.prog 27 #[.pointer (some ⟨b,0,none⟩),.int .u32 (at_:Int),.int .i64 4] w fun e w'=>e=.returned (.tuple #[.int .u32 ((x0+x1*256+x2*65536+x3*16777216:Nat):Int),.int .i64 0])∧w=w':=by
 have KT:=Lib.hid hm.there
 have K:=Lib.hid (c30 at_ 4)
 rw [hw] at K
 have c0:w.cell? ⟨b,1+at_,none⟩=some (.int .u8 (x0:Int)):=by rw [hm.1.cell];exact h0
 have c1:w.cell? ⟨b,1+(at_+1),none⟩=some (.int .u8 (x1:Int)):=by rw [hm.1.cell];exact h1
 have c2:w.cell? ⟨b,1+(at_+2),none⟩=some (.int .u8 (x2:Int)):=by rw [hm.1.cell];exact h2
 have c3:w.cell? ⟨b,1+(at_+3),none⟩=some (.int .u8 (x3:Int)):=by rw [hm.1.cell];exact h3
 obtain ⟨u1,v1,sh1,ub1,or1,hv1⟩:=stepL x3 x2 (by omega) hx2
 obtain ⟨u2,v2,sh2,ub2,or2,hv2⟩:=stepL v1 x1 (by omega) hx1
 obtain ⟨u3,v3,sh3,ub3,or3,hv3⟩:=stepL v2 x0 (by omega) hx0
 have ho:bits .or .u32 0 (x3:Int)=(x3:Int):=by
  have:=u32_or_nat 0 x3 (by omega) (by omega)
  simpa using this
 have HF:Hid (v3=x0+x1*256+x2*65536+x3*16777216):=Lib.hid (by omega)
 have hi0:(at_:Int)<65536:=by omega
 have hi1:(at_:Int)+1<65536:=by omega
 have hi2:(at_:Int)+2<65536:=by omega
 have hi3:(at_:Int)+3<65536:=by omega
 rw [←HF.out]
 clear HF
 clear hm h0 h1 h2 h3 hw ha hv1 hv2 hv3
 have C0:=Lib.hid c0
 have C1:=Lib.hid c1
 have C2:=Lib.hid c2
 have C3:=Lib.hid c3
 have HO:=Lib.hid ho
 have SH1:=Lib.hid sh1;have OR1:=Lib.hid or1
 have SH2:=Lib.hid sh2;have OR2:=Lib.hid or2
 have SH3:=Lib.hid sh3;have OR3:=Lib.hid or3
 have I0:=Lib.hid hi0
 have I1:=Lib.hid hi1
 have I2:=Lib.hid hi2
 have I3:=Lib.hid hi3
 clear ho c0 hi0 c1 hi1 c2 hi2 c3 hi3 sh1 or1 sh2 or2 sh3 or3
 go_enter Tryz.func27,Tryz.ntmps27
 go_wp2_with fail
 refine KT.out.mono ?_
 rintro _ _ ⟨rfl,rfl⟩
 go_wp2_with fail
 refine (K.out _).mono ?_
 rintro _ _ ⟨rfl,rfl⟩
 go_wp2_with fail
 go_loop [8,9] (fun t i=>(i=.int .i64 (3)∧t=.int .u32 0)∨(i=.int .i64 (2)∧t=.int .u32 (x3:Int))∨(i=.int .i64 (1)∧t=.int .u32 (v1:Int))∨(i=.int .i64 (0)∧t=.int .u32 (v2:Int))∨(i=.int .i64 (-1)∧t=.int .u32 (v3:Int))) (fun _ i=>(1+intOf i).toNat)
 case atStart=>exact Or.inl ⟨rfl,rfl⟩
 case round =>
  rcases hrel with ⟨rfl,rfl⟩ | ⟨rfl,rfl⟩ | ⟨rfl,rfl⟩ | ⟨rfl,rfl⟩ | ⟨rfl,rfl⟩
  ·have c3:=C3.out
   have hi3:=I3.out
   have ho:=HO.out
   go_wp2_with fail
   go_round
   case rel=>exact Or.inr (Or.inl ⟨rfl,rfl⟩)
   case measure=>simp [intOf]
  ·have c2:=C2.out
   have hi2:=I2.out
   have sh1:=SH1.out
   have or1:=OR1.out
   go_wp2_with fail
   go_round
   case rel=>exact Or.inr (Or.inr (Or.inl ⟨rfl,rfl⟩))
   case measure=>simp [intOf]
  ·have c1:=C1.out
   have hi1:=I1.out
   have sh2:=SH2.out
   have or2:=OR2.out
   go_wp2_with fail
   go_round
   case rel=>exact Or.inr (Or.inr (Or.inr (Or.inl ⟨rfl,rfl⟩)))
   case measure=>simp [intOf]
  ·have c0:=C0.out
   have hi0:=I0.out
   have sh3:=SH3.out
   have or3:=OR3.out
   go_wp2_with fail
   go_round
   case rel=>exact Or.inr (Or.inr (Or.inr (Or.inr (⟨rfl,rfl⟩))))
   case measure=>simp [intOf]
  ·go_wp2_with fail
   go_ret2
   exact ⟨rfl,rfl⟩
def numL (B:Nat→Nat) (a:Nat):Nat→Nat
 | 1=>B a
 | 2=>B a+B (a+1)*256
 | 4=>B a+B (a+1)*256+B (a+2)*65536+B (a+3)*16777216
 | _=>0
theorem mLoad (b at_:Nat) (s:Int) (B:Nat→Nat) (T:Nat→Bool) (w:World) (hm:Mem w b B T) (hw:wordB at_ s=true) :
  Calls Tryz.prog 27 #[.pointer (some ⟨b,0,none⟩),.int .u32 (at_:Int),.int .i64 s] w fun e w'=>e=.returned (.tuple #[.int .u32 (numL B at_ s.toNat:Int),.int .i64 0])∧w=w':=by
 obtain ⟨C,hb,r⟩:=hm
 have hm:=Mem.me hb r
 have h:=hw
 unfold wordB at h
 rw [decide_eq_true_eq] at h
 obtain ⟨hs,h1,h2⟩:=h
 rcases hs with rfl | rfl | rfl
 ·exact load1 b at_ (B at_) C w hm (by omega) hw (r.lt _) (r.bytes _ (by omega))
 ·exact load2 b at_ (B at_) (B (at_+1)) C w hm (by omega) hw (r.lt _) (r.lt _) (r.bytes _ (by omega)) (r.bytes _ (by omega))
 ·exact load4 b at_ (B at_) (B (at_+1)) (B (at_+2)) (B (at_+3)) C w hm (by omega) hw (r.lt _) (r.lt _) (r.lt _) (r.lt _) (r.bytes _ (by omega)) (r.bytes _ (by omega)) (r.bytes _ (by omega)) (r.bytes _ (by omega))
theorem mLoadNo (b at_:Nat) (s:Int) (B:Nat→Nat) (T:Nat→Bool) (w:World) (hm:Mem w b B T) (hw:wordB at_ s=false) :
  Calls Tryz.prog 27 #[.pointer (some ⟨b,0,none⟩),.int .u32 (at_:Int),.int .i64 s] w fun e w'=>e=.returned (.tuple #[.int .u32 0,.int .i64 2])∧w=w':=by
 obtain ⟨C,hb,r⟩:=hm
 have KT:=Lib.hid (Mem.me hb r).there
 have K:=Lib.hid (c30 at_ s)
 rw [hw] at K
 clear hw hb r
 go_enter Tryz.func27,Tryz.ntmps27
 go_wp2_with fail
 refine KT.out.mono ?_
 rintro _ _ ⟨rfl,rfl⟩
 go_wp2_with fail
 refine (K.out _).mono ?_
 rintro _ _ ⟨rfl,rfl⟩
 go_wp2_with fail
 go_ret2
 exact ⟨rfl,rfl⟩
def cntT (T:Nat→Bool) (lo:Nat):Nat→Nat
 | 0=>0
 | k+1=>cntT T lo k+if T (lo+k) then 1 else 0
theorem cntT_le (T:Nat→Bool) (lo:Nat):∀ k,cntT T lo k≤k
 | 0=>Nat.le_refl _
 | k+1=>by
  have:=cntT_le T lo k
  unfold cntT
  split <;> omega
theorem sliceTg (b lo hi m:Nat) (h1:lo<8192) (h2:lo≤hi) (h3:hi≤8192) (hm:m=hi-lo) (w:World) :
  (Instr.sliceAt 67 (.pointer (some ⟨b,65537,none⟩)) (some (.int .i64 (lo:Int))) (some (.int .i64 (hi:Int))) none).run Tryz.prog w=.ok (.slice (some ⟨b,65537+lo,none⟩) m (8192-lo)) w:=by
 have e:Tryz.prog.arrayLen 67=8192:=by kernel_rfl
 rw [run_sliceAt_array_lh w 67 ⟨b,65537,none⟩ (by kernel_rfl) .i64 .i64 _ _ (by omega) (by omega) (by rw [e];omega)]
 rw [show (sizeOf (Tryz.prog.elem 67)).run Tryz.prog w=.ok 1 w by kernel_rfl,e]
 subst hm
 simp only [Result.andThen,slicedAt,Int.toNat_natCast,Addr.add,Nat.mul_one]
 rw [if_neg (by omega)]
 congr 2
 split
 ·rename_i h;rw [h]
 ·rfl
set_option maxHeartbeats 2000000 in
set_option maxRecDepth 100000 in
theorem tagsG (b lo hi m a n s s1 h1 ra:Nat) (T:Nat→Bool) (C:Array Value) (w:World) (hm:Me w b C) (hT:∀ i,i<8192→C[65537+i]?=some (.bool (T i)))
  (q1:(a:Int)/8=(lo:Int)) (q2:(a:Int)+(n:Int)=(s:Int)) (q3:(s:Int)-1=(s1:Int)) (q4:(s1:Int)/8=(h1:Int)) (q5:(h1:Int)+1=(hi:Int)) (q6:(65536:Int)-(a:Int)=(ra:Int))
  (e1:lo<8192) (e2:lo≤hi) (e3:hi≤8192) (e4:m=hi-lo) (e5:n≤ra) (e6:a≤65536) (e7:0<n) :
  Calls Tryz.prog 42 #[.pointer (some ⟨b,0,none⟩),.int .i64 (a:Int),.int .i64 (n:Int)] w fun e w'=>e=.returned (.tuple #[.int .i64 (cntT T lo m:Int),.int .i64 0])∧w=w':=by
 have KT:=Lib.hid hm.there
 have hsl:=sliceTg b lo hi m e1 e2 e3 e4
 have hc:∀ k,k<m→w.cell? ⟨b,65537+lo+k,none⟩=some (.bool (T (lo+k))):=fun k hk=>by
  rw [hm.1.cell,Nat.add_assoc];exact hT _ (by omega)
 have HC:=Lib.hid hc
 have d1:decide ((a:Int)<0)=false:=by simp
 have d2:decide ((n:Int)<0)=false:=by simp
 have d3:decide ((65536:Int)<(a:Int))=false:=by simp;omega
 have d4:decide ((ra:Int)<(n:Int))=false:=by simp;omega
 have d5:((n:Int)==0)=false:=by simp;omega
 have bm:m≤8192:=by omega
 have bs:s≤65536:=by omega
 have bh:hi≤8192:=e3
 have ba:a≤65536:=e6
 have bl:lo≤8192:=by omega
 have bn:n≤65536:=by omega
 clear hm hT hc e1 e2 e3 e4 e5 e6 e7
 go_enter Tryz.func42,Tryz.ntmps42
 go_wp2_with fail
 refine KT.out.mono ?_
 rintro _ _ ⟨rfl,rfl⟩
 go_wp2_with fail
 clear q1 q2 q3 q4 q5 q6 d1 d2 d3 d4 d5 hsl
 go_loop [8,45] (fun t i=>∃ k:Nat,k≤m∧i=.int .i64 (k:Int)∧t=.int .i64 (cntT T lo k:Int)) (fun _ i=>m-(intOf i).toNat)
 case atStart=>exact ⟨0,by omega,rfl,rfl⟩
 case round =>
  obtain ⟨k,hk,rfl,rfl⟩:=hrel
  by_cases hlt:k<m
  ·have c:=HC.out k hlt
   have le:=cntT_le T lo k
   obtain ⟨v,hv⟩:∃ v,v=cntT T lo k:=⟨_,rfl⟩
   have hs:Hid (cntT T lo (k+1)=v+if T (lo+k) then 1 else 0):=Lib.hid (by rw [hv];rfl)
   rw [←hv] at le ⊢
   clear hv
   generalize hg:T (lo+k)=g at *
   have HG:=Lib.hid hg
   clear hg
   cases g
   ·go_wp2_with fail
    go_round
    case rel=>exact ⟨k+1,by omega,by go_num,by rw [hs.out];simp⟩
    case measure=>simp [intOf];omega
   ·go_wp2_with fail
    go_round
    case rel=>exact ⟨k+1,by omega,by go_num,by rw [hs.out];simp⟩
    case measure=>simp [intOf];omega
  ·obtain rfl:k=m:=by omega
   go_wp2_with fail
   go_ret2
   exact ⟨rfl,rfl⟩
end Go.Proofs.YtnkoknfihhdelaaGreatDoor
namespace Go.Proofs.YtnkoknfihhdelaaGreatDoor
open Go.ChangeShapes Go.WideShapes Go.ChangeAt Go.RowKit
set_option linter.unusedVariables false
def tagsN (T:Nat→Bool) (a n:Nat):Nat:=if n=0 then 0 else cntT T (a/8) ((a+n-1)/8+1-a/8)
theorem mTags (b a n:Nat) (B:Nat→Nat) (T:Nat→Bool) (w:World) (hm:Mem w b B T) (h:a+n≤65536) :
  Calls Tryz.prog 42 #[.pointer (some ⟨b,0,none⟩),.int .i64 (a:Int),.int .i64 (n:Int)] w fun e w'=>e=.returned (.tuple #[.int .i64 (tagsN T a n:Int),.int .i64 0])∧w=w':=by
 obtain ⟨C,hb,r⟩:=hm
 unfold tagsN
 by_cases h0:n=0
 ·subst h0
  rw [if_pos rfl]
  have KT:=Lib.hid (Mem.me hb r).there
  have d1:decide ((a:Int)<0)=false:=by simp
  have d3:decide ((65536:Int)<(a:Int))=false:=by simp;omega
  obtain ⟨ra,hra⟩:∃ ra:Nat,(65536:Int)-(a:Int)=(ra:Int):=⟨65536-a,by omega⟩
  have bl:a≤65536:=by omega
  have d4:decide ((ra:Int)<0)=false:=by simp
  clear hb r h
  go_enter Tryz.func42,Tryz.ntmps42
  go_wp2_with fail
  refine KT.out.mono ?_
  rintro _ _ ⟨rfl,rfl⟩
  go_wp2_with fail
  go_ret2
  exact ⟨rfl,rfl⟩
 ·rw [if_neg h0]
  exact tagsG b (a/8) ((a+n-1)/8+1) _ a n (a+n) (a+n-1) ((a+n-1)/8) (65536-a) T C w (Mem.me hb r) r.tags (by omega) (by omega) (by omega) (by omega) (by omega) (by omega) (by omega) (by omega) (by omega) rfl (by omega) (by omega) (by omega)
end Go.Proofs.YtnkoknfihhdelaaGreatDoor
