import Derived.Test.YtnkoknfihhdelaaGreatDoorProg
import Derived.WalkKit
import Derived.ProofKit
import Derived.OpenShut
import Derived.Below
import Derived.WalkSmall
import Derived.BigQuiet
import Derived.Deep.QuietTactic
import Derived.Deep.RegionHeld3
import Derived.LoopTactic
import Derived.Lib.Hide
import Derived.Laws.BitsAllLaws
import Derived.Laws.StructEq
namespace Go.Proofs.YtnkoknfihhdelaaGreatDoor.Ca
open Go.ChangeShapes Go.WideShapes Go.ChangeAt Go.RowKit
set_option linter.unusedVariables false
set_option maxRecDepth 100000
abbrev bnd (e b t:Nat):Value:=.agg #[.int .u8 (e:Int),.int .u16 (b:Int),.int .u16 (t:Int)]
def bs (x y a:Nat):Nat:=(if a/2 ^ x%512<y then (if a/2 ^ (x+9)=0 then 2 ^ (23-x) else a/2 ^ (x+9))-1 else a/2 ^ (x+9))*2 ^ (x+9)+y*2 ^ x
def ln (x y z:Nat):Nat:=(z+512-y)%512*2 ^ x
def wi (x y z a at' n:Nat):Bool:=decide (at'≤1099511627776∧n≤1099511627776∧bs x y a≤at'∧at'+n≤bs x y a+ln x y z)
theorem sixteen {P:Nat→Prop} (x:Nat) (hx:x<16) (h0:P 0) (h1:P 1) (h2:P 2) (h3:P 3) (h4:P 4) (h5:P 5) (h6:P 6) (h7:P 7) (h8:P 8) (h9:P 9) (h10:P 10) (h11:P 11) (h12:P 12) (h13:P 13) (h14:P 14) (h15:P 15):P x:=by
 have:x=0∨x=1∨x=2∨x=3∨x=4∨x=5∨x=6∨x=7∨x=8∨x=9∨x=10∨x=11∨x=12∨x=13∨x=14∨x=15:=by omega
 rcases this with rfl | rfl | rfl | rfl | rfl | rfl | rfl | rfl | rfl | rfl | rfl | rfl | rfl | rfl | rfl | rfl <;> assumption
theorem bs_lt (x y a:Nat) (hx:x<16) (hy:y<512) (ha:a<4294967296):bs x y a<4294967296:=by
 unfold bs
 apply sixteen (P:=fun x=>(if a/2 ^ x%512<y then (if a/2 ^ (x+9)=0 then 2 ^ (23-x) else a/2 ^ (x+9))-1 else a/2 ^ (x+9))*2 ^ (x+9)+y*2 ^ x<4294967296) x hx <;> simp <;> (split <;> (try split) <;> omega)
theorem ln_le (x y z:Nat) (hx:x<16):ln x y z≤16744448:=by
 unfold ln
 have h:(z+512-y)%512≤511:=by omega
 generalize (z+512-y)%512=d at h
 apply sixteen (P:=fun x=>d*2 ^ x≤16744448) x hx <;> simp <;> omega
theorem base_no (a x y:Nat) (hx:x<16) (hy:y<512) (ha:a<4294967296) (h:¬ a/2 ^ x%512<y) :
  IntKind.u64.wrap (IntKind.u64.wrap (IntKind.u64.wrap ((a:Int)/2 ^ (x+9))*2 ^ (x+9))+IntKind.u64.wrap ((y:Int)*2 ^ x))=((bs x y a:Nat):Int):=by
 unfold bs
 rw [if_neg h]
 clear h
 simp only [IntKind.wrap_u64]
 apply sixteen (P:=fun x=>((a:Int)/2 ^ (x+9)%18446744073709551616*2 ^ (x+9)%18446744073709551616+(y:Int)*2 ^ x%18446744073709551616)%18446744073709551616=((a/2 ^ (x+9)*2 ^ (x+9)+y*2 ^ x:Nat):Int)) x hx <;> simp <;> omega
theorem mask_sub (n k:Nat) (hk:k≤32) (hn:n<4294967296):bits .and .u32 (n:Int) (((2 ^ k-1:Nat)):Int)=((n%2 ^ k:Nat):Int):=by
 have h2:(2:Nat) ^ k≤2 ^ 32:=Nat.pow_le_pow_right (by omega) hk
 rw [u32_and_nat n (2 ^ k-1) hn (by omega),Nat.and_two_pow_sub_one_eq_mod]
theorem base_yes (a x y:Nat) (hx:x<16) (hy:y<512) (ha:a<4294967296) (h:a/2 ^ x%512<y) :
  IntKind.u64.wrap (IntKind.u64.wrap (IntKind.u64.wrap (bits .and .u32 (((a:Int)/2 ^ (x+9)-1)%4294967296) ((2 ^ (23-x)-1)%4294967296))*2 ^ (x+9))+IntKind.u64.wrap ((y:Int)*2 ^ x))=((bs x y a:Nat):Int):=by
 have e1:((2 ^ (23-x)-1:Int)%4294967296)=((2 ^ (23-x)-1:Nat):Int):=by
  apply sixteen (P:=fun x=>((2 ^ (23-x)-1:Int)%4294967296)=((2 ^ (23-x)-1:Nat):Int)) x hx <;> simp
 have e2:(((a:Int)/2 ^ (x+9)-1)%4294967296)=(((if a/2 ^ (x+9)=0 then 4294967296 else a/2 ^ (x+9))-1:Nat):Int):=by
  apply sixteen (P:=fun x=>(((a:Int)/2 ^ (x+9)-1)%4294967296)=(((if a/2 ^ (x+9)=0 then 4294967296 else a/2 ^ (x+9))-1:Nat):Int)) x hx <;> simp <;> (split <;> omega)
 rw [e1,e2,mask_sub _ _ (by omega) (by split <;> (try (have:=Nat.div_le_self a (2 ^ (x+9));omega)) <;> omega)]
 unfold bs
 rw [if_pos h]
 clear h e1 e2
 simp only [IntKind.wrap_u64]
 apply sixteen (P:=fun x=>((((((if a/2 ^ (x+9)=0 then 4294967296 else a/2 ^ (x+9))-1)%2 ^ (23-x):Nat):Int)%18446744073709551616*2 ^ (x+9)%18446744073709551616+(y:Int)*2 ^ x%18446744073709551616)%18446744073709551616=(((if a/2 ^ (x+9)=0 then 2 ^ (23-x) else a/2 ^ (x+9))-1)*2 ^ (x+9)+y*2 ^ x:Nat) )) x hx <;> simp <;> (split <;> omega)
theorem and511_16 (b:Nat) (hb:b<65536):bits .and .u16 (b:Int) 511=((b%512:Nat):Int):=by
 have h:=u16_and_nat b 511 hb (by omega)
 rw [nat_mask9] at h;exact h
theorem and511_32 (b:Nat) (hb:b<4294967296):bits .and .u32 (b:Int) 511=((b%512:Nat):Int):=by
 have h:=u32_and_nat b 511 hb (by omega)
 rw [nat_mask9] at h;exact h
theorem ret1 {k:IntKind} {a b:Int} (h:a=b):Ending.returned (.int k a)=.returned (.int k b):=by rw [h]
theorem c20 (e b t:Nat) (he:e<256) (hb:b<65536) (ht:t<65536) (w:World) :
  Calls Tryz.prog 173 #[bnd e b t] w fun en w'=>en=.returned (.tuple #[.int .u64 ((e%16:Nat):Int),.int .u32 ((b%512:Nat):Int),.int .u32 ((t%512:Nat):Int)])∧Below w.heap.size w w':=by
 have k1:=and511_16 b hb
 have k2:=and511_16 t ht
 go_enter Tryz.func173,Tryz.ntmps173
 go_wp2
 go_quiet (fail)
 go_wp2
 go_ret3
 exact ⟨by simp,below_drewN ((Below.refl _ _).alloc (Nat.le_refl _) _) _⟩
theorem c9 (e b t a:Nat) (he:e<256) (hb:b<65536) (ht:t<65536) (ha:a<4294967296) (w:World) :
  Calls Tryz.prog 151 #[bnd e b t,.int .u32 (a:Int)] w fun en w'=>en=.returned (.int .u64 ((bs (e%16) (b%512) a:Nat):Int))∧Below w.heap.size w w':=by
 go_enter Tryz.func151,Tryz.ntmps151
 go_wp2_with fail
 refine (c20 e b t he hb ht _).mono ?_
 rintro en w1 ⟨rfl,hb1⟩
 have h16:e%16<16:=Nat.mod_lt _ (by omega)
 generalize hx:e%16=x at *
 have Hx:=Lib.hid hx
 clear hx
 have h512:b%512<512:=Nat.mod_lt _ (by omega)
 generalize hy:b%512=y at *
 have Hy:=Lib.hid hy
 clear hy
 have hB:Below w.heap.size w w1:=((Below.refl _ _).alloc (Nat.le_refl _) _).trans (hb1.mono (by simp))
 clear hb1
 have kk:bits BinOp.and IntKind.u32 ((a:Int)/2 ^ x) 511=((a/2 ^ x%512:Nat):Int):=by
  have h:=and511_32 (a/2 ^ x) (by have:=Nat.div_le_self a (2 ^ x);omega)
  rw [←h];simp
 by_cases hlt:a/2 ^ x%512<y
 ·have hl:bits BinOp.and IntKind.u32 ((a:Int)/2 ^ x) 511<(y:Int):=by rw [kk];omega
  clear kk
  have fin:=base_yes a x y h16 h512 ha hlt
  have Fin:=Lib.hid fin
  clear fin
  go_wp2
  go_ret
  exact ⟨by rw [Hx.out,Hy.out];exact ret1 Fin.out,hB⟩
 ·have hl:(y:Int)≤bits BinOp.and IntKind.u32 ((a:Int)/2 ^ x) 511:=by rw [kk];omega
  clear kk
  have fin:=base_no a x y h16 h512 ha hlt
  have Fin:=Lib.hid fin
  clear fin
  go_wp2
  go_ret
  exact ⟨by rw [Hx.out,Hy.out];exact ret1 Fin.out,hB⟩
theorem c21 (e:Nat) (he:e≤40) (w:World) :
  Calls Tryz.prog 121 #[.int .i64 (e:Int)] w fun en w'=>en=.returned (.int .u64 ((2 ^ e:Nat):Int))∧w=w':=by
 go_enter Tryz.func121,Tryz.ntmps121
 go_wp2
 go_loop [3,4] (fun n i=>∃ k:Nat,k≤e∧i=.int .i64 k∧n=.int .u64 ((2 ^ k:Nat):Int)) (fun _ i=>e-(intOf i).toNat)
 case atStart=>exact ⟨0,by omega,rfl,rfl⟩
 case round =>
  obtain ⟨k,hk,rfl,rfl⟩:=hrel
  have hp:(2:Nat) ^ k≤2 ^ 40:=Nat.pow_le_pow_right (by omega) (by omega)
  have hd:((2 ^ (k+1):Nat):Int)=2*((2 ^ k:Nat):Int):=by rw [Nat.pow_succ];omega
  have Hd:=Lib.hid hd
  clear hd
  generalize hpk:(2:Nat) ^ k=p at *
  have Hp:=Lib.hid hpk
  clear hpk
  by_cases hlt:k<e
  ·go_wp2
   go_round
   case rel=>exact ⟨k+1,by omega,by go_num,by rw [Hd.out]⟩
   case measure=>simp [intOf];omega
  ·have:k=e:=by omega
   subst this
   go_wp2
   go_ret
   exact ⟨ret1 (by rw [←Hp.out];simp),rfl⟩
theorem cref (a x y:Nat) (hx:x<16) (hy:y<512) (ha:a<4294967296):(if a/2 ^ x%512<y then (if a/(512*2 ^ x)=0 then 2 ^ (23-x) else a/(512*2 ^ x))-1 else a/(512*2 ^ x))*512*2 ^ x+y*2 ^ x=bs x y a:=by
 unfold bs
 have e:(2:Nat) ^ (x+9)=512*2 ^ x:=by rw [Nat.pow_add,Nat.mul_comm]
 rw [e,Nat.mul_assoc]
theorem p40 (x:Nat) (hx:x<16):1≤2 ^ x∧2 ^ x≤32768:=⟨Nat.one_le_two_pow,Nat.le_trans (Nat.pow_le_pow_right (by omega) (by omega:x≤15)) (by omega)⟩
theorem wdiv (a p:Nat) (ha:a<4294967296):IntKind.u64.wrap ((a:Int)/(p:Int))=((a/p:Nat):Int):=by
 have h:=Nat.div_le_self a p
 rw [IntKind.wrap_u64,show (a:Int)/(p:Int)=((a/p:Nat):Int) from rfl]
 generalize a/p=q at *
 omega
theorem wdiv2 (a p:Nat) (ha:a<4294967296):IntKind.u64.wrap ((a:Int)/(512*(p:Int)))=((a/(512*p):Nat):Int):=by
 have:=wdiv a (512*p) ha
 simpa using this
theorem finA (u p y:Nat) (hu:u*512*p≤4294967296) (hp:1≤p) (hp2:p≤32768) (hy:y<512) :
  IntKind.u64.wrap (IntKind.u64.wrap ((u:Int)*512*(p:Int))+IntKind.u64.wrap ((y:Int)*(p:Int)))=((u*512*p+y*p:Nat):Int):=by
 have h:y*p≤512*32768:=Nat.mul_le_mul (by omega) hp2
 rw [show ((u:Int)*512*(p:Int))=((u*512*p:Nat):Int) by simp,show (y:Int)*(p:Int)=((y*p:Nat):Int) by simp]
 generalize u*512*p=A at *
 generalize y*p=B at *
 simp only [IntKind.wrap_u64]
 omega
theorem c10 (e b t a:Nat) (he:e<256) (hb:b<65536) (ht:t<65536) (ha:a<4294967296) (w:World) :
  Calls Tryz.prog 85 #[bnd e b t,.int .u32 (a:Int)] w fun en w'=>en=.returned (.int .u64 ((bs (e%16) (b%512) a:Nat):Int))∧Below w.heap.size w w':=by
 obtain ⟨x,hx⟩:∃ x,e%16=x:=⟨_,rfl⟩
 obtain ⟨y,hy⟩:∃ y,b%512=y:=⟨_,rfl⟩
 have h16:x<16:=by omega
 have h512:y<512:=by omega
 rw [hx,hy]
 have rx:(e:Int)%16=(x:Int):=by omega
 have ry:(b:Int)%512=(y:Int):=by omega
 clear hx hy
 have cr:=cref a x y h16 h512 ha
 have hP:=c21 x (by omega)
 have hP2:=c21 (23-x) (by omega)
 have ⟨p1,p2⟩:=p40 x h16
 have p3:1≤2 ^ (23-x)∧2 ^ (23-x)*2 ^ x≤8388608:=⟨Nat.one_le_two_pow,by rw [←Nat.pow_add,show 23-x+x=23 by omega];omega⟩
 generalize (2:Nat) ^ (23-x)=P at *
 generalize (2:Nat) ^ x=p at *
 have rq:=wdiv a p ha
 have rr:=wdiv2 a p ha
 have lq:=Nat.div_le_self a p
 have rb:a/(512*p)*(512*p)≤a:=Nat.div_mul_le_self _ _
 have lr:=Nat.div_le_self a (512*p)
 generalize a/p=q at *
 generalize a/(512*p)=r at *
 have rm:(q:Int)%512=((q%512:Nat):Int):=rfl
 have lm:q%512<512:=by omega
 have rm':(q:Int).tmod 512=((q%512:Nat):Int):=rfl
 generalize q%512=m at *
 have HP:=Lib.hid hP
 have HP2:=Lib.hid hP2
 clear hP hP2 rm
 by_cases hlt:m<y
 ·by_cases h0:r=0
  ·subst h0
   rw [if_pos hlt,if_pos rfl] at cr
   have l2:(P-1)*512*p≤4294967296:=by
    have:(P-1)*512*p≤P*512*p:=Nat.mul_le_mul_right _ (by omega)
    have h3:P*512*p=512*(P*p):=by rw [Nat.mul_comm P 512,Nat.mul_assoc]
    omega
   have l3:(P-1)*512≤4294967296:=Nat.le_trans (Nat.le_mul_of_pos_right _ (by omega)) l2
   have rP:(P:Int)-1=((P-1:Nat):Int):=by omega
   generalize P-1=U at *
   have fin:=finA U p y l2 p1 p2 h512
   rw [cr] at fin
   have Fin:=Lib.hid fin
   clear fin cr
   have e23:(23:Int)-(x:Int)=((23-x:Nat):Int):=by omega
   have E23:=Lib.hid e23
   clear e23
   go_enter Tryz.func85,Tryz.ntmps85
   go_wp2_with fail
   refine (HP.out _).mono ?_
   rintro en w1 ⟨rfl,rfl⟩
   go_wp2_with fail
   rw [E23.out]
   refine (HP2.out _).mono ?_
   rintro en w1 ⟨rfl,rfl⟩
   go_wp2_with fail
   go_ret
   exact ⟨ret1 Fin.out,(Below.refl _ _).alloc (Nat.le_refl _) _⟩
  ·rw [if_pos hlt,if_neg h0] at cr
   have l2:(r-1)*512*p≤4294967296:=by
    have:(r-1)*512*p≤r*512*p:=Nat.mul_le_mul_right _ (by omega)
    have h3:r*512*p=r*(512*p):=by rw [Nat.mul_assoc]
    omega
   have rr0:((r:Int)==0)=false:=by simp;omega
   have rP:(r:Int)-1=((r-1:Nat):Int):=by omega
   have r1:(0:Int)≤(r:Int)-1:=by omega
   generalize r-1=U at *
   have fin:=finA U p y l2 p1 p2 h512
   rw [cr] at fin
   have Fin:=Lib.hid fin
   clear fin cr
   go_enter Tryz.func85,Tryz.ntmps85
   go_wp2_with fail
   refine (HP.out _).mono ?_
   rintro en w1 ⟨rfl,rfl⟩
   go_wp2_with fail
   go_ret
   exact ⟨ret1 Fin.out,(Below.refl _ _).alloc (Nat.le_refl _) _⟩
 ·rw [if_neg hlt] at cr
  have l2:r*512*p≤4294967296:=by rw [Nat.mul_assoc];omega
  have fin:=finA r p y l2 p1 p2 h512
  rw [cr] at fin
  have Fin:=Lib.hid fin
  clear fin cr
  go_enter Tryz.func85,Tryz.ntmps85
  go_wp2_with fail
  refine (HP.out _).mono ?_
  rintro en w1 ⟨rfl,rfl⟩
  go_wp2_with fail
  go_ret
  exact ⟨ret1 Fin.out,(Below.refl _ _).alloc (Nat.le_refl _) _⟩
theorem c11 (e b t:Nat) (he:e<256) (hb:b<65536) (ht:t<65536) (w:World) :
  Calls Tryz.prog 152 #[bnd e b t] w fun en w'=>en=.returned (.int .u64 ((ln (e%16) (b%512) (t%512):Nat):Int))∧Below w.heap.size w w':=by
 obtain ⟨x,hx⟩:∃ x,e%16=x:=⟨_,rfl⟩
 obtain ⟨y,hy⟩:∃ y,b%512=y:=⟨_,rfl⟩
 obtain ⟨z,hz⟩:∃ z,t%512=z:=⟨_,rfl⟩
 have h16:x<16:=by omega
 have h512:y<512:=by omega
 have h513:z<512:=by omega
 have hc:=c20 e b t he hb ht
 rw [hx,hy,hz] at hc
 rw [hx,hy,hz]
 clear hx hy hz
 have HC:=Lib.hid hc
 clear hc
 have k1:bits BinOp.and IntKind.u32 (((z:Int)-(y:Int))%4294967296) 511=(((z+512-y)%512:Nat):Int):=by
  rw [show (((z:Int)-(y:Int))%4294967296)=(((z+4294967296-y)%4294967296:Nat):Int) by omega,and511_32 _ (by omega)];omega
 have l1:(z+512-y)%512<512:=by omega
 have fin:IntKind.u64.wrap ((((z+512-y)%512:Nat):Int)*2 ^ x)=((ln x y z:Nat):Int):=by
  have h:=ln_le x y z h16
  rw [IntKind.wrap_u64]
  unfold ln at *
  rw [show (((z+512-y)%512:Nat):Int)*2 ^ x=(((z+512-y)%512*2 ^ x:Nat):Int) by simp]
  generalize (z+512-y)%512*2 ^ x=q at *
  omega
 generalize (z+512-y)%512=d at *
 have Fin:=Lib.hid fin
 clear fin
 go_enter Tryz.func152,Tryz.ntmps152
 go_wp2_with fail
 refine (HC.out _).mono ?_
 rintro en w1 ⟨rfl,hb1⟩
 have hB:Below w.heap.size w w1:=((Below.refl _ _).alloc (Nat.le_refl _) _).trans (hb1.mono (by simp))
 clear hb1
 go_wp2_with fail
 go_ret
 exact ⟨ret1 Fin.out,hB⟩
theorem c12 (e b t:Nat) (he:e<256) (hb:b<65536) (ht:t<65536) (w:World) :
  Calls Tryz.prog 86 #[bnd e b t] w fun en w'=>en=.returned (.int .u64 ((ln (e%16) (b%512) (t%512):Nat):Int))∧Below w.heap.size w w':=by
 obtain ⟨x,hx⟩:∃ x,e%16=x:=⟨_,rfl⟩
 obtain ⟨y,hy⟩:∃ y,b%512=y:=⟨_,rfl⟩
 obtain ⟨z,hz⟩:∃ z,t%512=z:=⟨_,rfl⟩
 have h16:x<16:=by omega
 have h512:y<512:=by omega
 have h513:z<512:=by omega
 rw [hx,hy,hz]
 have rx:(e:Int)%16=(x:Int):=by omega
 have ry:(b:Int)%512=(y:Int):=by omega
 have rz:(t:Int)%512=(z:Int):=by omega
 clear hx hy hz
 have hP:=c21 x (by omega)
 have fin:IntKind.u64.wrap ((if (z:Int)-(y:Int)<0 then (z:Int)-(y:Int)+512 else (z:Int)-(y:Int))*((2 ^ x:Nat):Int))=((ln x y z:Nat):Int):=by
  have h:=ln_le x y z h16
  rw [IntKind.wrap_u64,show (if (z:Int)-(y:Int)<0 then (z:Int)-(y:Int)+512 else (z:Int)-(y:Int))=(((z+512-y)%512:Nat):Int) by split <;> omega]
  unfold ln at *
  rw [←Int.natCast_mul]
  generalize (z+512-y)%512*2 ^ x=q at *
  omega
 have ⟨p1,p2⟩:=p40 x h16
 generalize (2:Nat) ^ x=p at *
 have HP:=Lib.hid hP
 clear hP
 by_cases hlt:(z:Int)-(y:Int)<0
 ·rw [if_pos hlt] at fin
  have Fin:=Lib.hid fin
  clear fin
  go_enter Tryz.func86,Tryz.ntmps86
  go_wp2
  go_quiet (fail)
  go_wp2_with fail
  refine (HP.out _).mono ?_
  rintro en w1 ⟨rfl,rfl⟩
  go_wp2_with fail
  go_ret
  exact ⟨ret1 Fin.out,below_drewN ((Below.refl _ _).alloc (Nat.le_refl _) _) _⟩
 ·rw [if_neg hlt] at fin
  have Fin:=Lib.hid fin
  clear fin
  go_enter Tryz.func86,Tryz.ntmps86
  go_wp2
  go_quiet (fail)
  go_wp2_with fail
  refine (HP.out _).mono ?_
  rintro en w1 ⟨rfl,rfl⟩
  go_wp2_with fail
  go_ret
  exact ⟨ret1 Fin.out,below_drewN ((Below.refl _ _).alloc (Nat.le_refl _) _) _⟩
theorem bcell {W w1:World} (hb:Below W.heap.size W w1):(∀ b o,b<W.heap.size→w1.cell? ⟨b,o,none⟩=W.cell? ⟨b,o,none⟩)∧(∀ b o,b<W.heap.size→w1.frozen? ⟨b,o,none⟩=W.frozen? ⟨b,o,none⟩) :=
 ⟨fun b o h=>hb.cell (p:=⟨b,o,none⟩) h,fun b o h=>hb.frozen (p:=⟨b,o,none⟩) h⟩
theorem retb {a b:Bool} (h:a=b):Ending.returned (.bool a)=.returned (.bool b):=by rw [h]
theorem ofbool {A C:Nat}:((A:Int)==(C:Int))=decide (A=C):=by
 rw [Bool.eq_iff_iff];simp;omega
theorem keep3 {w0 wp w1:World} {k:Nat} {v0 v1 v2:Value} (h:Below w0.heap.size w0 wp∧k<wp.heap.size∧wp.cell? ⟨k,0,none⟩=some v0∧wp.cell? ⟨k,1,none⟩=some v1∧wp.cell? ⟨k,2,none⟩=some v2) (hb:Below wp.heap.size wp w1) :
  Below w0.heap.size w0 w1∧k<w1.heap.size∧w1.cell? ⟨k,0,none⟩=some v0∧w1.cell? ⟨k,1,none⟩=some v1∧w1.cell? ⟨k,2,none⟩=some v2:=by
 obtain ⟨h1,h2,h3,h4,h5⟩:=h
 refine ⟨h1.trans (hb.mono h1.size),Nat.lt_of_lt_of_le h2 hb.size,?_,?_,?_⟩
 ·rw [hb.cell (p:=⟨k,0,none⟩) h2];exact h3
 ·rw [hb.cell (p:=⟨k,1,none⟩) h2];exact h4
 ·rw [hb.cell (p:=⟨k,2,none⟩) h2];exact h5
set_option maxHeartbeats 1000000 in
theorem c13 (e b t a c:Nat) (he:e<256) (hb:b<65536) (ht:t<65536) (ha:a<4294967296) (hc:c<4294967296) (w:World) :
  Calls Tryz.prog 130 #[bnd e b t,.int .u32 (a:Int),.int .u32 (c:Int)] w fun en w'=>en=.returned (.bool (decide (bs (e%16) (b%512) a=bs (e%16) (b%512) c)))∧Below w.heap.size w w':=by
 have h1:=c9 e b t a he hb ht ha
 have h2:=c9 e b t c he hb ht hc
 generalize bs (e%16) (b%512) a=A at *
 generalize bs (e%16) (b%512) c=C at *
 have H1:=Lib.hid h1
 have H2:=Lib.hid h2
 clear h1 h2
 go_enter Tryz.func130,Tryz.ntmps130
 go_wp2
 go_region_held3 (fun w'=>Below w.heap.size w w'∧w.heap.size<w'.heap.size∧w'.cell? ⟨w.heap.size,0,none⟩=some (.int .u8 (e:Int))∧w'.cell? ⟨w.heap.size,1,none⟩=some (.int .u16 (b:Int))∧w'.cell? ⟨w.heap.size,2,none⟩=some (.int .u16 (t:Int)))
  (first | exact ⟨((Below.refl _ _).alloc (Nat.le_refl _) _).drew,by simp,by simp,by simp,by simp⟩ | exact keep3 (by assumption) hbx)
  (first | (go_at_call 151;(with_reducible refine (H1.out _).mono ?_);rintro e1 w1 ⟨rfl,hbx⟩) | (go_at_call 151;(with_reducible refine (H2.out _).mono ?_);rintro e2 w2 ⟨rfl,hbx⟩))
 have hB:Below w.heap.size w w2:=And.left (by assumption)
 go_wp2
 go_ret
 exact ⟨retb ofbool,hB⟩
set_option maxHeartbeats 1000000 in
theorem c14 (e b t a c:Nat) (he:e<256) (hb:b<65536) (ht:t<65536) (ha:a<4294967296) (hc:c<4294967296) (w:World) :
  Calls Tryz.prog 66 #[bnd e b t,.int .u32 (a:Int),.int .u32 (c:Int)] w fun en w'=>en=.returned (.bool (decide (bs (e%16) (b%512) a=bs (e%16) (b%512) c)))∧Below w.heap.size w w':=by
 have h1:=c10 e b t a he hb ht ha
 have h2:=c10 e b t c he hb ht hc
 generalize bs (e%16) (b%512) a=A at *
 generalize bs (e%16) (b%512) c=C at *
 have H1:=Lib.hid h1
 have H2:=Lib.hid h2
 clear h1 h2
 go_enter Tryz.func66,Tryz.ntmps66
 go_wp2
 go_region_held3 (fun w'=>Below w.heap.size w w'∧w.heap.size<w'.heap.size∧w'.cell? ⟨w.heap.size,0,none⟩=some (.int .u8 (e:Int))∧w'.cell? ⟨w.heap.size,1,none⟩=some (.int .u16 (b:Int))∧w'.cell? ⟨w.heap.size,2,none⟩=some (.int .u16 (t:Int)))
  (first | exact ⟨((Below.refl _ _).alloc (Nat.le_refl _) _).drew,by simp,by simp,by simp,by simp⟩ | exact keep3 (by assumption) hbx)
  (first | (go_at_call 85;(with_reducible refine (H1.out _).mono ?_);rintro e1 w1 ⟨rfl,hbx⟩) | (go_at_call 85;(with_reducible refine (H2.out _).mono ?_);rintro e2 w2 ⟨rfl,hbx⟩))
 have hB:Below w.heap.size w w2:=And.left (by assumption)
 go_wp2
 go_ret
 exact ⟨retb ofbool,hB⟩
theorem init3 {w w1:World} {v0 v1 v2:Value} {T:TypeId} (hb:Below (w.alloc (.cells #[v0,v1,v2] T)).heap.size (w.alloc (.cells #[v0,v1,v2] T)) w1) :
  Below w.heap.size w w1∧w.heap.size<w1.heap.size∧w1.cell? ⟨w.heap.size,0,none⟩=some v0∧w1.cell? ⟨w.heap.size,1,none⟩=some v1∧w1.cell? ⟨w.heap.size,2,none⟩=some v2 :=
 keep3 ⟨(Below.refl _ _).alloc (Nat.le_refl _) _,by simp,by simp,by simp,by simp⟩ hb
theorem wi_no1 {x y z a at' n:Nat} (h:1099511627776<at'):wi x y z a at' n=false:=by unfold wi;simp;omega
theorem wi_no2 {x y z a at' n:Nat} (h:1099511627776<n):wi x y z a at' n=false:=by unfold wi;simp;omega
set_option maxHeartbeats 1000000 in
theorem c15 (e b t a at' n:Nat) (he:e<256) (hb:b<65536) (ht:t<65536) (ha:a<4294967296) (h1:at'<18446744073709551616) (h2:n<18446744073709551616) (w:World) :
  Calls Tryz.prog 125 #[bnd e b t,.int .u32 (a:Int),.int .u64 (at':Int),.int .u64 (n:Int)] w fun en w'=>en=.returned (.bool (wi (e%16) (b%512) (t%512) a at' n))∧Below w.heap.size w w':=by
 by_cases g1:1099511627776<at'
 ·rw [wi_no1 g1]
  go_enter Tryz.func125,Tryz.ntmps125
  go_wp2
  go_ret
  exact ⟨rfl,(Below.refl _ _).alloc (Nat.le_refl _) _⟩
 by_cases g2:1099511627776<n
 ·rw [wi_no2 g2]
  go_enter Tryz.func125,Tryz.ntmps125
  go_wp2
  go_ret
  exact ⟨rfl,(Below.refl _ _).alloc (Nat.le_refl _) _⟩
 have hA:=bs_lt (e%16) (b%512) a (by omega) (by omega) ha
 have hL:=ln_le (e%16) (b%512) (t%512) (by omega)
 have k1:=c9 e b t a he hb ht ha
 have k2:=c11 e b t he hb ht
 have kw:wi (e%16) (b%512) (t%512) a at' n=decide (bs (e%16) (b%512) a≤at'∧at'+n≤bs (e%16) (b%512) a+ln (e%16) (b%512) (t%512)):=by unfold wi;exact decide_eq_decide.2 (by omega)
 rw [kw]
 clear kw
 generalize bs (e%16) (b%512) a=A at *
 generalize ln (e%16) (b%512) (t%512)=L at *
 have K1:=Lib.hid k1
 have K2:=Lib.hid k2
 clear k1 k2
 by_cases g3:A≤at'
 ·go_enter Tryz.func125,Tryz.ntmps125
  go_wp2_with fail
  refine (K1.out _).mono ?_
  rintro en w1 ⟨rfl,hb1⟩
  obtain ⟨hB,hz,c0,c1,c2⟩:=init3 hb1
  clear hb1
  go_wp2_with fail
  refine (K2.out _).mono ?_
  rintro en w2 ⟨rfl,hb2⟩
  have hB2:=hB.trans (hb2.mono hB.size)
  clear hb2
  go_wp2
  go_ret
  exact ⟨retb (by rw [Bool.eq_iff_iff];simp;omega),hB2⟩
 ·go_enter Tryz.func125,Tryz.ntmps125
  go_wp2_with fail
  refine (K1.out _).mono ?_
  rintro en w1 ⟨rfl,hb1⟩
  obtain ⟨hB,hz,c0,c1,c2⟩:=init3 hb1
  clear hb1
  go_wp2_with fail
  go_ret
  exact ⟨retb (by rw [Bool.eq_iff_iff];simp;omega),hB⟩
set_option maxHeartbeats 1000000 in
theorem c16 (e b t a at' n:Nat) (he:e<256) (hb:b<65536) (ht:t<65536) (ha:a<4294967296) (h1:at'<18446744073709551616) (h2:n<18446744073709551616) (w:World) :
  Calls Tryz.prog 63 #[bnd e b t,.int .u32 (a:Int),.int .u64 (at':Int),.int .u64 (n:Int)] w fun en w'=>en=.returned (.bool (wi (e%16) (b%512) (t%512) a at' n))∧Below w.heap.size w w':=by
 by_cases g1:1099511627776<at'
 ·rw [wi_no1 g1]
  go_enter Tryz.func63,Tryz.ntmps63
  go_wp2
  go_ret
  exact ⟨rfl,(Below.refl _ _).alloc (Nat.le_refl _) _⟩
 by_cases g2:1099511627776<n
 ·rw [wi_no2 g2]
  go_enter Tryz.func63,Tryz.ntmps63
  go_wp2
  go_ret
  exact ⟨rfl,(Below.refl _ _).alloc (Nat.le_refl _) _⟩
 have hA:=bs_lt (e%16) (b%512) a (by omega) (by omega) ha
 have hL:=ln_le (e%16) (b%512) (t%512) (by omega)
 have k1:=c10 e b t a he hb ht ha
 have k2:=c12 e b t he hb ht
 have kw:wi (e%16) (b%512) (t%512) a at' n=decide (bs (e%16) (b%512) a≤at'∧at'+n≤bs (e%16) (b%512) a+ln (e%16) (b%512) (t%512)):=by unfold wi;exact decide_eq_decide.2 (by omega)
 rw [kw]
 clear kw
 generalize bs (e%16) (b%512) a=A at *
 generalize ln (e%16) (b%512) (t%512)=L at *
 have K1:=Lib.hid k1
 have K2:=Lib.hid k2
 clear k1 k2
 by_cases g3:A≤at'
 ·by_cases g4:at'≤A+L
  all_goals
   go_enter Tryz.func63,Tryz.ntmps63
   go_wp2_with fail
   refine (K1.out _).mono ?_
   rintro en w1 ⟨rfl,hb1⟩
   obtain ⟨hB,hz,c0,c1,c2⟩:=init3 hb1
   clear hb1
   go_wp2_with fail
   refine (K2.out _).mono ?_
   rintro en w2 ⟨rfl,hb2⟩
   have hB2:=hB.trans (hb2.mono hB.size)
   clear hb2
   go_wp2
   go_ret
   exact ⟨retb (by rw [Bool.eq_iff_iff];simp;omega),hB2⟩
 ·go_enter Tryz.func63,Tryz.ntmps63
  go_wp2_with fail
  refine (K1.out _).mono ?_
  rintro en w1 ⟨rfl,hb1⟩
  obtain ⟨hB,hz,c0,c1,c2⟩:=init3 hb1
  clear hb1
  go_wp2_with fail
  refine (K2.out _).mono ?_
  rintro en w2 ⟨rfl,hb2⟩
  have hB2:=hB.trans (hb2.mono hB.size)
  clear hb2
  go_wp2
  go_ret
  exact ⟨retb (by rw [Bool.eq_iff_iff];simp;omega),hB2⟩
def ok (b t e:Nat):Bool:=decide (b%2 ^ e=0∧t%2 ^ e=0∧t-b≤511*2 ^ e)
def exL (b t:Nat):Nat→Nat × Nat × Nat × Nat
 | 0=>(0,0,0,5)
 | k+1=>if ok b t (8-k)=true then (8-k,b/2 ^ (8-k)%512,t/2 ^ (8-k)%512,0) else exL b t k
def ex (b t:Nat):Nat × Nat × Nat × Nat:=if t<b∨65536<t then (0,0,0,2) else exL b t 9
def exV (r:Nat × Nat × Nat × Nat):Value:=.tuple #[.agg #[.int .u8 (r.1:Int),.int .u16 (r.2.1:Int),.int .u16 (r.2.2.1:Int)],.int .i64 (r.2.2.2:Int)]
theorem and511_64 (b:Nat) (hb:b<18446744073709551616):bits .and .u64 (b:Int) 511=((b%512:Nat):Int):=by
 have h:=u64_and_nat b 511 hb (by omega)
 rw [nat_mask9] at h;exact h
theorem ok_code2 (b t e:Nat) (hb:b<18446744073709551616) (ht:t<18446744073709551616) (he:e≤8) (hbt:b≤t) :
  ∃ M:Nat,bits .and .u64 (bits .or .u64 (b:Int) (t:Int)) (2 ^ e-1)=(M:Int)∧ok b t e=(decide (M=0)&&decide ((t:Int)-(b:Int)≤511*((2 ^ e:Nat):Int))):=by
 have hor:b ||| t<18446744073709551616:=Nat.or_lt_two_pow (n:=64) hb ht
 have h8:(2:Nat) ^ e≤2 ^ 8:=Nat.pow_le_pow_right (by omega) he
 have h1:1≤(2:Nat) ^ e:=Nat.one_le_two_pow
 have e1:(2 ^ e-1:Int)=((2 ^ e-1:Nat):Int):=by rw [Int.ofNat_sub h1];simp
 refine ⟨(b%2 ^ e ||| t%2 ^ e),?_,?_⟩
 ·rw [u64_or_nat b t hb ht,e1,u64_and_nat _ _ hor (by omega),Nat.and_two_pow_sub_one_eq_mod,Nat.or_mod_two_pow]
 ·unfold ok
  rw [Bool.eq_iff_iff,Bool.and_eq_true,decide_eq_true_eq,decide_eq_true_eq,decide_eq_true_eq,Nat.or_eq_zero_iff]
  omega
set_option maxHeartbeats 1000000 in
theorem c18 (b t:Nat) (hb:b<18446744073709551616) (ht:t<18446744073709551616) (w:World) :
  Calls Tryz.prog 170 #[.int .u64 (b:Int),.int .u64 (t:Int)] w fun en w'=>en=.returned (exV (ex b t))∧Below w.heap.size w w':=by
 by_cases g1:t<b
 ·have E:ex b t=(0,0,0,2):=by unfold ex;rw [if_pos (Or.inl g1)]
  rw [E]
  go_enter Tryz.func170,Tryz.ntmps170
  go_wp2
  exact bodyPost_ret (v:=exV (0,0,0,2)) (by simp [exV,results,Tryz.results170,go_sem]) rfl ⟨rfl,(Below.refl _ _).alloc (Nat.le_refl _) _⟩
 by_cases g2:65536<t
 ·have E:ex b t=(0,0,0,2):=by unfold ex;rw [if_pos (Or.inr g2)]
  rw [E]
  go_enter Tryz.func170,Tryz.ntmps170
  go_wp2
  exact bodyPost_ret (v:=exV (0,0,0,2)) (by simp [exV,results,Tryz.results170,go_sem]) rfl ⟨rfl,(Below.refl _ _).alloc (Nat.le_refl _) _⟩
 have E:ex b t=exL b t 9:=by unfold ex;rw [if_neg (by omega)]
 rw [E]
 clear E
 have g2':decide ((65536:Int)<(t:Int))=false:=by simp;omega
 go_enter Tryz.func170,Tryz.ntmps170
 go_wp2
 go_loop [6] (fun v=>∃ k:Nat,k≤9∧v=.int .u8 k∧Hid (exL b t (9-k)=exL b t 9)) (fun v=>9-(intOf v).toNat)
 case atStart=>exact ⟨0,by omega,rfl,rfl⟩
 case round =>
  obtain ⟨k,hk,rfl,hx⟩:=hrel
  by_cases hlt:k≤8
  ·have hs:exL b t (9-k)=if ok b t k=true then (k,b/2 ^ k%512,t/2 ^ k%512,0) else exL b t (9-(k+1)):=by
    rw [show 9-k=(8-k)+1 by omega,exL,show 8-(8-k)=k by omega,show 9-(k+1)=8-k by omega]
   rw [hs] at hx
   clear hs
   obtain ⟨M,hM,hok⟩:=ok_code2 b t k hb ht hlt (by omega)
   have p8:(2:Nat) ^ k≤2 ^ 8:=Nat.pow_le_pow_right (by omega) hlt
   have p1:1≤(2:Nat) ^ k:=Nat.one_le_two_pow
   have hP:(2:Int) ^ k=((2 ^ k:Nat):Int):=by simp
   rw [hP] at hM
   generalize (2:Nat) ^ k=P at *
   have w0:(P:Int)%18446744073709551616=(P:Int):=by omega
   have d1:(b:Int)/(P:Int)=((b/P:Nat):Int):=rfl
   have d2:(t:Int)/(P:Int)=((t/P:Nat):Int):=rfl
   have q1:=Nat.div_le_self b P
   have q2:=Nat.div_le_self t P
   generalize b/P=B at *
   generalize t/P=T at *
   have b1:=and511_64 B (by omega)
   have b2:=and511_64 T (by omega)
   have m1:B%512<512:=by omega
   have m2:T%512<512:=by omega
   generalize B%512=B' at *
   generalize T%512=T' at *
   by_cases hM0:M=0
   ·subst hM0
    by_cases hsp:(t:Int)-(b:Int)≤511*(P:Int)
    ·rw [if_pos (by rw [hok];simp;omega)] at hx
     clear hok
     go_wp2
     exact bodyPost_ret (v:=exV (k,B',T',0)) (by simp [exV,results,Tryz.results170,go_sem]) rfl ⟨by rw [←hx.out],(Below.refl _ _).alloc (Nat.le_refl _) _⟩
    ·rw [if_neg (by rw [hok];simp;omega)] at hx
     clear hok
     go_wp2
     go_round
     case rel=>exact ⟨k+1,by omega,by go_num,hx⟩
     case measure=>simp [intOf];omega
   ·rw [if_neg (by rw [hok];simp;omega)] at hx
    clear hok
    have hM1:((M:Int)==0)=false:=by simp;omega
    go_wp2
    go_round
    case rel=>exact ⟨k+1,by omega,by go_num,hx⟩
    case measure=>simp [intOf];omega
  ·have:k=9:=by omega
   subst this
   go_wp2
   exact bodyPost_ret (v:=exV (0,0,0,5)) (by simp [exV,results,Tryz.results170,go_sem]) rfl ⟨by rw [←hx.out];rfl,(Below.refl _ _).alloc (Nat.le_refl _) _⟩
theorem okR (b t P:Nat) (h:1≤P):(b%P=0∧t%P=0∧t-b≤511*P)↔(b%P=0∧t%P=0∧(t-b)/P≤511):=by
 refine and_congr_right fun h1=>and_congr_right fun h2=>?_
 have hd:P ∣ t-b:=Nat.dvd_sub (Nat.dvd_of_mod_eq_zero h2) (Nat.dvd_of_mod_eq_zero h1)
 obtain ⟨q,hq⟩:=hd
 rw [hq,Nat.mul_div_cancel_left _ (by omega),Nat.mul_comm 511 P]
 exact Nat.mul_le_mul_left_iff (by omega)
set_option maxHeartbeats 1000000 in
theorem c19 (b t:Nat) (hb:b<18446744073709551616) (ht:t<18446744073709551616) (w:World) :
  Calls Tryz.prog 79 #[.int .u64 (b:Int),.int .u64 (t:Int)] w fun en w'=>en=.returned (exV (ex b t))∧Below w.heap.size w w':=by
 by_cases g1:t<b
 ·have E:ex b t=(0,0,0,2):=by unfold ex;rw [if_pos (Or.inl g1)]
  rw [E]
  go_enter Tryz.func79,Tryz.ntmps79
  go_wp2
  exact bodyPost_ret (v:=exV (0,0,0,2)) (by simp [exV,results,Tryz.results79,go_sem]) rfl ⟨rfl,(Below.refl _ _).alloc (Nat.le_refl _) _⟩
 by_cases g2:65536<t
 ·have E:ex b t=(0,0,0,2):=by unfold ex;rw [if_pos (Or.inr g2)]
  rw [E]
  go_enter Tryz.func79,Tryz.ntmps79
  go_wp2
  exact bodyPost_ret (v:=exV (0,0,0,2)) (by simp [exV,results,Tryz.results79,go_sem]) rfl ⟨rfl,(Below.refl _ _).alloc (Nat.le_refl _) _⟩
 have E:ex b t=exL b t 9:=by unfold ex;rw [if_neg (by omega)]
 rw [E]
 clear E
 have g2':decide ((65536:Int)<(t:Int))=false:=by simp;omega
 go_enter Tryz.func79,Tryz.ntmps79
 go_wp2
 go_loop [6,7] (fun v _=>∃ k:Nat,k≤9∧v=.int .i64 k∧Hid (exL b t (9-k)=exL b t 9)) (fun v _=>9-(intOf v).toNat)
 case atStart=>exact ⟨0,by omega,rfl,rfl⟩
 case round =>
  obtain ⟨k,hk,rfl,hx⟩:=hrel
  by_cases hlt:k≤8
  ·have hs:exL b t (9-k)=if ok b t k=true then (k,b/2 ^ k%512,t/2 ^ k%512,0) else exL b t (9-(k+1)):=by
    rw [show 9-k=(8-k)+1 by omega,exL,show 8-(8-k)=k by omega,show 9-(k+1)=8-k by omega]
   rw [hs] at hx
   clear hs
   have hok:ok b t k=true↔(b%2 ^ k=0∧t%2 ^ k=0∧(t-b)/2 ^ k≤511):=by unfold ok;rw [decide_eq_true_eq];exact okR b t (2 ^ k) Nat.one_le_two_pow
   have p8:(2:Nat) ^ k≤2 ^ 8:=Nat.pow_le_pow_right (by omega) hlt
   have p1:1≤(2:Nat) ^ k:=Nat.one_le_two_pow
   have hP:=c21 k (by omega)
   generalize (2:Nat) ^ k=P at *
   have HP:=Lib.hid hP
   clear hP
   have s0:(t:Int)-(b:Int)=((t-b:Nat):Int):=by omega
   have d0:(((t-b:Nat):Int))/(P:Int)=(((t-b)/P:Nat):Int):=rfl
   have d1:(b:Int)/(P:Int)=((b/P:Nat):Int):=rfl
   have d2:(t:Int)/(P:Int)=((t/P:Nat):Int):=rfl
   have r1:(b:Int)%(P:Int)=((b%P:Nat):Int):=rfl
   have r2:(t:Int)%(P:Int)=((t%P:Nat):Int):=rfl
   have q1:=Nat.div_le_self b P
   have q2:=Nat.div_le_self t P
   have q3:=Nat.div_le_self (t-b) P
   generalize (t-b)/P=D at *
   generalize t-b=TB at *
   generalize b/P=B at *
   generalize t/P=T at *
   generalize b%P=rB at *
   generalize t%P=rT at *
   have b1:(B:Int)%512=((B%512:Nat):Int):=rfl
   have b2:(T:Int)%512=((T%512:Nat):Int):=rfl
   have m1:B%512<512:=by omega
   have m2:T%512<512:=by omega
   generalize B%512=B' at *
   generalize T%512=T' at *
   go_wp2_with fail
   refine (HP.out _).mono ?_
   rintro en w1 ⟨rfl,rfl⟩
   have nz:((P:Int)==0)=false:=by simp;omega
   go_wp2
   ·have h1:rB=0:=by omega
    have h2:rT=0:=by omega
    have h3:D≤511:=by omega
    rw [if_pos (by rw [hok];omega)] at hx
    clear hok
    go_region
    all_goals
     go_wp2
     exact bodyPost_ret (v:=exV (k,B',T',0)) (by simp [exV,results,Tryz.results79,go_sem]) rfl ⟨by rw [←hx.out],((Below.refl _ _).alloc (Nat.le_refl _) _).drew⟩
   all_goals
    rw [if_neg (by rw [hok];omega)] at hx
    clear hok
    first | exact ⟨⟨k+1,by omega,by go_num,hx⟩,by simp [intOf];omega⟩ | (go_round;case rel=>exact ⟨k+1,by omega,by go_num,hx⟩;case measure=>simp [intOf];omega)
  ·have:k=9:=by omega
   subst this
   go_wp2
   exact bodyPost_ret (v:=exV (0,0,0,5)) (by simp [exV,results,Tryz.results79,go_sem]) rfl ⟨by rw [←hx.out];rfl,(Below.refl _ _).alloc (Nat.le_refl _) _⟩
theorem set7 {w w1:World} {k:Nat} (h:Below w.heap.size w w1) (hk:w.heap.size≤k) (v0 v1 v2 v3 v4 v5 v6:Value) :
  Below w.heap.size w (((((((w1.setCell ⟨k,0,none⟩ v0).setCell ⟨k,1,none⟩ v1).setCell ⟨k,2,none⟩ v2).setCell ⟨k,3,none⟩ v3).setCell ⟨k,4,none⟩ v4).setCell ⟨k,5,none⟩ v5).setCell ⟨k,6,none⟩ v6) :=
 ((((((h.setCell (p:=⟨k,0,none⟩) hk _).setCell (p:=⟨k,1,none⟩) hk _).setCell (p:=⟨k,2,none⟩) hk _).setCell (p:=⟨k,3,none⟩) hk _).setCell (p:=⟨k,4,none⟩) hk _).setCell (p:=⟨k,5,none⟩) hk _).setCell (p:=⟨k,6,none⟩) hk _
abbrev cp (g:Bool) (a p y e b t:Nat):Value:=.agg #[.bool g,.int .u32 (a:Int),.int .u8 (p:Int),.int .u8 (y:Int),.int .u8 (e:Int),.int .u16 (b:Int),.int .u16 (t:Int)]
theorem c47 (g:Bool) (a p y e b t:Nat) (hy:y<256) (w:World):Calls Tryz.prog 124 #[cp g a p y e b t] w fun en w'=>en=.returned (.bool (decide (y=0)))∧Below w.heap.size w w':=by
 go_enter Tryz.func124,Tryz.ntmps124
 go_wp2
 go_ret
 exact ⟨retb (by rw [Bool.eq_iff_iff];simp),(Below.refl _ _).alloc (Nat.le_refl _) _⟩
theorem c49 (g k:Bool) (a p y e b t:Nat) (w:World):Calls Tryz.prog 131 #[cp g a p y e b t,.bool k] w fun en w'=>en=.returned (cp (g&&k) a p y e b t)∧Below w.heap.size w w':=by
 cases g <;> cases k
 all_goals
  go_enter Tryz.func131,Tryz.ntmps131
  go_wp2
  exact bodyPost_ret (v:=cp _ a p y e b t) (by simp [results,Tryz.results131,go_sem]) rfl ⟨rfl,((Below.refl _ _).alloc (Nat.le_refl _) _).alloc (by simp) _⟩
set_option maxHeartbeats 1000000 in
theorem c24 (g:Bool) (a p y e b t:Nat) (w:World):Calls Tryz.prog 143 #[cp g a p y e b t] w fun en w'=>en=.returned (cp false a p y e b t)∧Below w.heap.size w w':=by
 have K:=Lib.hid (c49 g false a p y e b t)
 go_enter Tryz.func143,Tryz.ntmps143
 go_wp2_with fail
 refine (K.out _).mono ?_
 rintro en w1 ⟨rfl,hb⟩
 obtain ⟨hc,hf⟩:=bcell hb
 have hz:w.heap.size+1<w1.heap.size:=by have:=hb.size;simp at this;omega
 have hB:Below w.heap.size w w1:=(((Below.refl _ _).alloc (Nat.le_refl _) _).alloc (by simp) _).trans (hb.mono (by simp;omega))
 clear hb
 rw [Bool.and_false]
 go_wp2_with fail
 exact bodyPost_ret (v:=cp false a p y e b t) (by simp [results,Tryz.results143,go_sem,hc]) rfl ⟨rfl,set7 hB (by omega) _ _ _ _ _ _ _⟩
set_option maxHeartbeats 2000000 in
theorem c18b (g:Bool) (a p y e b t n:Nat) (ha:a<4294967296) (hy:y<256) (he:e<256) (hb:b<65536) (ht:t<65536) (hn:n<4294967296) (w:World) :
  Calls Tryz.prog 91 #[cp g a p y e b t,.int .u32 (n:Int)] w fun en w'=>en=.returned (cp (g&&(decide (y=0)&&decide (bs (e%16) (b%512) a=bs (e%16) (b%512) n))) n p y e b t)∧Below w.heap.size w w':=by
 have k1:=c47 g a p y e b t hy
 have k2:=c13 e b t a n he hb ht ha hn
 have k3:=c49 g (decide (y=0)&&decide (bs (e%16) (b%512) a=bs (e%16) (b%512) n)) n p y e b t
 generalize decide (bs (e%16) (b%512) a=bs (e%16) (b%512) n)=q at *
 generalize decide (y=0)=r at *
 have K1:=Lib.hid k1
 have K2:=Lib.hid k2
 have K3:=Lib.hid k3
 clear k1 k2 k3
 cases r
 ·go_enter Tryz.func91,Tryz.ntmps91
  go_wp2_with fail
  refine (K1.out _).mono ?_
  rintro en w1 ⟨rfl,hb1⟩
  obtain ⟨hc,hf⟩:=bcell hb1
  have hz:w.heap.size+1<w1.heap.size:=by have:=hb1.size;simp at this;omega
  have hB:Below w.heap.size w w1:=(((Below.refl _ _).alloc (Nat.le_refl _) _).alloc (by simp) _).trans (hb1.mono (by simp;omega))
  have q1:w1.cell? ⟨w.heap.size,1,none⟩=some (.int .u32 (a:Int)):=by rw [hc _ _ (by simp;omega)];go_simp
  clear hb1
  go_wp2_with fail
  refine (K3.out _).mono ?_
  rintro en w2 ⟨rfl,hb2⟩
  obtain ⟨hc2,hf2⟩:=bcell hb2
  have hz2:w.heap.size+1<w2.heap.size:=by have:=hb2.size;simp at this;omega
  have hB2:Below w.heap.size w w2:=(hB.setCell (p:=⟨w.heap.size,1,none⟩) (Nat.le_refl _) _).trans (hb2.mono (by simp;omega))
  clear hb2 hB
  have hr:∀ o,w2.cell? ⟨w.heap.size+1,o,none⟩=w1.cell? ⟨w.heap.size+1,o,none⟩:=fun o=>by rw [hc2 _ _ (by simp;omega)];go_simp
  go_wp2_with fail
  exact bodyPost_ret (v:=cp _ n p y e b t) (by simp [results,Tryz.results91,go_sem,hr,hc]) rfl ⟨rfl,set7 hB2 (by omega) _ _ _ _ _ _ _⟩
 ·go_enter Tryz.func91,Tryz.ntmps91
  go_wp2_with fail
  refine (K1.out _).mono ?_
  rintro en w1 ⟨rfl,hb1⟩
  obtain ⟨hc,hf⟩:=bcell hb1
  have hz:w.heap.size+1<w1.heap.size:=by have:=hb1.size;simp at this;omega
  have hB:Below w.heap.size w w1:=(((Below.refl _ _).alloc (Nat.le_refl _) _).alloc (by simp) _).trans (hb1.mono (by simp;omega))
  go_wp2_with fail
  refine (K2.out _).mono ?_
  rintro en w2 ⟨rfl,hb2⟩
  have hb12:=hb1.trans (hb2.mono hb1.size)
  clear hc hf
  obtain ⟨hc,hf⟩:=bcell hb12
  clear hb1 hb12
  have hz2:w.heap.size+1<w2.heap.size:=by have:=hb2.size;omega
  have hB2:Below w.heap.size w w2:=hB.trans (hb2.mono (by omega))
  have q1:w2.cell? ⟨w.heap.size,1,none⟩=some (.int .u32 (a:Int)):=by rw [hc _ _ (by simp;omega)];go_simp
  clear hb2 hB
  go_wp2_with fail
  refine (K3.out _).mono ?_
  rintro en w3 ⟨rfl,hb3⟩
  obtain ⟨hc3,hf3⟩:=bcell hb3
  have hz3:w.heap.size+1<w3.heap.size:=by have:=hb3.size;simp at this;omega
  have hB3:Below w.heap.size w w3:=(hB2.setCell (p:=⟨w.heap.size,1,none⟩) (Nat.le_refl _) _).trans (hb3.mono (by simp;omega))
  clear hb3 hB2
  have hr:∀ o,w3.cell? ⟨w.heap.size+1,o,none⟩=w2.cell? ⟨w.heap.size+1,o,none⟩:=fun o=>by rw [hc3 _ _ (by simp;omega)];go_simp
  go_wp2_with fail
  exact bodyPost_ret (v:=cp _ n p y e b t) (by simp [results,Tryz.results91,go_sem,hr,hc]) rfl ⟨rfl,set7 hB3 (by omega) _ _ _ _ _ _ _⟩
theorem c38 (g:Bool) (a p y e b t:Nat) (ha:a<4294967296) (he:e<256) (hb:b<65536) (ht:t<65536) (w:World) :
  Calls Tryz.prog 171 #[cp g a p y e b t] w fun en w'=>en=.returned (.int .u64 ((bs (e%16) (b%512) a:Nat):Int))∧Below w.heap.size w w':=by
 have k1:=c9 e b t a he hb ht ha
 generalize bs (e%16) (b%512) a=A at *
 have K1:=Lib.hid k1
 clear k1
 go_enter Tryz.func171,Tryz.ntmps171
 go_wp2_with fail
 refine (K1.out _).mono ?_
 rintro en w1 ⟨rfl,hb1⟩
 have hB:Below w.heap.size w w1:=((Below.refl _ _).alloc (Nat.le_refl _) _).trans (hb1.mono (by simp))
 clear hb1
 go_wp2_with fail
 go_ret
 exact ⟨ret1 rfl,hB⟩
theorem keep7 {w0 wp w1:World} {k:Nat} {v0 v1 v2 v3 v4 v5 v6:Value} (h:Below w0.heap.size w0 wp∧k<wp.heap.size∧wp.cell? ⟨k,0,none⟩=some v0∧wp.cell? ⟨k,1,none⟩=some v1∧wp.cell? ⟨k,2,none⟩=some v2∧wp.cell? ⟨k,3,none⟩=some v3∧wp.cell? ⟨k,4,none⟩=some v4∧wp.cell? ⟨k,5,none⟩=some v5∧wp.cell? ⟨k,6,none⟩=some v6) (hb:Below wp.heap.size wp w1) :
  Below w0.heap.size w0 w1∧k<w1.heap.size∧w1.cell? ⟨k,0,none⟩=some v0∧w1.cell? ⟨k,1,none⟩=some v1∧w1.cell? ⟨k,2,none⟩=some v2∧w1.cell? ⟨k,3,none⟩=some v3∧w1.cell? ⟨k,4,none⟩=some v4∧w1.cell? ⟨k,5,none⟩=some v5∧w1.cell? ⟨k,6,none⟩=some v6:=by
 obtain ⟨h1,h2,q0,q1,q2,q3,q4,q5,q6⟩:=h
 have hc:∀ o,w1.cell? ⟨k,o,none⟩=wp.cell? ⟨k,o,none⟩:=fun o=>hb.cell (p:=⟨k,o,none⟩) h2
 exact ⟨h1.trans (hb.mono h1.size),Nat.lt_of_lt_of_le h2 hb.size,by rw [hc];exact q0,by rw [hc];exact q1,by rw [hc];exact q2,by rw [hc];exact q3,by rw [hc];exact q4,by rw [hc];exact q5,by rw [hc];exact q6⟩
theorem start7 (w:World) (v0 v1 v2 v3 v4 v5 v6:Value) (T:TypeId) :
  Below w.heap.size w (w.alloc (.cells #[v0,v1,v2,v3,v4,v5,v6] T))∧w.heap.size<(w.alloc (.cells #[v0,v1,v2,v3,v4,v5,v6] T)).heap.size∧(w.alloc (.cells #[v0,v1,v2,v3,v4,v5,v6] T)).cell? ⟨w.heap.size,0,none⟩=some v0∧(w.alloc (.cells #[v0,v1,v2,v3,v4,v5,v6] T)).cell? ⟨w.heap.size,1,none⟩=some v1∧(w.alloc (.cells #[v0,v1,v2,v3,v4,v5,v6] T)).cell? ⟨w.heap.size,2,none⟩=some v2∧(w.alloc (.cells #[v0,v1,v2,v3,v4,v5,v6] T)).cell? ⟨w.heap.size,3,none⟩=some v3∧(w.alloc (.cells #[v0,v1,v2,v3,v4,v5,v6] T)).cell? ⟨w.heap.size,4,none⟩=some v4∧(w.alloc (.cells #[v0,v1,v2,v3,v4,v5,v6] T)).cell? ⟨w.heap.size,5,none⟩=some v5∧(w.alloc (.cells #[v0,v1,v2,v3,v4,v5,v6] T)).cell? ⟨w.heap.size,6,none⟩=some v6:=by
 refine ⟨(Below.refl _ _).alloc (Nat.le_refl _) _,by simp,by simp,by simp,by simp,by simp,by simp,by simp,by simp⟩
set_option maxHeartbeats 2000000 in
theorem c40 (g:Bool) (a p y e b t:Nat) (ha:a<4294967296) (he:e<256) (hb:b<65536) (ht:t<65536) (w:World) :
  Calls Tryz.prog 172 #[cp g a p y e b t] w fun en w'=>en=.returned (.int .u64 ((bs (e%16) (b%512) a+ln (e%16) (b%512) (t%512):Nat):Int))∧Below w.heap.size w w':=by
 have hA:=bs_lt (e%16) (b%512) a (by omega) (by omega) ha
 have hL:=ln_le (e%16) (b%512) (t%512) (by omega)
 have k1:=c38 g a p y e b t ha he hb ht
 have k2:=c11 e b t he hb ht
 generalize bs (e%16) (b%512) a=A at *
 generalize ln (e%16) (b%512) (t%512)=L at *
 have K1:=Lib.hid k1
 have K2:=Lib.hid k2
 clear k1 k2
 have hS:=start7 w (.bool g) (.int .u32 (a:Int)) (.int .u8 (p:Int)) (.int .u8 (y:Int)) (.int .u8 (e:Int)) (.int .u16 (b:Int)) (.int .u16 (t:Int)) 29
 have HS:=Lib.hid hS
 clear hS
 go_enter Tryz.func172,Tryz.ntmps172
 go_wp2_with fail
 have hS:=HS.out
 go_region_held3 (fun w'=>Below w.heap.size w w'∧w.heap.size<w'.heap.size∧w'.cell? ⟨w.heap.size,0,none⟩=some (.bool g)∧w'.cell? ⟨w.heap.size,1,none⟩=some (.int .u32 (a:Int))∧w'.cell? ⟨w.heap.size,2,none⟩=some (.int .u8 (p:Int))∧w'.cell? ⟨w.heap.size,3,none⟩=some (.int .u8 (y:Int))∧w'.cell? ⟨w.heap.size,4,none⟩=some (.int .u8 (e:Int))∧w'.cell? ⟨w.heap.size,5,none⟩=some (.int .u16 (b:Int))∧w'.cell? ⟨w.heap.size,6,none⟩=some (.int .u16 (t:Int)))
  (first | exact keep7 (by assumption) ((Below.refl _ _).drew) | exact keep7 (by assumption) hbx)
  (first | (go_at_call 171;(with_reducible refine (K1.out _).mono ?_);rintro _ wx ⟨rfl,hbx⟩) | (go_at_call 152;(with_reducible refine (K2.out _).mono ?_);rintro _ wx ⟨rfl,hbx⟩))
 all_goals
  have hE:Below w.heap.size w wx:=And.left (by assumption)
  go_wp2
  go_ret
  exact ⟨ret1 (by first | rfl | omega | (rw [IntKind.wrap_u64];omega)),hE⟩
theorem cellAlloc {X:World} {k o:Nat} {ob:Obj} (h:k<X.heap.size):(X.alloc ob).cell? ⟨k,o,none⟩=X.cell? ⟨k,o,none⟩ :=
 ((Below.refl X.heap.size X).alloc (Nat.le_refl _) ob).cell (p:=⟨k,o,none⟩) h
theorem set7a {w w1:World} {k:Nat} (h:Below w.heap.size w w1) (hk:w.heap.size≤k) (v0 v1 v2 v3 v4 v5 v6:Value) (o:Obj) :
  Below w.heap.size w ((((((((w1.setCell ⟨k,0,none⟩ v0).setCell ⟨k,1,none⟩ v1).setCell ⟨k,2,none⟩ v2).setCell ⟨k,3,none⟩ v3).setCell ⟨k,4,none⟩ v4).setCell ⟨k,5,none⟩ v5).setCell ⟨k,6,none⟩ v6).alloc o) :=
 (set7 h hk v0 v1 v2 v3 v4 v5 v6).alloc (set7 h hk v0 v1 v2 v3 v4 v5 v6).size o
def rootV (bs' tp pm:Nat):Value:=if (ex bs' tp).2.2.2=0 then .tuple #[cp true bs' pm 0 (ex bs' tp).1 (ex bs' tp).2.1 (ex bs' tp).2.2.1,.int .i64 0] else .tuple #[cp false 0 0 0 0 0 0,.int .i64 ((ex bs' tp).2.2.2:Int)]
theorem ex_err (b t:Nat):((ex b t).2.2.2=0∧b≤t∧t≤65536∧(ex b t).1≤8∧(ex b t).2.1<512∧(ex b t).2.2.1<512)∨((ex b t).1=0∧(ex b t).2.1=0∧(ex b t).2.2.1=0∧((ex b t).2.2.2=2∨(ex b t).2.2.2=5)):=by
 have hL:∀ k,(exL b t k).2.2.2=0∧(exL b t k).1≤8∧(exL b t k).2.1<512∧(exL b t k).2.2.1<512∨exL b t k=(0,0,0,5):=by
  intro k
  induction k with
  | zero=>exact Or.inr rfl
  | succ k ih =>
   rw [exL]
   split
   ·exact Or.inl ⟨rfl,by show 8-k≤8;omega,by show b/_%512<512;omega,by show t/_%512<512;omega⟩
   ·exact ih
 unfold ex
 split
 ·exact Or.inr ⟨rfl,rfl,rfl,Or.inl rfl⟩
 ·rcases hL 9 with ⟨h1,h2,h3,h4⟩ | h
  ·exact Or.inl ⟨h1,by omega,by omega,h2,h3,h4⟩
  ·rw [h];exact Or.inr ⟨rfl,rfl,rfl,Or.inr rfl⟩
def may (g:Bool) (a p y e b t q x n:Nat):Bool:=g&&(decide (y=0)&&(decide (p &&& q=q)&&wi (e%16) (b%512) (t%512) a x n))
theorem init7 {w w1:World} {v0 v1 v2 v3 v4 v5 v6:Value} {T:TypeId} (hb:Below (w.alloc (.cells #[v0,v1,v2,v3,v4,v5,v6] T)).heap.size (w.alloc (.cells #[v0,v1,v2,v3,v4,v5,v6] T)) w1) :
  Below w.heap.size w w1∧w.heap.size<w1.heap.size∧w1.cell? ⟨w.heap.size,0,none⟩=some v0∧w1.cell? ⟨w.heap.size,1,none⟩=some v1∧w1.cell? ⟨w.heap.size,2,none⟩=some v2∧w1.cell? ⟨w.heap.size,3,none⟩=some v3∧w1.cell? ⟨w.heap.size,4,none⟩=some v4∧w1.cell? ⟨w.heap.size,5,none⟩=some v5∧w1.cell? ⟨w.heap.size,6,none⟩=some v6 :=
 keep7 (start7 w v0 v1 v2 v3 v4 v5 v6 T) hb
set_option maxHeartbeats 1000000 in
theorem c36 (g:Bool) (a p y e b t q x n:Nat) (ha:a<4294967296) (hp:p<256) (hy:y<256) (he:e<256) (hb:b<65536) (ht:t<65536) (hq:q<256) (hx:x<18446744073709551616) (hn:n<18446744073709551616) (w:World) :
  Calls Tryz.prog 87 #[cp g a p y e b t,.int .u8 (q:Int),.int .u64 (x:Int),.int .u64 (n:Int)] w fun en w'=>en=.returned (.bool (may g a p y e b t q x n))∧Below w.heap.size w w':=by
 unfold may
 have k1:=c47 g a p y e b t hy
 have k2:=c15 e b t a x n he hb ht ha hx hn
 generalize wi (e%16) (b%512) (t%512) a x n=W at *
 generalize decide (y=0)=r at *
 have ka:=u8_and_nat p q hp hq
 have hm:p &&& q<256:=Nat.and_lt_two_pow (n:=8) _ hq
 generalize p &&& q=m at *
 have K1:=Lib.hid k1
 have K2:=Lib.hid k2
 clear k1 k2
 cases g
 ·go_enter Tryz.func87,Tryz.ntmps87
  go_wp2_with fail
  go_ret
  exact ⟨rfl,(Below.refl _ _).alloc (Nat.le_refl _) _⟩
 cases r
 ·go_enter Tryz.func87,Tryz.ntmps87
  go_wp2_with fail
  refine (K1.out _).mono ?_
  rintro en w1 ⟨rfl,hb1⟩
  obtain ⟨hB,hz,q0,q1,q2,q3,q4,q5,q6⟩:=init7 hb1
  clear hb1
  go_wp2_with fail
  go_ret
  exact ⟨rfl,hB⟩
 by_cases hmq:m=q
 ·have hmb:((m:Int)==(q:Int))=true:=by simp;omega
  rw [decide_eq_true hmq]
  clear hmq
  go_enter Tryz.func87,Tryz.ntmps87
  go_wp2_with fail
  refine (K1.out _).mono ?_
  rintro en w1 ⟨rfl,hb1⟩
  obtain ⟨hB,hz,q0,q1,q2,q3,q4,q5,q6⟩:=init7 hb1
  clear hb1
  go_wp2_with fail
  refine (K2.out _).mono ?_
  rintro en w2 ⟨rfl,hb2⟩
  have hB2:=hB.trans (hb2.mono hB.size)
  clear hb2
  go_wp2_with fail
  go_ret
  exact ⟨rfl,hB2⟩
 ·have hmb:((m:Int)==(q:Int))=false:=by simp;omega
  rw [decide_eq_false hmq]
  clear hmq
  go_enter Tryz.func87,Tryz.ntmps87
  go_wp2_with fail
  refine (K1.out _).mono ?_
  rintro en w1 ⟨rfl,hb1⟩
  obtain ⟨hB,hz,q0,q1,q2,q3,q4,q5,q6⟩:=init7 hb1
  clear hb1
  go_wp2_with fail
  go_ret
  exact ⟨rfl,hB⟩
theorem c46 (w:World):Calls Tryz.prog 28 #[] w fun en w'=>en=.returned (.agg #[.bool false,.int .u32 0,.int .u8 0,.int .u8 0,.int .u8 0,.int .u16 0,.int .u16 0])∧Below w.heap.size w w':=by
 go_enter Tryz.func28,Tryz.ntmps28
 go_wp2
 exact bodyPost_ret (v:=.agg #[.bool false,.int .u32 0,.int .u8 0,.int .u8 0,.int .u8 0,.int .u16 0,.int .u16 0]) (by simp [results,Tryz.results28,go_sem]) rfl ⟨rfl,(Below.refl _ _).alloc (Nat.le_refl _) _⟩
theorem c15n (n:Nat) (w:World):Calls Tryz.prog 132 #[.int .u32 (n:Int)] w fun en w'=>en=.returned (.agg #[.bool false,.int .u32 (n:Int),.int .u8 0,.int .u8 0,.int .u8 0,.int .u16 0,.int .u16 0])∧Below w.heap.size w w':=by
 go_enter Tryz.func132,Tryz.ntmps132
 go_wp2
 exact bodyPost_ret (v:=.agg #[.bool false,.int .u32 (n:Int),.int .u8 0,.int .u8 0,.int .u8 0,.int .u16 0,.int .u16 0]) (by simp [results,Tryz.results132,go_sem]) rfl ⟨rfl,(Below.refl _ _).alloc (Nat.le_refl _) _⟩
theorem and8 (p:Nat) (hp:p<256):bits .and .u8 (p:Int) 8=((p/8%2*8:Nat):Int):=by
 have h:=u8_and_nat p 8 hp (by omega)
 rw [nat_bit3] at h;exact h
theorem and7 (t:Nat) (ht:t<4294967296):bits .and .u32 (t:Int) 7=((t%8:Nat):Int):=by
 have h:=u32_and_nat t 7 ht (by omega)
 rw [nat_mask3] at h;exact h
set_option maxHeartbeats 2000000 in
theorem c26 (g:Bool) (a p y e b t:Nat) (hp:p<256) (hy:y<256) (w:World) :
  Calls Tryz.prog 144 #[cp g a p y e b t] w fun en w'=>en=.returned (cp (g&&(decide (y=0)&&decide (p/8%2=1))) a p 1 e b t)∧Below w.heap.size w w':=by
 have k1:=c47 g a p y e b t hy
 have k3:∀ w:World,Calls Tryz.prog 131 #[(.agg #[.bool g,.int .u32 (a:Int),.int .u8 (p:Int),.int .u8 1,.int .u8 (e:Int),.int .u16 (b:Int),.int .u16 (t:Int)]:Value),.bool (decide (y=0)&&decide (p/8%2=1))] w fun en w'=>en=.returned (.agg #[.bool (g&&(decide (y=0)&&decide (p/8%2=1))),.int .u32 (a:Int),.int .u8 (p:Int),.int .u8 1,.int .u8 (e:Int),.int .u16 (b:Int),.int .u16 (t:Int)]:Value)∧Below w.heap.size w w':=fun w=>c49 g (decide (y=0)&&decide (p/8%2=1)) a p 1 e b t w
 have k:=and8 p hp
 have hm:p/8%2=0∨p/8%2=1:=by omega
 generalize p/8%2=m at *
 generalize decide (y=0)=r at *
 have K1:=Lib.hid k1
 have K3:=Lib.hid k3
 clear k1 k3
 rcases hm with rfl | rfl <;> cases r
 all_goals
  go_enter Tryz.func144,Tryz.ntmps144
  go_wp2_with fail
  refine (K1.out _).mono ?_
  rintro en w1 ⟨rfl,hb1⟩
  obtain ⟨hc,hf⟩:=bcell hb1
  have hz:w.heap.size+1<w1.heap.size:=by have:=hb1.size;simp at this;omega
  have hB:Below w.heap.size w w1:=(((Below.refl _ _).alloc (Nat.le_refl _) _).alloc (by simp) _).trans (hb1.mono (by simp;omega))
  have q1:w1.cell? ⟨w.heap.size,3,none⟩=some (.int .u8 (y:Int)):=by rw [hc _ _ (by simp;omega)];go_simp
  clear hb1
  go_wp2_with fail
  refine (K3.out _).mono ?_
  rintro en w2 ⟨rfl,hb2⟩
  obtain ⟨hc2,hf2⟩:=bcell hb2
  have hz2:w.heap.size+1<w2.heap.size:=by have:=hb2.size;simp at this;omega
  have hB2:Below w.heap.size w w2:=(hB.setCell (p:=⟨w.heap.size,3,none⟩) (Nat.le_refl _) _).trans (hb2.mono (by simp;omega))
  clear hb2 hB
  have hr:∀ o,w2.cell? ⟨w.heap.size+1,o,none⟩=w1.cell? ⟨w.heap.size+1,o,none⟩:=fun o=>by rw [hc2 _ _ (by simp;omega)];go_simp
  go_wp2_with fail
  exact bodyPost_ret (v:=cp _ a p 1 e b t) (by simp [results,Tryz.results144,go_sem,hr,hc]) rfl ⟨rfl,set7 hB2 (by omega) _ _ _ _ _ _ _⟩
set_option maxHeartbeats 2000000 in
theorem c28 (g:Bool) (a p y e b t s:Nat) (hy:y<256) (hs:s<4294967296) (w:World) :
  Calls Tryz.prog 140 #[cp g a p y e b t,.int .u32 (s:Int)] w fun en w'=>en=.returned (cp (g&&(decide (y=0)&&!decide (s%8=0))) a p (s%8) e b t)∧Below w.heap.size w w':=by
 have k1:=c47 g a p y e b t hy
 have k3:=c49 g (decide (y=0)&&!decide (s%8=0)) a p (s%8) e b t
 have k:=and7 s hs
 have hl:s%8<8:=by omega
 generalize s%8=m at *
 generalize decide (y=0)=r at *
 have K1:=Lib.hid k1
 by_cases h0:m=0
 ·have hb0:((m:Int) != 0)=false:=by simp;omega
  rw [decide_eq_true h0] at k3 ⊢
  have K3:=Lib.hid k3
  clear k1 k3 h0
  cases r
  all_goals
   go_enter Tryz.func140,Tryz.ntmps140
   go_wp2_with fail
   refine (K1.out _).mono ?_
   rintro en w1 ⟨rfl,hb1⟩
   obtain ⟨hc,hf⟩:=bcell hb1
   have hz:w.heap.size+1<w1.heap.size:=by have:=hb1.size;simp at this;omega
   have hB:Below w.heap.size w w1:=(((Below.refl _ _).alloc (Nat.le_refl _) _).alloc (by simp) _).trans (hb1.mono (by simp;omega))
   have q1:w1.cell? ⟨w.heap.size,3,none⟩=some (.int .u8 (y:Int)):=by rw [hc _ _ (by simp;omega)];go_simp
   clear hb1
   go_wp2_with fail
   refine (K3.out _).mono ?_
   rintro en w2 ⟨rfl,hb2⟩
   obtain ⟨hc2,hf2⟩:=bcell hb2
   have hz2:w.heap.size+1<w2.heap.size:=by have:=hb2.size;simp at this;omega
   have hB2:Below w.heap.size w w2:=(hB.setCell (p:=⟨w.heap.size,3,none⟩) (Nat.le_refl _) _).trans (hb2.mono (by simp;omega))
   clear hb2 hB
   have hr:∀ o,w2.cell? ⟨w.heap.size+1,o,none⟩=w1.cell? ⟨w.heap.size+1,o,none⟩:=fun o=>by rw [hc2 _ _ (by simp;omega)];go_simp
   go_wp2_with fail
   exact bodyPost_ret (v:=cp _ a p m e b t) (by simp [results,Tryz.results140,go_sem,hr,hc]) rfl ⟨rfl,set7 hB2 (by omega) _ _ _ _ _ _ _⟩
 ·have hb0:((m:Int) != 0)=true:=by simp;omega
  rw [decide_eq_false h0] at k3 ⊢
  have K3:=Lib.hid k3
  clear k1 k3 h0
  cases r
  all_goals
   go_enter Tryz.func140,Tryz.ntmps140
   go_wp2_with fail
   refine (K1.out _).mono ?_
   rintro en w1 ⟨rfl,hb1⟩
   obtain ⟨hc,hf⟩:=bcell hb1
   have hz:w.heap.size+1<w1.heap.size:=by have:=hb1.size;simp at this;omega
   have hB:Below w.heap.size w w1:=(((Below.refl _ _).alloc (Nat.le_refl _) _).alloc (by simp) _).trans (hb1.mono (by simp;omega))
   have q1:w1.cell? ⟨w.heap.size,3,none⟩=some (.int .u8 (y:Int)):=by rw [hc _ _ (by simp;omega)];go_simp
   clear hb1
   go_wp2_with fail
   refine (K3.out _).mono ?_
   rintro en w2 ⟨rfl,hb2⟩
   obtain ⟨hc2,hf2⟩:=bcell hb2
   have hz2:w.heap.size+1<w2.heap.size:=by have:=hb2.size;simp at this;omega
   have hB2:Below w.heap.size w w2:=(hB.setCell (p:=⟨w.heap.size,3,none⟩) (Nat.le_refl _) _).trans (hb2.mono (by simp;omega))
   clear hb2 hB
   have hr:∀ o,w2.cell? ⟨w.heap.size+1,o,none⟩=w1.cell? ⟨w.heap.size+1,o,none⟩:=fun o=>by rw [hc2 _ _ (by simp;omega)];go_simp
   go_wp2_with fail
   exact bodyPost_ret (v:=cp _ a p m e b t) (by simp [results,Tryz.results140,go_sem,hr,hc]) rfl ⟨rfl,set7 hB2 (by omega) _ _ _ _ _ _ _⟩
set_option maxHeartbeats 2000000 in
theorem c30 (g:Bool) (a p y e b t:Nat) (hy:y<256) (w:World) :
  Calls Tryz.prog 141 #[cp g a p y e b t] w fun en w'=>en=.returned (cp (g&&!decide (y=0)) a p 0 e b t)∧Below w.heap.size w w':=by
 have k1:=c47 g a p y e b t hy
 have k3:∀ w:World,Calls Tryz.prog 131 #[(.agg #[.bool g,.int .u32 (a:Int),.int .u8 (p:Int),.int .u8 0,.int .u8 (e:Int),.int .u16 (b:Int),.int .u16 (t:Int)]:Value),.bool (!decide (y=0))] w fun en w'=>en=.returned (.agg #[.bool (g&&!decide (y=0)),.int .u32 (a:Int),.int .u8 (p:Int),.int .u8 0,.int .u8 (e:Int),.int .u16 (b:Int),.int .u16 (t:Int)]:Value)∧Below w.heap.size w w':=fun w=>c49 g (!decide (y=0)) a p 0 e b t w
 generalize decide (y=0)=r at *
 have K1:=Lib.hid k1
 have K3:=Lib.hid k3
 clear k1 k3
 cases r
 all_goals
  go_enter Tryz.func141,Tryz.ntmps141
  go_wp2_with fail
  refine (K1.out _).mono ?_
  rintro en w1 ⟨rfl,hb1⟩
  obtain ⟨hc,hf⟩:=bcell hb1
  have hz:w.heap.size+1<w1.heap.size:=by have:=hb1.size;simp at this;omega
  have hB:Below w.heap.size w w1:=(((Below.refl _ _).alloc (Nat.le_refl _) _).alloc (by simp) _).trans (hb1.mono (by simp;omega))
  have q1:w1.cell? ⟨w.heap.size,3,none⟩=some (.int .u8 (y:Int)):=by rw [hc _ _ (by simp;omega)];go_simp
  clear hb1
  go_wp2_with fail
  refine (K3.out _).mono ?_
  rintro en w2 ⟨rfl,hb2⟩
  obtain ⟨hc2,hf2⟩:=bcell hb2
  have hz2:w.heap.size+1<w2.heap.size:=by have:=hb2.size;simp at this;omega
  have hB2:Below w.heap.size w w2:=(hB.setCell (p:=⟨w.heap.size,3,none⟩) (Nat.le_refl _) _).trans (hb2.mono (by simp;omega))
  clear hb2 hB
  have hr:∀ o,w2.cell? ⟨w.heap.size+1,o,none⟩=w1.cell? ⟨w.heap.size+1,o,none⟩:=fun o=>by rw [hc2 _ _ (by simp;omega)];go_simp
  go_wp2_with fail
  exact bodyPost_ret (v:=cp _ a p 0 e b t) (by simp [results,Tryz.results141,go_sem,hr,hc]) rfl ⟨rfl,set7 hB2 (by omega) _ _ _ _ _ _ _⟩
set_option maxHeartbeats 4000000 in
theorem sb20 (g r W:Bool) (a p y e b t n E B T R:Nat) (ha:a<4294967296) (hn:n<4294967296) (hE:E<256) (hB0:B<65536) (hT:T<65536)
  (k1:∀ w:World,Calls Tryz.prog 170 #[.int .u64 (a:Int),.int .u64 ((a:Int)+(n:Int))] w fun en w'=>en=.returned (.tuple #[.agg #[.int .u8 (E:Int),.int .u16 (B:Int),.int .u16 (T:Int)],.int .i64 (R:Int)])∧Below w.heap.size w w')
  (k2:∀ w:World,Calls Tryz.prog 124 #[cp g a p y e b t] w fun en w'=>en=.returned (.bool r)∧Below w.heap.size w w')
  (k3:∀ w:World,Calls Tryz.prog 125 #[bnd e b t,.int .u32 (a:Int),.int .u64 (a:Int),.int .u64 (n:Int)] w fun en w'=>en=.returned (.bool W)∧Below w.heap.size w w') (w:World) :
  Calls Tryz.prog 146 #[cp g a p y e b t,.int .u32 (n:Int)] w fun en w'=>en=.returned (if (r&&W&&decide (R=0))=true then cp g a p y E B T else cp false a p y e b t)∧Below w.heap.size w w':=by
 have k4:=c24 g a p y e b t
 have K1:=Lib.hid k1
 have K2:=Lib.hid k2
 have K3:=Lib.hid k3
 have K4:=Lib.hid k4
 clear k1 k2 k3 k4
 cases r
 ·rw [if_neg (by simp)]
  go_enter Tryz.func146,Tryz.ntmps146
  go_wp2_with fail
  refine (K1.out _).mono ?_
  rintro en w1 ⟨rfl,hb1⟩
  obtain ⟨hc,hf⟩:=bcell hb1
  have hz:w.heap.size+1<w1.heap.size:=by have:=hb1.size;simp at this;omega
  have hz':w.heap.size<w1.heap.size:=by omega
  go_wp2_with fail
  refine (K2.out _).mono ?_
  rintro en w2 ⟨rfl,hb2⟩
  have hW2:=(hb1.alloc hb1.size _).trans (hb2.mono (by have:=hb1.size;simp at this ⊢;omega))
  have l0:w2.cell? ⟨w1.heap.size,0,none⟩=some (.int .u8 (E:Int)):=by rw [hb2.cell (p:=⟨w1.heap.size,0,none⟩) (by simp)];simp
  have l1:w2.cell? ⟨w1.heap.size,1,none⟩=some (.int .u16 (B:Int)):=by rw [hb2.cell (p:=⟨w1.heap.size,1,none⟩) (by simp)];simp
  have l2:w2.cell? ⟨w1.heap.size,2,none⟩=some (.int .u16 (T:Int)):=by rw [hb2.cell (p:=⟨w1.heap.size,2,none⟩) (by simp)];simp
  have hz2:w1.heap.size<w2.heap.size:=by have:=hb2.size;simp at this;omega
  clear hc hf
  obtain ⟨hc,hf⟩:=bcell hW2
  go_wp2_with fail
  refine (K4.out _).mono ?_
  rintro en w4 ⟨rfl,hb4⟩
  have hW4:=hW2.trans (hb4.mono hW2.size)
  clear hc hf
  obtain ⟨hc,hf⟩:=bcell hW4
  have hB:Below w.heap.size w w4:=(((Below.refl _ _).alloc (Nat.le_refl _) _).alloc (by simp) _).trans (hW4.mono (by simp;omega))
  have hz4:w.heap.size+1<w4.heap.size:=by have:=hb4.size;omega
  go_wp2_with fail
  exact bodyPost_ret (v:=cp false a p y e b t) (by simp [results,Tryz.results146,go_sem,hc]) rfl ⟨rfl,set7 hB (by omega) _ _ _ _ _ _ _⟩
 cases W
 ·rw [if_neg (by simp)]
  go_enter Tryz.func146,Tryz.ntmps146
  go_wp2_with fail
  refine (K1.out _).mono ?_
  rintro en w1 ⟨rfl,hb1⟩
  obtain ⟨hc,hf⟩:=bcell hb1
  have hz:w.heap.size+1<w1.heap.size:=by have:=hb1.size;simp at this;omega
  have hz':w.heap.size<w1.heap.size:=by omega
  go_wp2_with fail
  refine (K2.out _).mono ?_
  rintro en w2 ⟨rfl,hb2⟩
  have hW2:=(hb1.alloc hb1.size _).trans (hb2.mono (by have:=hb1.size;simp at this ⊢;omega))
  have l0:w2.cell? ⟨w1.heap.size,0,none⟩=some (.int .u8 (E:Int)):=by rw [hb2.cell (p:=⟨w1.heap.size,0,none⟩) (by simp)];simp
  have l1:w2.cell? ⟨w1.heap.size,1,none⟩=some (.int .u16 (B:Int)):=by rw [hb2.cell (p:=⟨w1.heap.size,1,none⟩) (by simp)];simp
  have l2:w2.cell? ⟨w1.heap.size,2,none⟩=some (.int .u16 (T:Int)):=by rw [hb2.cell (p:=⟨w1.heap.size,2,none⟩) (by simp)];simp
  have hz2:w1.heap.size<w2.heap.size:=by have:=hb2.size;simp at this;omega
  clear hc hf
  obtain ⟨hc,hf⟩:=bcell hW2
  go_wp2_with fail
  refine (K3.out _).mono ?_
  rintro en w3 ⟨rfl,hb3⟩
  have hW3:=hW2.trans (hb3.mono hW2.size)
  have l0':w3.cell? ⟨w1.heap.size,0,none⟩=some (.int .u8 (E:Int)):=by rw [hb3.cell (p:=⟨w1.heap.size,0,none⟩) hz2];exact l0
  have l1':w3.cell? ⟨w1.heap.size,1,none⟩=some (.int .u16 (B:Int)):=by rw [hb3.cell (p:=⟨w1.heap.size,1,none⟩) hz2];exact l1
  have l2':w3.cell? ⟨w1.heap.size,2,none⟩=some (.int .u16 (T:Int)):=by rw [hb3.cell (p:=⟨w1.heap.size,2,none⟩) hz2];exact l2
  have hz3:w1.heap.size<w3.heap.size:=Nat.lt_of_lt_of_le hz2 hb3.size
  clear hc hf l0 l1 l2
  obtain ⟨hc,hf⟩:=bcell hW3
  go_wp2_with fail
  refine (K4.out _).mono ?_
  rintro en w4 ⟨rfl,hb4⟩
  have hW4:=hW3.trans (hb4.mono hW3.size)
  clear hc hf
  obtain ⟨hc,hf⟩:=bcell hW4
  have hB:Below w.heap.size w w4:=(((Below.refl _ _).alloc (Nat.le_refl _) _).alloc (by simp) _).trans (hW4.mono (by simp;omega))
  have hz4:w.heap.size+1<w4.heap.size:=by have:=hb4.size;omega
  go_wp2_with fail
  exact bodyPost_ret (v:=cp false a p y e b t) (by simp [results,Tryz.results146,go_sem,hc]) rfl ⟨rfl,set7 hB (by omega) _ _ _ _ _ _ _⟩
 by_cases hR:R=0
 ·subst hR
  rw [if_pos (by simp)]
  go_enter Tryz.func146,Tryz.ntmps146
  go_wp2_with fail
  refine (K1.out _).mono ?_
  rintro en w1 ⟨rfl,hb1⟩
  obtain ⟨hc,hf⟩:=bcell hb1
  have hz:w.heap.size+1<w1.heap.size:=by have:=hb1.size;simp at this;omega
  have hz':w.heap.size<w1.heap.size:=by omega
  go_wp2_with fail
  refine (K2.out _).mono ?_
  rintro en w2 ⟨rfl,hb2⟩
  have hW2:=(hb1.alloc hb1.size _).trans (hb2.mono (by have:=hb1.size;simp at this ⊢;omega))
  have l0:w2.cell? ⟨w1.heap.size,0,none⟩=some (.int .u8 (E:Int)):=by rw [hb2.cell (p:=⟨w1.heap.size,0,none⟩) (by simp)];simp
  have l1:w2.cell? ⟨w1.heap.size,1,none⟩=some (.int .u16 (B:Int)):=by rw [hb2.cell (p:=⟨w1.heap.size,1,none⟩) (by simp)];simp
  have l2:w2.cell? ⟨w1.heap.size,2,none⟩=some (.int .u16 (T:Int)):=by rw [hb2.cell (p:=⟨w1.heap.size,2,none⟩) (by simp)];simp
  have hz2:w1.heap.size<w2.heap.size:=by have:=hb2.size;simp at this;omega
  clear hc hf
  obtain ⟨hc,hf⟩:=bcell hW2
  go_wp2_with fail
  refine (K3.out _).mono ?_
  rintro en w3 ⟨rfl,hb3⟩
  have hW3:=hW2.trans (hb3.mono hW2.size)
  have l0':w3.cell? ⟨w1.heap.size,0,none⟩=some (.int .u8 (E:Int)):=by rw [hb3.cell (p:=⟨w1.heap.size,0,none⟩) hz2];exact l0
  have l1':w3.cell? ⟨w1.heap.size,1,none⟩=some (.int .u16 (B:Int)):=by rw [hb3.cell (p:=⟨w1.heap.size,1,none⟩) hz2];exact l1
  have l2':w3.cell? ⟨w1.heap.size,2,none⟩=some (.int .u16 (T:Int)):=by rw [hb3.cell (p:=⟨w1.heap.size,2,none⟩) hz2];exact l2
  have hz3:w1.heap.size<w3.heap.size:=Nat.lt_of_lt_of_le hz2 hb3.size
  clear hc hf l0 l1 l2
  obtain ⟨hc,hf⟩:=bcell hW3
  have u4:w3.cell? ⟨w.heap.size,4,none⟩=some (.int .u8 (e:Int)):=by rw [hc _ _ (by simp;omega)];go_simp
  have u5:w3.cell? ⟨w.heap.size,5,none⟩=some (.int .u16 (b:Int)):=by rw [hc _ _ (by simp;omega)];go_simp
  have u6:w3.cell? ⟨w.heap.size,6,none⟩=some (.int .u16 (t:Int)):=by rw [hc _ _ (by simp;omega)];go_simp
  have hB:Below w.heap.size w w3:=(((Below.refl _ _).alloc (Nat.le_refl _) _).alloc (by simp) _).trans (hW3.mono (by simp;omega))
  go_wp2_with fail
  exact bodyPost_ret (v:=cp g a p y E B T) (by simp [results,Tryz.results146,go_sem,hc]) rfl ⟨rfl,set7 (((hB.setCell (p:=⟨w.heap.size,4,none⟩) (Nat.le_refl _) _).setCell (p:=⟨w.heap.size,5,none⟩) (Nat.le_refl _) _).setCell (p:=⟨w.heap.size,6,none⟩) (Nat.le_refl _) _) (by omega) _ _ _ _ _ _ _⟩
 ·rw [if_neg (by simpa using hR)]
  have hRb:((R:Int) != 0)=true:=by simp;omega
  clear hR
  go_enter Tryz.func146,Tryz.ntmps146
  go_wp2_with fail
  refine (K1.out _).mono ?_
  rintro en w1 ⟨rfl,hb1⟩
  obtain ⟨hc,hf⟩:=bcell hb1
  have hz:w.heap.size+1<w1.heap.size:=by have:=hb1.size;simp at this;omega
  have hz':w.heap.size<w1.heap.size:=by omega
  go_wp2_with fail
  refine (K2.out _).mono ?_
  rintro en w2 ⟨rfl,hb2⟩
  have hW2:=(hb1.alloc hb1.size _).trans (hb2.mono (by have:=hb1.size;simp at this ⊢;omega))
  have l0:w2.cell? ⟨w1.heap.size,0,none⟩=some (.int .u8 (E:Int)):=by rw [hb2.cell (p:=⟨w1.heap.size,0,none⟩) (by simp)];simp
  have l1:w2.cell? ⟨w1.heap.size,1,none⟩=some (.int .u16 (B:Int)):=by rw [hb2.cell (p:=⟨w1.heap.size,1,none⟩) (by simp)];simp
  have l2:w2.cell? ⟨w1.heap.size,2,none⟩=some (.int .u16 (T:Int)):=by rw [hb2.cell (p:=⟨w1.heap.size,2,none⟩) (by simp)];simp
  have hz2:w1.heap.size<w2.heap.size:=by have:=hb2.size;simp at this;omega
  clear hc hf
  obtain ⟨hc,hf⟩:=bcell hW2
  go_wp2_with fail
  refine (K3.out _).mono ?_
  rintro en w3 ⟨rfl,hb3⟩
  have hW3:=hW2.trans (hb3.mono hW2.size)
  have l0':w3.cell? ⟨w1.heap.size,0,none⟩=some (.int .u8 (E:Int)):=by rw [hb3.cell (p:=⟨w1.heap.size,0,none⟩) hz2];exact l0
  have l1':w3.cell? ⟨w1.heap.size,1,none⟩=some (.int .u16 (B:Int)):=by rw [hb3.cell (p:=⟨w1.heap.size,1,none⟩) hz2];exact l1
  have l2':w3.cell? ⟨w1.heap.size,2,none⟩=some (.int .u16 (T:Int)):=by rw [hb3.cell (p:=⟨w1.heap.size,2,none⟩) hz2];exact l2
  have hz3:w1.heap.size<w3.heap.size:=Nat.lt_of_lt_of_le hz2 hb3.size
  clear hc hf l0 l1 l2
  obtain ⟨hc,hf⟩:=bcell hW3
  go_wp2_with fail
  refine (K4.out _).mono ?_
  rintro en w4 ⟨rfl,hb4⟩
  have hW4:=hW3.trans (hb4.mono hW3.size)
  clear hc hf
  obtain ⟨hc,hf⟩:=bcell hW4
  have hB:Below w.heap.size w w4:=(((Below.refl _ _).alloc (Nat.le_refl _) _).alloc (by simp) _).trans (hW4.mono (by simp;omega))
  have hz4:w.heap.size+1<w4.heap.size:=by have:=hb4.size;omega
  go_wp2_with fail
  exact bodyPost_ret (v:=cp false a p y e b t) (by simp [results,Tryz.results146,go_sem,hc]) rfl ⟨rfl,set7 hB (by omega) _ _ _ _ _ _ _⟩
def sbV (g:Bool) (a p y e b t n:Nat):Value:=if (decide (y=0)&&wi (e%16) (b%512) (t%512) a a n&&decide ((ex a (a+n)).2.2.2=0))=true then cp g a p y (ex a (a+n)).1 (ex a (a+n)).2.1 (ex a (a+n)).2.2.1 else cp false a p y e b t
theorem ex_lt (b t:Nat):(ex b t).1<256∧(ex b t).2.1<65536∧(ex b t).2.2.1<65536∧(ex b t).2.2.2<256:=by
 rcases ex_err b t with ⟨h1,h2,h3,h4,h5,h6⟩ | ⟨h1,h2,h3,h4⟩ <;> omega
theorem c20s (g:Bool) (a p y e b t n:Nat) (ha:a<4294967296) (hy:y<256) (he:e<256) (hb:b<65536) (ht:t<65536) (hn:n<4294967296) (w:World) :
  Calls Tryz.prog 146 #[cp g a p y e b t,.int .u32 (n:Int)] w fun en w'=>en=.returned (sbV g a p y e b t n)∧Below w.heap.size w w':=by
 obtain ⟨h1,h2,h3,h4⟩:=ex_lt a (a+n)
 exact sb20 g _ _ a p y e b t n _ _ _ _ ha hn h1 h2 h3 (fun w=>c18 a (a+n) (by omega) (by omega) w) (fun w=>c47 g a p y e b t hy w) (fun w=>c15 e b t a a n he hb ht ha (by omega) (by omega) w) w
end Go.Proofs.YtnkoknfihhdelaaGreatDoor.Ca
