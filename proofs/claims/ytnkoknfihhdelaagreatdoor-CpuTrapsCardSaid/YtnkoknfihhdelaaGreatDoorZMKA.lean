import Derived.Test.YtnkoknfihhdelaaGreatDoorProg
import Derived.WalkKit
import Derived.ProofKit
import Derived.OpenShut
import Derived.Below
import Derived.WalkSmall
import Derived.BigQuiet
import Derived.Deep.QuietTactic
import Derived.Deep.RegionHeld3
import Derived.LoopTactic
import Derived.Lib.Hide
import Derived.Laws.BitsAllLaws
namespace Go.Proofs.YtnkoknfihhdelaaGreatDoor.Cp
open Go.ChangeShapes Go.WideShapes Go.ChangeAt Go.RowKit
set_option linter.unusedVariables false
abbrev bnd (e b t:Nat):Value:=.agg #[.int .u8 (e:Int),.int .u16 (b:Int),.int .u16 (t:Int)]
def bs (x y a:Nat):Nat:=(if a/2 ^ x%512<y then (if a/2 ^ (x+9)=0 then 2 ^ (23-x) else a/2 ^ (x+9))-1 else a/2 ^ (x+9))*2 ^ (x+9)+y*2 ^ x
def ln (x y z:Nat):Nat:=(z+512-y)%512*2 ^ x
def wi (x y z a at' n:Nat):Bool:=decide (at'≤1099511627776∧n≤1099511627776∧bs x y a≤at'∧at'+n≤bs x y a+ln x y z)
theorem sixteen {P:Nat→Prop} (x:Nat) (hx:x<16) (h0:P 0) (h1:P 1) (h2:P 2) (h3:P 3) (h4:P 4) (h5:P 5) (h6:P 6) (h7:P 7) (h8:P 8) (h9:P 9) (h10:P 10) (h11:P 11) (h12:P 12) (h13:P 13) (h14:P 14) (h15:P 15):P x:=by
 have:x=0∨x=1∨x=2∨x=3∨x=4∨x=5∨x=6∨x=7∨x=8∨x=9∨x=10∨x=11∨x=12∨x=13∨x=14∨x=15:=by omega
 rcases this with rfl | rfl | rfl | rfl | rfl | rfl | rfl | rfl | rfl | rfl | rfl | rfl | rfl | rfl | rfl | rfl <;> assumption
theorem bs_lt (x y a:Nat) (hx:x<16) (hy:y<512) (ha:a<4294967296):bs x y a<4294967296:=by
 unfold bs
 apply sixteen (P:=fun x=>(if a/2 ^ x%512<y then (if a/2 ^ (x+9)=0 then 2 ^ (23-x) else a/2 ^ (x+9))-1 else a/2 ^ (x+9))*2 ^ (x+9)+y*2 ^ x<4294967296) x hx <;> simp <;> (split <;> (try split) <;> omega)
theorem ln_le (x y z:Nat) (hx:x<16):ln x y z≤16744448:=by
 unfold ln
 have h:(z+512-y)%512≤511:=by omega
 generalize (z+512-y)%512=d at h
 apply sixteen (P:=fun x=>d*2 ^ x≤16744448) x hx <;> simp <;> omega
theorem base_no (a x y:Nat) (hx:x<16) (hy:y<512) (ha:a<4294967296) (h:¬ a/2 ^ x%512<y) :
  IntKind.u64.wrap (IntKind.u64.wrap (IntKind.u64.wrap ((a:Int)/2 ^ (x+9))*2 ^ (x+9))+IntKind.u64.wrap ((y:Int)*2 ^ x))=((bs x y a:Nat):Int):=by
 unfold bs
 rw [if_neg h]
 clear h
 simp only [IntKind.wrap_u64]
 apply sixteen (P:=fun x=>((a:Int)/2 ^ (x+9)%18446744073709551616*2 ^ (x+9)%18446744073709551616+(y:Int)*2 ^ x%18446744073709551616)%18446744073709551616=((a/2 ^ (x+9)*2 ^ (x+9)+y*2 ^ x:Nat):Int)) x hx <;> simp <;> omega
theorem mask_sub (n k:Nat) (hk:k≤32) (hn:n<4294967296):bits .and .u32 (n:Int) (((2 ^ k-1:Nat)):Int)=((n%2 ^ k:Nat):Int):=by
 have h2:(2:Nat) ^ k≤2 ^ 32:=Nat.pow_le_pow_right (by omega) hk
 rw [u32_and_nat n (2 ^ k-1) hn (by omega),Nat.and_two_pow_sub_one_eq_mod]
theorem base_yes (a x y:Nat) (hx:x<16) (hy:y<512) (ha:a<4294967296) (h:a/2 ^ x%512<y) :
  IntKind.u64.wrap (IntKind.u64.wrap (IntKind.u64.wrap (bits .and .u32 (((a:Int)/2 ^ (x+9)-1)%4294967296) ((2 ^ (23-x)-1)%4294967296))*2 ^ (x+9))+IntKind.u64.wrap ((y:Int)*2 ^ x))=((bs x y a:Nat):Int):=by
 have e1:((2 ^ (23-x)-1:Int)%4294967296)=((2 ^ (23-x)-1:Nat):Int):=by
  apply sixteen (P:=fun x=>((2 ^ (23-x)-1:Int)%4294967296)=((2 ^ (23-x)-1:Nat):Int)) x hx <;> simp
 have e2:(((a:Int)/2 ^ (x+9)-1)%4294967296)=(((if a/2 ^ (x+9)=0 then 4294967296 else a/2 ^ (x+9))-1:Nat):Int):=by
  apply sixteen (P:=fun x=>(((a:Int)/2 ^ (x+9)-1)%4294967296)=(((if a/2 ^ (x+9)=0 then 4294967296 else a/2 ^ (x+9))-1:Nat):Int)) x hx <;> simp <;> (split <;> omega)
 rw [e1,e2,mask_sub _ _ (by omega) (by split <;> (try (have:=Nat.div_le_self a (2 ^ (x+9));omega)) <;> omega)]
 unfold bs
 rw [if_pos h]
 clear h e1 e2
 simp only [IntKind.wrap_u64]
 apply sixteen (P:=fun x=>((((((if a/2 ^ (x+9)=0 then 4294967296 else a/2 ^ (x+9))-1)%2 ^ (23-x):Nat):Int)%18446744073709551616*2 ^ (x+9)%18446744073709551616+(y:Int)*2 ^ x%18446744073709551616)%18446744073709551616=(((if a/2 ^ (x+9)=0 then 2 ^ (23-x) else a/2 ^ (x+9))-1)*2 ^ (x+9)+y*2 ^ x:Nat) )) x hx <;> simp <;> (split <;> omega)
theorem and511_16 (b:Nat) (hb:b<65536):bits .and .u16 (b:Int) 511=((b%512:Nat):Int):=by
 have h:=u16_and_nat b 511 hb (by omega)
 rw [nat_mask9] at h;exact h
theorem and511_32 (b:Nat) (hb:b<4294967296):bits .and .u32 (b:Int) 511=((b%512:Nat):Int):=by
 have h:=u32_and_nat b 511 hb (by omega)
 rw [nat_mask9] at h;exact h
theorem ret1 {k:IntKind} {a b:Int} (h:a=b):Ending.returned (.int k a)=.returned (.int k b):=by rw [h]
theorem c21 (e:Nat) (he:e≤40) (w:World) :
  Calls Tryz.prog 121 #[.int .i64 (e:Int)] w fun en w'=>en=.returned (.int .u64 ((2 ^ e:Nat):Int))∧w=w':=by
 go_enter Tryz.func121,Tryz.ntmps121
 go_wp2
 go_loop [3,4] (fun n i=>∃ k:Nat,k≤e∧i=.int .i64 k∧n=.int .u64 ((2 ^ k:Nat):Int)) (fun _ i=>e-(intOf i).toNat)
 case atStart=>exact ⟨0,by omega,rfl,rfl⟩
 case round =>
  obtain ⟨k,hk,rfl,rfl⟩:=hrel
  have hp:(2:Nat) ^ k≤2 ^ 40:=Nat.pow_le_pow_right (by omega) (by omega)
  have hd:((2 ^ (k+1):Nat):Int)=2*((2 ^ k:Nat):Int):=by rw [Nat.pow_succ];omega
  have Hd:=Lib.hid hd
  clear hd
  generalize hpk:(2:Nat) ^ k=p at *
  have Hp:=Lib.hid hpk
  clear hpk
  by_cases hlt:k<e
  ·go_wp2
   go_round
   case rel=>exact ⟨k+1,by omega,by go_num,by rw [Hd.out]⟩
   case measure=>simp [intOf];omega
  ·have:k=e:=by omega
   subst this
   go_wp2
   go_ret
   exact ⟨ret1 (by rw [←Hp.out];simp),rfl⟩
theorem cref (a x y:Nat) (hx:x<16) (hy:y<512) (ha:a<4294967296):(if a/2 ^ x%512<y then (if a/(512*2 ^ x)=0 then 2 ^ (23-x) else a/(512*2 ^ x))-1 else a/(512*2 ^ x))*512*2 ^ x+y*2 ^ x=bs x y a:=by
 unfold bs
 have e:(2:Nat) ^ (x+9)=512*2 ^ x:=by rw [Nat.pow_add,Nat.mul_comm]
 rw [e,Nat.mul_assoc]
theorem p40 (x:Nat) (hx:x<16):1≤2 ^ x∧2 ^ x≤32768:=⟨Nat.one_le_two_pow,Nat.le_trans (Nat.pow_le_pow_right (by omega) (by omega:x≤15)) (by omega)⟩
theorem wdiv (a p:Nat) (ha:a<4294967296):IntKind.u64.wrap ((a:Int)/(p:Int))=((a/p:Nat):Int):=by
 have h:=Nat.div_le_self a p
 rw [IntKind.wrap_u64,show (a:Int)/(p:Int)=((a/p:Nat):Int) from rfl]
 generalize a/p=q at *
 omega
theorem wdiv2 (a p:Nat) (ha:a<4294967296):IntKind.u64.wrap ((a:Int)/(512*(p:Int)))=((a/(512*p):Nat):Int):=by
 have:=wdiv a (512*p) ha
 simpa using this
theorem finA (u p y:Nat) (hu:u*512*p≤4294967296) (hp:1≤p) (hp2:p≤32768) (hy:y<512) :
  IntKind.u64.wrap (IntKind.u64.wrap ((u:Int)*512*(p:Int))+IntKind.u64.wrap ((y:Int)*(p:Int)))=((u*512*p+y*p:Nat):Int):=by
 have h:y*p≤512*32768:=Nat.mul_le_mul (by omega) hp2
 rw [show ((u:Int)*512*(p:Int))=((u*512*p:Nat):Int) by simp,show (y:Int)*(p:Int)=((y*p:Nat):Int) by simp]
 generalize u*512*p=A at *
 generalize y*p=B at *
 simp only [IntKind.wrap_u64]
 omega
theorem bcell {W w1:World} (hb:Below W.heap.size W w1):(∀ b o,b<W.heap.size→w1.cell? ⟨b,o,none⟩=W.cell? ⟨b,o,none⟩)∧(∀ b o,b<W.heap.size→w1.frozen? ⟨b,o,none⟩=W.frozen? ⟨b,o,none⟩) :=
 ⟨fun b o h=>hb.cell (p:=⟨b,o,none⟩) h,fun b o h=>hb.frozen (p:=⟨b,o,none⟩) h⟩
theorem retb {a b:Bool} (h:a=b):Ending.returned (.bool a)=.returned (.bool b):=by rw [h]
theorem ofbool {A C:Nat}:((A:Int)==(C:Int))=decide (A=C):=by
 rw [Bool.eq_iff_iff];simp;omega
theorem keep3 {w0 wp w1:World} {k:Nat} {v0 v1 v2:Value} (h:Below w0.heap.size w0 wp∧k<wp.heap.size∧wp.cell? ⟨k,0,none⟩=some v0∧wp.cell? ⟨k,1,none⟩=some v1∧wp.cell? ⟨k,2,none⟩=some v2) (hb:Below wp.heap.size wp w1) :
  Below w0.heap.size w0 w1∧k<w1.heap.size∧w1.cell? ⟨k,0,none⟩=some v0∧w1.cell? ⟨k,1,none⟩=some v1∧w1.cell? ⟨k,2,none⟩=some v2:=by
 obtain ⟨h1,h2,h3,h4,h5⟩:=h
 refine ⟨h1.trans (hb.mono h1.size),Nat.lt_of_lt_of_le h2 hb.size,?_,?_,?_⟩
 ·rw [hb.cell (p:=⟨k,0,none⟩) h2];exact h3
 ·rw [hb.cell (p:=⟨k,1,none⟩) h2];exact h4
 ·rw [hb.cell (p:=⟨k,2,none⟩) h2];exact h5
theorem init3 {w w1:World} {v0 v1 v2:Value} {T:TypeId} (hb:Below (w.alloc (.cells #[v0,v1,v2] T)).heap.size (w.alloc (.cells #[v0,v1,v2] T)) w1) :
  Below w.heap.size w w1∧w.heap.size<w1.heap.size∧w1.cell? ⟨w.heap.size,0,none⟩=some v0∧w1.cell? ⟨w.heap.size,1,none⟩=some v1∧w1.cell? ⟨w.heap.size,2,none⟩=some v2 :=
 keep3 ⟨(Below.refl _ _).alloc (Nat.le_refl _) _,by simp,by simp,by simp,by simp⟩ hb
theorem wi_no1 {x y z a at' n:Nat} (h:1099511627776<at'):wi x y z a at' n=false:=by unfold wi;simp;omega
theorem wi_no2 {x y z a at' n:Nat} (h:1099511627776<n):wi x y z a at' n=false:=by unfold wi;simp;omega
def ok (b t e:Nat):Bool:=decide (b%2 ^ e=0∧t%2 ^ e=0∧t-b≤511*2 ^ e)
def exL (b t:Nat):Nat→Nat × Nat × Nat × Nat
 | 0=>(0,0,0,5)
 | k+1=>if ok b t (8-k)=true then (8-k,b/2 ^ (8-k)%512,t/2 ^ (8-k)%512,0) else exL b t k
def ex (b t:Nat):Nat × Nat × Nat × Nat:=if t<b∨65536<t then (0,0,0,2) else exL b t 9
def exV (r:Nat × Nat × Nat × Nat):Value:=.tuple #[.agg #[.int .u8 (r.1:Int),.int .u16 (r.2.1:Int),.int .u16 (r.2.2.1:Int)],.int .i64 (r.2.2.2:Int)]
theorem and511_64 (b:Nat) (hb:b<18446744073709551616):bits .and .u64 (b:Int) 511=((b%512:Nat):Int):=by
 have h:=u64_and_nat b 511 hb (by omega)
 rw [nat_mask9] at h;exact h
theorem ok_code2 (b t e:Nat) (hb:b<18446744073709551616) (ht:t<18446744073709551616) (he:e≤8) (hbt:b≤t) :
  ∃ M:Nat,bits .and .u64 (bits .or .u64 (b:Int) (t:Int)) (2 ^ e-1)=(M:Int)∧ok b t e=(decide (M=0)&&decide ((t:Int)-(b:Int)≤511*((2 ^ e:Nat):Int))):=by
 have hor:b ||| t<18446744073709551616:=Nat.or_lt_two_pow (n:=64) hb ht
 have h8:(2:Nat) ^ e≤2 ^ 8:=Nat.pow_le_pow_right (by omega) he
 have h1:1≤(2:Nat) ^ e:=Nat.one_le_two_pow
 have e1:(2 ^ e-1:Int)=((2 ^ e-1:Nat):Int):=by rw [Int.ofNat_sub h1];simp
 refine ⟨(b%2 ^ e ||| t%2 ^ e),?_,?_⟩
 ·rw [u64_or_nat b t hb ht,e1,u64_and_nat _ _ hor (by omega),Nat.and_two_pow_sub_one_eq_mod,Nat.or_mod_two_pow]
 ·unfold ok
  rw [Bool.eq_iff_iff,Bool.and_eq_true,decide_eq_true_eq,decide_eq_true_eq,decide_eq_true_eq,Nat.or_eq_zero_iff]
  omega
theorem okR (b t P:Nat) (h:1≤P):(b%P=0∧t%P=0∧t-b≤511*P)↔(b%P=0∧t%P=0∧(t-b)/P≤511):=by
 refine and_congr_right fun h1=>and_congr_right fun h2=>?_
 have hd:P ∣ t-b:=Nat.dvd_sub (Nat.dvd_of_mod_eq_zero h2) (Nat.dvd_of_mod_eq_zero h1)
 obtain ⟨q,hq⟩:=hd
 rw [hq,Nat.mul_div_cancel_left _ (by omega),Nat.mul_comm 511 P]
 exact Nat.mul_le_mul_left_iff (by omega)
set_option maxHeartbeats 1000000 in
theorem c19 (b t:Nat) (hb:b<18446744073709551616) (ht:t<18446744073709551616) (w:World) :
  Calls Tryz.prog 79 #[.int .u64 (b:Int),.int .u64 (t:Int)] w fun en w'=>en=.returned (exV (ex b t))∧Below w.heap.size w w':=by
 by_cases g1:t<b
 ·have E:ex b t=(0,0,0,2):=by unfold ex;rw [if_pos (Or.inl g1)]
  rw [E]
  go_enter Tryz.func79,Tryz.ntmps79
  go_wp2
  exact bodyPost_ret (v:=exV (0,0,0,2)) (by simp [exV,results,Tryz.results79,go_sem]) rfl ⟨rfl,(Below.refl _ _).alloc (Nat.le_refl _) _⟩
 by_cases g2:65536<t
 ·have E:ex b t=(0,0,0,2):=by unfold ex;rw [if_pos (Or.inr g2)]
  rw [E]
  go_enter Tryz.func79,Tryz.ntmps79
  go_wp2
  exact bodyPost_ret (v:=exV (0,0,0,2)) (by simp [exV,results,Tryz.results79,go_sem]) rfl ⟨rfl,(Below.refl _ _).alloc (Nat.le_refl _) _⟩
 have E:ex b t=exL b t 9:=by unfold ex;rw [if_neg (by omega)]
 rw [E]
 clear E
 have g2':decide ((65536:Int)<(t:Int))=false:=by simp;omega
 go_enter Tryz.func79,Tryz.ntmps79
 go_wp2
 go_loop [6,7] (fun v _=>∃ k:Nat,k≤9∧v=.int .i64 k∧Hid (exL b t (9-k)=exL b t 9)) (fun v _=>9-(intOf v).toNat)
 case atStart=>exact ⟨0,by omega,rfl,rfl⟩
 case round =>
  obtain ⟨k,hk,rfl,hx⟩:=hrel
  by_cases hlt:k≤8
  ·have hs:exL b t (9-k)=if ok b t k=true then (k,b/2 ^ k%512,t/2 ^ k%512,0) else exL b t (9-(k+1)):=by
    rw [show 9-k=(8-k)+1 by omega,exL,show 8-(8-k)=k by omega,show 9-(k+1)=8-k by omega]
   rw [hs] at hx
   clear hs
   have hok:ok b t k=true↔(b%2 ^ k=0∧t%2 ^ k=0∧(t-b)/2 ^ k≤511):=by unfold ok;rw [decide_eq_true_eq];exact okR b t (2 ^ k) Nat.one_le_two_pow
   have p8:(2:Nat) ^ k≤2 ^ 8:=Nat.pow_le_pow_right (by omega) hlt
   have p1:1≤(2:Nat) ^ k:=Nat.one_le_two_pow
   have hP:=c21 k (by omega)
   generalize (2:Nat) ^ k=P at *
   have HP:=Lib.hid hP
   clear hP
   have s0:(t:Int)-(b:Int)=((t-b:Nat):Int):=by omega
   have d0:(((t-b:Nat):Int))/(P:Int)=(((t-b)/P:Nat):Int):=rfl
   have d1:(b:Int)/(P:Int)=((b/P:Nat):Int):=rfl
   have d2:(t:Int)/(P:Int)=((t/P:Nat):Int):=rfl
   have r1:(b:Int)%(P:Int)=((b%P:Nat):Int):=rfl
   have r2:(t:Int)%(P:Int)=((t%P:Nat):Int):=rfl
   have q1:=Nat.div_le_self b P
   have q2:=Nat.div_le_self t P
   have q3:=Nat.div_le_self (t-b) P
   generalize (t-b)/P=D at *
   generalize t-b=TB at *
   generalize b/P=B at *
   generalize t/P=T at *
   generalize b%P=rB at *
   generalize t%P=rT at *
   have b1:(B:Int)%512=((B%512:Nat):Int):=rfl
   have b2:(T:Int)%512=((T%512:Nat):Int):=rfl
   have m1:B%512<512:=by omega
   have m2:T%512<512:=by omega
   generalize B%512=B' at *
   generalize T%512=T' at *
   go_wp2_with fail
   refine (HP.out _).mono ?_
   rintro en w1 ⟨rfl,rfl⟩
   have nz:((P:Int)==0)=false:=by simp;omega
   go_wp2
   ·have h1:rB=0:=by omega
    have h2:rT=0:=by omega
    have h3:D≤511:=by omega
    rw [if_pos (by rw [hok];omega)] at hx
    clear hok
    go_region
    all_goals
     go_wp2
     exact bodyPost_ret (v:=exV (k,B',T',0)) (by simp [exV,results,Tryz.results79,go_sem]) rfl ⟨by rw [←hx.out],((Below.refl _ _).alloc (Nat.le_refl _) _).drew⟩
   all_goals
    rw [if_neg (by rw [hok];omega)] at hx
    clear hok
    first | exact ⟨⟨k+1,by omega,by go_num,hx⟩,by simp [intOf];omega⟩ | (go_round;case rel=>exact ⟨k+1,by omega,by go_num,hx⟩;case measure=>simp [intOf];omega)
  ·have:k=9:=by omega
   subst this
   go_wp2
   exact bodyPost_ret (v:=exV (0,0,0,5)) (by simp [exV,results,Tryz.results79,go_sem]) rfl ⟨by rw [←hx.out];rfl,(Below.refl _ _).alloc (Nat.le_refl _) _⟩
end Go.Proofs.YtnkoknfihhdelaaGreatDoor.Cp
