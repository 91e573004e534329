import Derived.Test.YtnkoknfihhdelaaGreatDoorProg
import Derived.WalkKit
import Derived.ProofKit
import Derived.OpenShut
import Derived.Below
import Derived.WalkSmall
import Derived.BigQuiet
import Derived.Deep.QuietTactic
import Derived.LoopTactic
import Derived.Lib.Hide
import Derived.Deep.OwnRows
import Derived.Laws.MakeOwn
import Derived.Laws.AppendOwn
import Derived.IntWalk
import Derived.Laws.OwnMore
import Derived.OwnWalk
import Derived.WalkLawsBesides
import Derived.WalkSpells
import Derived.Laws.BitsAllLaws
import Derived.Deep.Draws
namespace Go.Proofs.YtnkoknfihhdelaaGreatDoor.Pt
open Go.ChangeShapes Go.WideShapes Go.ChangeAt Go.RowKit
set_option linter.unusedVariables false
set_option maxRecDepth 100000
def isSz (s:Int):Bool:=decide (s=1∨s=2∨s=4∨s=8)
theorem retb {a b:Bool} (h:a=b):Ending.returned (.bool a)=.returned (.bool b):=by rw [h]
theorem c25 (s:Int) (w:World):Calls Tryz.prog 122 #[.int .i64 s] w fun e w'=>e=.returned (.bool (isSz s))∧w=w':=by
 by_cases h1:s=1
 ·subst h1;go_enter Tryz.func122,Tryz.ntmps122;go_wp2;go_ret;exact ⟨rfl,rfl⟩
 by_cases h2:s=2
 ·subst h2;go_enter Tryz.func122,Tryz.ntmps122;go_wp2;go_ret;exact ⟨rfl,rfl⟩
 by_cases h4:s=4
 ·subst h4;go_enter Tryz.func122,Tryz.ntmps122;go_wp2;go_ret;exact ⟨rfl,rfl⟩
 by_cases h8:s=8
 ·subst h8;go_enter Tryz.func122,Tryz.ntmps122;go_wp2;go_ret;exact ⟨rfl,rfl⟩
 have e:isSz s=false:=by unfold isSz;simp;omega
 have b1:(s==1)=false:=by simpa using h1
 have b2:(s==2)=false:=by simpa using h2
 have b4:(s==4)=false:=by simpa using h4
 have b8:(s==8)=false:=by simpa using h8
 rw [e]
 go_enter Tryz.func122,Tryz.ntmps122
 go_wp2
 go_ret
 exact ⟨rfl,rfl⟩
theorem bdiv (n d:Nat) (hd:0<d):((n:Int)/(d:Int)==0)=decide (n<d):=by
 have e:(n:Int)/(d:Int)=((n/d:Nat):Int):=by simp
 rw [e,Bool.eq_iff_iff]
 simp only [beq_iff_eq,decide_eq_true_eq]
 have:=Nat.div_eq_zero_iff (a:=n) (b:=d)
 omega
theorem c26 (n s:Nat) (hn:n<18446744073709551616) (hs:s=1∨s=2∨s=4∨s=8) (w:World):Calls Tryz.prog 123 #[.int .u64 (n:Int),.int .i64 (s:Int)] w fun e w'=>e=.returned (.bool (decide (n<256 ^ s)))∧w=w':=by
 have q1:decide (n<256 ^ 1)=((n:Int)/256==0):=(bdiv n 256 (by omega)).symm
 have q2:decide (n<256 ^ 2)=((n:Int)/65536==0):=(bdiv n 65536 (by omega)).symm
 have q4:decide (n<256 ^ 4)=((n:Int)/4294967296==0):=(bdiv n 4294967296 (by omega)).symm
 have q8:decide (n<256 ^ 8)=true:=decide_eq_true (by simpa using hn)
 have Q1:=Lib.hid q1
 have Q2:=Lib.hid q2
 have Q4:=Lib.hid q4
 have Q8:=Lib.hid q8
 clear q1 q2 q4 q8
 rcases hs with rfl | rfl | rfl | rfl
 ·go_enter Tryz.func123,Tryz.ntmps123
  go_wp2
  go_ret
  exact ⟨retb Q1.out.symm,rfl⟩
 ·go_enter Tryz.func123,Tryz.ntmps123
  go_wp2
  go_ret
  exact ⟨retb Q2.out.symm,rfl⟩
 ·go_enter Tryz.func123,Tryz.ntmps123
  go_wp2
  go_ret
  exact ⟨retb Q4.out.symm,rfl⟩
 ·go_enter Tryz.func123,Tryz.ntmps123
  go_wp2
  go_ret
  exact ⟨retb Q8.out.symm,rfl⟩
theorem info5:(Tryz.prog.info? 5).map (fun i=>(i.zero,i.size,i.bytes))=some (some (.int .u8 0),1,1):=by kernel_rfl
def bt (n i:Nat):Nat:=n/256 ^ i%256
def Made (w w':World) (v:Value) (n:Nat) (f:Nat→Nat):Prop :=
 Below w.heap.size w w'∧∃ A c,v=.slice A n c∧(0<n→∃ b,A=some ⟨b,0,none⟩∧w.heap.size≤b∧b<w'.heap.size∧∀ j,j<n→w'.cell? ⟨b,j,none⟩=some (.int .u8 (f j:Int)))
def PutOut (w:World) (n s:Nat) (e:Ending) (w':World):Prop:=∃ v,e=.returned (.tuple #[v,.int .i64 0])∧Made w w' v s (bt n)
def PutR (w:World) (n s:Nat) (i:Value) (wr:World):Prop:=∃ k:Nat,k≤s∧i=.int .i64 (k:Int)∧Below w.heap.size w wr∧wr.rowIs w.heap.size 5 s (fun j=>if j<k then .int .u8 (bt n j:Int) else .int .u8 0)
theorem PutR.step {w wr:World} {n s k:Nat} {v:Value} (hk:k<s) (hb:Below w.heap.size w wr) (hr:wr.rowIs w.heap.size 5 s (fun j=>if j<k then .int .u8 (bt n j:Int) else .int .u8 0)) (hv:v=.int .u8 (bt n k:Int)) :
  PutR w n s (.int .i64 ((k+1:Nat):Int)) (wr.setCell ⟨w.heap.size,k,none⟩ v):=by
 subst hv
 refine ⟨k+1,hk,rfl,hb.setCell (Nat.le_refl _) _,(hr.set k _).congr fun j _=>?_⟩
 by_cases h1:j=k
 ·subst h1;rw [if_pos rfl,if_pos (by omega)]
 ·rw [if_neg h1]
  by_cases h2:j<k
  ·rw [if_pos h2,if_pos (by omega)]
  ·rw [if_neg h2,if_neg (by omega)]
theorem PutR.done {w wr:World} {n s c:Nat} (hb:Below w.heap.size w wr) (hr:wr.rowIs w.heap.size 5 s (fun j=>if j<s then .int .u8 (bt n j:Int) else .int .u8 0)):PutOut w n s (.returned (.tuple #[.slice (some ⟨w.heap.size,0,none⟩) s c,.int .i64 0])) wr :=
 ⟨_,rfl,hb,_,_,rfl,fun _=>⟨_,rfl,Nat.le_refl _,hr.lt,fun j hj=>by rw [hr.cell hj,if_pos hj]⟩⟩
set_option maxHeartbeats 2000000 in
theorem c9 (n s:Nat) (hn:n<18446744073709551616) (hs:s=1∨s=2∨s=4∨s=8) (hf:n<256 ^ s) (w:World):Calls Tryz.prog 83 #[.int .u64 (n:Int),.int .i64 (s:Int)] w (PutOut w n s):=by
 have k25:=c25 s
 have k26:=c26 n s hn hs
 rw [show isSz (s:Int)=true from by unfold isSz;rcases hs with rfl | rfl | rfl | rfl <;> rfl] at k25
 rw [decide_eq_true hf] at k26
 have K25:=Lib.hid k25
 have K26:=Lib.hid k26
 obtain ⟨i0,hi,hz0,hz1,hz2⟩:=info_parts info5
 have hmk:=fun W=>run_make_row (P:=Tryz.prog) 93 5 i0 (.int .u8 0) Tryz.underlying93 hi hz0 hz1 rfl .i64 .i64 s (by rw [hz2];omega) (by omega) W
 have hs8:s≤8:=by omega
 clear hs hf k25 k26
 go_enter Tryz.func83,Tryz.ntmps83
 go_wp2_with (first | (go_at_call 122;refine (K25.out _).mono ?_;rintro _ _ ⟨rfl,rfl⟩) | (go_at_call 123;refine (K26.out _).mono ?_;rintro _ _ ⟨rfl,rfl⟩))
 have h0:PutR w n s (.int .i64 0) (w.alloc (.cells (madeCells #[.int .u8 0] s) 5)):=⟨0,Nat.zero_le _,rfl,(Below.refl _ _).alloc (Nat.le_refl _) _,(World.rowIs_made w _ s 5).congr fun j _=>by rw [if_neg (by omega)]⟩
 go_loopw [21] (PutR w n s) (fun i _=>s-(intOf i).toNat)
 case atStart=>exact h0
 case round =>
  obtain ⟨k,hk,rfl,hb,hr⟩:=hrel
  clear h0 hmk K25 K26
  by_cases hlt:k<s
  ·have hc:=hr.cell hlt
   rw [if_neg (by omega)] at hc
   have hfz:=hr.frozen k
   have HR:=Lib.hid hr
   clear hr
   have h8:k=0∨k=1∨k=2∨k=3∨k=4∨k=5∨k=6∨k=7:=by omega
   rcases h8 with rfl | rfl | rfl | rfl | rfl | rfl | rfl | rfl
   all_goals
    go_wp2
    go_roundw
    case rel=>exact PutR.step hlt hb HR.out (congrArg (Value.int .u8) (by unfold bt;simp only [Nat.reducePow];omega))
    case measure=>simp [intOf];omega
  ·obtain rfl:k=s:=by omega
   go_wp2
   go_ret2
   exact PutR.done hb hr
def btL (n k:Nat):List Value:=(List.range k).map (fun i=>.int .u8 (bt n i:Int))
theorem btL_succ (n k m:Nat) (hm:m=n/256 ^ k):btL n (k+1)=btL n k++[.int .u8 ((m%256:Nat):Int)]:=by
 subst hm;unfold btL;rw [List.range_succ,List.map_append];rfl
def RPutR (w:World) (n s:Nat) (i v q:Value) (wr:World):Prop:=∃ k m:Nat,k≤s∧i=.int .i64 (k:Int)∧q=.int .u64 (m:Int)∧m<18446744073709551616∧m=n/256 ^ k∧Below w.heap.size w wr∧wr.ownsRow w.heap.size 5 1 v k (btL n k)
theorem RPutR.step {w wr w2:World} {n s k m:Nat} {v v2:Value} {o:Obj} {x:Value} (hk:k<s) (hm:m<18446744073709551616) (he:m=n/256 ^ k) (hb:Below w.heap.size w wr) (hown0:wr.ownsRow w.heap.size 5 1 v k (btL n k)) (hx:x=.int .u8 ((m%256:Nat):Int))
  (hown:w2.ownsRow w.heap.size 5 1 v2 (k+1) (btL n k++[x])) (hg:(wr.alloc o).grownBy w2 v.ownBlock):RPutR w n s (.int .i64 ((k+1:Nat):Int)) v2 (.int .u64 ((m/256:Nat):Int)) w2:=by
 subst hx
 refine ⟨k+1,m/256,hk,rfl,rfl,by omega,by rw [he,Nat.pow_succ,Nat.div_div_eq_div_mul],?_,by rw [btL_succ n k m he];exact hown⟩
 refine (hb.alloc hb.size o).grown hg (by have:=hb.size;simp;omega) (fun g hg'=>?_)
 exact (hown0.lt g hg').1
def rowL (f:Nat→Nat) (n:Nat):List Value:=(List.range n).map (fun i=>.int .u8 (f i:Int))
theorem rowL_get (f:Nat→Nat) (n j:Nat) (h:j<n):(rowL f n)[j]?=some (.int .u8 (f j:Int)):=by
 unfold rowL
 rw [List.getElem?_map,List.getElem?_range h];rfl
theorem rowL_one (f:Nat→Nat) (n:Nat):∀ u∈rowL f n,u.oneCell'=true:=by
 intro u hu
 obtain ⟨i,_,rfl⟩:=List.mem_map.1 hu
 rfl
def Rd (w:World) (A:Option Addr) (n:Nat) (f:Nat→Nat):Prop :=
 0<n→∃ b o,A=some ⟨b,o,none⟩∧b<w.heap.size∧∀ j,j<n→w.cell? ⟨b,o+j,none⟩=some (.int .u8 (f j:Int))
theorem Rd.below {w w':World} {A:Option Addr} {n:Nat} {f:Nat→Nat} (h:Rd w A n f) (hb:Below w.heap.size w w'):Rd w' A n f:=fun h0=>by
 obtain ⟨b,o,e,hlt,hc⟩:=h h0
 exact ⟨b,o,e,Nat.lt_of_lt_of_le hlt hb.size,fun j hj=>(hb.cell hlt).trans (hc j hj)⟩
theorem Rd.drewN {w:World} {A:Option Addr} {n:Nat} {f:Nat→Nat} (h:Rd w A n f) (q:Nat):Rd (w.drewN q) A n f:=h
def alike (n:Nat) (f g:Nat→Nat):Prop:=∀ j,j<n→f j=g j
theorem alike.succ {n:Nat} {f g:Nat→Nat} (h:alike n f g) (he:f n=g n):alike (n+1) f g:=fun j hj=>by
 by_cases hjn:j=n
 ·rw [hjn];exact he
 ·exact h j (by omega)
theorem Rd.cut {w:World} {A:Option Addr} {n p k:Nat} {f:Nat→Nat} (h:Rd w A n f) (hp:p+k≤n):Rd w (A.map fun x=>x.add p) k (fun j=>f (p+j)):=fun h0=>by
 obtain ⟨b,o,rfl,hb,hc⟩:=h (by omega)
 refine ⟨b,o+p,?_,hb,fun j hj=>?_⟩
 ·by_cases hp0:p=0
  ·subst hp0;rfl
  ·simp [Addr.add,hp0]
 ·rw [Nat.add_assoc];exact hc (p+j) (by omega)
def CutOk (w:World) (A:Option Addr) (p k:Nat) (f:Nat→Nat) (e:Ending) (w':World):Prop:=∃ A',e=.returned (.tuple #[.slice A' k k,.int .i64 0])∧w=w'∧Rd w A' k (fun j=>f (p+j))
theorem c28 (A:Option Addr) (n c p k:Nat) (f:Nat→Nat) (w:World) (hn:n≤c) (hc:c≤9223372036854775807) (hA:Rd w A n f) (hA0:A=none→c=0) (hp:p+k≤n) :
  Calls Tryz.prog 120 #[.slice A n c,.int .i64 (p:Int),.int .i64 (k:Int)] w (CutOk w A p k f):=by
 have q1:decide ((p:Int)<0)=false:=by simp
 have q2:decide ((k:Int)<0)=false:=by simp
 have q3:decide (n<p)=false:=by simp;omega
 have q4:decide ((n:Int)-(p:Int)<(k:Int))=false:=by simp;omega
 have f1:(p:Int)+(k:Int)≤(c:Int):=by omega
 have f2:(0:Int)≤(p:Int)+(k:Int):=by omega
 have f3:(p:Int)≤(p:Int)+(k:Int):=by omega
 go_enter Tryz.func120,Tryz.ntmps120
 go_wp2
 all_goals
  go_ret2
  first
   | exact ⟨_,rfl,rfl,hA.cut hp⟩
   | (obtain rfl:k=0:=by omega
      exact ⟨_,rfl,rfl,fun h0=>absurd h0 (by omega)⟩)
def nm (f:Nat→Nat):Nat→Nat
 | 0=>0
 | k+1=>nm f k+f k*256 ^ k
theorem nm_lt (f:Nat→Nat) (hf:∀ j,f j<256):∀ k,nm f k<256 ^ k
 | 0=>by simp [nm]
 | k+1=>by
  have h1:=nm_lt f hf k
  have h2:=Nat.mul_le_mul_right (256 ^ k) (Nat.le_of_lt_succ (hf k))
  have h3:(256:Nat) ^ (k+1)=256 ^ k*256:=Nat.pow_succ ..
  show nm f k+f k*256 ^ k<_
  rw [h3]
  omega
theorem orb (m x k:Nat) (hk:k≤7) (hm:m<256 ^ k) (hx:x<256) (hlt:x*256 ^ k<18446744073709551616) (P:Int) (hP:P=((256 ^ k:Nat):Int)) :
  bits .or .u64 (m:Int) ((x:Int)*P)=((m+x*256 ^ k:Nat):Int):=by
 subst hP
 have h2:(x:Int)*((256 ^ k:Nat):Int)=((x*256 ^ k:Nat):Int):=(Int.natCast_mul ..).symm
 have hp:(256:Nat) ^ k≤256 ^ 7:=Nat.pow_le_pow_right (by omega) hk
 rw [h2,u64_or_nat m (x*256 ^ k) (by omega) hlt]
 congr 1
 have e:(256:Nat) ^ k=2 ^ (8*k):=by rw [Nat.pow_mul]
 rw [e] at hm ⊢
 have:=Nat.two_pow_add_eq_or_of_lt hm x
 rw [Nat.or_comm,Nat.mul_comm x,←this,Nat.add_comm]
theorem orb0 (m x:Nat) (hm:m<256 ^ 0) (hx:x<256):bits .or .u64 (m:Int) (x:Int)=((m+x*256 ^ 0:Nat):Int):=by
 have:=orb m x 0 (by omega) hm hx (by omega) 1 rfl
 rwa [Int.mul_one] at this
theorem orb1 (m x:Nat) (hm:m<256 ^ 1) (hx:x<256):bits .or .u64 (m:Int) ((x:Int)*256)=((m+x*256 ^ 1:Nat):Int) :=
 orb m x 1 (by omega) hm hx (by simp only [Nat.reducePow];omega) 256 (by simp only [Nat.reducePow];rfl)
theorem orb2 (m x:Nat) (hm:m<256 ^ 2) (hx:x<256):bits .or .u64 (m:Int) ((x:Int)*65536)=((m+x*256 ^ 2:Nat):Int) :=
 orb m x 2 (by omega) hm hx (by simp only [Nat.reducePow];omega) 65536 (by simp only [Nat.reducePow];rfl)
theorem orb3 (m x:Nat) (hm:m<256 ^ 3) (hx:x<256):bits .or .u64 (m:Int) ((x:Int)*16777216)=((m+x*256 ^ 3:Nat):Int) :=
 orb m x 3 (by omega) hm hx (by simp only [Nat.reducePow];omega) 16777216 (by simp only [Nat.reducePow];rfl)
theorem orb4 (m x:Nat) (hm:m<256 ^ 4) (hx:x<256):bits .or .u64 (m:Int) ((x:Int)*4294967296)=((m+x*256 ^ 4:Nat):Int) :=
 orb m x 4 (by omega) hm hx (by simp only [Nat.reducePow];omega) 4294967296 (by simp only [Nat.reducePow];rfl)
theorem orb5 (m x:Nat) (hm:m<256 ^ 5) (hx:x<256):bits .or .u64 (m:Int) ((x:Int)*1099511627776)=((m+x*256 ^ 5:Nat):Int) :=
 orb m x 5 (by omega) hm hx (by simp only [Nat.reducePow];omega) 1099511627776 (by simp only [Nat.reducePow];rfl)
theorem orb6 (m x:Nat) (hm:m<256 ^ 6) (hx:x<256):bits .or .u64 (m:Int) ((x:Int)*281474976710656)=((m+x*256 ^ 6:Nat):Int) :=
 orb m x 6 (by omega) hm hx (by simp only [Nat.reducePow];omega) 281474976710656 (by simp only [Nat.reducePow];rfl)
theorem orb7 (m x:Nat) (hm:m<256 ^ 7) (hx:x<256):bits .or .u64 (m:Int) ((x:Int)*72057594037927936)=((m+x*256 ^ 7:Nat):Int) :=
 orb m x 7 (by omega) hm hx (by simp only [Nat.reducePow];omega) 72057594037927936 (by simp only [Nat.reducePow];rfl)
def GetR (w:World) (f:Nat→Nat) (s:Nat) (i v:Value) (wr:World):Prop:=∃ k:Nat,k≤s∧i=.int .i64 (k:Int)∧v=.int .u64 (nm f k:Int)∧wr=w
set_option maxHeartbeats 2000000 in
theorem c14 (A:Option Addr) (n c p s:Nat) (f:Nat→Nat) (w:World) (hf:∀ j,f j<256) (hn:n≤c) (hc:c≤9223372036854775807) (hA:Rd w A n f) (hA0:A=none→c=0) (hs:s=1∨s=2∨s=4∨s=8) (hp:p+s≤n) :
  Calls Tryz.prog 82 #[.slice A n c,.int .i64 (p:Int),.int .i64 (s:Int)] w fun e w'=>e=.returned (.tuple #[.int .u64 (nm (fun j=>f (p+j)) s:Int),.int .i64 0])∧w=w':=by
 have k25:=c25 s
 rw [show isSz (s:Int)=true from by unfold isSz;rcases hs with rfl | rfl | rfl | rfl <;> rfl] at k25
 have k28:=c28 A n c p s f w hn hc hA hA0 hp
 have K25:=Lib.hid k25
 have K28:=Lib.hid k28
 have hs8:s≤8∧0<s:=by omega
 have hf':∀ j,(fun j=>f (p+j)) j<256:=fun j=>hf _
 clear hs k25 k28 hA hA0 hp
 obtain ⟨g,hg⟩:∃ g,g=fun j=>f (p+j):=⟨_,rfl⟩
 rw [←hg] at hf' ⊢
 have HG:=Lib.hid hg
 clear hf hg
 go_enter Tryz.func82,Tryz.ntmps82
 go_wp2_with fail
 refine (K25.out _).mono ?_
 rintro _ _ ⟨rfl,rfl⟩
 go_wp2_with fail
 refine K28.out.mono ?_
 rintro _ _ ⟨A',rfl,rfl,hR⟩
 rw [←HG.out] at hR
 obtain ⟨b,o,rfl,hb,hcell⟩:=hR hs8.2
 clear HG hR
 clear K25 K28
 have HC:=Lib.hid hcell
 clear hcell
 go_wp2_with fail
 go_loopw [28,10] (GetR w g s) (fun i _ _=>s-(intOf i).toNat)
 case atStart=>exact ⟨0,Nat.zero_le _,rfl,rfl,rfl⟩
 case round =>
  obtain ⟨k,hk,rfl,rfl,rfl⟩:=hrel
  by_cases hlt:k<s
  ·have hc0:=HC.out k hlt
   have hx:=hf' k
   have hm:=nm_lt g hf' k
   have hsucc:nm g (k+1)=nm g k+g k*256 ^ k:=rfl
   clear HC hf'
   generalize nm g k=m at *
   generalize g k=x at *
   have HS:=Lib.hid hsucc
   clear hsucc
   have h8:k=0∨k=1∨k=2∨k=3∨k=4∨k=5∨k=6∨k=7:=by omega
   rcases h8 with rfl | rfl | rfl | rfl | rfl | rfl | rfl | rfl
   all_goals
    try simp only [Nat.add_zero] at hc0
    go_wp2
    go_roundw
    case rel=>exact ⟨_,hlt,rfl,by rw [HS.out];exact congrArg (Value.int .u64) (by with_reducible first | exact orb0 m x hm hx | exact orb1 m x hm hx | exact orb2 m x hm hx | exact orb3 m x hm hx | exact orb4 m x hm hx | exact orb5 m x hm hx | exact orb6 m x hm hx | exact orb7 m x hm hx),rfl⟩
    case measure=>simp [intOf];omega
  ·obtain rfl:k=s:=by omega
   go_wp2
   go_ret2
   exact ⟨rfl,rfl⟩
def allz (n:Nat) (f:Nat→Nat):Prop:=∀ j,j<n→f j=0
theorem allz.succ {n:Nat} {f:Nat→Nat} (h:allz n f) (he:f n=0):allz (n+1) f:=fun j hj=>by
 by_cases hjn:j=n
 ·rw [hjn];exact he
 ·exact h j (by omega)
def f3 (j:Nat):Nat:=if j=0 then 2 else if j=1 then 1 else 5
def f10 (j:Nat):Nat:=if j=0 then 1 else 0
theorem Made.rd {w w':World} {A:Option Addr} {n c:Nat} {f:Nat→Nat} (h:0<n→∃ b,A=some ⟨b,0,none⟩∧w.heap.size≤b∧b<w'.heap.size∧∀ j,j<n→w'.cell? ⟨b,j,none⟩=some (.int .u8 (f j:Int))):Rd w' A n f:=fun h0=>by
 obtain ⟨b,e,_,h2,h3⟩:=h h0
 exact ⟨b,0,e,h2,fun j hj=>by rw [Nat.zero_add];exact h3 j hj⟩
theorem below_drewN {B:Nat} {a w:World} (h:Below B a w) (n:Nat):Below B a (w.drewN n):=⟨h.os,h.tape,h.output,h.size,h.block⟩
end Go.Proofs.YtnkoknfihhdelaaGreatDoor.Pt
