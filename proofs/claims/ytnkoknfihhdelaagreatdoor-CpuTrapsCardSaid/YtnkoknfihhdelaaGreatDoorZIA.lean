import Derived.Test.YtnkoknfihhdelaaGreatDoorProg
import Derived.WalkKit
import Derived.ProofKit
import Derived.OpenShut
import Derived.Below
import Derived.WalkSmall
import Derived.BigQuiet
import Derived.Deep.QuietTactic
import Derived.Deep.RegionHeld3
import Derived.LoopTactic
import Derived.Lib.Hide
import Derived.Laws.BitsAllLaws
import Derived.Deep.Draws
import Derived.Laws.EntriesVeiled
namespace Go.Proofs.YtnkoknfihhdelaaGreatDoor.In
open Go.ChangeShapes Go.WideShapes Go.ChangeAt Go.RowKit
set_option linter.unusedVariables false
set_option maxRecDepth 100000
theorem ret1 {k:IntKind} {a b:Int} (h:a=b):Ending.returned (.int k a)=.returned (.int k b):=by rw [h]
theorem retb {a b:Bool} (h:a=b):Ending.returned (.bool a)=.returned (.bool b):=by rw [h]
theorem or_field (x m i k:Nat) (hx:x/2 ^ i%2 ^ k=0) (hm:m<2 ^ k):x ||| m*2 ^ i=x+m*2 ^ i:=by
 have h1:=Nat.div_add_mod x (2 ^ i)
 have h2:=Nat.mod_lt x (show 0<2 ^ i from Nat.two_pow_pos i)
 have h3:=Nat.div_add_mod (x/2 ^ i) (2 ^ k)
 generalize x%2 ^ i=l at *
 generalize x/2 ^ i/2 ^ k=h at *
 rw [hx,Nat.add_zero] at h3
 have e1:x=(2 ^ k*h)*2 ^ i+l:=by rw [←h3,Nat.mul_comm (2 ^ i)] at h1;omega
 have j1:(2 ^ k*h)*2 ^ i ||| l=(2 ^ k*h)*2 ^ i+l:=nat_join i _ l (Nat.mul_mod_left _ _) h2
 have j2:m*2 ^ i ||| l=m*2 ^ i+l:=nat_join i _ l (Nat.mul_mod_left _ _) h2
 have j3:2 ^ k*h ||| m=2 ^ k*h+m:=nat_join k _ m (Nat.mul_mod_right _ _) hm
 have j4:(2 ^ k*h+m)*2 ^ i ||| l=(2 ^ k*h+m)*2 ^ i+l:=nat_join i _ l (Nat.mul_mod_left _ _) h2
 have j5:(2 ^ k*h)*2 ^ i ||| m*2 ^ i=(2 ^ k*h+m)*2 ^ i:=by
  rw [←Nat.shiftLeft_eq,←Nat.shiftLeft_eq,←Nat.shiftLeft_eq,←j3]
  exact (Nat.shiftLeft_or_distrib ..).symm
 rw [e1,←j1,Nat.or_assoc,Nat.or_comm l,←Nat.or_assoc,j5,j4,j1,Nat.add_mul]
 omega
theorem or32 (x m i k:Nat) (hx:x/2 ^ i%2 ^ k=0) (hm:m<2 ^ k) (hs:x+m*2 ^ i<4294967296) (M:Int) (hM:M=((m*2 ^ i:Nat):Int)) :
  bits .or .u32 (x:Int) M=((x+m*2 ^ i:Nat):Int):=by
 rw [hM,u32_or_nat _ _ (by omega) (by omega),or_field x m i k hx hm]
theorem and32 (x k:Nat) (hx:x<4294967296) (hk:k≤32) (M:Int) (hM:M=((2 ^ k-1:Nat):Int)):bits .and .u32 (x:Int) M=((x%2 ^ k:Nat):Int):=by
 have h:(2:Nat) ^ k≤2 ^ 32:=Nat.pow_le_pow_right (by omega) hk
 rw [hM,u32_and_nat _ _ hx (by omega),Nat.and_two_pow_sub_one_eq_mod]
theorem andNot (n:Nat) (hn:n<4294967296):bits .andNot .u32 (n:Int) 4095=((n/4096*4096:Nat):Int):=by
 have h:=u32_andNot_nat n 4095 hn (by omega)
 rw [show ((4095:Nat):Int)=4095 from rfl] at h
 rw [h]
 congr 1
 have e:n=n/4096*2 ^ 12+n%4096:=by omega
 have h2:n%4096<2 ^ 12:=by omega
 have h1:n/4096<2 ^ 20:=by omega
 generalize n/4096=a at *
 generalize n%4096=b at *
 subst e
 have j:a*2 ^ 12 ||| b=a*2 ^ 12+b:=nat_join 12 _ b (Nat.mul_mod_left _ _) h2
 rw [←j]
 apply Nat.eq_of_testBit_eq
 intro i
 have c:(4294967295-4095:Nat)=(2 ^ 20-1) <<< 12:=by decide
 rw [c,←Nat.shiftLeft_eq,Nat.testBit_and,Nat.testBit_or,Nat.testBit_shiftLeft,Nat.testBit_shiftLeft,Nat.testBit_two_pow_sub_one]
 by_cases hi:12≤i
 ·have hb:b.testBit i=false:=Nat.testBit_lt_two_pow (Nat.lt_of_lt_of_le h2 (Nat.pow_le_pow_right (by omega) hi))
  rw [hb]
  by_cases hj:i-12<20
  ·simp [hi,hj]
  ·have ha:a.testBit (i-12)=false:=Nat.testBit_lt_two_pow (Nat.lt_of_lt_of_le h1 (Nat.pow_le_pow_right (by omega) (by omega)))
   simp [ha]
 ·simp [hi]
theorem ofInt_neg20:(BitVec.ofInt 32 (-1048576)).toNat=4293918720:=by decide
theorem ofInt_neg12:(BitVec.ofInt 32 (-4096)).toNat=4294963200:=by decide
theorem i32wrap (n:Int):IntKind.i32.wrap n=wrap32 n:=by simp [IntKind.wrap,IntKind.bits,IntKind.signed,wrap32];omega
theorem or_neg20 (b:Nat) (hb:b<1048576):bits .or .i32 (-1048576) (b:Int)=(b:Int)-1048576:=by
 show IntKind.i32.wrap ((BitVec.ofInt 32 (-1048576) ||| BitVec.ofInt 32 (b:Int)).toNat:Int)=_
 rw [BitVec.toNat_or,ofInt_neg20,ofInt_u32 b (by omega),i32wrap,nat_join 20 4293918720 b (by decide) hb]
 unfold wrap32;omega
theorem or_neg12 (b:Nat) (hb:b<4096):bits .or .i32 (-4096) (b:Int)=(b:Int)-4096:=by
 show IntKind.i32.wrap ((BitVec.ofInt 32 (-4096) ||| BitVec.ofInt 32 (b:Int)).toNat:Int)=_
 rw [BitVec.toNat_or,ofInt_neg12,ofInt_u32 b (by omega),i32wrap,nat_join 12 4294963200 b (by decide) hb]
 unfold wrap32;omega
theorem or_i0 (b:Nat) (hb:b<1048576):bits .or .i32 0 (b:Int)=(b:Int):=by
 show IntKind.i32.wrap ((BitVec.ofInt 32 0 ||| BitVec.ofInt 32 (b:Int)).toNat:Int)=_
 rw [BitVec.toNat_or,show (BitVec.ofInt 32 0).toNat=0 by decide,ofInt_u32 b (by omega),i32wrap,Nat.zero_or]
 unfold wrap32;omega
def i32 (n:Int):Prop:=-2147483648≤n∧n≤2147483647
def mayF (f:Nat) (n:Int):Bool :=
 match f with
 | 0=>decide (n%4096=0)
 | 1=>decide (-1048576≤n∧n<1048576∧n%2=0)
 | 2=>decide (-2048≤n∧n<2048)
 | 3=>decide (0≤n∧n≤4095)
 | 4=>decide (0≤n∧n≤31)
 | 5=>decide (-2048≤n∧n<2048)
 | 6=>decide (-4096≤n∧n<4096∧n%2=0)
 | 9=>decide (27≤n∧n≤31)
 | _=>decide (n=0)
def u32 (n:Int):Nat:=(n%4294967296).toNat
def putF (f:Nat) (n:Int):Nat :=
 match f with
 | 0=>u32 n
 | 1=>u32 n/1048576%2*2147483648+u32 n/2%1024*2097152+u32 n/2048%2*1048576+u32 n/4096%256*4096
 | 2=>u32 n%4096*1048576
 | 3=>u32 n%4096*1048576
 | 4=>u32 n%4096*1048576
 | 5=>u32 n/32%128*33554432+u32 n%32*128
 | 6=>u32 n/4096%2*2147483648+u32 n/32%64*33554432+u32 n/2%16*256+u32 n/2048%2*128
 | 9=>u32 n%4096*1048576
 | _=>u32 n
def sgn (x h:Nat):Int:=if x<h then (x:Int) else (x:Int)-2*(h:Int)
def getF (f:Nat) (w:Nat):Int :=
 match f with
 | 0=>sgn (w/4096*4096) 2147483648
 | 1=>sgn (w/2147483648%2*1048576+w/4096%256*4096+w/1048576%2*2048+w/2097152%1024*2) 1048576
 | 2=>sgn (w/1048576) 2048
 | 3=>((w/1048576:Nat):Int)
 | 4=>((w/1048576%32:Nat):Int)
 | 5=>sgn (w/33554432*32+w/128%32) 2048
 | 6=>sgn (w/2147483648*4096+w/128%2*2048+w/33554432%64*32+w/256%16*2) 4096
 | 9=>((w/1048576%32:Nat):Int)
 | _=>0
theorem u32_cast (n:Int):n%4294967296=((u32 n:Nat):Int):=by unfold u32;omega
theorem u32_lt (n:Int):u32 n<4294967296:=by unfold u32;omega
theorem tm0 (a b:Int):(a.tmod b==0)=decide (a%b=0):=by
 rw [Bool.eq_iff_iff,beq_iff_eq,decide_eq_true_eq,←Int.dvd_iff_tmod_eq_zero,←Int.dvd_iff_emod_eq_zero]
theorem may0 (n:Int) (b0:Nat) (hn:i32 n) (w:World) (h0:w.cell? ⟨b0,0,none⟩=some (.int .i32 4096)):Calls Tryz.prog 174 #[.int .i32 n,.pointer (some ⟨b0,0,none⟩)] w fun en w'=>en=.returned (.bool (mayF 0 n))∧w=w':=by
 obtain ⟨hn1,hn2⟩:=hn
 go_enter Tryz.func174,Tryz.ntmps174
 go_wp2
 all_goals
  go_ret
  refine ⟨retb ?_,rfl⟩
  rw [Bool.eq_iff_iff]
  simp only [mayF,tm0,decide_eq_true_eq]
theorem may1 (n:Int) (b0 b1:Nat) (hn:i32 n) (w:World) (h0:w.cell? ⟨b0,0,none⟩=some (.int .u64 21)) (h1:w.cell? ⟨b1,0,none⟩=some (.int .i32 2)):Calls Tryz.prog 176 #[.int .i32 n,.pointer (some ⟨b0,0,none⟩),.pointer (some ⟨b1,0,none⟩)] w fun en w'=>en=.returned (.bool (mayF 1 n))∧w=w':=by
 obtain ⟨hn1,hn2⟩:=hn
 go_enter Tryz.func176,Tryz.ntmps176
 go_wp2
 all_goals
  go_ret
  refine ⟨retb ?_,rfl⟩
  rw [Bool.eq_iff_iff]
  simp only [mayF,tm0,decide_eq_true_eq]
  try simp
  try omega
theorem may2 (n:Int) (b0 b1:Nat) (hn:i32 n) (w:World) (h0:w.cell? ⟨b0,0,none⟩=some (.int .u64 12)) (h1:w.cell? ⟨b1,0,none⟩=some (.int .i32 1)):Calls Tryz.prog 176 #[.int .i32 n,.pointer (some ⟨b0,0,none⟩),.pointer (some ⟨b1,0,none⟩)] w fun en w'=>en=.returned (.bool (mayF 2 n))∧w=w':=by
 obtain ⟨hn1,hn2⟩:=hn
 go_enter Tryz.func176,Tryz.ntmps176
 go_wp2
 all_goals
  go_ret
  refine ⟨retb ?_,rfl⟩
  rw [Bool.eq_iff_iff]
  simp only [mayF,decide_eq_true_eq]
  try simp
  try omega
theorem may6 (n:Int) (b0 b1:Nat) (hn:i32 n) (w:World) (h0:w.cell? ⟨b0,0,none⟩=some (.int .u64 13)) (h1:w.cell? ⟨b1,0,none⟩=some (.int .i32 2)):Calls Tryz.prog 176 #[.int .i32 n,.pointer (some ⟨b0,0,none⟩),.pointer (some ⟨b1,0,none⟩)] w fun en w'=>en=.returned (.bool (mayF 6 n))∧w=w':=by
 obtain ⟨hn1,hn2⟩:=hn
 go_enter Tryz.func176,Tryz.ntmps176
 go_wp2
 all_goals
  go_ret
  refine ⟨retb ?_,rfl⟩
  rw [Bool.eq_iff_iff]
  simp only [mayF,tm0,decide_eq_true_eq]
  try simp
  try omega
theorem may3 (n:Int) (b0 b1:Nat) (hn:i32 n) (w:World) (h0:w.cell? ⟨b0,0,none⟩=some (.int .i32 0)) (h1:w.cell? ⟨b1,0,none⟩=some (.int .i32 4095)):Calls Tryz.prog 179 #[.int .i32 n,.pointer (some ⟨b0,0,none⟩),.pointer (some ⟨b1,0,none⟩)] w fun en w'=>en=.returned (.bool (mayF 3 n))∧w=w':=by
 obtain ⟨hn1,hn2⟩:=hn
 go_enter Tryz.func179,Tryz.ntmps179
 go_wp2
 all_goals
  go_ret
  refine ⟨retb ?_,rfl⟩
  rw [Bool.eq_iff_iff]
  simp only [mayF,decide_eq_true_eq]
  try simp
  try omega
theorem may4 (n:Int) (b0 b1:Nat) (hn:i32 n) (w:World) (h0:w.cell? ⟨b0,0,none⟩=some (.int .i32 0)) (h1:w.cell? ⟨b1,0,none⟩=some (.int .i32 31)):Calls Tryz.prog 179 #[.int .i32 n,.pointer (some ⟨b0,0,none⟩),.pointer (some ⟨b1,0,none⟩)] w fun en w'=>en=.returned (.bool (mayF 4 n))∧w=w':=by
 obtain ⟨hn1,hn2⟩:=hn
 go_enter Tryz.func179,Tryz.ntmps179
 go_wp2
 all_goals
  go_ret
  refine ⟨retb ?_,rfl⟩
  rw [Bool.eq_iff_iff]
  simp only [mayF,decide_eq_true_eq]
  try simp
  try omega
theorem may7 (n:Int) (b0 b1:Nat) (hn:i32 n) (w:World) (h0:w.cell? ⟨b0,0,none⟩=some (.int .i32 0)) (h1:w.cell? ⟨b1,0,none⟩=some (.int .i32 0)):Calls Tryz.prog 179 #[.int .i32 n,.pointer (some ⟨b0,0,none⟩),.pointer (some ⟨b1,0,none⟩)] w fun en w'=>en=.returned (.bool (mayF 7 n))∧w=w':=by
 obtain ⟨hn1,hn2⟩:=hn
 go_enter Tryz.func179,Tryz.ntmps179
 go_wp2
 all_goals
  go_ret
  refine ⟨retb ?_,rfl⟩
  rw [Bool.eq_iff_iff]
  simp only [mayF,decide_eq_true_eq]
  try simp
  try omega
theorem may9 (n:Int) (b0 b1:Nat) (hn:i32 n) (w:World) (h0:w.cell? ⟨b0,0,none⟩=some (.int .i32 27)) (h1:w.cell? ⟨b1,0,none⟩=some (.int .i32 31)):Calls Tryz.prog 179 #[.int .i32 n,.pointer (some ⟨b0,0,none⟩),.pointer (some ⟨b1,0,none⟩)] w fun en w'=>en=.returned (.bool (mayF 9 n))∧w=w':=by
 obtain ⟨hn1,hn2⟩:=hn
 go_enter Tryz.func179,Tryz.ntmps179
 go_wp2
 all_goals
  go_ret
  refine ⟨retb ?_,rfl⟩
  rw [Bool.eq_iff_iff]
  simp only [mayF,decide_eq_true_eq]
  try simp
  try omega
theorem put0 (n:Int) (b0:Nat) (hn:i32 n) (w:World) (h0:w.cell? ⟨b0,0,none⟩=some (.int .u64 0)):Calls Tryz.prog 175 #[.int .i32 n,.pointer (some ⟨b0,0,none⟩)] w fun en w'=>en=.returned (.int .u32 (putF 0 n:Int))∧w=w':=by
 obtain ⟨hn1,hn2⟩:=hn
 go_enter Tryz.func175,Tryz.ntmps175
 go_wp2
 all_goals
  go_ret
  refine ⟨ret1 ?_,rfl⟩
  simp only [putF]
  have:=u32_cast n
  have:=u32_lt n
  omega
theorem put2 (n:Int) (b0:Nat) (hn:i32 n) (w:World) (h0:w.cell? ⟨b0,0,none⟩=some (.int .u64 20)):Calls Tryz.prog 175 #[.int .i32 n,.pointer (some ⟨b0,0,none⟩)] w fun en w'=>en=.returned (.int .u32 (putF 2 n:Int))∧w=w':=by
 obtain ⟨hn1,hn2⟩:=hn
 go_enter Tryz.func175,Tryz.ntmps175
 go_wp2
 all_goals
  go_ret
  refine ⟨ret1 ?_,rfl⟩
  simp only [putF]
  have:=u32_cast n
  have:=u32_lt n
  omega
theorem bit_20_31 (n:Nat) (hn:n<4294967296) (w:World):Calls Tryz.prog 177 #[.int .u32 (n:Int),.int .u64 20,.int .u64 31] w fun en w'=>en=.returned (.int .u32 ((n/1048576%2*2147483648:Nat):Int))∧w=w':=by
 have e:=and32 (n/1048576) 1 (by omega) (by omega) 1 rfl
 rw [show (2:Nat) ^ 1=2 from rfl] at e
 have l:n/1048576%2<2:=Nat.mod_lt _ (by omega)
 have E:=Lib.hid e
 clear e
 go_enter Tryz.func177,Tryz.ntmps177
 go_wp2
 all_goals
  go_ret
  refine ⟨ret1 ?_,rfl⟩
  have e:=E.out
  rw [show ((n/1048576:Nat):Int)=(n:Int)/1048576 from rfl] at e
  rw [e]
  omega
theorem bit_11_20 (n:Nat) (hn:n<4294967296) (w:World):Calls Tryz.prog 177 #[.int .u32 (n:Int),.int .u64 11,.int .u64 20] w fun en w'=>en=.returned (.int .u32 ((n/2048%2*1048576:Nat):Int))∧w=w':=by
 have e:=and32 (n/2048) 1 (by omega) (by omega) 1 rfl
 rw [show (2:Nat) ^ 1=2 from rfl] at e
 have l:n/2048%2<2:=Nat.mod_lt _ (by omega)
 have E:=Lib.hid e
 clear e
 go_enter Tryz.func177,Tryz.ntmps177
 go_wp2
 all_goals
  go_ret
  refine ⟨ret1 ?_,rfl⟩
  have e:=E.out
  rw [show ((n/2048:Nat):Int)=(n:Int)/2048 from rfl] at e
  rw [e]
  omega
theorem bit_20_11 (n:Nat) (hn:n<4294967296) (w:World):Calls Tryz.prog 177 #[.int .u32 (n:Int),.int .u64 20,.int .u64 11] w fun en w'=>en=.returned (.int .u32 ((n/1048576%2*2048:Nat):Int))∧w=w':=by
 have e:=and32 (n/1048576) 1 (by omega) (by omega) 1 rfl
 rw [show (2:Nat) ^ 1=2 from rfl] at e
 have l:n/1048576%2<2:=Nat.mod_lt _ (by omega)
 have E:=Lib.hid e
 clear e
 go_enter Tryz.func177,Tryz.ntmps177
 go_wp2
 all_goals
  go_ret
  refine ⟨ret1 ?_,rfl⟩
  have e:=E.out
  rw [show ((n/1048576:Nat):Int)=(n:Int)/1048576 from rfl] at e
  rw [e]
  omega
theorem bit_12_31 (n:Nat) (hn:n<4294967296) (w:World):Calls Tryz.prog 177 #[.int .u32 (n:Int),.int .u64 12,.int .u64 31] w fun en w'=>en=.returned (.int .u32 ((n/4096%2*2147483648:Nat):Int))∧w=w':=by
 have e:=and32 (n/4096) 1 (by omega) (by omega) 1 rfl
 rw [show (2:Nat) ^ 1=2 from rfl] at e
 have l:n/4096%2<2:=Nat.mod_lt _ (by omega)
 have E:=Lib.hid e
 clear e
 go_enter Tryz.func177,Tryz.ntmps177
 go_wp2
 all_goals
  go_ret
  refine ⟨ret1 ?_,rfl⟩
  have e:=E.out
  rw [show ((n/4096:Nat):Int)=(n:Int)/4096 from rfl] at e
  rw [e]
  omega
theorem bit_11_7 (n:Nat) (hn:n<4294967296) (w:World):Calls Tryz.prog 177 #[.int .u32 (n:Int),.int .u64 11,.int .u64 7] w fun en w'=>en=.returned (.int .u32 ((n/2048%2*128:Nat):Int))∧w=w':=by
 have e:=and32 (n/2048) 1 (by omega) (by omega) 1 rfl
 rw [show (2:Nat) ^ 1=2 from rfl] at e
 have l:n/2048%2<2:=Nat.mod_lt _ (by omega)
 have E:=Lib.hid e
 clear e
 go_enter Tryz.func177,Tryz.ntmps177
 go_wp2
 all_goals
  go_ret
  refine ⟨ret1 ?_,rfl⟩
  have e:=E.out
  rw [show ((n/2048:Nat):Int)=(n:Int)/2048 from rfl] at e
  rw [e]
  omega
theorem bit_7_11 (n:Nat) (hn:n<4294967296) (w:World):Calls Tryz.prog 177 #[.int .u32 (n:Int),.int .u64 7,.int .u64 11] w fun en w'=>en=.returned (.int .u32 ((n/128%2*2048:Nat):Int))∧w=w':=by
 have e:=and32 (n/128) 1 (by omega) (by omega) 1 rfl
 rw [show (2:Nat) ^ 1=2 from rfl] at e
 have l:n/128%2<2:=Nat.mod_lt _ (by omega)
 have E:=Lib.hid e
 clear e
 go_enter Tryz.func177,Tryz.ntmps177
 go_wp2
 all_goals
  go_ret
  refine ⟨ret1 ?_,rfl⟩
  have e:=E.out
  rw [show ((n/128:Nat):Int)=(n:Int)/128 from rfl] at e
  rw [e]
  omega
theorem fld_1_10_21 (n:Nat) (hn:n<4294967296) (w:World):Calls Tryz.prog 178 #[.int .u32 (n:Int),.int .u64 1,.int .u64 10,.int .u64 21] w fun en w'=>en=.returned (.int .u32 ((n/2%1024*2097152:Nat):Int))∧w=w':=by
 have e:=and32 (n/2) 10 (by omega) (by omega) 1023 rfl
 rw [show (2:Nat) ^ 10=1024 from rfl] at e
 have l:n/2%1024<1024:=Nat.mod_lt _ (by omega)
 have E:=Lib.hid e
 clear e
 go_enter Tryz.func178,Tryz.ntmps178
 go_wp2
 all_goals
  go_ret
  refine ⟨ret1 ?_,rfl⟩
  have e:=E.out
  rw [show ((n/2:Nat):Int)=(n:Int)/2 from rfl] at e
  rw [e]
  omega
theorem fld_12_8_12 (n:Nat) (hn:n<4294967296) (w:World):Calls Tryz.prog 178 #[.int .u32 (n:Int),.int .u64 12,.int .u64 8,.int .u64 12] w fun en w'=>en=.returned (.int .u32 ((n/4096%256*4096:Nat):Int))∧w=w':=by
 have e:=and32 (n/4096) 8 (by omega) (by omega) 255 rfl
 rw [show (2:Nat) ^ 8=256 from rfl] at e
 have l:n/4096%256<256:=Nat.mod_lt _ (by omega)
 have E:=Lib.hid e
 clear e
 go_enter Tryz.func178,Tryz.ntmps178
 go_wp2
 all_goals
  go_ret
  refine ⟨ret1 ?_,rfl⟩
  have e:=E.out
  rw [show ((n/4096:Nat):Int)=(n:Int)/4096 from rfl] at e
  rw [e]
  omega
theorem fld_21_10_1 (n:Nat) (hn:n<4294967296) (w:World):Calls Tryz.prog 178 #[.int .u32 (n:Int),.int .u64 21,.int .u64 10,.int .u64 1] w fun en w'=>en=.returned (.int .u32 ((n/2097152%1024*2:Nat):Int))∧w=w':=by
 have e:=and32 (n/2097152) 10 (by omega) (by omega) 1023 rfl
 rw [show (2:Nat) ^ 10=1024 from rfl] at e
 have l:n/2097152%1024<1024:=Nat.mod_lt _ (by omega)
 have E:=Lib.hid e
 clear e
 go_enter Tryz.func178,Tryz.ntmps178
 go_wp2
 all_goals
  go_ret
  refine ⟨ret1 ?_,rfl⟩
  have e:=E.out
  rw [show ((n/2097152:Nat):Int)=(n:Int)/2097152 from rfl] at e
  rw [e]
  omega
theorem fld_5_7_25 (n:Nat) (hn:n<4294967296) (w:World):Calls Tryz.prog 178 #[.int .u32 (n:Int),.int .u64 5,.int .u64 7,.int .u64 25] w fun en w'=>en=.returned (.int .u32 ((n/32%128*33554432:Nat):Int))∧w=w':=by
 have e:=and32 (n/32) 7 (by omega) (by omega) 127 rfl
 rw [show (2:Nat) ^ 7=128 from rfl] at e
 have l:n/32%128<128:=Nat.mod_lt _ (by omega)
 have E:=Lib.hid e
 clear e
 go_enter Tryz.func178,Tryz.ntmps178
 go_wp2
 all_goals
  go_ret
  refine ⟨ret1 ?_,rfl⟩
  have e:=E.out
  rw [show ((n/32:Nat):Int)=(n:Int)/32 from rfl] at e
  rw [e]
  omega
theorem fld_0_5_7 (n:Nat) (hn:n<4294967296) (w:World):Calls Tryz.prog 178 #[.int .u32 (n:Int),.int .u64 0,.int .u64 5,.int .u64 7] w fun en w'=>en=.returned (.int .u32 ((n/1%32*128:Nat):Int))∧w=w':=by
 have e:=and32 (n/1) 5 (by omega) (by omega) 31 rfl
 rw [show (2:Nat) ^ 5=32 from rfl,Nat.div_one] at e
 have l:n/1%32<32:=Nat.mod_lt _ (by omega)
 have E:=Lib.hid e
 clear e
 go_enter Tryz.func178,Tryz.ntmps178
 go_wp2
 all_goals
  go_ret
  refine ⟨ret1 ?_,rfl⟩
  have e:=E.out
  simp only [Nat.div_one] at e l ⊢
  rw [e]
  omega
theorem fld_7_5_0 (n:Nat) (hn:n<4294967296) (w:World):Calls Tryz.prog 178 #[.int .u32 (n:Int),.int .u64 7,.int .u64 5,.int .u64 0] w fun en w'=>en=.returned (.int .u32 ((n/128%32*1:Nat):Int))∧w=w':=by
 have e:=and32 (n/128) 5 (by omega) (by omega) 31 rfl
 rw [show (2:Nat) ^ 5=32 from rfl] at e
 have l:n/128%32<32:=Nat.mod_lt _ (by omega)
 have E:=Lib.hid e
 clear e
 go_enter Tryz.func178,Tryz.ntmps178
 go_wp2
 all_goals
  go_ret
  refine ⟨ret1 ?_,rfl⟩
  have e:=E.out
  rw [show ((n/128:Nat):Int)=(n:Int)/128 from rfl] at e
  rw [e]
  omega
theorem fld_5_6_25 (n:Nat) (hn:n<4294967296) (w:World):Calls Tryz.prog 178 #[.int .u32 (n:Int),.int .u64 5,.int .u64 6,.int .u64 25] w fun en w'=>en=.returned (.int .u32 ((n/32%64*33554432:Nat):Int))∧w=w':=by
 have e:=and32 (n/32) 6 (by omega) (by omega) 63 rfl
 rw [show (2:Nat) ^ 6=64 from rfl] at e
 have l:n/32%64<64:=Nat.mod_lt _ (by omega)
 have E:=Lib.hid e
 clear e
 go_enter Tryz.func178,Tryz.ntmps178
 go_wp2
 all_goals
  go_ret
  refine ⟨ret1 ?_,rfl⟩
  have e:=E.out
  rw [show ((n/32:Nat):Int)=(n:Int)/32 from rfl] at e
  rw [e]
  omega
theorem fld_1_4_8 (n:Nat) (hn:n<4294967296) (w:World):Calls Tryz.prog 178 #[.int .u32 (n:Int),.int .u64 1,.int .u64 4,.int .u64 8] w fun en w'=>en=.returned (.int .u32 ((n/2%16*256:Nat):Int))∧w=w':=by
 have e:=and32 (n/2) 4 (by omega) (by omega) 15 rfl
 rw [show (2:Nat) ^ 4=16 from rfl] at e
 have l:n/2%16<16:=Nat.mod_lt _ (by omega)
 have E:=Lib.hid e
 clear e
 go_enter Tryz.func178,Tryz.ntmps178
 go_wp2
 all_goals
  go_ret
  refine ⟨ret1 ?_,rfl⟩
  have e:=E.out
  rw [show ((n/2:Nat):Int)=(n:Int)/2 from rfl] at e
  rw [e]
  omega
theorem fld_25_6_5 (n:Nat) (hn:n<4294967296) (w:World):Calls Tryz.prog 178 #[.int .u32 (n:Int),.int .u64 25,.int .u64 6,.int .u64 5] w fun en w'=>en=.returned (.int .u32 ((n/33554432%64*32:Nat):Int))∧w=w':=by
 have e:=and32 (n/33554432) 6 (by omega) (by omega) 63 rfl
 rw [show (2:Nat) ^ 6=64 from rfl] at e
 have l:n/33554432%64<64:=Nat.mod_lt _ (by omega)
 have E:=Lib.hid e
 clear e
 go_enter Tryz.func178,Tryz.ntmps178
 go_wp2
 all_goals
  go_ret
  refine ⟨ret1 ?_,rfl⟩
  have e:=E.out
  rw [show ((n/33554432:Nat):Int)=(n:Int)/33554432 from rfl] at e
  rw [e]
  omega
theorem fld_8_4_1 (n:Nat) (hn:n<4294967296) (w:World):Calls Tryz.prog 178 #[.int .u32 (n:Int),.int .u64 8,.int .u64 4,.int .u64 1] w fun en w'=>en=.returned (.int .u32 ((n/256%16*2:Nat):Int))∧w=w':=by
 have e:=and32 (n/256) 4 (by omega) (by omega) 15 rfl
 rw [show (2:Nat) ^ 4=16 from rfl] at e
 have l:n/256%16<16:=Nat.mod_lt _ (by omega)
 have E:=Lib.hid e
 clear e
 go_enter Tryz.func178,Tryz.ntmps178
 go_wp2
 all_goals
  go_ret
  refine ⟨ret1 ?_,rfl⟩
  have e:=E.out
  rw [show ((n/256:Nat):Int)=(n:Int)/256 from rfl] at e
  rw [e]
  omega
theorem get3 (n b0 b1:Nat) (hn:n<4294967296) (w:World) (h0:w.cell? ⟨b0,0,none⟩=some (.int .u64 20)) (h1:w.cell? ⟨b1,0,none⟩=some (.int .u64 12)):Calls Tryz.prog 180 #[.int .u32 (n:Int),.pointer (some ⟨b0,0,none⟩),.pointer (some ⟨b1,0,none⟩)] w fun en w'=>en=.returned (.int .i32 (getF 3 n))∧w=w':=by
 have e:=and32 (n/1048576) 12 (by omega) (by omega) 4095 rfl
 rw [show (2:Nat) ^ 12=4096 from rfl] at e
 have E:=Lib.hid e
 clear e
 go_enter Tryz.func180,Tryz.ntmps180
 go_wp2
 all_goals
  go_ret
  refine ⟨ret1 ?_,rfl⟩
  have e:=E.out
  rw [show ((n/1048576:Nat):Int)=(n:Int)/1048576 from rfl] at e
  rw [e]
  simp only [getF,wrap32]
  omega
theorem get4 (n b0 b1:Nat) (hn:n<4294967296) (w:World) (h0:w.cell? ⟨b0,0,none⟩=some (.int .u64 20)) (h1:w.cell? ⟨b1,0,none⟩=some (.int .u64 5)):Calls Tryz.prog 180 #[.int .u32 (n:Int),.pointer (some ⟨b0,0,none⟩),.pointer (some ⟨b1,0,none⟩)] w fun en w'=>en=.returned (.int .i32 (getF 4 n))∧w=w':=by
 have e:=and32 (n/1048576) 5 (by omega) (by omega) 31 rfl
 rw [show (2:Nat) ^ 5=32 from rfl] at e
 have E:=Lib.hid e
 clear e
 go_enter Tryz.func180,Tryz.ntmps180
 go_wp2
 all_goals
  go_ret
  refine ⟨ret1 ?_,rfl⟩
  have e:=E.out
  rw [show ((n/1048576:Nat):Int)=(n:Int)/1048576 from rfl] at e
  rw [e]
  simp only [getF,wrap32]
  omega
theorem get7 (n b0 b1:Nat) (hn:n<4294967296) (w:World) (h0:w.cell? ⟨b0,0,none⟩=some (.int .u64 0)) (h1:w.cell? ⟨b1,0,none⟩=some (.int .u64 0)):Calls Tryz.prog 180 #[.int .u32 (n:Int),.pointer (some ⟨b0,0,none⟩),.pointer (some ⟨b1,0,none⟩)] w fun en w'=>en=.returned (.int .i32 (getF 7 n))∧w=w':=by
 have e:=and32 (n/1) 0 (by omega) (by omega) 0 rfl
 rw [show (2:Nat) ^ 0=1 from rfl] at e
 have E:=Lib.hid e
 clear e
 go_enter Tryz.func180,Tryz.ntmps180
 go_wp2
 all_goals
  go_ret
  refine ⟨ret1 ?_,rfl⟩
  have e:=E.out
  simp only [Nat.div_one] at e
  rw [e]
  simp only [getF,wrap32]
  omega
theorem or32' (x m i k P Q X:Nat) (hP:P=2 ^ i) (hQ:Q=2 ^ k) (hX:X=m*P) (hx:x/P%Q=0) (hm:m<Q) (hs:x+X<4294967296):∃ S:Nat,S=x+X∧bits .or .u32 (x:Int) (X:Int)=(S:Int):=by
 subst hP hQ hX
 exact ⟨_,rfl,or32 x m i k hx hm hs _ rfl⟩
theorem w31 (n:Nat) (hn:n<4294967296):∃ s:Nat,s=n/2147483648∧(s=0∧wrap32 (n:Int)/2147483648=0∨s=1∧wrap32 (n:Int)/2147483648=-1):=by
 by_cases h:n<2147483648
 ·refine ⟨_,rfl,Or.inl ⟨Nat.div_eq_of_lt h,?_⟩⟩
  have:wrap32 (n:Int)=n:=by unfold wrap32;omega
  rw [this]
  omega
 ·refine ⟨_,rfl,Or.inr ⟨by omega,?_⟩⟩
  have:wrap32 (n:Int)=n-4294967296:=by unfold wrap32;omega
  rw [this]
  omega
theorem put1 (n:Int) (hn:i32 n) (w:World):Calls Tryz.prog 157 #[.int .i32 n] w fun en w'=>en=.returned (.int .u32 (putF 1 n:Int))∧w=w':=by
 obtain ⟨hn1,hn2⟩:=hn
 have hu:=u32_cast n
 have hl:=u32_lt n
 have hp:putF 1 n=u32 n/1048576%2*2147483648+u32 n/2%1024*2097152+u32 n/2048%2*1048576+u32 n/4096%256*4096:=rfl
 generalize u32 n=u at *
 obtain ⟨m0,X0,hm0,hb0,hX0,k0⟩:∃ m X:Nat,m=u/1048576%2∧m<2∧X=m*2147483648∧∀ w,Calls Tryz.prog 177 #[.int .u32 (u:Int),.int .u64 20,.int .u64 31] w fun en w'=>en=.returned (.int .u32 (X:Int))∧w=w' :=
  ⟨_,_,rfl,Nat.mod_lt _ (by omega),rfl,fun w=>bit_20_31 u hl w⟩
 obtain ⟨m1,X1,hm1,hb1,hX1,k1⟩:∃ m X:Nat,m=u/2%1024∧m<1024∧X=m*2097152∧∀ w,Calls Tryz.prog 178 #[.int .u32 (u:Int),.int .u64 1,.int .u64 10,.int .u64 21] w fun en w'=>en=.returned (.int .u32 (X:Int))∧w=w' :=
  ⟨_,_,rfl,Nat.mod_lt _ (by omega),rfl,fun w=>fld_1_10_21 u hl w⟩
 obtain ⟨m2,X2,hm2,hb2,hX2,k2⟩:∃ m X:Nat,m=u/2048%2∧m<2∧X=m*1048576∧∀ w,Calls Tryz.prog 177 #[.int .u32 (u:Int),.int .u64 11,.int .u64 20] w fun en w'=>en=.returned (.int .u32 (X:Int))∧w=w' :=
  ⟨_,_,rfl,Nat.mod_lt _ (by omega),rfl,fun w=>bit_11_20 u hl w⟩
 obtain ⟨m3,X3,hm3,hb3,hX3,k3⟩:∃ m X:Nat,m=u/4096%256∧m<256∧X=m*4096∧∀ w,Calls Tryz.prog 178 #[.int .u32 (u:Int),.int .u64 12,.int .u64 8,.int .u64 12] w fun en w'=>en=.returned (.int .u32 (X:Int))∧w=w' :=
  ⟨_,_,rfl,Nat.mod_lt _ (by omega),rfl,fun w=>fld_12_8_12 u hl w⟩
 have hS0:X0=X0:=rfl
 have M0:=Lib.hid hm0
 have M1:=Lib.hid hm1
 have M2:=Lib.hid hm2
 have M3:=Lib.hid hm3
 clear hm0 hm1 hm2 hm3
 obtain ⟨S1,hS1,e1⟩:=or32' X0 m1 21 10 2097152 1024 X1 rfl rfl hX1 (by omega) hb1 (by omega)
 obtain ⟨S2,hS2,e2⟩:=or32' S1 m2 20 1 1048576 2 X2 rfl rfl hX2 (by omega) hb2 (by omega)
 obtain ⟨S3,hS3,e3⟩:=or32' S2 m3 12 8 4096 256 X3 rfl rfl hX3 (by omega) hb3 (by omega)
 have K0:=Lib.hid k0
 clear k0
 have K1:=Lib.hid k1
 clear k1
 have K2:=Lib.hid k2
 clear k2
 have K3:=Lib.hid k3
 clear k3
 have hm0:=M0.out;have hm1:=M1.out;have hm2:=M2.out;have hm3:=M3.out
 have hq:putF 1 n=S3:=by omega
 rw [hq]
 clear hq hp hm0 hX0 hS0 hm1 hX1 hS1 hm2 hX2 hS2 hm3 hX3 hS3
 go_enter Tryz.func157,Tryz.ntmps157
 go_wp2_with fail
 refine (K0.out _).mono ?_
 rintro _ _ ⟨rfl,rfl⟩
 go_wp2_with fail
 refine (K1.out _).mono ?_
 rintro _ _ ⟨rfl,rfl⟩
 go_wp2_with fail
 refine (K2.out _).mono ?_
 rintro _ _ ⟨rfl,rfl⟩
 go_wp2_with fail
 refine (K3.out _).mono ?_
 rintro _ _ ⟨rfl,rfl⟩
 go_wp2_with fail
 go_ret
 exact ⟨rfl,rfl⟩
theorem put5 (n:Int) (hn:i32 n) (w:World):Calls Tryz.prog 162 #[.int .i32 n] w fun en w'=>en=.returned (.int .u32 (putF 5 n:Int))∧w=w':=by
 obtain ⟨hn1,hn2⟩:=hn
 have hu:=u32_cast n
 have hl:=u32_lt n
 have hp:putF 5 n=u32 n/32%128*33554432+u32 n/1%32*128:=by simp only [putF,Nat.div_one]
 generalize u32 n=u at *
 obtain ⟨m0,X0,hm0,hb0,hX0,k0⟩:∃ m X:Nat,m=u/32%128∧m<128∧X=m*33554432∧∀ w,Calls Tryz.prog 178 #[.int .u32 (u:Int),.int .u64 5,.int .u64 7,.int .u64 25] w fun en w'=>en=.returned (.int .u32 (X:Int))∧w=w' :=
  ⟨_,_,rfl,Nat.mod_lt _ (by omega),rfl,fun w=>fld_5_7_25 u hl w⟩
 obtain ⟨m1,X1,hm1,hb1,hX1,k1⟩:∃ m X:Nat,m=u/1%32∧m<32∧X=m*128∧∀ w,Calls Tryz.prog 178 #[.int .u32 (u:Int),.int .u64 0,.int .u64 5,.int .u64 7] w fun en w'=>en=.returned (.int .u32 (X:Int))∧w=w' :=
  ⟨_,_,rfl,Nat.mod_lt _ (by omega),rfl,fun w=>fld_0_5_7 u hl w⟩
 have hS0:X0=X0:=rfl
 have M0:=Lib.hid hm0
 have M1:=Lib.hid hm1
 clear hm0 hm1
 obtain ⟨S1,hS1,e1⟩:=or32' X0 m1 7 5 128 32 X1 rfl rfl hX1 (by omega) hb1 (by omega)
 have K0:=Lib.hid k0
 clear k0
 have K1:=Lib.hid k1
 clear k1
 have hm0:=M0.out;have hm1:=M1.out
 have hq:putF 5 n=S1:=by omega
 rw [hq]
 clear hq hp hm0 hX0 hS0 hm1 hX1 hS1
 go_enter Tryz.func162,Tryz.ntmps162
 go_wp2_with fail
 refine (K0.out _).mono ?_
 rintro _ _ ⟨rfl,rfl⟩
 go_wp2_with fail
 refine (K1.out _).mono ?_
 rintro _ _ ⟨rfl,rfl⟩
 go_wp2_with fail
 go_ret
 exact ⟨rfl,rfl⟩
theorem put6 (n:Int) (hn:i32 n) (w:World):Calls Tryz.prog 164 #[.int .i32 n] w fun en w'=>en=.returned (.int .u32 (putF 6 n:Int))∧w=w':=by
 obtain ⟨hn1,hn2⟩:=hn
 have hu:=u32_cast n
 have hl:=u32_lt n
 have hp:putF 6 n=u32 n/4096%2*2147483648+u32 n/32%64*33554432+u32 n/2%16*256+u32 n/2048%2*128:=rfl
 generalize u32 n=u at *
 obtain ⟨m0,X0,hm0,hb0,hX0,k0⟩:∃ m X:Nat,m=u/4096%2∧m<2∧X=m*2147483648∧∀ w,Calls Tryz.prog 177 #[.int .u32 (u:Int),.int .u64 12,.int .u64 31] w fun en w'=>en=.returned (.int .u32 (X:Int))∧w=w' :=
  ⟨_,_,rfl,Nat.mod_lt _ (by omega),rfl,fun w=>bit_12_31 u hl w⟩
 obtain ⟨m1,X1,hm1,hb1,hX1,k1⟩:∃ m X:Nat,m=u/32%64∧m<64∧X=m*33554432∧∀ w,Calls Tryz.prog 178 #[.int .u32 (u:Int),.int .u64 5,.int .u64 6,.int .u64 25] w fun en w'=>en=.returned (.int .u32 (X:Int))∧w=w' :=
  ⟨_,_,rfl,Nat.mod_lt _ (by omega),rfl,fun w=>fld_5_6_25 u hl w⟩
 obtain ⟨m2,X2,hm2,hb2,hX2,k2⟩:∃ m X:Nat,m=u/2%16∧m<16∧X=m*256∧∀ w,Calls Tryz.prog 178 #[.int .u32 (u:Int),.int .u64 1,.int .u64 4,.int .u64 8] w fun en w'=>en=.returned (.int .u32 (X:Int))∧w=w' :=
  ⟨_,_,rfl,Nat.mod_lt _ (by omega),rfl,fun w=>fld_1_4_8 u hl w⟩
 obtain ⟨m3,X3,hm3,hb3,hX3,k3⟩:∃ m X:Nat,m=u/2048%2∧m<2∧X=m*128∧∀ w,Calls Tryz.prog 177 #[.int .u32 (u:Int),.int .u64 11,.int .u64 7] w fun en w'=>en=.returned (.int .u32 (X:Int))∧w=w' :=
  ⟨_,_,rfl,Nat.mod_lt _ (by omega),rfl,fun w=>bit_11_7 u hl w⟩
 have hS0:X0=X0:=rfl
 have M0:=Lib.hid hm0
 have M1:=Lib.hid hm1
 have M2:=Lib.hid hm2
 have M3:=Lib.hid hm3
 clear hm0 hm1 hm2 hm3
 obtain ⟨S1,hS1,e1⟩:=or32' X0 m1 25 6 33554432 64 X1 rfl rfl hX1 (by omega) hb1 (by omega)
 obtain ⟨S2,hS2,e2⟩:=or32' S1 m2 8 4 256 16 X2 rfl rfl hX2 (by omega) hb2 (by omega)
 obtain ⟨S3,hS3,e3⟩:=or32' S2 m3 7 1 128 2 X3 rfl rfl hX3 (by omega) hb3 (by omega)
 have K0:=Lib.hid k0
 clear k0
 have K1:=Lib.hid k1
 clear k1
 have K2:=Lib.hid k2
 clear k2
 have K3:=Lib.hid k3
 clear k3
 have hm0:=M0.out;have hm1:=M1.out;have hm2:=M2.out;have hm3:=M3.out
 have hq:putF 6 n=S3:=by omega
 rw [hq]
 clear hq hp hm0 hX0 hS0 hm1 hX1 hS1 hm2 hX2 hS2 hm3 hX3 hS3
 go_enter Tryz.func164,Tryz.ntmps164
 go_wp2_with fail
 refine (K0.out _).mono ?_
 rintro _ _ ⟨rfl,rfl⟩
 go_wp2_with fail
 refine (K1.out _).mono ?_
 rintro _ _ ⟨rfl,rfl⟩
 go_wp2_with fail
 refine (K2.out _).mono ?_
 rintro _ _ ⟨rfl,rfl⟩
 go_wp2_with fail
 refine (K3.out _).mono ?_
 rintro _ _ ⟨rfl,rfl⟩
 go_wp2_with fail
 go_ret
 exact ⟨rfl,rfl⟩
theorem get2 (n:Nat) (hn:n<4294967296) (w:World):Calls Tryz.prog 159 #[.int .u32 (n:Int)] w fun en w'=>en=.returned (.int .i32 (getF 2 n))∧w=w':=by
 go_enter Tryz.func159,Tryz.ntmps159
 go_wp2
 go_ret
 refine ⟨ret1 ?_,rfl⟩
 simp only [getF,wrap32,sgn]
 split <;> omega
theorem get0 (n:Nat) (hn:n<4294967296) (w:World):Calls Tryz.prog 155 #[.int .u32 (n:Int)] w fun en w'=>en=.returned (.int .i32 (getF 0 n))∧w=w':=by
 have e:=Lib.hid (andNot n hn)
 go_enter Tryz.func155,Tryz.ntmps155
 go_wp2
 go_ret
 refine ⟨ret1 ?_,rfl⟩
 rw [e.out]
 simp only [getF,wrap32,sgn]
 split <;> omega
set_option maxHeartbeats 1000000 in
theorem get1 (n:Nat) (hl:n<4294967296) (w:World):Calls Tryz.prog 158 #[.int .u32 (n:Int)] w fun en w'=>en=.returned (.int .i32 (getF 1 n))∧w=w':=by
 obtain ⟨m0,X0,hm0,hb0,hX0,k0⟩:∃ m X:Nat,m=n/2097152%1024∧m<1024∧X=m*2∧∀ w,Calls Tryz.prog 178 #[.int .u32 (n:Int),.int .u64 21,.int .u64 10,.int .u64 1] w fun en w'=>en=.returned (.int .u32 (X:Int))∧w=w' :=
  ⟨_,_,rfl,Nat.mod_lt _ (by omega),rfl,fun w=>fld_21_10_1 n hl w⟩
 obtain ⟨m1,X1,hm1,hb1,hX1,k1⟩:∃ m X:Nat,m=n/1048576%2∧m<2∧X=m*2048∧∀ w,Calls Tryz.prog 177 #[.int .u32 (n:Int),.int .u64 20,.int .u64 11] w fun en w'=>en=.returned (.int .u32 (X:Int))∧w=w' :=
  ⟨_,_,rfl,Nat.mod_lt _ (by omega),rfl,fun w=>bit_20_11 n hl w⟩
 obtain ⟨m2,X2,hm2,hb2,hX2,k2⟩:∃ m X:Nat,m=n/4096%256∧m<256∧X=m*4096∧∀ w,Calls Tryz.prog 178 #[.int .u32 (n:Int),.int .u64 12,.int .u64 8,.int .u64 12] w fun en w'=>en=.returned (.int .u32 (X:Int))∧w=w' :=
  ⟨_,_,rfl,Nat.mod_lt _ (by omega),rfl,fun w=>fld_12_8_12 n hl w⟩
 have hS0:X0=X0:=rfl
 have M0:=Lib.hid hm0
 have M1:=Lib.hid hm1
 have M2:=Lib.hid hm2
 clear hm0 hm1 hm2
 obtain ⟨S1,hS1,e1⟩:=or32' X0 m1 11 1 2048 2 X1 rfl rfl hX1 (by omega) hb1 (by omega)
 obtain ⟨S2,hS2,e2⟩:=or32' S1 m2 12 8 4096 256 X2 rfl rfl hX2 (by rw [Nat.div_eq_of_lt (by omega)]) hb2 (by omega)
 have K0:=Lib.hid k0
 clear k0
 have K1:=Lib.hid k1
 clear k1
 have K2:=Lib.hid k2
 clear k2
 have hb:S2<1048576:=by omega
 have z:wrap32 (S2:Int)=(S2:Int):=by unfold wrap32;omega
 obtain ⟨s,hs,hs1⟩:=w31 n hl
 have hsb:s≤1:=by rcases hs1 with h | h <;> omega
 have Hs1:=Lib.hid hs1
 clear hs1
 have hm0:=M0.out;have hm1:=M1.out;have hm2:=M2.out
 have hf:getF 1 n=-(s:Int)*1048576+(S2:Int):=by
  simp only [getF,sgn,←hs]
  split <;> omega
 rw [hf]
 have o0:=or_i0 S2 (by omega)
 have o1:=or_neg20 S2 (by omega)
 clear hf hs hm0 hX0 hS0 hm1 hX1 hS1 hm2 hX2 hS2
 rcases Hs1.out with ⟨rfl,hq⟩ | ⟨rfl,hq⟩
 ·clear Hs1
  go_enter Tryz.func158,Tryz.ntmps158
  go_wp2_with fail
  refine (K0.out _).mono ?_
  rintro _ _ ⟨rfl,rfl⟩
  go_wp2_with fail
  refine (K1.out _).mono ?_
  rintro _ _ ⟨rfl,rfl⟩
  go_wp2_with fail
  refine (K2.out _).mono ?_
  rintro _ _ ⟨rfl,rfl⟩
  go_wp2_with fail
  go_ret
  exact ⟨ret1 (by omega),rfl⟩
 ·clear Hs1
  go_enter Tryz.func158,Tryz.ntmps158
  go_wp2_with fail
  refine (K0.out _).mono ?_
  rintro _ _ ⟨rfl,rfl⟩
  go_wp2_with fail
  refine (K1.out _).mono ?_
  rintro _ _ ⟨rfl,rfl⟩
  go_wp2_with fail
  refine (K2.out _).mono ?_
  rintro _ _ ⟨rfl,rfl⟩
  go_wp2_with fail
  go_ret
  exact ⟨ret1 (by omega),rfl⟩
set_option maxHeartbeats 1000000 in
theorem get6 (n:Nat) (hl:n<4294967296) (w:World):Calls Tryz.prog 165 #[.int .u32 (n:Int)] w fun en w'=>en=.returned (.int .i32 (getF 6 n))∧w=w':=by
 obtain ⟨m0,X0,hm0,hb0,hX0,k0⟩:∃ m X:Nat,m=n/33554432%64∧m<64∧X=m*32∧∀ w,Calls Tryz.prog 178 #[.int .u32 (n:Int),.int .u64 25,.int .u64 6,.int .u64 5] w fun en w'=>en=.returned (.int .u32 (X:Int))∧w=w' :=
  ⟨_,_,rfl,Nat.mod_lt _ (by omega),rfl,fun w=>fld_25_6_5 n hl w⟩
 obtain ⟨m1,X1,hm1,hb1,hX1,k1⟩:∃ m X:Nat,m=n/256%16∧m<16∧X=m*2∧∀ w,Calls Tryz.prog 178 #[.int .u32 (n:Int),.int .u64 8,.int .u64 4,.int .u64 1] w fun en w'=>en=.returned (.int .u32 (X:Int))∧w=w' :=
  ⟨_,_,rfl,Nat.mod_lt _ (by omega),rfl,fun w=>fld_8_4_1 n hl w⟩
 obtain ⟨m2,X2,hm2,hb2,hX2,k2⟩:∃ m X:Nat,m=n/128%2∧m<2∧X=m*2048∧∀ w,Calls Tryz.prog 177 #[.int .u32 (n:Int),.int .u64 7,.int .u64 11] w fun en w'=>en=.returned (.int .u32 (X:Int))∧w=w' :=
  ⟨_,_,rfl,Nat.mod_lt _ (by omega),rfl,fun w=>bit_7_11 n hl w⟩
 have hS0:X0=X0:=rfl
 have M0:=Lib.hid hm0
 have M1:=Lib.hid hm1
 have M2:=Lib.hid hm2
 clear hm0 hm1 hm2
 obtain ⟨S1,hS1,e1⟩:=or32' X0 m1 1 4 2 16 X1 rfl rfl hX1 (by omega) hb1 (by omega)
 obtain ⟨S2,hS2,e2⟩:=or32' S1 m2 11 1 2048 2 X2 rfl rfl hX2 (by rw [Nat.div_eq_of_lt (by omega)]) hb2 (by omega)
 have K0:=Lib.hid k0
 clear k0
 have K1:=Lib.hid k1
 clear k1
 have K2:=Lib.hid k2
 clear k2
 have hb:S2<4096:=by omega
 have z:wrap32 (S2:Int)=(S2:Int):=by unfold wrap32;omega
 obtain ⟨s,hs,hs1⟩:=w31 n hl
 have hsb:s≤1:=by rcases hs1 with h | h <;> omega
 have Hs1:=Lib.hid hs1
 clear hs1
 have hm0:=M0.out;have hm1:=M1.out;have hm2:=M2.out
 have hf:getF 6 n=-(s:Int)*4096+(S2:Int):=by
  simp only [getF,sgn,←hs]
  split <;> omega
 rw [hf]
 have o0:=or_i0 S2 (by omega)
 have o1:=or_neg12 S2 (by omega)
 clear hf hs hm0 hX0 hS0 hm1 hX1 hS1 hm2 hX2 hS2
 rcases Hs1.out with ⟨rfl,hq⟩ | ⟨rfl,hq⟩
 ·clear Hs1
  go_enter Tryz.func165,Tryz.ntmps165
  go_wp2_with fail
  refine (K0.out _).mono ?_
  rintro _ _ ⟨rfl,rfl⟩
  go_wp2_with fail
  refine (K1.out _).mono ?_
  rintro _ _ ⟨rfl,rfl⟩
  go_wp2_with fail
  refine (K2.out _).mono ?_
  rintro _ _ ⟨rfl,rfl⟩
  go_wp2_with fail
  go_ret
  exact ⟨ret1 (by omega),rfl⟩
 ·clear Hs1
  go_enter Tryz.func165,Tryz.ntmps165
  go_wp2_with fail
  refine (K0.out _).mono ?_
  rintro _ _ ⟨rfl,rfl⟩
  go_wp2_with fail
  refine (K1.out _).mono ?_
  rintro _ _ ⟨rfl,rfl⟩
  go_wp2_with fail
  refine (K2.out _).mono ?_
  rintro _ _ ⟨rfl,rfl⟩
  go_wp2_with fail
  go_ret
  exact ⟨ret1 (by omega),rfl⟩
theorem or_q32 (q:Int) (b:Nat) (hq : -64≤q∧q<64) (hb:b<32):bits .or .i32 (q*32) (b:Int)=q*32+(b:Int):=by
 show IntKind.i32.wrap ((BitVec.ofInt 32 (q*32) ||| BitVec.ofInt 32 (b:Int)).toNat:Int)=_
 rw [BitVec.toNat_or,ofInt_u32 b (by omega),i32wrap,BitVec.toNat_ofInt]
 obtain ⟨m,hm,hm2⟩:∃ m:Nat,(q*32%((2 ^ 32:Nat):Int)).toNat=m∧(m:Int)=q*32%4294967296:=⟨_,rfl,by omega⟩
 rw [hm,nat_join 5 m b (by omega) hb]
 unfold wrap32;omega
theorem w25 (n:Nat) (hn:n<4294967296):∃ q:Int,wrap32 (n:Int)/33554432=q∧-64≤q∧q<64∧((n/33554432<64∧q=((n/33554432:Nat):Int))∨64≤n/33554432∧q=((n/33554432:Nat):Int)-128):=by
 by_cases h:n<2147483648
 ·have:wrap32 (n:Int)=n:=by unfold wrap32;omega
  rw [this]
  exact ⟨_,rfl,by omega,by omega,by omega⟩
 ·have:wrap32 (n:Int)=n-4294967296:=by unfold wrap32;omega
  rw [this]
  exact ⟨_,rfl,by omega,by omega,by omega⟩
theorem get5 (n:Nat) (hn:n<4294967296) (w:World):Calls Tryz.prog 163 #[.int .u32 (n:Int)] w fun en w'=>en=.returned (.int .i32 (getF 5 n))∧w=w':=by
 obtain ⟨q,hq,hq1,hq2,hq3⟩:=w25 n hn
 obtain ⟨m,hm,hb,k⟩:∃ m:Nat,m=n/128%32∧m<32∧∀ w,Calls Tryz.prog 178 #[.int .u32 (n:Int),.int .u64 7,.int .u64 5,.int .u64 0] w fun en w'=>en=.returned (.int .u32 (m:Int))∧w=w' :=
  ⟨_,rfl,Nat.mod_lt _ (by omega),fun w=>by have:=fld_7_5_0 n hn w;simp only [Nat.mul_one] at this;exact this⟩
 have hf:getF 5 n=q*32+(m:Int):=by
  simp only [getF,sgn,←hm]
  generalize n/33554432=t at *
  split <;> omega
 rw [hf]
 have o:=or_q32 q m ⟨hq1,hq2⟩ hb
 have z:wrap32 (m:Int)=(m:Int):=by unfold wrap32;omega
 have z2:wrap32 (q*32)=q*32:=by unfold wrap32;omega
 clear hf hq3 hm
 have K:=Lib.hid k
 clear k
 go_enter Tryz.func163,Tryz.ntmps163
 go_wp2_with fail
 refine (K.out _).mono ?_
 rintro _ _ ⟨rfl,rfl⟩
 go_wp2_with fail
 go_ret
 exact ⟨ret1 (by omega),rfl⟩
theorem reg (n s:Nat) (hn:n<4294967296) (hs:s=7∨s=15∨s=20) (b:Bool) (w:World):Calls Tryz.prog 128 #[.int .u32 (n:Int),.int .u64 (s:Int),.bool b] w fun en w'=>en=.returned (.int .u8 ((if b then n/2 ^ s%32 else 0:Nat):Int))∧w=w':=by
 cases b
 ·go_enter Tryz.func128,Tryz.ntmps128
  go_wp2
  go_ret
  exact ⟨rfl,rfl⟩
 ·obtain ⟨q,hq,e⟩:∃ q:Nat,q=n/2 ^ s∧bits .and .u32 (q:Int) 31=((q%32:Nat):Int):=⟨_,rfl,and32 _ 5 (Nat.lt_of_le_of_lt (Nat.div_le_self _ _) hn) (by omega) 31 rfl⟩
  rw [←hq,if_pos rfl]
  have hl:q%32<32:=Nat.mod_lt _ (by omega)
  generalize q%32=r at *
  rcases hs with rfl | rfl | rfl
  ·have hq2:(n:Int)/128=(q:Int):=by rw [hq];rfl
   clear hq
   go_enter Tryz.func128,Tryz.ntmps128
   go_wp2
   go_ret
   exact ⟨ret1 (by omega),rfl⟩
  ·have hq2:(n:Int)/32768=(q:Int):=by rw [hq];rfl
   clear hq
   go_enter Tryz.func128,Tryz.ntmps128
   go_wp2
   go_ret
   exact ⟨ret1 (by omega),rfl⟩
  ·have hq2:(n:Int)/1048576=(q:Int):=by rw [hq];rfl
   clear hq
   go_enter Tryz.func128,Tryz.ntmps128
   go_wp2
   go_ret
   exact ⟨ret1 (by omega),rfl⟩
theorem have17 (r:Nat) (hr:r<256) (b:Bool) (w:World):Calls Tryz.prog 166 #[.int .u8 (r:Int),.bool b] w fun en w'=>en=.returned (.bool (decide (r=0)||(b&&decide (r<16))))∧w=w':=by
 by_cases h0:r=0
 ·subst h0
  go_enter Tryz.func166,Tryz.ntmps166
  go_wp2
  go_ret
  exact ⟨retb (by simp),rfl⟩
 ·have t:((r:Int)==0)=false:=by simp;omega
  cases b
  all_goals
   go_enter Tryz.func166,Tryz.ntmps166
   go_wp2
   go_ret
   exact ⟨retb (by simp [h0];try omega),rfl⟩
theorem mk27 (v:Int) (w:World):Calls Tryz.prog 153 #[.int .i32 v] w fun en w'=>en=.returned (.func (Fn.func 174) #[] #[.pointer (some ⟨w.heap.size,0,none⟩)])∧w'=(w.alloc (.cells #[.int .i32 v] 21)):=by
 go_enter Tryz.func153,Tryz.ntmps153
 go_wp2
 go_ret
 exact ⟨rfl,rfl⟩
theorem mk28 (v:Int) (w:World):Calls Tryz.prog 154 #[.int .u64 v] w fun en w'=>en=.returned (.func (Fn.func 175) #[] #[.pointer (some ⟨w.heap.size,0,none⟩)])∧w'=(w.alloc (.cells #[.int .u64 v] 105)):=by
 go_enter Tryz.func154,Tryz.ntmps154
 go_wp2
 go_ret
 exact ⟨rfl,rfl⟩
theorem mk30 (v u:Int) (w:World):Calls Tryz.prog 156 #[.int .u64 v,.int .i32 u] w fun en w'=>en=.returned (.func (Fn.func 176) #[] #[.pointer (some ⟨w.heap.size,0,none⟩),.pointer (some ⟨w.heap.size+1,0,none⟩)])∧w'=((w.alloc (.cells #[.int .u64 v] 105)).alloc (.cells #[.int .i32 u] 21)):=by
 go_enter Tryz.func156,Tryz.ntmps156
 go_wp2
 go_ret
 exact ⟨rfl,rfl⟩
theorem mk34 (v u:Int) (w:World):Calls Tryz.prog 160 #[.int .i32 v,.int .i32 u] w fun en w'=>en=.returned (.func (Fn.func 179) #[] #[.pointer (some ⟨w.heap.size,0,none⟩),.pointer (some ⟨w.heap.size+1,0,none⟩)])∧w'=((w.alloc (.cells #[.int .i32 v] 21)).alloc (.cells #[.int .i32 u] 21)):=by
 go_enter Tryz.func160,Tryz.ntmps160
 go_wp2
 go_ret
 exact ⟨rfl,rfl⟩
theorem mk35 (v u:Int) (w:World):Calls Tryz.prog 161 #[.int .u64 v,.int .u64 u] w fun en w'=>en=.returned (.func (Fn.func 180) #[] #[.pointer (some ⟨w.heap.size,0,none⟩),.pointer (some ⟨w.heap.size+1,0,none⟩)])∧w'=((w.alloc (.cells #[.int .u64 v] 105)).alloc (.cells #[.int .u64 u] 105)):=by
 go_enter Tryz.func161,Tryz.ntmps161
 go_wp2
 go_ret
 exact ⟨rfl,rfl⟩
theorem form0 (N:Nat) (w:World) (hN:w.heap.size=N):Calls Tryz.prog 127 #[.int .u8 0] w fun en w'=>en=.returned (.agg #[.int .i64 9,.func (Fn.func 174) #[] #[.pointer (some ⟨N+1,0,none⟩)],.func (Fn.func 175) #[] #[.pointer (some ⟨N+2,0,none⟩)],.func (Fn.func 155) #[] #[]])∧Below N w w'∧N+3≤w'.heap.size∧w'.cell? ⟨N+1,0,none⟩=some (.int .i32 4096)∧w'.cell? ⟨N+2,0,none⟩=some (.int .u64 0):=by
 subst hN
 go_enter Tryz.func127,Tryz.ntmps127
 go_wp2_with (first | (go_at_call 153;refine (mk27 _ _).mono ?_;rintro _ _ ⟨rfl,rfl⟩) | (go_at_call 154;refine (mk28 _ _).mono ?_;rintro _ _ ⟨rfl,rfl⟩) | (go_at_call 156;refine (mk30 _ _ _).mono ?_;rintro _ _ ⟨rfl,rfl⟩) | (go_at_call 160;refine (mk34 _ _ _).mono ?_;rintro _ _ ⟨rfl,rfl⟩) | (go_at_call 161;refine (mk35 _ _ _).mono ?_;rintro _ _ ⟨rfl,rfl⟩))
 refine bodyPost_ret (v:=.agg #[.int .i64 9,.func (Fn.func 174) #[] #[.pointer (some ⟨w.heap.size+1,0,none⟩)],.func (Fn.func 175) #[] #[.pointer (some ⟨w.heap.size+2,0,none⟩)],.func (Fn.func 155) #[] #[]]) (by simp [results,Tryz.results127,go_sem]) rfl ⟨rfl,?_,?_,?_,?_⟩
 ·exact (((Below.refl _ _).alloc (Nat.le_refl _) _).alloc (by simp) _).alloc (by simp;omega) _
 ·simp
 ·go_simp
 ·go_simp
theorem form1 (N:Nat) (w:World) (hN:w.heap.size=N):Calls Tryz.prog 127 #[.int .u8 1] w fun en w'=>en=.returned (.agg #[.int .i64 9,.func (Fn.func 176) #[] #[.pointer (some ⟨N+1,0,none⟩),.pointer (some ⟨N+2,0,none⟩)],.func (Fn.func 157) #[] #[],.func (Fn.func 158) #[] #[]])∧Below N w w'∧N+3≤w'.heap.size∧w'.cell? ⟨N+1,0,none⟩=some (.int .u64 21)∧w'.cell? ⟨N+2,0,none⟩=some (.int .i32 2):=by
 subst hN
 go_enter Tryz.func127,Tryz.ntmps127
 go_wp2_with (first | (go_at_call 153;refine (mk27 _ _).mono ?_;rintro _ _ ⟨rfl,rfl⟩) | (go_at_call 154;refine (mk28 _ _).mono ?_;rintro _ _ ⟨rfl,rfl⟩) | (go_at_call 156;refine (mk30 _ _ _).mono ?_;rintro _ _ ⟨rfl,rfl⟩) | (go_at_call 160;refine (mk34 _ _ _).mono ?_;rintro _ _ ⟨rfl,rfl⟩) | (go_at_call 161;refine (mk35 _ _ _).mono ?_;rintro _ _ ⟨rfl,rfl⟩))
 refine bodyPost_ret (v:=.agg #[.int .i64 9,.func (Fn.func 176) #[] #[.pointer (some ⟨w.heap.size+1,0,none⟩),.pointer (some ⟨w.heap.size+2,0,none⟩)],.func (Fn.func 157) #[] #[],.func (Fn.func 158) #[] #[]]) (by simp [results,Tryz.results127,go_sem]) rfl ⟨rfl,?_,?_,?_,?_⟩
 ·exact (((Below.refl _ _).alloc (Nat.le_refl _) _).alloc (by simp) _).alloc (by simp;omega) _
 ·simp
 ·go_simp
 ·go_simp
theorem form2 (N:Nat) (w:World) (hN:w.heap.size=N):Calls Tryz.prog 127 #[.int .u8 2] w fun en w'=>en=.returned (.agg #[.int .i64 11,.func (Fn.func 176) #[] #[.pointer (some ⟨N+1,0,none⟩),.pointer (some ⟨N+2,0,none⟩)],.func (Fn.func 175) #[] #[.pointer (some ⟨N+3,0,none⟩)],.func (Fn.func 159) #[] #[]])∧Below N w w'∧N+4≤w'.heap.size∧w'.cell? ⟨N+1,0,none⟩=some (.int .u64 12)∧w'.cell? ⟨N+2,0,none⟩=some (.int .i32 1)∧w'.cell? ⟨N+3,0,none⟩=some (.int .u64 20):=by
 subst hN
 go_enter Tryz.func127,Tryz.ntmps127
 go_wp2_with (first | (go_at_call 153;refine (mk27 _ _).mono ?_;rintro _ _ ⟨rfl,rfl⟩) | (go_at_call 154;refine (mk28 _ _).mono ?_;rintro _ _ ⟨rfl,rfl⟩) | (go_at_call 156;refine (mk30 _ _ _).mono ?_;rintro _ _ ⟨rfl,rfl⟩) | (go_at_call 160;refine (mk34 _ _ _).mono ?_;rintro _ _ ⟨rfl,rfl⟩) | (go_at_call 161;refine (mk35 _ _ _).mono ?_;rintro _ _ ⟨rfl,rfl⟩))
 refine bodyPost_ret (v:=.agg #[.int .i64 11,.func (Fn.func 176) #[] #[.pointer (some ⟨w.heap.size+1,0,none⟩),.pointer (some ⟨w.heap.size+2,0,none⟩)],.func (Fn.func 175) #[] #[.pointer (some ⟨w.heap.size+3,0,none⟩)],.func (Fn.func 159) #[] #[]]) (by simp [results,Tryz.results127,go_sem]) rfl ⟨rfl,?_,?_,?_,?_,?_⟩
 ·exact ((((Below.refl _ _).alloc (Nat.le_refl _) _).alloc (by simp) _).alloc (by simp;omega) _).alloc (by simp;omega) _
 ·simp
 ·go_simp
 ·go_simp
 ·go_simp
theorem form3 (N:Nat) (w:World) (hN:w.heap.size=N):Calls Tryz.prog 127 #[.int .u8 3] w fun en w'=>en=.returned (.agg #[.int .i64 11,.func (Fn.func 179) #[] #[.pointer (some ⟨N+1,0,none⟩),.pointer (some ⟨N+2,0,none⟩)],.func (Fn.func 175) #[] #[.pointer (some ⟨N+3,0,none⟩)],.func (Fn.func 180) #[] #[.pointer (some ⟨N+4,0,none⟩),.pointer (some ⟨N+5,0,none⟩)]])∧Below N w w'∧N+6≤w'.heap.size∧w'.cell? ⟨N+1,0,none⟩=some (.int .i32 0)∧w'.cell? ⟨N+2,0,none⟩=some (.int .i32 4095)∧w'.cell? ⟨N+3,0,none⟩=some (.int .u64 20)∧w'.cell? ⟨N+4,0,none⟩=some (.int .u64 20)∧w'.cell? ⟨N+5,0,none⟩=some (.int .u64 12):=by
 subst hN
 go_enter Tryz.func127,Tryz.ntmps127
 go_wp2_with (first | (go_at_call 153;refine (mk27 _ _).mono ?_;rintro _ _ ⟨rfl,rfl⟩) | (go_at_call 154;refine (mk28 _ _).mono ?_;rintro _ _ ⟨rfl,rfl⟩) | (go_at_call 156;refine (mk30 _ _ _).mono ?_;rintro _ _ ⟨rfl,rfl⟩) | (go_at_call 160;refine (mk34 _ _ _).mono ?_;rintro _ _ ⟨rfl,rfl⟩) | (go_at_call 161;refine (mk35 _ _ _).mono ?_;rintro _ _ ⟨rfl,rfl⟩))
 refine bodyPost_ret (v:=.agg #[.int .i64 11,.func (Fn.func 179) #[] #[.pointer (some ⟨w.heap.size+1,0,none⟩),.pointer (some ⟨w.heap.size+2,0,none⟩)],.func (Fn.func 175) #[] #[.pointer (some ⟨w.heap.size+3,0,none⟩)],.func (Fn.func 180) #[] #[.pointer (some ⟨w.heap.size+4,0,none⟩),.pointer (some ⟨w.heap.size+5,0,none⟩)]]) (by simp [results,Tryz.results127,go_sem]) rfl ⟨rfl,?_,?_,?_,?_,?_,?_,?_⟩
 ·exact ((((((Below.refl _ _).alloc (Nat.le_refl _) _).alloc (by simp) _).alloc (by simp;omega) _).alloc (by simp;omega) _).alloc (by simp;omega) _).alloc (by simp;omega) _
 ·simp
 ·go_simp
 ·go_simp
 ·go_simp
 ·go_simp
 ·go_simp
theorem form4 (N:Nat) (w:World) (hN:w.heap.size=N):Calls Tryz.prog 127 #[.int .u8 4] w fun en w'=>en=.returned (.agg #[.int .i64 11,.func (Fn.func 179) #[] #[.pointer (some ⟨N+1,0,none⟩),.pointer (some ⟨N+2,0,none⟩)],.func (Fn.func 175) #[] #[.pointer (some ⟨N+3,0,none⟩)],.func (Fn.func 180) #[] #[.pointer (some ⟨N+4,0,none⟩),.pointer (some ⟨N+5,0,none⟩)]])∧Below N w w'∧N+6≤w'.heap.size∧w'.cell? ⟨N+1,0,none⟩=some (.int .i32 0)∧w'.cell? ⟨N+2,0,none⟩=some (.int .i32 31)∧w'.cell? ⟨N+3,0,none⟩=some (.int .u64 20)∧w'.cell? ⟨N+4,0,none⟩=some (.int .u64 20)∧w'.cell? ⟨N+5,0,none⟩=some (.int .u64 5):=by
 subst hN
 go_enter Tryz.func127,Tryz.ntmps127
 go_wp2_with (first | (go_at_call 153;refine (mk27 _ _).mono ?_;rintro _ _ ⟨rfl,rfl⟩) | (go_at_call 154;refine (mk28 _ _).mono ?_;rintro _ _ ⟨rfl,rfl⟩) | (go_at_call 156;refine (mk30 _ _ _).mono ?_;rintro _ _ ⟨rfl,rfl⟩) | (go_at_call 160;refine (mk34 _ _ _).mono ?_;rintro _ _ ⟨rfl,rfl⟩) | (go_at_call 161;refine (mk35 _ _ _).mono ?_;rintro _ _ ⟨rfl,rfl⟩))
 refine bodyPost_ret (v:=.agg #[.int .i64 11,.func (Fn.func 179) #[] #[.pointer (some ⟨w.heap.size+1,0,none⟩),.pointer (some ⟨w.heap.size+2,0,none⟩)],.func (Fn.func 175) #[] #[.pointer (some ⟨w.heap.size+3,0,none⟩)],.func (Fn.func 180) #[] #[.pointer (some ⟨w.heap.size+4,0,none⟩),.pointer (some ⟨w.heap.size+5,0,none⟩)]]) (by simp [results,Tryz.results127,go_sem]) rfl ⟨rfl,?_,?_,?_,?_,?_,?_,?_⟩
 ·exact ((((((Below.refl _ _).alloc (Nat.le_refl _) _).alloc (by simp) _).alloc (by simp;omega) _).alloc (by simp;omega) _).alloc (by simp;omega) _).alloc (by simp;omega) _
 ·simp
 ·go_simp
 ·go_simp
 ·go_simp
 ·go_simp
 ·go_simp
theorem form5 (N:Nat) (w:World) (hN:w.heap.size=N):Calls Tryz.prog 127 #[.int .u8 5] w fun en w'=>en=.returned (.agg #[.int .i64 14,.func (Fn.func 176) #[] #[.pointer (some ⟨N+1,0,none⟩),.pointer (some ⟨N+2,0,none⟩)],.func (Fn.func 162) #[] #[],.func (Fn.func 163) #[] #[]])∧Below N w w'∧N+3≤w'.heap.size∧w'.cell? ⟨N+1,0,none⟩=some (.int .u64 12)∧w'.cell? ⟨N+2,0,none⟩=some (.int .i32 1):=by
 subst hN
 go_enter Tryz.func127,Tryz.ntmps127
 go_wp2_with (first | (go_at_call 153;refine (mk27 _ _).mono ?_;rintro _ _ ⟨rfl,rfl⟩) | (go_at_call 154;refine (mk28 _ _).mono ?_;rintro _ _ ⟨rfl,rfl⟩) | (go_at_call 156;refine (mk30 _ _ _).mono ?_;rintro _ _ ⟨rfl,rfl⟩) | (go_at_call 160;refine (mk34 _ _ _).mono ?_;rintro _ _ ⟨rfl,rfl⟩) | (go_at_call 161;refine (mk35 _ _ _).mono ?_;rintro _ _ ⟨rfl,rfl⟩))
 refine bodyPost_ret (v:=.agg #[.int .i64 14,.func (Fn.func 176) #[] #[.pointer (some ⟨w.heap.size+1,0,none⟩),.pointer (some ⟨w.heap.size+2,0,none⟩)],.func (Fn.func 162) #[] #[],.func (Fn.func 163) #[] #[]]) (by simp [results,Tryz.results127,go_sem]) rfl ⟨rfl,?_,?_,?_,?_⟩
 ·exact (((Below.refl _ _).alloc (Nat.le_refl _) _).alloc (by simp) _).alloc (by simp;omega) _
 ·simp
 ·go_simp
 ·go_simp
theorem form6 (N:Nat) (w:World) (hN:w.heap.size=N):Calls Tryz.prog 127 #[.int .u8 6] w fun en w'=>en=.returned (.agg #[.int .i64 14,.func (Fn.func 176) #[] #[.pointer (some ⟨N+1,0,none⟩),.pointer (some ⟨N+2,0,none⟩)],.func (Fn.func 164) #[] #[],.func (Fn.func 165) #[] #[]])∧Below N w w'∧N+3≤w'.heap.size∧w'.cell? ⟨N+1,0,none⟩=some (.int .u64 13)∧w'.cell? ⟨N+2,0,none⟩=some (.int .i32 2):=by
 subst hN
 go_enter Tryz.func127,Tryz.ntmps127
 go_wp2_with (first | (go_at_call 153;refine (mk27 _ _).mono ?_;rintro _ _ ⟨rfl,rfl⟩) | (go_at_call 154;refine (mk28 _ _).mono ?_;rintro _ _ ⟨rfl,rfl⟩) | (go_at_call 156;refine (mk30 _ _ _).mono ?_;rintro _ _ ⟨rfl,rfl⟩) | (go_at_call 160;refine (mk34 _ _ _).mono ?_;rintro _ _ ⟨rfl,rfl⟩) | (go_at_call 161;refine (mk35 _ _ _).mono ?_;rintro _ _ ⟨rfl,rfl⟩))
 refine bodyPost_ret (v:=.agg #[.int .i64 14,.func (Fn.func 176) #[] #[.pointer (some ⟨w.heap.size+1,0,none⟩),.pointer (some ⟨w.heap.size+2,0,none⟩)],.func (Fn.func 164) #[] #[],.func (Fn.func 165) #[] #[]]) (by simp [results,Tryz.results127,go_sem]) rfl ⟨rfl,?_,?_,?_,?_⟩
 ·exact (((Below.refl _ _).alloc (Nat.le_refl _) _).alloc (by simp) _).alloc (by simp;omega) _
 ·simp
 ·go_simp
 ·go_simp
theorem form7 (N:Nat) (w:World) (hN:w.heap.size=N):Calls Tryz.prog 127 #[.int .u8 7] w fun en w'=>en=.returned (.agg #[.int .i64 7,.func (Fn.func 179) #[] #[.pointer (some ⟨N+1,0,none⟩),.pointer (some ⟨N+2,0,none⟩)],.func (Fn.func 175) #[] #[.pointer (some ⟨N+3,0,none⟩)],.func (Fn.func 180) #[] #[.pointer (some ⟨N+4,0,none⟩),.pointer (some ⟨N+5,0,none⟩)]])∧Below N w w'∧N+6≤w'.heap.size∧w'.cell? ⟨N+1,0,none⟩=some (.int .i32 0)∧w'.cell? ⟨N+2,0,none⟩=some (.int .i32 0)∧w'.cell? ⟨N+3,0,none⟩=some (.int .u64 0)∧w'.cell? ⟨N+4,0,none⟩=some (.int .u64 0)∧w'.cell? ⟨N+5,0,none⟩=some (.int .u64 0):=by
 subst hN
 go_enter Tryz.func127,Tryz.ntmps127
 go_wp2_with (first | (go_at_call 153;refine (mk27 _ _).mono ?_;rintro _ _ ⟨rfl,rfl⟩) | (go_at_call 154;refine (mk28 _ _).mono ?_;rintro _ _ ⟨rfl,rfl⟩) | (go_at_call 156;refine (mk30 _ _ _).mono ?_;rintro _ _ ⟨rfl,rfl⟩) | (go_at_call 160;refine (mk34 _ _ _).mono ?_;rintro _ _ ⟨rfl,rfl⟩) | (go_at_call 161;refine (mk35 _ _ _).mono ?_;rintro _ _ ⟨rfl,rfl⟩))
 refine bodyPost_ret (v:=.agg #[.int .i64 7,.func (Fn.func 179) #[] #[.pointer (some ⟨w.heap.size+1,0,none⟩),.pointer (some ⟨w.heap.size+2,0,none⟩)],.func (Fn.func 175) #[] #[.pointer (some ⟨w.heap.size+3,0,none⟩)],.func (Fn.func 180) #[] #[.pointer (some ⟨w.heap.size+4,0,none⟩),.pointer (some ⟨w.heap.size+5,0,none⟩)]]) (by simp [results,Tryz.results127,go_sem]) rfl ⟨rfl,?_,?_,?_,?_,?_,?_,?_⟩
 ·exact ((((((Below.refl _ _).alloc (Nat.le_refl _) _).alloc (by simp) _).alloc (by simp;omega) _).alloc (by simp;omega) _).alloc (by simp;omega) _).alloc (by simp;omega) _
 ·simp
 ·go_simp
 ·go_simp
 ·go_simp
 ·go_simp
 ·go_simp
theorem form8 (N:Nat) (w:World) (hN:w.heap.size=N):Calls Tryz.prog 127 #[.int .u8 8] w fun en w'=>en=.returned (.agg #[.int .i64 3,.func (Fn.func 179) #[] #[.pointer (some ⟨N+1,0,none⟩),.pointer (some ⟨N+2,0,none⟩)],.func (Fn.func 175) #[] #[.pointer (some ⟨N+3,0,none⟩)],.func (Fn.func 180) #[] #[.pointer (some ⟨N+4,0,none⟩),.pointer (some ⟨N+5,0,none⟩)]])∧Below N w w'∧N+6≤w'.heap.size∧w'.cell? ⟨N+1,0,none⟩=some (.int .i32 0)∧w'.cell? ⟨N+2,0,none⟩=some (.int .i32 0)∧w'.cell? ⟨N+3,0,none⟩=some (.int .u64 0)∧w'.cell? ⟨N+4,0,none⟩=some (.int .u64 0)∧w'.cell? ⟨N+5,0,none⟩=some (.int .u64 0):=by
 subst hN
 go_enter Tryz.func127,Tryz.ntmps127
 go_wp2_with (first | (go_at_call 153;refine (mk27 _ _).mono ?_;rintro _ _ ⟨rfl,rfl⟩) | (go_at_call 154;refine (mk28 _ _).mono ?_;rintro _ _ ⟨rfl,rfl⟩) | (go_at_call 156;refine (mk30 _ _ _).mono ?_;rintro _ _ ⟨rfl,rfl⟩) | (go_at_call 160;refine (mk34 _ _ _).mono ?_;rintro _ _ ⟨rfl,rfl⟩) | (go_at_call 161;refine (mk35 _ _ _).mono ?_;rintro _ _ ⟨rfl,rfl⟩))
 refine bodyPost_ret (v:=.agg #[.int .i64 3,.func (Fn.func 179) #[] #[.pointer (some ⟨w.heap.size+1,0,none⟩),.pointer (some ⟨w.heap.size+2,0,none⟩)],.func (Fn.func 175) #[] #[.pointer (some ⟨w.heap.size+3,0,none⟩)],.func (Fn.func 180) #[] #[.pointer (some ⟨w.heap.size+4,0,none⟩),.pointer (some ⟨w.heap.size+5,0,none⟩)]]) (by simp [results,Tryz.results127,go_sem]) rfl ⟨rfl,?_,?_,?_,?_,?_,?_,?_⟩
 ·exact ((((((Below.refl _ _).alloc (Nat.le_refl _) _).alloc (by simp) _).alloc (by simp;omega) _).alloc (by simp;omega) _).alloc (by simp;omega) _).alloc (by simp;omega) _
 ·simp
 ·go_simp
 ·go_simp
 ·go_simp
 ·go_simp
 ·go_simp
theorem form9 (N:Nat) (w:World) (hN:w.heap.size=N):Calls Tryz.prog 127 #[.int .u8 9] w fun en w'=>en=.returned (.agg #[.int .i64 11,.func (Fn.func 179) #[] #[.pointer (some ⟨N+1,0,none⟩),.pointer (some ⟨N+2,0,none⟩)],.func (Fn.func 175) #[] #[.pointer (some ⟨N+3,0,none⟩)],.func (Fn.func 180) #[] #[.pointer (some ⟨N+4,0,none⟩),.pointer (some ⟨N+5,0,none⟩)]])∧Below N w w'∧N+6≤w'.heap.size∧w'.cell? ⟨N+1,0,none⟩=some (.int .i32 27)∧w'.cell? ⟨N+2,0,none⟩=some (.int .i32 31)∧w'.cell? ⟨N+3,0,none⟩=some (.int .u64 20)∧w'.cell? ⟨N+4,0,none⟩=some (.int .u64 20)∧w'.cell? ⟨N+5,0,none⟩=some (.int .u64 5):=by
 subst hN
 go_enter Tryz.func127,Tryz.ntmps127
 go_wp2_with (first | (go_at_call 153;refine (mk27 _ _).mono ?_;rintro _ _ ⟨rfl,rfl⟩) | (go_at_call 154;refine (mk28 _ _).mono ?_;rintro _ _ ⟨rfl,rfl⟩) | (go_at_call 156;refine (mk30 _ _ _).mono ?_;rintro _ _ ⟨rfl,rfl⟩) | (go_at_call 160;refine (mk34 _ _ _).mono ?_;rintro _ _ ⟨rfl,rfl⟩) | (go_at_call 161;refine (mk35 _ _ _).mono ?_;rintro _ _ ⟨rfl,rfl⟩))
 refine bodyPost_ret (v:=.agg #[.int .i64 11,.func (Fn.func 179) #[] #[.pointer (some ⟨w.heap.size+1,0,none⟩),.pointer (some ⟨w.heap.size+2,0,none⟩)],.func (Fn.func 175) #[] #[.pointer (some ⟨w.heap.size+3,0,none⟩)],.func (Fn.func 180) #[] #[.pointer (some ⟨w.heap.size+4,0,none⟩),.pointer (some ⟨w.heap.size+5,0,none⟩)]]) (by simp [results,Tryz.results127,go_sem]) rfl ⟨rfl,?_,?_,?_,?_,?_,?_,?_⟩
 ·exact ((((((Below.refl _ _).alloc (Nat.le_refl _) _).alloc (by simp) _).alloc (by simp;omega) _).alloc (by simp;omega) _).alloc (by simp;omega) _).alloc (by simp;omega) _
 ·simp
 ·go_simp
 ·go_simp
 ·go_simp
 ·go_simp
 ·go_simp
theorem form10 (N:Nat) (w:World) (hN:w.heap.size=N):Calls Tryz.prog 127 #[.int .u8 10] w fun en w'=>en=.returned (.agg #[.int .i64 0,.func (Fn.func 179) #[] #[.pointer (some ⟨N+1,0,none⟩),.pointer (some ⟨N+2,0,none⟩)],.func (Fn.func 175) #[] #[.pointer (some ⟨N+3,0,none⟩)],.func (Fn.func 180) #[] #[.pointer (some ⟨N+4,0,none⟩),.pointer (some ⟨N+5,0,none⟩)]])∧Below N w w'∧N+6≤w'.heap.size∧w'.cell? ⟨N+1,0,none⟩=some (.int .i32 0)∧w'.cell? ⟨N+2,0,none⟩=some (.int .i32 0)∧w'.cell? ⟨N+3,0,none⟩=some (.int .u64 0)∧w'.cell? ⟨N+4,0,none⟩=some (.int .u64 0)∧w'.cell? ⟨N+5,0,none⟩=some (.int .u64 0):=by
 subst hN
 go_enter Tryz.func127,Tryz.ntmps127
 go_wp2_with (first | (go_at_call 153;refine (mk27 _ _).mono ?_;rintro _ _ ⟨rfl,rfl⟩) | (go_at_call 154;refine (mk28 _ _).mono ?_;rintro _ _ ⟨rfl,rfl⟩) | (go_at_call 156;refine (mk30 _ _ _).mono ?_;rintro _ _ ⟨rfl,rfl⟩) | (go_at_call 160;refine (mk34 _ _ _).mono ?_;rintro _ _ ⟨rfl,rfl⟩) | (go_at_call 161;refine (mk35 _ _ _).mono ?_;rintro _ _ ⟨rfl,rfl⟩))
 refine bodyPost_ret (v:=.agg #[.int .i64 0,.func (Fn.func 179) #[] #[.pointer (some ⟨w.heap.size+1,0,none⟩),.pointer (some ⟨w.heap.size+2,0,none⟩)],.func (Fn.func 175) #[] #[.pointer (some ⟨w.heap.size+3,0,none⟩)],.func (Fn.func 180) #[] #[.pointer (some ⟨w.heap.size+4,0,none⟩),.pointer (some ⟨w.heap.size+5,0,none⟩)]]) (by simp [results,Tryz.results127,go_sem]) rfl ⟨rfl,?_,?_,?_,?_,?_,?_,?_⟩
 ·exact ((((((Below.refl _ _).alloc (Nat.le_refl _) _).alloc (by simp) _).alloc (by simp;omega) _).alloc (by simp;omega) _).alloc (by simp;omega) _).alloc (by simp;omega) _
 ·simp
 ·go_simp
 ·go_simp
 ·go_simp
 ·go_simp
 ·go_simp
end Go.Proofs.YtnkoknfihhdelaaGreatDoor.In
