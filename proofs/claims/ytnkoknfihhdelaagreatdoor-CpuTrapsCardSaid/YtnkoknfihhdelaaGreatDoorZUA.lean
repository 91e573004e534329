import Derived.Test.YtnkoknfihhdelaaGreatDoorZRv
import Derived.Test.YtnkoknfihhdelaaGreatDoorProg
import Derived.WalkKit
import Derived.ProofKit
import Derived.OpenShut
import Derived.Below
import Derived.WalkSmall
import Derived.BigQuiet
import Derived.Deep.QuietTactic
import Derived.Deep.RegionHeld3
import Derived.LoopTactic
import Derived.Lib.Hide
import Derived.Laws.BitsAllLaws
namespace Go.Proofs.YtnkoknfihhdelaaGreatDoor.Al
open Go.ChangeShapes Go.WideShapes Go.ChangeAt Go.RowKit
set_option linter.unusedVariables false
set_option maxRecDepth 100000
theorem ret1 {k:IntKind} {a b:Int} (h:a=b):Ending.returned (.int k a)=.returned (.int k b):=by rw [h]
theorem retb {a b:Bool} (h:a=b):Ending.returned (.bool a)=.returned (.bool b):=by rw [h]
theorem and31 (b:Nat) (hb:b<4294967296):bits .and .u32 (b:Int) 31=((b%32:Nat):Int):=by
 have h:=u32_and_nat b 31 hb (by omega)
 rw [nat_mask5] at h;exact h
def b2i (p:Bool):Int:=if p then 1 else 0
theorem flag12 (p:Bool) (w:World):Calls Tryz.prog 168 #[.bool p] w fun en w'=>en=.returned (.int .u32 (b2i p))∧w=w':=by
 cases p
 all_goals
  go_enter Tryz.func168,Tryz.ntmps168
  go_wp2
  go_ret
  exact ⟨rfl,rfl⟩
theorem worth20 (a:Nat) (w:World):Calls Tryz.prog 181 #[.int .u32 (a:Int)] w fun en w'=>en=.returned (.int .i64 (wrap32 (a:Int)))∧w=w':=by
 have l1 : -2147483648≤wrap32 (a:Int)∧wrap32 (a:Int)≤2147483647:=by unfold wrap32;omega
 obtain ⟨l1,l2⟩:=l1
 go_enter Tryz.func181,Tryz.ntmps181
 go_wp2
 go_ret
 exact ⟨rfl,rfl⟩
theorem ret2 {k1 k2:IntKind} {a b c d:Int} (h:a=b) (h2:c=d):Ending.returned (.tuple #[.int k1 a,.int k2 c])=.returned (.tuple #[.int k1 b,.int k2 d]):=by rw [h,h2]
theorem retp {k2:IntKind} {a b:Bool} {c d:Int} (h:a=b) (h2:c=d):Ending.returned (.tuple #[.bool a,.int k2 c])=.returned (.tuple #[.bool b,.int k2 d]):=by rw [h,h2]
theorem is5 (a b:Nat) (ha:a<4294967296) (hb:b<4294967296) (w:World):Calls Tryz.prog 135 #[.int .u8 5,.int .u32 (a:Int),.int .u32 (b:Int)] w fun en w'=>en=.returned (.tuple #[.bool ((a:Int)==(b:Int)),.int .i64 0])∧w=w':=by
 go_enter Tryz.func135,Tryz.ntmps135
 go_wp2
 go_ret2
 exact ⟨retp rfl rfl,rfl⟩
theorem is6 (a b:Nat) (ha:a<4294967296) (hb:b<4294967296) (w:World):Calls Tryz.prog 135 #[.int .u8 6,.int .u32 (a:Int),.int .u32 (b:Int)] w fun en w'=>en=.returned (.tuple #[.bool ((a:Int) != (b:Int)),.int .i64 0])∧w=w':=by
 go_enter Tryz.func135,Tryz.ntmps135
 go_wp2
 go_ret2
 exact ⟨retp rfl rfl,rfl⟩
theorem is7 (a b:Nat) (ha:a<4294967296) (hb:b<4294967296) (w:World):Calls Tryz.prog 135 #[.int .u8 7,.int .u32 (a:Int),.int .u32 (b:Int)] w fun en w'=>en=.returned (.tuple #[.bool (decide (wrap32 (a:Int)<wrap32 (b:Int))),.int .i64 0])∧w=w':=by
 go_enter Tryz.func135,Tryz.ntmps135
 go_wp2
 go_ret2
 exact ⟨retp rfl rfl,rfl⟩
theorem is8 (a b:Nat) (ha:a<4294967296) (hb:b<4294967296) (w:World):Calls Tryz.prog 135 #[.int .u8 8,.int .u32 (a:Int),.int .u32 (b:Int)] w fun en w'=>en=.returned (.tuple #[.bool (decide (wrap32 (b:Int)≤wrap32 (a:Int))),.int .i64 0])∧w=w':=by
 go_enter Tryz.func135,Tryz.ntmps135
 go_wp2
 go_ret2
 exact ⟨retp rfl rfl,rfl⟩
theorem is9 (a b:Nat) (ha:a<4294967296) (hb:b<4294967296) (w:World):Calls Tryz.prog 135 #[.int .u8 9,.int .u32 (a:Int),.int .u32 (b:Int)] w fun en w'=>en=.returned (.tuple #[.bool (decide (a<b)),.int .i64 0])∧w=w':=by
 go_enter Tryz.func135,Tryz.ntmps135
 go_wp2
 go_ret2
 exact ⟨retp rfl rfl,rfl⟩
theorem is10 (a b:Nat) (ha:a<4294967296) (hb:b<4294967296) (w:World):Calls Tryz.prog 135 #[.int .u8 10,.int .u32 (a:Int),.int .u32 (b:Int)] w fun en w'=>en=.returned (.tuple #[.bool (decide (b≤a)),.int .i64 0])∧w=w':=by
 go_enter Tryz.func135,Tryz.ntmps135
 go_wp2
 go_ret2
 exact ⟨retp rfl rfl,rfl⟩
theorem do21 (a b:Nat) (ha:a<4294967296) (hb:b<4294967296) (w:World):Calls Tryz.prog 139 #[.int .u8 21,.int .u32 (a:Int),.int .u32 (b:Int)] w fun en w'=>en=.returned (.tuple #[.int .u32 (((a:Int)+(b:Int))%4294967296),.int .i64 0])∧w=w':=by
 go_enter Tryz.func139,Tryz.ntmps139
 go_wp2
 go_ret2
 exact ⟨ret2 rfl rfl,rfl⟩
theorem do30 (a b:Nat) (ha:a<4294967296) (hb:b<4294967296) (w:World):Calls Tryz.prog 139 #[.int .u8 30,.int .u32 (a:Int),.int .u32 (b:Int)] w fun en w'=>en=.returned (.tuple #[.int .u32 (((a:Int)+(b:Int))%4294967296),.int .i64 0])∧w=w':=by
 go_enter Tryz.func139,Tryz.ntmps139
 go_wp2
 go_ret2
 exact ⟨ret2 rfl rfl,rfl⟩
theorem do31 (a b:Nat) (ha:a<4294967296) (hb:b<4294967296) (w:World):Calls Tryz.prog 139 #[.int .u8 31,.int .u32 (a:Int),.int .u32 (b:Int)] w fun en w'=>en=.returned (.tuple #[.int .u32 (((a:Int)-(b:Int))%4294967296),.int .i64 0])∧w=w':=by
 go_enter Tryz.func139,Tryz.ntmps139
 go_wp2
 go_ret2
 exact ⟨ret2 rfl rfl,rfl⟩
theorem do22 (a b:Nat) (ha:a<4294967296) (hb:b<4294967296) (w:World):Calls Tryz.prog 139 #[.int .u8 22,.int .u32 (a:Int),.int .u32 (b:Int)] w fun en w'=>en=.returned (.tuple #[.int .u32 (b2i (decide (wrap32 (a:Int)<wrap32 (b:Int)))),.int .i64 0])∧w=w':=by
 go_enter Tryz.func139,Tryz.ntmps139
 go_wp2_with (go_at_call 168;refine (flag12 _ _).mono ?_;rintro _ _ ⟨rfl,rfl⟩)
 go_ret2
 exact ⟨ret2 rfl rfl,rfl⟩
theorem do33 (a b:Nat) (ha:a<4294967296) (hb:b<4294967296) (w:World):Calls Tryz.prog 139 #[.int .u8 33,.int .u32 (a:Int),.int .u32 (b:Int)] w fun en w'=>en=.returned (.tuple #[.int .u32 (b2i (decide (wrap32 (a:Int)<wrap32 (b:Int)))),.int .i64 0])∧w=w':=by
 go_enter Tryz.func139,Tryz.ntmps139
 go_wp2_with (go_at_call 168;refine (flag12 _ _).mono ?_;rintro _ _ ⟨rfl,rfl⟩)
 go_ret2
 exact ⟨ret2 rfl rfl,rfl⟩
theorem do23 (a b:Nat) (ha:a<4294967296) (hb:b<4294967296) (w:World):Calls Tryz.prog 139 #[.int .u8 23,.int .u32 (a:Int),.int .u32 (b:Int)] w fun en w'=>en=.returned (.tuple #[.int .u32 (b2i (decide (a<b))),.int .i64 0])∧w=w':=by
 go_enter Tryz.func139,Tryz.ntmps139
 go_wp2_with (go_at_call 168;refine (flag12 _ _).mono ?_;rintro _ _ ⟨rfl,rfl⟩)
 go_ret2
 exact ⟨ret2 rfl rfl,rfl⟩
theorem do34 (a b:Nat) (ha:a<4294967296) (hb:b<4294967296) (w:World):Calls Tryz.prog 139 #[.int .u8 34,.int .u32 (a:Int),.int .u32 (b:Int)] w fun en w'=>en=.returned (.tuple #[.int .u32 (b2i (decide (a<b))),.int .i64 0])∧w=w':=by
 go_enter Tryz.func139,Tryz.ntmps139
 go_wp2_with (go_at_call 168;refine (flag12 _ _).mono ?_;rintro _ _ ⟨rfl,rfl⟩)
 go_ret2
 exact ⟨ret2 rfl rfl,rfl⟩
theorem do24 (a b:Nat) (ha:a<4294967296) (hb:b<4294967296) (w:World):Calls Tryz.prog 139 #[.int .u8 24,.int .u32 (a:Int),.int .u32 (b:Int)] w fun en w'=>en=.returned (.tuple #[.int .u32 (bits .xor .u32 (a:Int) (b:Int)),.int .i64 0])∧w=w':=by
 go_enter Tryz.func139,Tryz.ntmps139
 go_wp2
 go_ret2
 exact ⟨ret2 rfl rfl,rfl⟩
theorem do35 (a b:Nat) (ha:a<4294967296) (hb:b<4294967296) (w:World):Calls Tryz.prog 139 #[.int .u8 35,.int .u32 (a:Int),.int .u32 (b:Int)] w fun en w'=>en=.returned (.tuple #[.int .u32 (bits .xor .u32 (a:Int) (b:Int)),.int .i64 0])∧w=w':=by
 go_enter Tryz.func139,Tryz.ntmps139
 go_wp2
 go_ret2
 exact ⟨ret2 rfl rfl,rfl⟩
theorem do25 (a b:Nat) (ha:a<4294967296) (hb:b<4294967296) (w:World):Calls Tryz.prog 139 #[.int .u8 25,.int .u32 (a:Int),.int .u32 (b:Int)] w fun en w'=>en=.returned (.tuple #[.int .u32 (bits .or .u32 (a:Int) (b:Int)),.int .i64 0])∧w=w':=by
 go_enter Tryz.func139,Tryz.ntmps139
 go_wp2
 go_ret2
 exact ⟨ret2 rfl rfl,rfl⟩
theorem do38 (a b:Nat) (ha:a<4294967296) (hb:b<4294967296) (w:World):Calls Tryz.prog 139 #[.int .u8 38,.int .u32 (a:Int),.int .u32 (b:Int)] w fun en w'=>en=.returned (.tuple #[.int .u32 (bits .or .u32 (a:Int) (b:Int)),.int .i64 0])∧w=w':=by
 go_enter Tryz.func139,Tryz.ntmps139
 go_wp2
 go_ret2
 exact ⟨ret2 rfl rfl,rfl⟩
theorem do26 (a b:Nat) (ha:a<4294967296) (hb:b<4294967296) (w:World):Calls Tryz.prog 139 #[.int .u8 26,.int .u32 (a:Int),.int .u32 (b:Int)] w fun en w'=>en=.returned (.tuple #[.int .u32 (bits .and .u32 (a:Int) (b:Int)),.int .i64 0])∧w=w':=by
 go_enter Tryz.func139,Tryz.ntmps139
 go_wp2
 go_ret2
 exact ⟨ret2 rfl rfl,rfl⟩
theorem do39 (a b:Nat) (ha:a<4294967296) (hb:b<4294967296) (w:World):Calls Tryz.prog 139 #[.int .u8 39,.int .u32 (a:Int),.int .u32 (b:Int)] w fun en w'=>en=.returned (.tuple #[.int .u32 (bits .and .u32 (a:Int) (b:Int)),.int .i64 0])∧w=w':=by
 go_enter Tryz.func139,Tryz.ntmps139
 go_wp2
 go_ret2
 exact ⟨ret2 rfl rfl,rfl⟩
theorem do27 (a b:Nat) (ha:a<4294967296) (hb:b<4294967296) (w:World):Calls Tryz.prog 139 #[.int .u8 27,.int .u32 (a:Int),.int .u32 (b:Int)] w fun en w'=>en=.returned (.tuple #[.int .u32 ((a:Int)*2 ^ (b%32)%4294967296),.int .i64 0])∧w=w':=by
 have k:=and31 b hb
 have l:b%32<32:=by omega
 generalize b%32=s at *
 go_enter Tryz.func139,Tryz.ntmps139
 go_wp2
 go_ret2
 exact ⟨ret2 rfl rfl,rfl⟩
theorem do32 (a b:Nat) (ha:a<4294967296) (hb:b<4294967296) (w:World):Calls Tryz.prog 139 #[.int .u8 32,.int .u32 (a:Int),.int .u32 (b:Int)] w fun en w'=>en=.returned (.tuple #[.int .u32 ((a:Int)*2 ^ (b%32)%4294967296),.int .i64 0])∧w=w':=by
 have k:=and31 b hb
 have l:b%32<32:=by omega
 generalize b%32=s at *
 go_enter Tryz.func139,Tryz.ntmps139
 go_wp2
 go_ret2
 exact ⟨ret2 rfl rfl,rfl⟩
theorem do28 (a b:Nat) (ha:a<4294967296) (hb:b<4294967296) (w:World):Calls Tryz.prog 139 #[.int .u8 28,.int .u32 (a:Int),.int .u32 (b:Int)] w fun en w'=>en=.returned (.tuple #[.int .u32 ((a:Int)/2 ^ (b%32)),.int .i64 0])∧w=w':=by
 have k:=and31 b hb
 have l:b%32<32:=by omega
 generalize b%32=s at *
 go_enter Tryz.func139,Tryz.ntmps139
 go_wp2
 go_ret2
 exact ⟨ret2 rfl rfl,rfl⟩
theorem do36 (a b:Nat) (ha:a<4294967296) (hb:b<4294967296) (w:World):Calls Tryz.prog 139 #[.int .u8 36,.int .u32 (a:Int),.int .u32 (b:Int)] w fun en w'=>en=.returned (.tuple #[.int .u32 ((a:Int)/2 ^ (b%32)),.int .i64 0])∧w=w':=by
 have k:=and31 b hb
 have l:b%32<32:=by omega
 generalize b%32=s at *
 go_enter Tryz.func139,Tryz.ntmps139
 go_wp2
 go_ret2
 exact ⟨ret2 rfl rfl,rfl⟩
theorem do29 (a b:Nat) (ha:a<4294967296) (hb:b<4294967296) (w:World):Calls Tryz.prog 139 #[.int .u8 29,.int .u32 (a:Int),.int .u32 (b:Int)] w fun en w'=>en=.returned (.tuple #[.int .u32 (wrap32 (a:Int)/2 ^ (b%32)%4294967296),.int .i64 0])∧w=w':=by
 have k:=and31 b hb
 have l:b%32<32:=by omega
 generalize b%32=s at *
 go_enter Tryz.func139,Tryz.ntmps139
 go_wp2
 go_ret2
 exact ⟨ret2 rfl rfl,rfl⟩
theorem do37 (a b:Nat) (ha:a<4294967296) (hb:b<4294967296) (w:World):Calls Tryz.prog 139 #[.int .u8 37,.int .u32 (a:Int),.int .u32 (b:Int)] w fun en w'=>en=.returned (.tuple #[.int .u32 (wrap32 (a:Int)/2 ^ (b%32)%4294967296),.int .i64 0])∧w=w':=by
 have k:=and31 b hb
 have l:b%32<32:=by omega
 generalize b%32=s at *
 go_enter Tryz.func139,Tryz.ntmps139
 go_wp2
 go_ret2
 exact ⟨ret2 rfl rfl,rfl⟩
def qv (a b:Nat):Int:=if b=0 then 4294967295 else (wrap32 (a:Int)).tdiv (wrap32 (b:Int))%4294967296
theorem w32mod (x:Int):wrap32 x%4294967296=x%4294967296:=by unfold wrap32;omega
theorem qv_lt (a b:Nat):0≤qv a b∧qv a b<4294967296:=by unfold qv;split <;> omega
theorem quot21 (a b:Nat) (ha:a<4294967296) (hb:b<4294967296) (w:World):Calls Tryz.prog 182 #[.int .u32 (a:Int),.int .u32 (b:Int)] w fun en w'=>en=.returned (.int .u32 (qv a b))∧w=w':=by
 by_cases h0:b=0
 ·subst h0
  go_enter Tryz.func182,Tryz.ntmps182
  go_wp2
  go_ret
  exact ⟨ret1 rfl,rfl⟩
 ·have hw:wrap32 (b:Int)≠0:=by unfold wrap32;omega
  have hz:((b:Int)==0)=false:=by simp;omega
  have hz2:((wrap32 (b:Int))==0)=false:=by simpa using hw
  have l1 : -2147483648≤wrap32 (a:Int)∧wrap32 (a:Int)≤2147483647:=by unfold wrap32;omega
  have l2 : -2147483648≤wrap32 (b:Int)∧wrap32 (b:Int)≤2147483647:=by unfold wrap32;omega
  obtain ⟨l1,l1'⟩:=l1
  obtain ⟨l2,l2'⟩:=l2
  have hq:qv a b=(wrap32 (a:Int)).tdiv (wrap32 (b:Int))%4294967296:=by unfold qv;rw [if_neg h0]
  by_cases h1:wrap32 (a:Int)=-2147483648
  ·by_cases h2:wrap32 (b:Int)=-1
   ·have e1:(a:Int)=2147483648:=by unfold wrap32 at h1;omega
    rw [h1,h2] at hq
    have H:=Lib.hid hq
    clear hq
    have E1:=Lib.hid e1
    clear e1
    go_enter Tryz.func182,Tryz.ntmps182
    go_wp2
    go_ret
    exact ⟨ret1 (by rw [H.out,E1.out];rfl),rfl⟩
   ·have h2':(wrap32 (b:Int)==-1)=false:=by simpa using h2
    rw [h1] at hq
    have H:=Lib.hid hq
    clear hq
    go_enter Tryz.func182,Tryz.ntmps182
    go_wp2
    go_ret
    exact ⟨ret1 (by rw [H.out,w32mod,Int.neg_tdiv]),rfl⟩
  ·have h1':(wrap32 (a:Int)==-2147483648)=false:=by simpa using h1
   have H:=Lib.hid hq
   clear hq
   go_enter Tryz.func182,Tryz.ntmps182
   go_wp2
   go_ret
   exact ⟨ret1 (by rw [H.out,w32mod]),rfl⟩
theorem mulbd (x y L M:Int) (h1 : -L≤x) (h2:x≤L) (h3 : -M≤y) (h4:y≤M) (hL:0≤L) (hM:0≤M) : -(L*M)≤x*y∧x*y≤L*M:=by
 have hx:x.natAbs≤L.natAbs:=by omega
 have hy:y.natAbs≤M.natAbs:=by omega
 have h:=Nat.mul_le_mul hx hy
 rw [←Int.natAbs_mul,←Int.natAbs_mul] at h
 have hp:0≤L*M:=Int.mul_nonneg hL hM
 omega
theorem mu40 (a b:Nat) (ha:a<4294967296) (hb:b<4294967296) (w:World):Calls Tryz.prog 169 #[.int .u8 40,.int .u32 (a:Int),.int .u32 (b:Int)] w fun en w'=>en=.returned (.tuple #[.int .u32 ((a:Int)*(b:Int)%4294967296),.int .i64 0])∧w=w':=by
 go_enter Tryz.func169,Tryz.ntmps169
 go_wp2
 all_goals
  go_ret2
  exact ⟨ret2 (by first | rfl | simp) rfl,rfl⟩
theorem mu41 (a b:Nat) (ha:a<4294967296) (hb:b<4294967296) (w:World):Calls Tryz.prog 169 #[.int .u8 41,.int .u32 (a:Int),.int .u32 (b:Int)] w fun en w'=>en=.returned (.tuple #[.int .u32 (wrap32 (a:Int)*wrap32 (b:Int)/4294967296%4294967296),.int .i64 0])∧w=w':=by
 have l1 : -2147483648≤wrap32 (a:Int)∧wrap32 (a:Int)≤2147483647:=by unfold wrap32;omega
 have l2 : -2147483648≤wrap32 (b:Int)∧wrap32 (b:Int)≤2147483647:=by unfold wrap32;omega
 have m:=mulbd (wrap32 (a:Int)) (wrap32 (b:Int)) 2147483648 2147483648 (by omega) (by omega) (by omega) (by omega) (by omega) (by omega)
 obtain ⟨m1,m2⟩:=m
 go_enter Tryz.func169,Tryz.ntmps169
 go_wp2_with (first | (go_at_call 181;(with_reducible refine (worth20 a _).mono ?_);rintro _ _ ⟨rfl,rfl⟩) | (go_at_call 181;(with_reducible refine (worth20 b _).mono ?_);rintro _ _ ⟨rfl,rfl⟩))
 all_goals
  go_ret2
  exact ⟨ret2 (rfl) rfl,rfl⟩
theorem mu42 (a b:Nat) (ha:a<4294967296) (hb:b<4294967296) (w:World):Calls Tryz.prog 169 #[.int .u8 42,.int .u32 (a:Int),.int .u32 (b:Int)] w fun en w'=>en=.returned (.tuple #[.int .u32 (wrap32 (a:Int)*(b:Int)/4294967296%4294967296),.int .i64 0])∧w=w':=by
 have l1 : -2147483648≤wrap32 (a:Int)∧wrap32 (a:Int)≤2147483647:=by unfold wrap32;omega
 have l2 : -2147483648≤wrap32 (b:Int)∧wrap32 (b:Int)≤2147483647:=by unfold wrap32;omega
 have m:=mulbd (wrap32 (a:Int)) (b:Int) 2147483648 4294967295 (by omega) (by omega) (by omega) (by omega) (by omega) (by omega)
 obtain ⟨m1,m2⟩:=m
 go_enter Tryz.func169,Tryz.ntmps169
 go_wp2_with (go_at_call 181;(with_reducible refine (worth20 a _).mono ?_);rintro _ _ ⟨rfl,rfl⟩)
 all_goals
  go_ret2
  exact ⟨ret2 rfl rfl,rfl⟩
theorem mu43 (a b:Nat) (ha:a<4294967296) (hb:b<4294967296) (w:World):Calls Tryz.prog 169 #[.int .u8 43,.int .u32 (a:Int),.int .u32 (b:Int)] w fun en w'=>en=.returned (.tuple #[.int .u32 ((a:Int)*(b:Int)/4294967296),.int .i64 0])∧w=w':=by
 have m:=mulbd (a:Int) (b:Int) 4294967295 4294967295 (by omega) (by omega) (by omega) (by omega) (by omega) (by omega)
 have m0:0≤(a:Int)*(b:Int):=Int.mul_nonneg (by omega) (by omega)
 obtain ⟨m1,m2⟩:=m
 go_enter Tryz.func169,Tryz.ntmps169
 go_wp2
 all_goals
  go_ret2
  exact ⟨ret2 rfl rfl,rfl⟩
theorem mu44 (a b:Nat) (ha:a<4294967296) (hb:b<4294967296) (w:World):Calls Tryz.prog 169 #[.int .u8 44,.int .u32 (a:Int),.int .u32 (b:Int)] w fun en w'=>en=.returned (.tuple #[.int .u32 (qv a b),.int .i64 0])∧w=w':=by
 go_enter Tryz.func169,Tryz.ntmps169
 go_wp2_with (go_at_call 182;refine (quot21 a b ha hb _).mono ?_;rintro _ _ ⟨rfl,rfl⟩)
 all_goals
  go_ret2
  exact ⟨ret2 (rfl) rfl,rfl⟩
theorem mu46 (a b:Nat) (ha:a<4294967296) (hb:b<4294967296) (w:World):Calls Tryz.prog 169 #[.int .u8 46,.int .u32 (a:Int),.int .u32 (b:Int)] w fun en w'=>en=.returned (.tuple #[.int .u32 (((a:Int)-qv a b*(b:Int))%4294967296),.int .i64 0])∧w=w':=by
 obtain ⟨q1,q2⟩:=qv_lt a b
 go_enter Tryz.func169,Tryz.ntmps169
 go_wp2_with (go_at_call 182;refine (quot21 a b ha hb _).mono ?_;rintro _ _ ⟨rfl,rfl⟩)
 all_goals
  go_ret2
  exact ⟨ret2 (by generalize qv a b*(b:Int)=p;omega) rfl,rfl⟩
theorem mu45 (a b:Nat) (ha:a<4294967296) (hb:b<4294967296) (w:World):Calls Tryz.prog 169 #[.int .u8 45,.int .u32 (a:Int),.int .u32 (b:Int)] w fun en w'=>en=.returned (.tuple #[.int .u32 (if b=0 then 4294967295 else (a:Int)/(b:Int)),.int .i64 0])∧w=w':=by
 by_cases h:b=0
 ·subst h
  go_enter Tryz.func169,Tryz.ntmps169
  go_wp2
  go_ret2
  exact ⟨ret2 rfl rfl,rfl⟩
 rw [if_neg h]
 have hz:((b:Int)==0)=false:=by simp;omega
 go_enter Tryz.func169,Tryz.ntmps169
 go_wp2
 all_goals
  go_ret2
  exact ⟨ret2 (by rw [show (a:Int)/(b:Int)=((a/b:Nat):Int) from rfl];have h9:=Nat.div_le_self a b;generalize a/b=q at *;omega) rfl,rfl⟩
theorem mu47 (a b:Nat) (ha:a<4294967296) (hb:b<4294967296) (w:World):Calls Tryz.prog 169 #[.int .u8 47,.int .u32 (a:Int),.int .u32 (b:Int)] w fun en w'=>en=.returned (.tuple #[.int .u32 (if b=0 then (a:Int) else (a:Int)%(b:Int)),.int .i64 0])∧w=w':=by
 by_cases h:b=0
 ·subst h
  go_enter Tryz.func169,Tryz.ntmps169
  go_wp2
  go_ret2
  exact ⟨ret2 rfl rfl,rfl⟩
 rw [if_neg h]
 have hz:((b:Int)==0)=false:=by simp;omega
 go_enter Tryz.func169,Tryz.ntmps169
 go_wp2
 all_goals
  go_ret2
  exact ⟨ret2 (rfl) rfl,rfl⟩
theorem do40 (a b:Nat) (ha:a<4294967296) (hb:b<4294967296) (w:World):Calls Tryz.prog 139 #[.int .u8 40,.int .u32 (a:Int),.int .u32 (b:Int)] w fun en w'=>en=.returned (.tuple #[.int .u32 ((a:Int)*(b:Int)%4294967296),.int .i64 0])∧w=w':=by
 have k:=mu40 a b ha hb
 generalize ((a:Int)*(b:Int)%4294967296)=x at *
 have K:=Lib.hid k
 clear k
 go_enter Tryz.func139,Tryz.ntmps139
 go_wp2_with fail
 refine (K.out _).mono ?_
 rintro _ _ ⟨rfl,rfl⟩
 go_wp2_with fail
 go_ret2
 exact ⟨ret2 rfl rfl,rfl⟩
theorem do41 (a b:Nat) (ha:a<4294967296) (hb:b<4294967296) (w:World):Calls Tryz.prog 139 #[.int .u8 41,.int .u32 (a:Int),.int .u32 (b:Int)] w fun en w'=>en=.returned (.tuple #[.int .u32 (wrap32 (a:Int)*wrap32 (b:Int)/4294967296%4294967296),.int .i64 0])∧w=w':=by
 have k:=mu41 a b ha hb
 generalize (wrap32 (a:Int)*wrap32 (b:Int)/4294967296%4294967296)=x at *
 have K:=Lib.hid k
 clear k
 go_enter Tryz.func139,Tryz.ntmps139
 go_wp2_with fail
 refine (K.out _).mono ?_
 rintro _ _ ⟨rfl,rfl⟩
 go_wp2_with fail
 go_ret2
 exact ⟨ret2 rfl rfl,rfl⟩
theorem do42 (a b:Nat) (ha:a<4294967296) (hb:b<4294967296) (w:World):Calls Tryz.prog 139 #[.int .u8 42,.int .u32 (a:Int),.int .u32 (b:Int)] w fun en w'=>en=.returned (.tuple #[.int .u32 (wrap32 (a:Int)*(b:Int)/4294967296%4294967296),.int .i64 0])∧w=w':=by
 have k:=mu42 a b ha hb
 generalize (wrap32 (a:Int)*(b:Int)/4294967296%4294967296)=x at *
 have K:=Lib.hid k
 clear k
 go_enter Tryz.func139,Tryz.ntmps139
 go_wp2_with fail
 refine (K.out _).mono ?_
 rintro _ _ ⟨rfl,rfl⟩
 go_wp2_with fail
 go_ret2
 exact ⟨ret2 rfl rfl,rfl⟩
theorem do43 (a b:Nat) (ha:a<4294967296) (hb:b<4294967296) (w:World):Calls Tryz.prog 139 #[.int .u8 43,.int .u32 (a:Int),.int .u32 (b:Int)] w fun en w'=>en=.returned (.tuple #[.int .u32 ((a:Int)*(b:Int)/4294967296),.int .i64 0])∧w=w':=by
 have k:=mu43 a b ha hb
 generalize ((a:Int)*(b:Int)/4294967296)=x at *
 have K:=Lib.hid k
 clear k
 go_enter Tryz.func139,Tryz.ntmps139
 go_wp2_with fail
 refine (K.out _).mono ?_
 rintro _ _ ⟨rfl,rfl⟩
 go_wp2_with fail
 go_ret2
 exact ⟨ret2 rfl rfl,rfl⟩
theorem do44 (a b:Nat) (ha:a<4294967296) (hb:b<4294967296) (w:World):Calls Tryz.prog 139 #[.int .u8 44,.int .u32 (a:Int),.int .u32 (b:Int)] w fun en w'=>en=.returned (.tuple #[.int .u32 (qv a b),.int .i64 0])∧w=w':=by
 have k:=mu44 a b ha hb
 generalize (qv a b)=x at *
 have K:=Lib.hid k
 clear k
 go_enter Tryz.func139,Tryz.ntmps139
 go_wp2_with fail
 refine (K.out _).mono ?_
 rintro _ _ ⟨rfl,rfl⟩
 go_wp2_with fail
 go_ret2
 exact ⟨ret2 rfl rfl,rfl⟩
theorem do46 (a b:Nat) (ha:a<4294967296) (hb:b<4294967296) (w:World):Calls Tryz.prog 139 #[.int .u8 46,.int .u32 (a:Int),.int .u32 (b:Int)] w fun en w'=>en=.returned (.tuple #[.int .u32 (((a:Int)-qv a b*(b:Int))%4294967296),.int .i64 0])∧w=w':=by
 have k:=mu46 a b ha hb
 generalize (((a:Int)-qv a b*(b:Int))%4294967296)=x at *
 have K:=Lib.hid k
 clear k
 go_enter Tryz.func139,Tryz.ntmps139
 go_wp2_with fail
 refine (K.out _).mono ?_
 rintro _ _ ⟨rfl,rfl⟩
 go_wp2_with fail
 go_ret2
 exact ⟨ret2 rfl rfl,rfl⟩
theorem do45 (a b:Nat) (ha:a<4294967296) (hb:b<4294967296) (w:World):Calls Tryz.prog 139 #[.int .u8 45,.int .u32 (a:Int),.int .u32 (b:Int)] w fun en w'=>en=.returned (.tuple #[.int .u32 (if b=0 then 4294967295 else (a:Int)/(b:Int)),.int .i64 0])∧w=w':=by
 have k:=mu45 a b ha hb
 generalize (if b=0 then 4294967295 else (a:Int)/(b:Int))=x at *
 have K:=Lib.hid k
 clear k
 go_enter Tryz.func139,Tryz.ntmps139
 go_wp2_with fail
 refine (K.out _).mono ?_
 rintro _ _ ⟨rfl,rfl⟩
 go_wp2_with fail
 go_ret2
 exact ⟨ret2 rfl rfl,rfl⟩
theorem do47 (a b:Nat) (ha:a<4294967296) (hb:b<4294967296) (w:World):Calls Tryz.prog 139 #[.int .u8 47,.int .u32 (a:Int),.int .u32 (b:Int)] w fun en w'=>en=.returned (.tuple #[.int .u32 (if b=0 then (a:Int) else (a:Int)%(b:Int)),.int .i64 0])∧w=w':=by
 have k:=mu47 a b ha hb
 generalize (if b=0 then (a:Int) else (a:Int)%(b:Int))=x at *
 have K:=Lib.hid k
 clear k
 go_enter Tryz.func139,Tryz.ntmps139
 go_wp2_with fail
 refine (K.out _).mono ?_
 rintro _ _ ⟨rfl,rfl⟩
 go_wp2_with fail
 go_ret2
 exact ⟨ret2 rfl rfl,rfl⟩
theorem mu5 (a b:Nat) (ha:a<4294967296) (hb:b<4294967296) (w:World):Calls Tryz.prog 169 #[.int .u8 5,.int .u32 (a:Int),.int .u32 (b:Int)] w fun en w'=>en=.returned (.tuple #[.int .u32 0,.int .i64 2])∧w=w':=by
 go_enter Tryz.func169,Tryz.ntmps169
 go_wp2
 go_ret2
 exact ⟨ret2 rfl rfl,rfl⟩
theorem do5 (a b:Nat) (ha:a<4294967296) (hb:b<4294967296) (w:World):Calls Tryz.prog 139 #[.int .u8 5,.int .u32 (a:Int),.int .u32 (b:Int)] w fun en w'=>en=.returned (.tuple #[.int .u32 0,.int .i64 2])∧w=w':=by
 have K:=Lib.hid (mu5 a b ha hb)
 go_enter Tryz.func139,Tryz.ntmps139
 go_wp2_with fail
 refine (K.out _).mono ?_
 rintro _ _ ⟨rfl,rfl⟩
 go_wp2_with fail
 go_ret2
 exact ⟨ret2 rfl rfl,rfl⟩
end Go.Proofs.YtnkoknfihhdelaaGreatDoor.Al
namespace Go.Proofs.YtnkoknfihhdelaaGreatDoor
open Go.ChangeShapes Go.WideShapes Go.ChangeAt Go.RowKit
open Al (b2i qv qv_lt)
set_option linter.unusedVariables false
set_option maxRecDepth 10000
def av21 (a b:Nat):Int:=(((a:Int)+(b:Int))%4294967296)
def av22 (a b:Nat):Int:=(b2i (decide (wrap32 (a:Int)<wrap32 (b:Int))))
def av23 (a b:Nat):Int:=(b2i (decide (a<b)))
def av24 (a b:Nat):Int:=(bits .xor .u32 (a:Int) (b:Int))
def av25 (a b:Nat):Int:=(bits .or .u32 (a:Int) (b:Int))
def av26 (a b:Nat):Int:=(bits .and .u32 (a:Int) (b:Int))
def av27 (a b:Nat):Int:=((a:Int)*2 ^ (b%32)%4294967296)
def av28 (a b:Nat):Int:=((a:Int)/2 ^ (b%32))
def av29 (a b:Nat):Int:=(wrap32 (a:Int)/2 ^ (b%32)%4294967296)
def av30 (a b:Nat):Int:=(((a:Int)+(b:Int))%4294967296)
def av31 (a b:Nat):Int:=(((a:Int)-(b:Int))%4294967296)
def av32 (a b:Nat):Int:=((a:Int)*2 ^ (b%32)%4294967296)
def av33 (a b:Nat):Int:=(b2i (decide (wrap32 (a:Int)<wrap32 (b:Int))))
def av34 (a b:Nat):Int:=(b2i (decide (a<b)))
def av35 (a b:Nat):Int:=(bits .xor .u32 (a:Int) (b:Int))
def av36 (a b:Nat):Int:=((a:Int)/2 ^ (b%32))
def av37 (a b:Nat):Int:=(wrap32 (a:Int)/2 ^ (b%32)%4294967296)
def av38 (a b:Nat):Int:=(bits .or .u32 (a:Int) (b:Int))
def av39 (a b:Nat):Int:=(bits .and .u32 (a:Int) (b:Int))
def av40 (a b:Nat):Int:=((a:Int)*(b:Int)%4294967296)
def av41 (a b:Nat):Int:=(wrap32 (a:Int)*wrap32 (b:Int)/4294967296%4294967296)
def av42 (a b:Nat):Int:=(wrap32 (a:Int)*(b:Int)/4294967296%4294967296)
def av43 (a b:Nat):Int:=((a:Int)*(b:Int)/4294967296)
def av44 (a b:Nat):Int:=(qv a b)
def av45 (a b:Nat):Int:=(if b=0 then 4294967295 else (a:Int)/(b:Int))
def av46 (a b:Nat):Int:=(((a:Int)-qv a b*(b:Int))%4294967296)
def av47 (a b:Nat):Int:=(if b=0 then (a:Int) else (a:Int)%(b:Int))
def ai5 (a b:Nat):Bool:=((a:Int)==(b:Int))
def ai6 (a b:Nat):Bool:=((a:Int) != (b:Int))
def ai7 (a b:Nat):Bool:=(decide (wrap32 (a:Int)<wrap32 (b:Int)))
def ai8 (a b:Nat):Bool:=(decide (wrap32 (b:Int)≤wrap32 (a:Int)))
def ai9 (a b:Nat):Bool:=(decide (a<b))
def ai10 (a b:Nat):Bool:=(decide (b≤a))
def alv (o a b:Nat):Int :=
 if o=21 then av21 a b else if o=22 then av22 a b else if o=23 then av23 a b else if o=24 then av24 a b else if o=25 then av25 a b else if o=26 then av26 a b else if o=27 then av27 a b else if o=28 then av28 a b else if o=29 then av29 a b else if o=30 then av30 a b else if o=31 then av31 a b else if o=32 then av32 a b else if o=33 then av33 a b else if o=34 then av34 a b else if o=35 then av35 a b else if o=36 then av36 a b else if o=37 then av37 a b else if o=38 then av38 a b else if o=39 then av39 a b else if o=40 then av40 a b else if o=41 then av41 a b else if o=42 then av42 a b else if o=43 then av43 a b else if o=44 then av44 a b else if o=45 then av45 a b else if o=46 then av46 a b else if o=47 then av47 a b else 0
def ali (o a b:Nat):Bool :=
 if o=5 then ai5 a b else if o=6 then ai6 a b else if o=7 then ai7 a b else if o=8 then ai8 a b else if o=9 then ai9 a b else if o=10 then ai10 a b else false
theorem alv21 (a b:Nat):alv 21 a b=av21 a b:=by
 unfold alv
 simp only [Nat.reduceEqDiff,if_false,if_true]
theorem alv22 (a b:Nat):alv 22 a b=av22 a b:=by
 unfold alv
 simp only [Nat.reduceEqDiff,if_false,if_true]
theorem alv23 (a b:Nat):alv 23 a b=av23 a b:=by
 unfold alv
 simp only [Nat.reduceEqDiff,if_false,if_true]
theorem alv24 (a b:Nat):alv 24 a b=av24 a b:=by
 unfold alv
 simp only [Nat.reduceEqDiff,if_false,if_true]
theorem alv25 (a b:Nat):alv 25 a b=av25 a b:=by
 unfold alv
 simp only [Nat.reduceEqDiff,if_false,if_true]
theorem alv26 (a b:Nat):alv 26 a b=av26 a b:=by
 unfold alv
 simp only [Nat.reduceEqDiff,if_false,if_true]
theorem alv27 (a b:Nat):alv 27 a b=av27 a b:=by
 unfold alv
 simp only [Nat.reduceEqDiff,if_false,if_true]
theorem alv28 (a b:Nat):alv 28 a b=av28 a b:=by
 unfold alv
 simp only [Nat.reduceEqDiff,if_false,if_true]
theorem alv29 (a b:Nat):alv 29 a b=av29 a b:=by
 unfold alv
 simp only [Nat.reduceEqDiff,if_false,if_true]
theorem alv30 (a b:Nat):alv 30 a b=av30 a b:=by
 unfold alv
 simp only [Nat.reduceEqDiff,if_false,if_true]
theorem alv31 (a b:Nat):alv 31 a b=av31 a b:=by
 unfold alv
 simp only [Nat.reduceEqDiff,if_false,if_true]
theorem alv32 (a b:Nat):alv 32 a b=av32 a b:=by
 unfold alv
 simp only [Nat.reduceEqDiff,if_false,if_true]
theorem alv33 (a b:Nat):alv 33 a b=av33 a b:=by
 unfold alv
 simp only [Nat.reduceEqDiff,if_false,if_true]
theorem alv34 (a b:Nat):alv 34 a b=av34 a b:=by
 unfold alv
 simp only [Nat.reduceEqDiff,if_false,if_true]
theorem alv35 (a b:Nat):alv 35 a b=av35 a b:=by
 unfold alv
 simp only [Nat.reduceEqDiff,if_false,if_true]
theorem alv36 (a b:Nat):alv 36 a b=av36 a b:=by
 unfold alv
 simp only [Nat.reduceEqDiff,if_false,if_true]
theorem alv37 (a b:Nat):alv 37 a b=av37 a b:=by
 unfold alv
 simp only [Nat.reduceEqDiff,if_false,if_true]
theorem alv38 (a b:Nat):alv 38 a b=av38 a b:=by
 unfold alv
 simp only [Nat.reduceEqDiff,if_false,if_true]
theorem alv39 (a b:Nat):alv 39 a b=av39 a b:=by
 unfold alv
 simp only [Nat.reduceEqDiff,if_false,if_true]
theorem alv40 (a b:Nat):alv 40 a b=av40 a b:=by
 unfold alv
 simp only [Nat.reduceEqDiff,if_false,if_true]
theorem alv41 (a b:Nat):alv 41 a b=av41 a b:=by
 unfold alv
 simp only [Nat.reduceEqDiff,if_false,if_true]
theorem alv42 (a b:Nat):alv 42 a b=av42 a b:=by
 unfold alv
 simp only [Nat.reduceEqDiff,if_false,if_true]
theorem alv43 (a b:Nat):alv 43 a b=av43 a b:=by
 unfold alv
 simp only [Nat.reduceEqDiff,if_false,if_true]
theorem alv44 (a b:Nat):alv 44 a b=av44 a b:=by
 unfold alv
 simp only [Nat.reduceEqDiff,if_false,if_true]
theorem alv45 (a b:Nat):alv 45 a b=av45 a b:=by
 unfold alv
 simp only [Nat.reduceEqDiff,if_false,if_true]
theorem alv46 (a b:Nat):alv 46 a b=av46 a b:=by
 unfold alv
 simp only [Nat.reduceEqDiff,if_false,if_true]
theorem alv47 (a b:Nat):alv 47 a b=av47 a b:=by
 unfold alv
 simp only [Nat.reduceEqDiff,if_false,if_true]
theorem ali5 (a b:Nat):ali 5 a b=ai5 a b:=by
 unfold ali
 simp only [Nat.reduceEqDiff,if_false,if_true]
theorem ali6 (a b:Nat):ali 6 a b=ai6 a b:=by
 unfold ali
 simp only [Nat.reduceEqDiff,if_false,if_true]
theorem ali7 (a b:Nat):ali 7 a b=ai7 a b:=by
 unfold ali
 simp only [Nat.reduceEqDiff,if_false,if_true]
theorem ali8 (a b:Nat):ali 8 a b=ai8 a b:=by
 unfold ali
 simp only [Nat.reduceEqDiff,if_false,if_true]
theorem ali9 (a b:Nat):ali 9 a b=ai9 a b:=by
 unfold ali
 simp only [Nat.reduceEqDiff,if_false,if_true]
theorem ali10 (a b:Nat):ali 10 a b=ai10 a b:=by
 unfold ali
 simp only [Nat.reduceEqDiff,if_false,if_true]
theorem b2i_nn (p:Bool):0≤b2i p:=by cases p <;> decide
theorem bits_nn (a b:Nat) (ha:a<4294967296) (hb:b<4294967296):0≤bits .and .u32 (a:Int) (b:Int)∧0≤bits .or .u32 (a:Int) (b:Int)∧0≤bits .xor .u32 (a:Int) (b:Int):=by
 rw [u32_and_nat a b ha hb,u32_or_nat a b ha hb,u32_xor_nat a b ha hb]
 exact ⟨by omega,by omega,by omega⟩
theorem pw_nn (k:Nat):(0:Int)≤2 ^ k:=Int.le_of_lt (Int.pow_pos (by decide))
theorem avn21 (a b:Nat) (ha:a<4294967296) (hb:b<4294967296):0≤av21 a b:=by
 unfold av21
 exact Int.emod_nonneg _ (by decide)
theorem avn22 (a b:Nat) (ha:a<4294967296) (hb:b<4294967296):0≤av22 a b:=by
 unfold av22
 exact b2i_nn _
theorem avn23 (a b:Nat) (ha:a<4294967296) (hb:b<4294967296):0≤av23 a b:=by
 unfold av23
 exact b2i_nn _
theorem avn24 (a b:Nat) (ha:a<4294967296) (hb:b<4294967296):0≤av24 a b:=by
 unfold av24
 exact (bits_nn a b ha hb).2.2
theorem avn25 (a b:Nat) (ha:a<4294967296) (hb:b<4294967296):0≤av25 a b:=by
 unfold av25
 exact (bits_nn a b ha hb).2.1
theorem avn26 (a b:Nat) (ha:a<4294967296) (hb:b<4294967296):0≤av26 a b:=by
 unfold av26
 exact (bits_nn a b ha hb).1
theorem avn27 (a b:Nat) (ha:a<4294967296) (hb:b<4294967296):0≤av27 a b:=by
 unfold av27
 exact Int.emod_nonneg _ (by decide)
theorem avn28 (a b:Nat) (ha:a<4294967296) (hb:b<4294967296):0≤av28 a b:=by
 unfold av28
 exact Int.ediv_nonneg (Int.natCast_nonneg a) (pw_nn _)
theorem avn29 (a b:Nat) (ha:a<4294967296) (hb:b<4294967296):0≤av29 a b:=by
 unfold av29
 exact Int.emod_nonneg _ (by decide)
theorem avn30 (a b:Nat) (ha:a<4294967296) (hb:b<4294967296):0≤av30 a b:=by
 unfold av30
 exact Int.emod_nonneg _ (by decide)
theorem avn31 (a b:Nat) (ha:a<4294967296) (hb:b<4294967296):0≤av31 a b:=by
 unfold av31
 exact Int.emod_nonneg _ (by decide)
theorem avn32 (a b:Nat) (ha:a<4294967296) (hb:b<4294967296):0≤av32 a b:=by
 unfold av32
 exact Int.emod_nonneg _ (by decide)
theorem avn33 (a b:Nat) (ha:a<4294967296) (hb:b<4294967296):0≤av33 a b:=by
 unfold av33
 exact b2i_nn _
theorem avn34 (a b:Nat) (ha:a<4294967296) (hb:b<4294967296):0≤av34 a b:=by
 unfold av34
 exact b2i_nn _
theorem avn35 (a b:Nat) (ha:a<4294967296) (hb:b<4294967296):0≤av35 a b:=by
 unfold av35
 exact (bits_nn a b ha hb).2.2
theorem avn36 (a b:Nat) (ha:a<4294967296) (hb:b<4294967296):0≤av36 a b:=by
 unfold av36
 exact Int.ediv_nonneg (Int.natCast_nonneg a) (pw_nn _)
theorem avn37 (a b:Nat) (ha:a<4294967296) (hb:b<4294967296):0≤av37 a b:=by
 unfold av37
 exact Int.emod_nonneg _ (by decide)
theorem avn38 (a b:Nat) (ha:a<4294967296) (hb:b<4294967296):0≤av38 a b:=by
 unfold av38
 exact (bits_nn a b ha hb).2.1
theorem avn39 (a b:Nat) (ha:a<4294967296) (hb:b<4294967296):0≤av39 a b:=by
 unfold av39
 exact (bits_nn a b ha hb).1
theorem avn40 (a b:Nat) (ha:a<4294967296) (hb:b<4294967296):0≤av40 a b:=by
 unfold av40
 exact Int.emod_nonneg _ (by decide)
theorem avn41 (a b:Nat) (ha:a<4294967296) (hb:b<4294967296):0≤av41 a b:=by
 unfold av41
 exact Int.emod_nonneg _ (by decide)
theorem avn42 (a b:Nat) (ha:a<4294967296) (hb:b<4294967296):0≤av42 a b:=by
 unfold av42
 exact Int.emod_nonneg _ (by decide)
theorem avn43 (a b:Nat) (ha:a<4294967296) (hb:b<4294967296):0≤av43 a b:=by
 unfold av43
 exact Int.ediv_nonneg (Int.mul_nonneg (Int.natCast_nonneg a) (Int.natCast_nonneg b)) (by decide)
theorem avn44 (a b:Nat) (ha:a<4294967296) (hb:b<4294967296):0≤av44 a b:=by
 unfold av44
 exact (qv_lt a b).1
theorem avn45 (a b:Nat) (ha:a<4294967296) (hb:b<4294967296):0≤av45 a b:=by
 unfold av45
 split
 ·decide
 ·exact Int.ediv_nonneg (Int.natCast_nonneg a) (Int.natCast_nonneg b)
theorem avn46 (a b:Nat) (ha:a<4294967296) (hb:b<4294967296):0≤av46 a b:=by
 unfold av46
 exact Int.emod_nonneg _ (by decide)
theorem avn47 (a b:Nat) (ha:a<4294967296) (hb:b<4294967296):0≤av47 a b:=by
 unfold av47
 split
 ·exact Int.natCast_nonneg a
 ·exact Int.emod_nonneg _ (by omega)
def aluD (o a b:Nat):Nat:=(alv o a b).toNat
theorem aluD_eq (o a b:Nat) (x:Int) (h:alv o a b=x) (hx:0≤x):((aluD o a b:Nat):Int)=x:=by
 unfold aluD
 rw [h]
 exact Int.toNat_of_nonneg hx
theorem alu_d (o a b:Nat) (h1:21≤o) (h2:o≤47) (ha:a<4294967296) (hb:b<4294967296) (w:World):Calls Tryz.prog 139 #[.int .u8 (o:Int),.int .u32 (a:Int),.int .u32 (b:Int)] w fun en w'=>en=.returned (.tuple #[.int .u32 (aluD o a b:Int),.int .i64 0])∧w=w':=by
 rcases (by omega:o=21∨o=22∨o=23∨o=24∨o=25∨o=26∨o=27∨o=28∨o=29∨o=30∨o=31∨o=32∨o=33∨o=34∨o=35∨o=36∨o=37∨o=38∨o=39∨o=40∨o=41∨o=42∨o=43∨o=44∨o=45∨o=46∨o=47) with h | h | h | h | h | h | h | h | h | h | h | h | h | h | h | h | h | h | h | h | h | h | h | h | h | h | h
 ·subst h;rw [aluD_eq 21 a b _ (alv21 a b) (avn21 a b ha hb)];exact Al.do21 a b ha hb w
 ·subst h;rw [aluD_eq 22 a b _ (alv22 a b) (avn22 a b ha hb)];exact Al.do22 a b ha hb w
 ·subst h;rw [aluD_eq 23 a b _ (alv23 a b) (avn23 a b ha hb)];exact Al.do23 a b ha hb w
 ·subst h;rw [aluD_eq 24 a b _ (alv24 a b) (avn24 a b ha hb)];exact Al.do24 a b ha hb w
 ·subst h;rw [aluD_eq 25 a b _ (alv25 a b) (avn25 a b ha hb)];exact Al.do25 a b ha hb w
 ·subst h;rw [aluD_eq 26 a b _ (alv26 a b) (avn26 a b ha hb)];exact Al.do26 a b ha hb w
 ·subst h;rw [aluD_eq 27 a b _ (alv27 a b) (avn27 a b ha hb)];exact Al.do27 a b ha hb w
 ·subst h;rw [aluD_eq 28 a b _ (alv28 a b) (avn28 a b ha hb)];exact Al.do28 a b ha hb w
 ·subst h;rw [aluD_eq 29 a b _ (alv29 a b) (avn29 a b ha hb)];exact Al.do29 a b ha hb w
 ·subst h;rw [aluD_eq 30 a b _ (alv30 a b) (avn30 a b ha hb)];exact Al.do30 a b ha hb w
 ·subst h;rw [aluD_eq 31 a b _ (alv31 a b) (avn31 a b ha hb)];exact Al.do31 a b ha hb w
 ·subst h;rw [aluD_eq 32 a b _ (alv32 a b) (avn32 a b ha hb)];exact Al.do32 a b ha hb w
 ·subst h;rw [aluD_eq 33 a b _ (alv33 a b) (avn33 a b ha hb)];exact Al.do33 a b ha hb w
 ·subst h;rw [aluD_eq 34 a b _ (alv34 a b) (avn34 a b ha hb)];exact Al.do34 a b ha hb w
 ·subst h;rw [aluD_eq 35 a b _ (alv35 a b) (avn35 a b ha hb)];exact Al.do35 a b ha hb w
 ·subst h;rw [aluD_eq 36 a b _ (alv36 a b) (avn36 a b ha hb)];exact Al.do36 a b ha hb w
 ·subst h;rw [aluD_eq 37 a b _ (alv37 a b) (avn37 a b ha hb)];exact Al.do37 a b ha hb w
 ·subst h;rw [aluD_eq 38 a b _ (alv38 a b) (avn38 a b ha hb)];exact Al.do38 a b ha hb w
 ·subst h;rw [aluD_eq 39 a b _ (alv39 a b) (avn39 a b ha hb)];exact Al.do39 a b ha hb w
 ·subst h;rw [aluD_eq 40 a b _ (alv40 a b) (avn40 a b ha hb)];exact Al.do40 a b ha hb w
 ·subst h;rw [aluD_eq 41 a b _ (alv41 a b) (avn41 a b ha hb)];exact Al.do41 a b ha hb w
 ·subst h;rw [aluD_eq 42 a b _ (alv42 a b) (avn42 a b ha hb)];exact Al.do42 a b ha hb w
 ·subst h;rw [aluD_eq 43 a b _ (alv43 a b) (avn43 a b ha hb)];exact Al.do43 a b ha hb w
 ·subst h;rw [aluD_eq 44 a b _ (alv44 a b) (avn44 a b ha hb)];exact Al.do44 a b ha hb w
 ·subst h;rw [aluD_eq 45 a b _ (alv45 a b) (avn45 a b ha hb)];exact Al.do45 a b ha hb w
 ·subst h;rw [aluD_eq 46 a b _ (alv46 a b) (avn46 a b ha hb)];exact Al.do46 a b ha hb w
 ·subst h;rw [aluD_eq 47 a b _ (alv47 a b) (avn47 a b ha hb)];exact Al.do47 a b ha hb w
theorem alu_i (o a b:Nat) (h1:5≤o) (h2:o≤10) (ha:a<4294967296) (hb:b<4294967296) (w:World):Calls Tryz.prog 135 #[.int .u8 (o:Int),.int .u32 (a:Int),.int .u32 (b:Int)] w fun en w'=>en=.returned (.tuple #[.bool (ali o a b),.int .i64 0])∧w=w':=by
 rcases (by omega:o=5∨o=6∨o=7∨o=8∨o=9∨o=10) with h | h | h | h | h | h
 ·subst h;rw [ali5];exact Al.is5 a b ha hb w
 ·subst h;rw [ali6];exact Al.is6 a b ha hb w
 ·subst h;rw [ali7];exact Al.is7 a b ha hb w
 ·subst h;rw [ali8];exact Al.is8 a b ha hb w
 ·subst h;rw [ali9];exact Al.is9 a b ha hb w
 ·subst h;rw [ali10];exact Al.is10 a b ha hb w
theorem alu_ok:AluOk aluD ali where
 d o a b h1 h2 ha hb:=⟨0,fun w=>alu_d o a b h1 h2 ha hb w⟩
 i o a b h1 h2 ha hb:=⟨0,fun w=>alu_i o a b h1 h2 ha hb w⟩
end Go.Proofs.YtnkoknfihhdelaaGreatDoor
