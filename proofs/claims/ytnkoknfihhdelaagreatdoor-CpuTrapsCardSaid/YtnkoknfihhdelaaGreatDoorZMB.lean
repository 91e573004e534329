import Derived.Test.YtnkoknfihhdelaaGreatDoorZMA
namespace Go.Proofs.YtnkoknfihhdelaaGreatDoor
open Go.ChangeShapes Go.WideShapes Go.ChangeAt Go.RowKit
set_option linter.unusedVariables false
theorem Zne:¬ Z=#[]:=fun h=>by have:=Zsize;rw [h] at this;simp at this
noncomputable def Z1:Array Value:=Z.setIfInBounds 0 (.bool true)
theorem Z1size:Z1.size=73729:=by unfold Z1;rw [Array.size_setIfInBounds];exact Zsize
theorem Z1_0:Z1[0]?=some (.bool true):=by
 unfold Z1
 rw [Array.getElem?_setIfInBounds_self_of_lt (by rw [Zsize];omega)]
theorem Z1_at (i:Nat) (h:i≠0):Z1[i]?=Z[i]?:=by
 unfold Z1
 rw [Array.getElem?_setIfInBounds_ne (by omega)]
def Me (w:World) (b:Nat) (C:Array Value):Prop:=Blk w b 69 C∧C.size=73729∧C[0]?=some (.bool true)
theorem new7 (w:World):Calls Tryz.prog 20 #[] w fun e w'=>e=.returned (.pointer (some ⟨w.heap.size,0,none⟩))∧Below w.heap.size w w'∧w'.heap.size=w.heap.size+1∧Me w' w.heap.size Z1:=by
 have hz:=zeroValue64
 have hne:=Zne
 go_enter Tryz.func20,Tryz.ntmps20
 go_wp2_with fail
 go_ret
 exact ⟨rfl,(Below.refl _ _).alloc (Nat.le_refl _) _,by simp,Blk.new _ _ _,Z1size,Z1_0⟩
theorem there0 (w:World):Calls Tryz.prog 49 #[.pointer none] w fun e w'=>e=.returned (.bool false)∧w=w':=by
 go_enter Tryz.func49,Tryz.ntmps49
 go_wp2
 go_ret
 exact ⟨rfl,rfl⟩
theorem there1 (b:Nat) (x:Bool) (w:World) (h:w.cell? ⟨b,0,none⟩=some (.bool x)):Calls Tryz.prog 49 #[.pointer (some ⟨b,0,none⟩)] w fun e w'=>e=.returned (.bool x)∧w=w':=by
 go_enter Tryz.func49,Tryz.ntmps49
 go_wp2
 go_ret
 exact ⟨rfl,rfl⟩
theorem Me.there {w:World} {b:Nat} {C:Array Value} (h:Me w b C):Calls Tryz.prog 49 #[.pointer (some ⟨b,0,none⟩)] w fun e w'=>e=.returned (.bool true)∧w=w' :=
 there1 b true w (by rw [h.1.cell];exact h.2.2)
def wordB (at_:Nat) (s:Int):Bool:=decide ((s=1∨s=2∨s=4)∧at_<65536∧(at_:Int)%s=0)
theorem word_bad (n:Nat) (s:Int) (h1:s≠1) (h2:s≠2) (h4:s≠4) (w:World):Calls Tryz.prog 53 #[.int .u32 (n:Int),.int .i64 s] w fun e w'=>e=.returned (.bool false)∧w=w':=by
 have t1:(s != 1)=true:=by simp;omega
 have t2:(s != 2)=true:=by simp;omega
 have t4:(s != 4)=true:=by simp;omega
 clear h1 h2 h4
 go_enter Tryz.func53,Tryz.ntmps53
 go_wp2_with fail
 go_ret
 exact ⟨rfl,rfl⟩
theorem word_far (n:Nat) (s:Int) (hs:s=1∨s=2∨s=4) (h:65536≤n) (w:World):Calls Tryz.prog 53 #[.int .u32 (n:Int),.int .i64 s] w fun e w'=>e=.returned (.bool false)∧w=w':=by
 have d:decide ((n:Int)<65536)=false:=by simp;omega
 rcases hs with rfl | rfl | rfl
 all_goals
  go_enter Tryz.func53,Tryz.ntmps53
  go_wp2_with fail
  go_ret
  exact ⟨rfl,rfl⟩
theorem word_at (n:Nat) (s:Int) (b:Bool) (hs:s=1∨s=2∨s=4) (h:n<65536) (hb:decide ((n:Int)%s=0)=b) (w:World):Calls Tryz.prog 53 #[.int .u32 (n:Int),.int .i64 s] w fun e w'=>e=.returned (.bool b)∧w=w':=by
 have d:decide ((n:Int)<65536)=true:=by simp;omega
 rcases hs with rfl | rfl | rfl
 all_goals
  go_enter Tryz.func53,Tryz.ntmps53
  go_wp2_with fail
  go_ret
  refine ⟨retb ?_,rfl⟩
  rw [←hb,Bool.eq_iff_iff]
  simp
theorem c30 (n:Nat) (s:Int) (w:World):Calls Tryz.prog 53 #[.int .u32 (n:Int),.int .i64 s] w fun e w'=>e=.returned (.bool (wordB n s))∧w=w':=by
 unfold wordB
 by_cases hs:s=1∨s=2∨s=4
 ·by_cases hn:n<65536
  ·have:=word_at n s (decide ((n:Int)%s=0)) hs hn rfl w
   rw [show decide ((s=1∨s=2∨s=4)∧n<65536∧(n:Int)%s=0)=decide ((n:Int)%s=0) by rw [Bool.eq_iff_iff];simp [hs,hn]]
   exact this
  ·rw [show decide ((s=1∨s=2∨s=4)∧n<65536∧(n:Int)%s=0)=false by simp [hn]]
   exact word_far n s hs (by omega) w
 ·rw [show decide ((s=1∨s=2∨s=4)∧n<65536∧(n:Int)%s=0)=false by simp [hs]]
  exact word_bad n s (fun h=>hs (Or.inl h)) (fun h=>hs (Or.inr (Or.inl h))) (fun h=>hs (Or.inr (Or.inr h))) w
def granB (n:Nat):Bool:=decide (n<65536)&&decide (n%8=0)
theorem c31 (n:Nat) (w:World):Calls Tryz.prog 51 #[.int .u32 (n:Int)] w fun e w'=>e=.returned (.bool (granB n))∧w=w':=by
 by_cases hn:n<65536
 ·have d:decide ((n:Int)<65536)=true:=by simp;omega
  go_enter Tryz.func51,Tryz.ntmps51
  go_wp2_with fail
  go_ret
  refine ⟨retb ?_,rfl⟩
  unfold granB
  rw [Bool.eq_iff_iff]
  simp [hn]
  omega
 ·have d:decide ((n:Int)<65536)=false:=by simp;omega
  go_enter Tryz.func51,Tryz.ntmps51
  go_wp2_with fail
  go_ret
  refine ⟨retb ?_,rfl⟩
  unfold granB
  rw [Bool.eq_iff_iff]
  simp [hn]
end Go.Proofs.YtnkoknfihhdelaaGreatDoor
