import Derived.Test.YtnkoknfihhdelaaGreatDoorZMB
import Derived.Test.YtnkoknfihhdelaaGreatDoorZME
import Derived.Test.YtnkoknfihhdelaaGreatDoorZMF
namespace Go.Proofs.YtnkoknfihhdelaaGreatDoor
open Go.ChangeShapes Go.WideShapes Go.ChangeAt Go.RowKit
set_option linter.unusedVariables false
set_option maxHeartbeats 1000000 in
theorem load1 (b at_ x:Nat) (C:Array Value) (w:World) (hm:Me w b C) (ha:at_<65536) (hw:wordB at_ 1=true) (hx:x<256) (h0:C[1+at_]?=some (.int .u8 (x:Int))) :
  Calls Tryz.prog 27 #[.pointer (some ⟨b,0,none⟩),.int .u32 (at_:Int),.int .i64 1] w fun e w'=>e=.returned (.tuple #[.int .u32 (x:Int),.int .i64 0])∧w=w':=by
 have KT:=Lib.hid hm.there
 have K:=Lib.hid (c30 at_ 1)
 rw [hw] at K
 have c0:w.cell? ⟨b,1+at_,none⟩=some (.int .u8 (x:Int)):=by rw [hm.1.cell];exact h0
 clear hm h0 hw
 have hi:(at_:Int)<65536:=by omega
 have ho:bits .or .u32 0 (x:Int)=(x:Int):=by
  have:=u32_or_nat 0 x (by omega) (by omega)
  simpa using this
 go_enter Tryz.func27,Tryz.ntmps27
 go_wp2_with fail
 refine KT.out.mono ?_
 rintro _ _ ⟨rfl,rfl⟩
 go_wp2_with fail
 refine (K.out _).mono ?_
 rintro _ _ ⟨rfl,rfl⟩
 go_wp2_with fail
 go_loop [8,9] (fun t i=>(i=.int .i64 0∧t=.int .u32 0)∨(i=.int .i64 (-1)∧t=.int .u32 (x:Int))) (fun _ i=>(1+intOf i).toNat)
 case atStart=>exact Or.inl ⟨rfl,rfl⟩
 case round =>
  rcases hrel with ⟨rfl,rfl⟩ | ⟨rfl,rfl⟩
  ·go_wp2_with fail
   go_round
   case rel=>exact Or.inr ⟨rfl,rfl⟩
   case measure=>simp [intOf]
  ·go_wp2_with fail
   go_ret2
   exact ⟨rfl,rfl⟩
end Go.Proofs.YtnkoknfihhdelaaGreatDoor
namespace Go.Proofs.YtnkoknfihhdelaaGreatDoor
open Go.ChangeShapes Go.WideShapes Go.ChangeAt Go.RowKit
open Cp (cp arr mt num4)
set_option linter.unusedVariables false
set_option maxRecDepth 100000
theorem scC_at {C:Array Value} (hC:C.size=73729) (at_:Nat) (ha:at_+8≤65536) (g:Bool) (l:List Value) (hl:l.length=8) (j:Nat) (v:Value) (hj:l[j]?=some v):(scC C at_ l g)[1+at_+j]?=some v:=by
 have hlt:j<l.length:=by
  rcases Nat.lt_or_ge j l.length with h | h
  ·exact h
  ·rw [List.getElem?_eq_none h] at hj;cases hj
 unfold scC
 rw [Array.getElem?_setIfInBounds_ne (by omega),putA_in _ _ _ (by omega) j hlt]
 exact hj
theorem scC_tag {C:Array Value} (hC:C.size=73729) (at_:Nat) (ha:at_+8≤65536) (g:Bool) (l:List Value) (hl:l.length=8):(scC C at_ l g)[65537+at_/8]?=some (.bool g):=by
 unfold scC
 rw [Array.getElem?_setIfInBounds_self_of_lt (by rw [putA_size _ _ _ (by omega)];omega)]
theorem scC_size {C:Array Value} (hC:C.size=73729) (at_:Nat) (ha:at_+8≤65536) (g:Bool) (l:List Value) (hl:l.length=8):(scC C at_ l g).size=73729:=by
 unfold scC
 rw [Array.size_setIfInBounds,putA_size _ _ _ (by omega),hC]
theorem putB_in {C:Array Value} (at_ n:Nat):∀ (k j:Nat),j<k→at_+k<C.size→(putB C at_ n k)[1+(at_+j)]?=some (.int .u8 (bt n j:Int))
 | 0,j,h,_=>by omega
 | k+1,j,h,hs=>by
  unfold putB
  by_cases e:j=k
  ·rw [e,Array.getElem?_setIfInBounds_self_of_lt (by rw [putB_size];omega)]
  ·rw [Array.getElem?_setIfInBounds_ne (by omega)]
   exact putB_in at_ n k j (by omega) (by omega)
theorem putB_out {C:Array Value} (at_ n i:Nat):∀ k,(i<1+at_∨1+at_+k≤i)→(putB C at_ n k)[i]?=C[i]?
 | 0,_=>rfl
 | k+1,h=>by
  unfold putB
  rw [Array.getElem?_setIfInBounds_ne (by omega)]
  exact putB_out at_ n i k (by omega)
theorem One.putA_ {C:Array Value} (h:One C) (off:Nat) (l:List Value) (hl:l.all (·.oneCell')=true):One (putA C off l):=by
 unfold One putA at *
 rw [List.all_eq_true] at *
 intro x hx
 simp only [List.mem_append] at hx
 rcases hx with hx | hx | hx
 ·exact h x (List.mem_of_mem_take hx)
 ·exact hl x hx
 ·exact h x (List.mem_of_mem_drop hx)
theorem One.z1:One Z1:=One.set_ (show One Z from Zone) _ _ rfl
theorem bt_lt (n k:Nat):bt n k<256:=Nat.mod_lt _ (by omega)
def ofV (x0 x1 x2 x3 x4 x5 x6 x7:Nat) (g:Bool):Value:=cp g (num4 x0 x1 x2 x3) (num4 x4 x5 x6 x7%128) (num4 x4 x5 x6 x7/128%8) (num4 x4 x5 x6 x7/1024%16) (num4 x4 x5 x6 x7/16384%512) (num4 x4 x5 x6 x7/8388608%512)
end Go.Proofs.YtnkoknfihhdelaaGreatDoor
