import Derived.Test.YtnkoknfihhdelaaGreatDoorZMXA
import Derived.Test.YtnkoknfihhdelaaGreatDoorZMS
import Derived.Laws.AppendOwnNone
import Derived.Laws.CopyOwn
namespace Go.Proofs.YtnkoknfihhdelaaGreatDoor.Pt
open Go.ChangeShapes Go.WideShapes Go.ChangeAt Go.RowKit
set_option linter.unusedVariables false
set_option maxRecDepth 100000
theorem rowL_len (f:Nat→Nat) (n:Nat):(rowL f n).length=n:=by simp [rowL]
theorem Rd.news {w:World} {ad:Addr} {n:Nat} {f:Nat→Nat} (h:Rd w (some ad) n f):∀ j u,(rowL f n)[j]?=some u→w.cell? (ad.add j)=some u:=by
 intro j u hu
 have hj:j<n:=by
  rcases Nat.lt_or_ge j n with hj | hj
  ·exact hj
  ·rw [List.getElem?_eq_none (by rw [rowL_len];exact hj)] at hu;cases hu
 obtain ⟨b,o,e,hb,hc⟩:=h (by omega)
 injection e with e
 subst e
 rw [rowL_get f n j hj] at hu
 have e2:(⟨b,o,none⟩:Addr).add j=⟨b,o+j,none⟩:=by
  unfold Addr.add
  by_cases h0:j=0
  ·subst h0;rfl
  ·rw [if_neg h0]
 rw [e2,hc j hj]
 exact hu
theorem Rd.none_ {w:World} {n:Nat} {f:Nat→Nat} (h:Rd w none n f):n=0:=by
 rcases Nat.eq_zero_or_pos n with h0 | h0
 ·exact h0
 ·obtain ⟨b,o,e,_⟩:=h h0
  cases e
def PartOut (w:World) (n:Nat) (f:Nat→Nat) (e:Ending) (w':World):Prop:=∃ v,e=.returned (.tuple #[v,.int .i64 0])∧Below w.heap.size w w'∧w'.ownsRow w.heap.size 5 1 v n (rowL f n)
theorem own_empty (w:World) (cs:Array Value) (h:cs.size=0):(w.alloc (.cells cs 5)).ownsRow w.heap.size 5 1 (.slice (some ⟨w.heap.size,0,none⟩) 0 0) 0 [] :=
 ⟨rfl,.inr ⟨w.heap.size,0,cs,rfl,Nat.le_refl _,heap_alloc_new w _,Nat.le_refl _,by unfold maxLen;omega,by omega,by simp⟩⟩
set_option maxHeartbeats 2000000 in
theorem c16 (A:Option Addr) (n c p s:Nat) (f:Nat→Nat) (w:World) (hn:n≤c) (hc:c≤140737488351300) (hA:Rd w A n f) (hA0:A=none→c=0) (hp:p+s≤n) :
  Calls Tryz.prog 78 #[.slice A n c,.int .i64 (p:Int),.int .i64 (s:Int)] w (PartOut w s (fun j=>f (p+j))):=by
 have k28:=c28 A n c p s f w hn (by omega) hA hA0 hp
 have K28:=Lib.hid k28
 obtain ⟨g,hg⟩:∃ g,g=fun j=>f (p+j):=⟨_,rfl⟩
 rw [←hg]
 have HG:=Lib.hid hg
 obtain ⟨i0,hi,hz0,hz1,hz2⟩:=info_parts info5
 have hs:s≤140737488351300:=by omega
 clear hg k28 hA hA0 hp hn hc
 go_enter Tryz.func78,Tryz.ntmps78
 go_wp2_with fail
 refine K28.out.mono ?_
 rintro _ _ ⟨A',rfl,rfl,hR⟩
 rw [←HG.out] at hR
 clear HG K28
 have hown:=own_empty w #[] rfl
 rcases A' with _ | ad
 ·obtain rfl:s=0:=hR.none_
  go_wp2_with (at_builtin;refine wpList_append_own_none rfl (.tmp 20) (.tmp 21) 93 rfl w.heap.size 5 i0 1 Tryz.underlying93 hi _ 0 [] rfl hown rfl ?_)
  go_ret2
  exact ⟨_,rfl,(Below.refl _ _).alloc (Nat.le_refl _) _,hown⟩
 ·have hR':=(hR.below ((Below.refl _ _).alloc (Nat.le_refl _) (.cells #[] 5))).news
  have HR:=Lib.hid hR'
  clear hR hR'
  go_wp2_with (at_builtin;refine wpList_append_own _ rfl (.tmp 20) (.tmp 21) 93 rfl w.heap.size 5 i0 (.int .u8 0) 1 1 Tryz.underlying93 hi hz0 hz1 hz2 rfl (by decide) _ 0 [] rfl hown ad s s (rowL g s) rfl (by rw [rowL_len];omega) HR.out (rowL_one g s) (by unfold maxLen;omega) (by omega) (by simp) ?_;intro v2 w2 hown2 hg2 _)
  go_ret2
  refine ⟨_,rfl,((Below.refl _ _).alloc (Nat.le_refl _) _).grown hg2 (by simp) (fun k hk=>?_),by simpa using hown2⟩
  have hk2:some w.heap.size=some k:=hk
  injection hk2 with hk2
  omega
theorem size5:(Tryz.prog.info? 5).map (·.size)=some 1:=by kernel_rfl
end Go.Proofs.YtnkoknfihhdelaaGreatDoor.Pt
namespace Go.Proofs.YtnkoknfihhdelaaGreatDoor
open Go.ChangeShapes Go.WideShapes Go.ChangeAt Go.RowKit
set_option linter.unusedVariables false
set_option maxRecDepth 100000
theorem sliceAll (b:Nat) (w:World) :
  (Instr.sliceAt 66 (.pointer (some ⟨b,1,none⟩)) none none none).run Tryz.prog w=.ok (.slice (some ⟨b,1,none⟩) 65536 65536) w:=by
 have e:Tryz.prog.arrayLen 66=65536:=by kernel_rfl
 rw [run_sliceAt_array_all w 66 ⟨b,1,none⟩ (by kernel_rfl)]
 rw [show (sizeOf (Tryz.prog.elem 66)).run Tryz.prog w=.ok 1 w by kernel_rfl,e]
 rfl
theorem Rds.rd {w:World} {b:Nat} {C:Array Value} {B:Nat→Nat} {T:Nat→Bool} (hb:Blk w b 69 C) (r:Rds C B T):Pt.Rd w (some ⟨b,1,none⟩) 65536 B:=fun _ =>
 ⟨b,1,rfl,hb.lt,fun j hj=>by rw [hb.cell];exact r.bytes j hj⟩
theorem mBytes (b a n:Nat) (B:Nat→Nat) (T:Nat→Bool) (w:World) (hm:Mem w b B T) (h:a+n≤65536) :
  Calls Tryz.prog 40 #[.pointer (some ⟨b,0,none⟩),.int .i64 (a:Int),.int .i64 (n:Int)] w (Pt.PartOut w n (fun j=>B (a+j))):=by
 obtain ⟨C,hb,r⟩:=hm
 have KT:=Lib.hid (Mem.me hb r).there
 have hsl:=sliceAll b
 have KP:=Lib.hid (Pt.c16 (some ⟨b,1,none⟩) 65536 65536 a n B w (by omega) (by omega) (r.rd hb) (fun h=>by cases h) h)
 clear hb r h
 go_enter Tryz.func40,Tryz.ntmps40
 go_wp2_with fail
 refine KT.out.mono ?_
 rintro _ _ ⟨rfl,rfl⟩
 go_wp2_with fail
 refine KP.out.mono ?_
 rintro _ w1 ⟨v,rfl,q1,o1⟩
 go_wp2_with fail
 go_ret2
 exact ⟨v,rfl,q1,o1⟩
end Go.Proofs.YtnkoknfihhdelaaGreatDoor
