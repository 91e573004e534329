import Derived.Test.YtnkoknfihhdelaaGreatDoorZA
import Derived.Test.YtnkoknfihhdelaaGreatDoorZRa
import Derived.Test.YtnkoknfihhdelaaGreatDoorZRu
namespace Go.Proofs.YtnkoknfihhdelaaGreatDoor
open Go.ChangeShapes Go.WideShapes Go.ChangeAt Go.RowKit
set_option linter.unusedVariables false
set_option maxRecDepth 100000
set_option maxHeartbeats 1000000 in
theorem c61_flow_r (g:Nat) (k:WK) (o1:Nat) (z:Int) (P:World→Prop) (w:World) (h:Wk w g k) (ho:k.i.o=o1) (h1:1≤o1) (h2:o1≤10) (K:Calls Tryz.prog 92 #[.pointer (some ⟨g,0,none⟩)] w fun e w'=>e=.returned (.tuple #[])∧P w') :
  Calls Tryz.prog 61 #[.pointer (some ⟨g,0,none⟩)] w fun e w'=>e=.returned (.tuple #[])∧P w':=by
 have x:w.cell? ⟨g,303,none⟩=some (.int .u8 (o1:Int)):=by rw [←ho];exact h.cellT 0 303 rfl
 have hl:=Blk.lt h
 have K1:=Lib.hid K
 have b0:((o1:Int)==67)=false:=by rw [beq_eq_false_iff_ne];omega
 have b1:decide ((o1:Int)≤10)=true:=decide_eq_true (by omega)
 clear h ho K h1 h2
 go_enter Tryz.func61,Tryz.ntmps61
 go_wp2_with fail
 refine K1.out.mono ?_
 rintro _ w1 ⟨rfl,hP⟩
 have HP:=Lib.hid hP
 clear hP x
 go_wp2_with fail
 go_end0
 exact ⟨rfl,HP.out⟩
set_option maxHeartbeats 1000000 in
theorem c61_flow_p (g:Nat) (k:WK) (o1:Nat) (z:Int) (P:World→Prop) (w:World) (h:Wk w g k) (ho:k.i.o=o1) (h1:1≤o1) (h2:o1≤10) (K:Calls Tryz.prog 92 #[.pointer (some ⟨g,0,none⟩)] w fun e w'=>e=.panicked [{ v:=.iface 118 (.agg #[.int .u32 z]),recovered:=false }]∧P w') :
  Calls Tryz.prog 61 #[.pointer (some ⟨g,0,none⟩)] w fun e w'=>e=.panicked [{ v:=.iface 118 (.agg #[.int .u32 z]),recovered:=false }]∧P w':=by
 have x:w.cell? ⟨g,303,none⟩=some (.int .u8 (o1:Int)):=by rw [←ho];exact h.cellT 0 303 rfl
 have hl:=Blk.lt h
 have K1:=Lib.hid K
 have b0:((o1:Int)==67)=false:=by rw [beq_eq_false_iff_ne];omega
 have b1:decide ((o1:Int)≤10)=true:=decide_eq_true (by omega)
 clear h ho K h1 h2
 go_enter Tryz.func61,Tryz.ntmps61
 go_wp2_with fail
 refine K1.out.mono ?_
 rintro _ w1 ⟨rfl,hP⟩
 have HP:=Lib.hid hP
 clear hP x
 go_wp2_with fail
 exact ⟨rfl,rfl,HP.out⟩
set_option maxHeartbeats 1000000 in
theorem c61_load_r (g:Nat) (k:WK) (o1:Nat) (z:Int) (P:World→Prop) (w:World) (h:Wk w g k) (ho:k.i.o=o1) (h1:11≤o1) (h2:o1≤16) (K:Calls Tryz.prog 93 #[.pointer (some ⟨g,0,none⟩)] w fun e w'=>e=.returned (.tuple #[])∧P w') :
  Calls Tryz.prog 61 #[.pointer (some ⟨g,0,none⟩)] w fun e w'=>e=.returned (.tuple #[])∧P w':=by
 have x:w.cell? ⟨g,303,none⟩=some (.int .u8 (o1:Int)):=by rw [←ho];exact h.cellT 0 303 rfl
 have hl:=Blk.lt h
 have K1:=Lib.hid K
 have b0:((o1:Int)==67)=false:=by rw [beq_eq_false_iff_ne];omega
 have b1:decide ((o1:Int)≤10)=false:=decide_eq_false (by omega)
 have b2:decide ((o1:Int)≤16)=true:=decide_eq_true (by omega)
 clear h ho K h1 h2
 go_enter Tryz.func61,Tryz.ntmps61
 go_wp2_with fail
 refine K1.out.mono ?_
 rintro _ w1 ⟨rfl,hP⟩
 have HP:=Lib.hid hP
 clear hP x
 go_wp2_with fail
 go_end0
 exact ⟨rfl,HP.out⟩
set_option maxHeartbeats 1000000 in
theorem c61_load_p (g:Nat) (k:WK) (o1:Nat) (z:Int) (P:World→Prop) (w:World) (h:Wk w g k) (ho:k.i.o=o1) (h1:11≤o1) (h2:o1≤16) (K:Calls Tryz.prog 93 #[.pointer (some ⟨g,0,none⟩)] w fun e w'=>e=.panicked [{ v:=.iface 118 (.agg #[.int .u32 z]),recovered:=false }]∧P w') :
  Calls Tryz.prog 61 #[.pointer (some ⟨g,0,none⟩)] w fun e w'=>e=.panicked [{ v:=.iface 118 (.agg #[.int .u32 z]),recovered:=false }]∧P w':=by
 have x:w.cell? ⟨g,303,none⟩=some (.int .u8 (o1:Int)):=by rw [←ho];exact h.cellT 0 303 rfl
 have hl:=Blk.lt h
 have K1:=Lib.hid K
 have b0:((o1:Int)==67)=false:=by rw [beq_eq_false_iff_ne];omega
 have b1:decide ((o1:Int)≤10)=false:=decide_eq_false (by omega)
 have b2:decide ((o1:Int)≤16)=true:=decide_eq_true (by omega)
 clear h ho K h1 h2
 go_enter Tryz.func61,Tryz.ntmps61
 go_wp2_with fail
 refine K1.out.mono ?_
 rintro _ w1 ⟨rfl,hP⟩
 have HP:=Lib.hid hP
 clear hP x
 go_wp2_with fail
 exact ⟨rfl,rfl,HP.out⟩
set_option maxHeartbeats 1000000 in
theorem c61_store_r (g:Nat) (k:WK) (o1:Nat) (z:Int) (P:World→Prop) (w:World) (h:Wk w g k) (ho:k.i.o=o1) (h1:17≤o1) (h2:o1≤20) (K:Calls Tryz.prog 94 #[.pointer (some ⟨g,0,none⟩)] w fun e w'=>e=.returned (.tuple #[])∧P w') :
  Calls Tryz.prog 61 #[.pointer (some ⟨g,0,none⟩)] w fun e w'=>e=.returned (.tuple #[])∧P w':=by
 have x:w.cell? ⟨g,303,none⟩=some (.int .u8 (o1:Int)):=by rw [←ho];exact h.cellT 0 303 rfl
 have hl:=Blk.lt h
 have K1:=Lib.hid K
 have b0:((o1:Int)==67)=false:=by rw [beq_eq_false_iff_ne];omega
 have b1:decide ((o1:Int)≤10)=false:=decide_eq_false (by omega)
 have b2:decide ((o1:Int)≤16)=false:=decide_eq_false (by omega)
 have b3:decide ((o1:Int)≤20)=true:=decide_eq_true (by omega)
 clear h ho K h1 h2
 go_enter Tryz.func61,Tryz.ntmps61
 go_wp2_with fail
 refine K1.out.mono ?_
 rintro _ w1 ⟨rfl,hP⟩
 have HP:=Lib.hid hP
 clear hP x
 go_wp2_with fail
 go_end0
 exact ⟨rfl,HP.out⟩
set_option maxHeartbeats 1000000 in
theorem c61_store_p (g:Nat) (k:WK) (o1:Nat) (z:Int) (P:World→Prop) (w:World) (h:Wk w g k) (ho:k.i.o=o1) (h1:17≤o1) (h2:o1≤20) (K:Calls Tryz.prog 94 #[.pointer (some ⟨g,0,none⟩)] w fun e w'=>e=.panicked [{ v:=.iface 118 (.agg #[.int .u32 z]),recovered:=false }]∧P w') :
  Calls Tryz.prog 61 #[.pointer (some ⟨g,0,none⟩)] w fun e w'=>e=.panicked [{ v:=.iface 118 (.agg #[.int .u32 z]),recovered:=false }]∧P w':=by
 have x:w.cell? ⟨g,303,none⟩=some (.int .u8 (o1:Int)):=by rw [←ho];exact h.cellT 0 303 rfl
 have hl:=Blk.lt h
 have K1:=Lib.hid K
 have b0:((o1:Int)==67)=false:=by rw [beq_eq_false_iff_ne];omega
 have b1:decide ((o1:Int)≤10)=false:=decide_eq_false (by omega)
 have b2:decide ((o1:Int)≤16)=false:=decide_eq_false (by omega)
 have b3:decide ((o1:Int)≤20)=true:=decide_eq_true (by omega)
 clear h ho K h1 h2
 go_enter Tryz.func61,Tryz.ntmps61
 go_wp2_with fail
 refine K1.out.mono ?_
 rintro _ w1 ⟨rfl,hP⟩
 have HP:=Lib.hid hP
 clear hP x
 go_wp2_with fail
 exact ⟨rfl,rfl,HP.out⟩
set_option maxHeartbeats 1000000 in
theorem c61_cap_r (g:Nat) (k:WK) (o1:Nat) (z:Int) (P:World→Prop) (w:World) (h:Wk w g k) (ho:k.i.o=o1) (h1:48≤o1) (h2:o1≠51∧o1≠52∧o1≠66∧o1≠68∧o1≠67) (K:Calls Tryz.prog 100 #[.pointer (some ⟨g,0,none⟩)] w fun e w'=>e=.returned (.tuple #[])∧P w') :
  Calls Tryz.prog 61 #[.pointer (some ⟨g,0,none⟩)] w fun e w'=>e=.returned (.tuple #[])∧P w':=by
 have x:w.cell? ⟨g,303,none⟩=some (.int .u8 (o1:Int)):=by rw [←ho];exact h.cellT 0 303 rfl
 have hl:=Blk.lt h
 have K1:=Lib.hid K
 have b0:((o1:Int)==67)=false:=by rw [beq_eq_false_iff_ne];omega
 have b1:decide ((o1:Int)≤10)=false:=decide_eq_false (by omega)
 have b2:decide ((o1:Int)≤16)=false:=decide_eq_false (by omega)
 have b3:decide ((o1:Int)≤20)=false:=decide_eq_false (by omega)
 have b4:decide ((o1:Int)≤29)=false:=decide_eq_false (by omega)
 have b5:decide ((o1:Int)≤47)=false:=decide_eq_false (by omega)
 have b6:((o1:Int)==51)=false:=by rw [beq_eq_false_iff_ne];omega
 have b7:((o1:Int)==52)=false:=by rw [beq_eq_false_iff_ne];omega
 have b8:((o1:Int)==66)=false:=by rw [beq_eq_false_iff_ne];omega
 have b9:((o1:Int)==68)=false:=by rw [beq_eq_false_iff_ne];omega
 clear h ho K h1 h2
 go_enter Tryz.func61,Tryz.ntmps61
 go_wp2_with fail
 refine K1.out.mono ?_
 rintro _ w1 ⟨rfl,hP⟩
 have HP:=Lib.hid hP
 clear hP x
 go_wp2_with fail
 go_end0
 exact ⟨rfl,HP.out⟩
set_option maxHeartbeats 1000000 in
theorem c61_sys51_r (g:Nat) (k:WK) (z:Int) (P:World→Prop) (w:World) (h:Wk w g k) (ho:k.i.o=51) (K:Calls Tryz.prog 99 #[.pointer (some ⟨g,0,none⟩)] w fun e w'=>e=.returned (.tuple #[])∧P w') :
  Calls Tryz.prog 61 #[.pointer (some ⟨g,0,none⟩)] w fun e w'=>e=.returned (.tuple #[])∧P w':=by
 have x:w.cell? ⟨g,303,none⟩=some (.int .u8 51):=by have:=h.cellT 0 303 rfl;rw [this];show some (Value.int .u8 (k.i.o:Int))=_;rw [ho];rfl
 have hl:=Blk.lt h
 have K1:=Lib.hid K
 clear h ho K
 go_enter Tryz.func61,Tryz.ntmps61
 go_wp2_with fail
 refine K1.out.mono ?_
 rintro _ w1 ⟨rfl,hP⟩
 have HP:=Lib.hid hP
 clear hP x
 go_wp2_with fail
 go_end0
 exact ⟨rfl,HP.out⟩
set_option maxHeartbeats 1000000 in
theorem c61_sys51_p (g:Nat) (k:WK) (z:Int) (P:World→Prop) (w:World) (h:Wk w g k) (ho:k.i.o=51) (K:Calls Tryz.prog 99 #[.pointer (some ⟨g,0,none⟩)] w fun e w'=>e=.panicked [{ v:=.iface 118 (.agg #[.int .u32 z]),recovered:=false }]∧P w') :
  Calls Tryz.prog 61 #[.pointer (some ⟨g,0,none⟩)] w fun e w'=>e=.panicked [{ v:=.iface 118 (.agg #[.int .u32 z]),recovered:=false }]∧P w':=by
 have x:w.cell? ⟨g,303,none⟩=some (.int .u8 51):=by have:=h.cellT 0 303 rfl;rw [this];show some (Value.int .u8 (k.i.o:Int))=_;rw [ho];rfl
 have hl:=Blk.lt h
 have K1:=Lib.hid K
 clear h ho K
 go_enter Tryz.func61,Tryz.ntmps61
 go_wp2_with fail
 refine K1.out.mono ?_
 rintro _ w1 ⟨rfl,hP⟩
 have HP:=Lib.hid hP
 clear hP x
 go_wp2_with fail
 exact ⟨rfl,rfl,HP.out⟩
set_option maxHeartbeats 1000000 in
theorem c61_sys52_r (g:Nat) (k:WK) (z:Int) (P:World→Prop) (w:World) (h:Wk w g k) (ho:k.i.o=52) (K:Calls Tryz.prog 99 #[.pointer (some ⟨g,0,none⟩)] w fun e w'=>e=.returned (.tuple #[])∧P w') :
  Calls Tryz.prog 61 #[.pointer (some ⟨g,0,none⟩)] w fun e w'=>e=.returned (.tuple #[])∧P w':=by
 have x:w.cell? ⟨g,303,none⟩=some (.int .u8 52):=by have:=h.cellT 0 303 rfl;rw [this];show some (Value.int .u8 (k.i.o:Int))=_;rw [ho];rfl
 have hl:=Blk.lt h
 have K1:=Lib.hid K
 clear h ho K
 go_enter Tryz.func61,Tryz.ntmps61
 go_wp2_with fail
 refine K1.out.mono ?_
 rintro _ w1 ⟨rfl,hP⟩
 have HP:=Lib.hid hP
 clear hP x
 go_wp2_with fail
 go_end0
 exact ⟨rfl,HP.out⟩
set_option maxHeartbeats 1000000 in
theorem c61_sys52_p (g:Nat) (k:WK) (z:Int) (P:World→Prop) (w:World) (h:Wk w g k) (ho:k.i.o=52) (K:Calls Tryz.prog 99 #[.pointer (some ⟨g,0,none⟩)] w fun e w'=>e=.panicked [{ v:=.iface 118 (.agg #[.int .u32 z]),recovered:=false }]∧P w') :
  Calls Tryz.prog 61 #[.pointer (some ⟨g,0,none⟩)] w fun e w'=>e=.panicked [{ v:=.iface 118 (.agg #[.int .u32 z]),recovered:=false }]∧P w':=by
 have x:w.cell? ⟨g,303,none⟩=some (.int .u8 52):=by have:=h.cellT 0 303 rfl;rw [this];show some (Value.int .u8 (k.i.o:Int))=_;rw [ho];rfl
 have hl:=Blk.lt h
 have K1:=Lib.hid K
 clear h ho K
 go_enter Tryz.func61,Tryz.ntmps61
 go_wp2_with fail
 refine K1.out.mono ?_
 rintro _ w1 ⟨rfl,hP⟩
 have HP:=Lib.hid hP
 clear hP x
 go_wp2_with fail
 exact ⟨rfl,rfl,HP.out⟩
set_option maxHeartbeats 1000000 in
theorem c61_sys66_r (g:Nat) (k:WK) (z:Int) (P:World→Prop) (w:World) (h:Wk w g k) (ho:k.i.o=66) (K:Calls Tryz.prog 99 #[.pointer (some ⟨g,0,none⟩)] w fun e w'=>e=.returned (.tuple #[])∧P w') :
  Calls Tryz.prog 61 #[.pointer (some ⟨g,0,none⟩)] w fun e w'=>e=.returned (.tuple #[])∧P w':=by
 have x:w.cell? ⟨g,303,none⟩=some (.int .u8 66):=by have:=h.cellT 0 303 rfl;rw [this];show some (Value.int .u8 (k.i.o:Int))=_;rw [ho];rfl
 have hl:=Blk.lt h
 have K1:=Lib.hid K
 clear h ho K
 go_enter Tryz.func61,Tryz.ntmps61
 go_wp2_with fail
 refine K1.out.mono ?_
 rintro _ w1 ⟨rfl,hP⟩
 have HP:=Lib.hid hP
 clear hP x
 go_wp2_with fail
 go_end0
 exact ⟨rfl,HP.out⟩
set_option maxHeartbeats 1000000 in
theorem c61_sys66_p (g:Nat) (k:WK) (z:Int) (P:World→Prop) (w:World) (h:Wk w g k) (ho:k.i.o=66) (K:Calls Tryz.prog 99 #[.pointer (some ⟨g,0,none⟩)] w fun e w'=>e=.panicked [{ v:=.iface 118 (.agg #[.int .u32 z]),recovered:=false }]∧P w') :
  Calls Tryz.prog 61 #[.pointer (some ⟨g,0,none⟩)] w fun e w'=>e=.panicked [{ v:=.iface 118 (.agg #[.int .u32 z]),recovered:=false }]∧P w':=by
 have x:w.cell? ⟨g,303,none⟩=some (.int .u8 66):=by have:=h.cellT 0 303 rfl;rw [this];show some (Value.int .u8 (k.i.o:Int))=_;rw [ho];rfl
 have hl:=Blk.lt h
 have K1:=Lib.hid K
 clear h ho K
 go_enter Tryz.func61,Tryz.ntmps61
 go_wp2_with fail
 refine K1.out.mono ?_
 rintro _ w1 ⟨rfl,hP⟩
 have HP:=Lib.hid hP
 clear hP x
 go_wp2_with fail
 exact ⟨rfl,rfl,HP.out⟩
set_option maxHeartbeats 1000000 in
theorem c61_sys68_r (g:Nat) (k:WK) (z:Int) (P:World→Prop) (w:World) (h:Wk w g k) (ho:k.i.o=68) (K:Calls Tryz.prog 99 #[.pointer (some ⟨g,0,none⟩)] w fun e w'=>e=.returned (.tuple #[])∧P w') :
  Calls Tryz.prog 61 #[.pointer (some ⟨g,0,none⟩)] w fun e w'=>e=.returned (.tuple #[])∧P w':=by
 have x:w.cell? ⟨g,303,none⟩=some (.int .u8 68):=by have:=h.cellT 0 303 rfl;rw [this];show some (Value.int .u8 (k.i.o:Int))=_;rw [ho];rfl
 have hl:=Blk.lt h
 have K1:=Lib.hid K
 clear h ho K
 go_enter Tryz.func61,Tryz.ntmps61
 go_wp2_with fail
 refine K1.out.mono ?_
 rintro _ w1 ⟨rfl,hP⟩
 have HP:=Lib.hid hP
 clear hP x
 go_wp2_with fail
 go_end0
 exact ⟨rfl,HP.out⟩
set_option maxHeartbeats 1000000 in
theorem c61_sys68_p (g:Nat) (k:WK) (z:Int) (P:World→Prop) (w:World) (h:Wk w g k) (ho:k.i.o=68) (K:Calls Tryz.prog 99 #[.pointer (some ⟨g,0,none⟩)] w fun e w'=>e=.panicked [{ v:=.iface 118 (.agg #[.int .u32 z]),recovered:=false }]∧P w') :
  Calls Tryz.prog 61 #[.pointer (some ⟨g,0,none⟩)] w fun e w'=>e=.panicked [{ v:=.iface 118 (.agg #[.int .u32 z]),recovered:=false }]∧P w':=by
 have x:w.cell? ⟨g,303,none⟩=some (.int .u8 68):=by have:=h.cellT 0 303 rfl;rw [this];show some (Value.int .u8 (k.i.o:Int))=_;rw [ho];rfl
 have hl:=Blk.lt h
 have K1:=Lib.hid K
 clear h ho K
 go_enter Tryz.func61,Tryz.ntmps61
 go_wp2_with fail
 refine K1.out.mono ?_
 rintro _ w1 ⟨rfl,hP⟩
 have HP:=Lib.hid hP
 clear hP x
 go_wp2_with fail
 exact ⟨rfl,rfl,HP.out⟩
set_option maxHeartbeats 1000000 in
theorem c61_ecall (g:Nat) (k:WK) (w:World) (h:Wk w g k) (ho:k.i.o=67) :
  Calls Tryz.prog 61 #[.pointer (some ⟨g,0,none⟩)] w fun e w'=>e=.panicked [{ v:=.iface 118 (.agg #[.int .u32 7]),recovered:=false }]∧w=w':=by
 have x:w.cell? ⟨g,303,none⟩=some (.int .u8 67):=by have:=h.cellT 0 303 rfl;rw [this];show some (Value.int .u8 (k.i.o:Int))=_;rw [ho];rfl
 have hl:=Blk.lt h
 clear h ho
 go_enter Tryz.func61,Tryz.ntmps61
 go_wp2_with fail
 exact ⟨rfl,rfl,rfl⟩
set_option maxHeartbeats 1000000 in
theorem c61_reg (g:Nat) (k:WK) (o r r2 rd v:Nat) (e:Int) (q q2:Cq) (w:World) (h:Wk w g k) (ho:k.i.o=o) (ho1:30≤o) (ho2:o≤47) (hr:k.i.r1=r) (hr16:r<16) (hr2:k.i.r2=r2) (hr216:r2<16) (hd:k.i.rd=rd) (hd16:rd<16) (hq:k.A.c r=q) (hq2:k.A.c r2=q2)
  (KA:∀ w,Calls Tryz.prog 139 #[.int .u8 (o:Int),.int .u32 (q.a:Int),.int .u32 (q2.a:Int)] w fun en w'=>en=.returned (.tuple #[.int .u32 (v:Int),.int .i64 e])∧w=w') :
  Calls Tryz.prog 61 #[.pointer (some ⟨g,0,none⟩)] w fun en w'=>en=.returned (.tuple #[])∧Wk w' g (k.putN rd (numQ v))∧Only g w w':=by
 have x:w.cell? ⟨g,303,none⟩=some (.int .u8 (o:Int)):=by rw [←ho];exact h.cellT 0 303 rfl
 have hl:=Blk.lt h
 have K98:=Lib.hid (c98 g k w h r2 q2 hr2 hq2 hr216)
 have K96:Hid (∀ W,Below w.heap.size w W→Calls Tryz.prog 96 #[.pointer (some ⟨g,0,none⟩),.int .u32 (q2.a:Int)] W fun en w'=>en=.returned (numQ v).v∧Below W.heap.size W w'):=Lib.hid (fun W hb=>c96 g k o r q2.a v e q W (Blk.below h hb hl) ho hr hr16 hq KA)
 have HW:=Lib.hid h
 have K95:Hid (∀ w1,Wk w1 g k→Calls Tryz.prog 95 #[.pointer (some ⟨g,0,none⟩),(numQ v).v] w1 fun e w'=>e=.returned (.tuple #[])∧Wk w' g (k.putN rd (numQ v))∧Only g w1 w'):=Lib.hid (fun w1 h1=>c95 g k (numQ v) w1 h1 rd hd hd16)
 have hfd:∀ W,(Instr.field 29 (.agg #[.bool q2.g,.int .u32 (q2.a:Int),.int .u8 (q2.p:Int),.int .u8 (q2.y:Int),.int .u8 (q2.e:Int),.int .u16 (q2.b:Int),.int .u16 (q2.t:Int)]) 1).run Tryz.prog W=.ok (.int .u32 (q2.a:Int)) W:=fun W=>fld2 _ _ _ _ _ _ _ W
 have b1:((o:Int)==67)=false:=by rw [beq_eq_false_iff_ne];omega
 have b2:decide ((o:Int)≤10)=false:=decide_eq_false (by omega)
 have b3:decide ((o:Int)≤16)=false:=decide_eq_false (by omega)
 have b4:decide ((o:Int)≤20)=false:=decide_eq_false (by omega)
 have b5:decide ((o:Int)≤29)=false:=decide_eq_false (by omega)
 have b6:decide ((o:Int)≤47)=true:=decide_eq_true (by omega)
 clear h ho hr hd hq hr2 hq2 KA ho1 ho2
 go_enter Tryz.func61,Tryz.ntmps61
 go_wp2_with fail
 refine K98.out.mono ?_
 rintro _ w1 ⟨rfl,hb1⟩
 have HB1:=Lib.hid hb1
 clear hb1 x
 go_wp2_with fail
 refine (K96.out w1 HB1.out).mono ?_
 rintro _ w2 ⟨rfl,hb2⟩
 have HB2:Hid (Below w.heap.size w w2):=Lib.hid (HB1.out.trans (hb2.mono HB1.out.size))
 have K95':=Lib.hid (K95.out w2 (Blk.below HW.out HB2.out hl))
 clear hb2
 go_wp2_with fail
 refine K95'.out.mono ?_
 rintro _ w3 ⟨rfl,hk3,ho3⟩
 have HK3:=Lib.hid hk3
 have HO3:=Lib.hid (((Only.refl g w).below HB2.out).trans ho3)
 clear hk3 ho3
 go_wp2_with fail
 go_end0
 exact ⟨rfl,HK3.out,HO3.out⟩
theorem c94_t (g:Nat) (w:World) (k:WK) (o1 r1 n:Nat) (q1:Cq) (h:Wk w g k) (ho:k.i.o=o1) (ho1:11≤o1) (ho2:o1≤20) (hr1:k.i.r1=r1) (h116:r1<16) (hq1:k.A.c r1=q1) (hf1:q1.fit) (hn:k.i.im%4294967296=(n:Int)) (hp:plB q1 2 o1 ((q1.a+n)%4294967296)=false) :
  Calls Tryz.prog 94 #[.pointer (some ⟨g,0,none⟩)] w fun e w'=>e=.panicked [{ v:=.iface 118 (.agg #[.int .u32 4]),recovered:=false }]∧Below w.heap.size w w':=by
 have K1:=Lib.hid (c137_2_tr g k o1 r1 n q1 w h ho ho1 ho2 hr1 h116 hq1 hf1 hn hp)
 clear h ho hr1 hq1 hf1 hn hp
 go_enter Tryz.func94,Tryz.ntmps94
 go_wp2_with fail
 refine K1.out.mono ?_
 rintro _ w1 ⟨rfl,hb1⟩
 go_wp2_with fail
 exact ⟨rfl,rfl,hb1⟩
structure AluOk (aD:Nat→Nat→Nat→Nat) (aI:Nat→Nat→Nat→Bool):Prop where
 d:∀ (o a b:Nat),21≤o→o≤47→a<4294967296→b<4294967296→∃ e:Int,∀ w,Calls Tryz.prog 139 #[.int .u8 (o:Int),.int .u32 (a:Int),.int .u32 (b:Int)] w fun en w'=>en=.returned (.tuple #[.int .u32 (aD o a b:Int),.int .i64 e])∧w=w'
 i:∀ (o a b:Nat),5≤o→o≤10→a<4294967296→b<4294967296→∃ e:Int,∀ w,Calls Tryz.prog 135 #[.int .u8 (o:Int),.int .u32 (a:Int),.int .u32 (b:Int)] w fun en w'=>en=.returned (.tuple #[.bool (aI o a b),.int .i64 e])∧w=w'
def WK.imN (k:WK):Nat:=(k.i.im%4294967296).toNat
theorem WK.imN_eq (k:WK):k.i.im%4294967296=(k.imN:Int):=by unfold WK.imN;omega
theorem WK.imN_lt (k:WK):k.imN<4294967296:=by unfold WK.imN;omega
def WK.q1 (k:WK):Cq:=k.A.c k.i.r1
def WK.q2 (k:WK):Cq:=k.A.c k.i.r2
def WK.pc (k:WK):Cq:=k.A.c 16
def WK.ad (k:WK):Nat:=(k.q1.a+k.imN)%4294967296
def WK.why (k:WK):Nat :=
 if k.i.o=67 then 7 else if k.i.o=4 then (if k.q1.jok k.i.im=true then 0 else 5)
 else if 11≤k.i.o∧k.i.o≤16 then (if plB k.q1 1 k.i.o k.ad=true then 0 else 3)
 else if 17≤k.i.o∧k.i.o≤20 then (if plB k.q1 2 k.i.o k.ad=true∧¬ (szO k.i.o=8∧k.q2.g=true∧k.q2.p/16%2=0∧k.q1.p/32%2=0) then 0 else 4)
 else if k.i.o=51∨k.i.o=52∨k.i.o=66∨k.i.o=68 then (if k.pc.p/64%2=1 then 0 else 6) else 0
def WK.ldV (k:WK) (M:Nat→Nat) (T:Nat→Bool):Cq:=if szO k.i.o=8 then capAt M T k.ad else if devB k.ad=true then numQ k.ans else numQ (sgO k.i.o (numL M k.ad (szO k.i.o)))
def WK.doK (k:WK) (aD:Nat→Nat→Nat→Nat) (aI:Nat→Nat→Nat→Bool) (M:Nat→Nat) (T:Nat→Bool):WK :=
 if k.i.o=1 then k.putN k.i.rd (numQ k.imN)
 else if k.i.o=2 then k.putN k.i.rd (k.pc.sa ((k.pc.a+k.imN)%4294967296))
 else if k.i.o=3 then (k.putN k.i.rd k.A.link).putN 16 (k.pc.sa ((k.pc.a+k.imN)%4294967296))
 else if k.i.o=4 then (k.jmp k.q1 k.imN).putN k.i.rd k.A.link
 else if k.i.o≤10 then (if aI k.i.o k.q1.a k.q2.a=true then k.putN 16 (k.pc.sa ((k.pc.a+k.imN)%4294967296)) else k)
 else if k.i.o≤16 then k.putN k.i.rd (k.ldV M T)
 else if k.i.o≤20 then (if szO k.i.o≠8∧devB k.ad=true then k.tl k.q2.a k.ad true true true else k)
 else if k.i.o≤29 then k.putN k.i.rd (numQ (aD k.i.o k.q1.a k.imN))
 else if k.i.o≤47 then k.putN k.i.rd (numQ (aD k.i.o k.q1.a k.q2.a))
 else if k.i.o=51 then k.putN k.i.rd (k.q1.se k.q2.a)
 else if k.i.o=52 then k.putN k.i.rd k.q1.us
 else if k.i.o=66 then k.spec k.i.rd k.i.r1 k.q1
 else if k.i.o=68 then (k.putN 16 (k.A.c 20)).onN k.A.was
 else if k.i.o=62 then k.putN k.i.rd k.q1
 else if k.i.o=63 then k.putN k.i.rd k.q1.ct
 else if k.i.o=65 then k.putN k.i.rd k.q1.sy
 else if k.i.o=54 then k.putN k.i.rd (k.q1.sa k.q2.a)
 else if k.i.o=53 then k.putN k.i.rd (k.q1.ap k.q2.a)
 else if k.i.o=48 then k.putN k.i.rd (k.q1.sa ((k.q1.a+k.imN)%4294967296))
 else if k.i.o=55 then k.putN k.i.rd (k.q1.sa ((k.q1.a+k.q2.a)%4294967296))
 else if k.i.o=49 then k.putN k.i.rd (k.q1.sb k.imN)
 else if k.i.o=50 then k.putN k.i.rd (k.q1.sb k.q2.a)
 else if k.i.o=56 then k.putN k.i.rd (numQ (if k.q2.subs k.q1=true then 1 else 0))
 else k.putN k.i.rd (numQ (k.q1.told k.i.o))
def WK.doM (k:WK) (M:Nat→Nat):Nat→Nat:=if 17≤k.i.o∧k.i.o≤20 then (if szO k.i.o=8 then scB M k.ad (capB k.q2) else if devB k.ad=true then M else stB M k.ad (szO k.i.o) k.q2.a) else M
def WK.doT (k:WK) (T:Nat→Bool):Nat→Bool:=if 17≤k.i.o∧k.i.o≤20 then (if szO k.i.o=8 then stT T k.ad k.q2.g else if devB k.ad=true then T else stT T k.ad false) else T
def WK.doC (k:WK):Nat:=if 11≤k.i.o∧k.i.o≤20 then 1 else 0
def WK.doX (k:WK):List Value:=if 11≤k.i.o∧k.i.o≤16 then [.int .i64 2,.int .u32 (k.ad:Int),.int .i64 (szO k.i.o:Int)] else if 17≤k.i.o∧k.i.o≤20 then [.int .i64 3,.int .u32 (k.ad:Int),.int .i64 (szO k.i.o:Int)] else []
theorem numL_lt (M:Nat→Nat) (hM:∀ i,M i<256) (a:Nat):numL M a 1<4294967296∧numL M a 2<4294967296∧numL M a 4<4294967296:=by
 have h0:=hM a
 have h1:=hM (a+1)
 have h2:=hM (a+2)
 have h3:=hM (a+3)
 unfold numL
 refine ⟨?_,?_,?_⟩ <;> simp only <;> omega
theorem tc_self (k:WK) (tv:Value) (h:k.d.tc=tv):k.tc tv=k:=by subst h;rfl
section
variable {g b B:Nat} {M:Nat→Nat} {T:Nat→Bool} {tv:Value} {m:Nat} {xs:List Value} {w0 w:World} {k:WK} {aD:Nat→Nat→Nat→Nat} {aI:Nat→Nat→Nat→Bool}
abbrev DoOk (g b B:Nat) (M:Nat→Nat) (T:Nat→Bool) (m:Nat) (xs:List Value) (w0 w:World) (k:WK) (aD:Nat→Nat→Nat→Nat) (aI:Nat→Nat→Nat→Bool):Prop :=
 Calls Tryz.prog 61 #[.pointer (some ⟨g,0,none⟩)] w fun e w'=>e=.returned (.tuple #[])∧∃ v,Stp g b B (k.doM M) (k.doT T) v (m+k.doC) (xs++k.doX) w0 w' ((k.doK aD aI M T).tc v)
theorem fin0 (hs:Stp g b B M T tv m xs w0 w k) (k2:WK) (hk:k.doK aD aI M T=k2) (hX:k.doX=[]) (hC:k.doC=0) (hM:k.doM M=M) (hT:k.doT T=T) (htc:k2.d.tc=k.d.tc)
  (K:Calls Tryz.prog 61 #[.pointer (some ⟨g,0,none⟩)] w fun e w'=>e=.returned (.tuple #[])∧Wk w' g k2∧Sv g w.heap.size w w'):DoOk g b B M T m xs w0 w k aD aI:=by
 unfold DoOk
 rw [hk,hX,hC,hM,hT,List.append_nil,Nat.add_zero]
 refine K.mono ?_
 rintro e w' ⟨h1,h2,h3⟩
 have:=hs.only h3 h2 htc
 refine ⟨h1,tv,?_⟩
 rw [tc_self k2 tv this.tc]
 exact this
theorem fin1 (k2:WK) (M2:Nat→Nat) (T2:Nat→Bool) (x:List Value) (hk:k.doK aD aI M T=k2) (hX:k.doX=x) (hC:k.doC=1) (hM:k.doM M=M2) (hT:k.doT T=T2)
  (K:Calls Tryz.prog 61 #[.pointer (some ⟨g,0,none⟩)] w fun e w'=>e=.returned (.tuple #[])∧∃ v,Stp g b B M2 T2 v (m+1) (xs++x) w0 w' (k2.tc v)):DoOk g b B M T m xs w0 w k aD aI:=by
 unfold DoOk
 rw [hk,hX,hC,hM,hT]
 exact K
theorem WK.jmp_tc (k:WK) (q:Cq) (n:Nat):(k.jmp q n).d=k.d:=by
 unfold WK.jmp
 split
 ·rfl
 ·split <;> rfl
theorem WK.spec_d (k:WK) (rd r1:Nat) (q:Cq):(k.spec rd r1 q).d=k.d:=by
 unfold WK.spec WK.spe
 split
 ·split <;> rfl
 ·split
  ·split <;> rfl
  ·split
   ·split <;> rfl
   ·split
    ·split <;> rfl
    ·rfl
end
section
variable {g b B:Nat} {M:Nat→Nat} {T:Nat→Bool} {tv:Value} {m:Nat} {xs:List Value} {w0 w:World} {k:WK} {aD:Nat→Nat→Nat→Nat} {aI:Nat→Nat→Nat→Bool}
theorem do_1 (hs:Stp g b B M T tv m xs w0 w k) (hd:k.i.rd<16) (h1:k.i.r1<16) (h2:k.i.r2<16) (hf:∀ i,(k.A.c i).fit) (ho:k.i.o=1):DoOk g b B M T m xs w0 w k aD aI :=
 fin0 hs (k.putN k.i.rd (numQ k.imN)) (by unfold WK.doK;rw [ho];rfl) (by unfold WK.doX;rw [ho];rfl) (by unfold WK.doC;rw [ho];rfl) (by unfold WK.doM;rw [ho];rfl) (by unfold WK.doT;rw [ho];rfl) rfl (c61_flow_r g k 1 0 (fun w'=>Wk w' g (k.putN k.i.rd (numQ k.imN))∧Sv g w.heap.size w w') w hs.wk ho (by decide) (by decide) (c92_lui g k k.i.rd k.imN w hs.wk ho rfl hd k.imN_eq))
theorem do_2 (hs:Stp g b B M T tv m xs w0 w k) (hd:k.i.rd<16) (h1:k.i.r1<16) (h2:k.i.r2<16) (hf:∀ i,(k.A.c i).fit) (ho:k.i.o=2):DoOk g b B M T m xs w0 w k aD aI :=
 fin0 hs (k.putN k.i.rd (k.pc.sa ((k.pc.a+k.imN)%4294967296))) (by unfold WK.doK;rw [ho];rfl) (by unfold WK.doX;rw [ho];rfl) (by unfold WK.doC;rw [ho];rfl) (by unfold WK.doM;rw [ho];rfl) (by unfold WK.doT;rw [ho];rfl) rfl (c61_flow_r g k 2 0 (fun w'=>Wk w' g (k.putN k.i.rd (k.pc.sa ((k.pc.a+k.imN)%4294967296)))∧Sv g w.heap.size w w') w hs.wk ho (by decide) (by decide) (c92_auipcc g k k.i.rd k.imN k.pc w hs.wk ho rfl hd rfl (hf 16) k.imN_eq))
theorem do_3 (hs:Stp g b B M T tv m xs w0 w k) (hd:k.i.rd<16) (h1:k.i.r1<16) (h2:k.i.r2<16) (hf:∀ i,(k.A.c i).fit) (ho:k.i.o=3):DoOk g b B M T m xs w0 w k aD aI :=
 fin0 hs ((k.putN k.i.rd k.A.link).putN 16 (k.pc.sa ((k.pc.a+k.imN)%4294967296))) (by unfold WK.doK;rw [ho];rfl) (by unfold WK.doX;rw [ho];rfl) (by unfold WK.doC;rw [ho];rfl) (by unfold WK.doM;rw [ho];rfl) (by unfold WK.doT;rw [ho];rfl) rfl (c61_flow_r g k 3 0 (fun w'=>Wk w' g ((k.putN k.i.rd k.A.link).putN 16 (k.pc.sa ((k.pc.a+k.imN)%4294967296)))∧Sv g w.heap.size w w') w hs.wk ho (by decide) (by decide) (c92_cjal g k k.i.rd k.imN k.pc w hs.wk ho rfl hd rfl (hf 16) k.imN_eq))
theorem do_4 (hs:Stp g b B M T tv m xs w0 w k) (hd:k.i.rd<16) (h1:k.i.r1<16) (h2:k.i.r2<16) (hf:∀ i,(k.A.c i).fit) (hj:k.q1.jok k.i.im=true) (ho:k.i.o=4):DoOk g b B M T m xs w0 w k aD aI :=
 fin0 hs ((k.jmp k.q1 k.imN).putN k.i.rd k.A.link) (by unfold WK.doK;rw [ho];rfl) (by unfold WK.doX;rw [ho];rfl) (by unfold WK.doC;rw [ho];rfl) (by unfold WK.doM;rw [ho];rfl) (by unfold WK.doT;rw [ho];rfl) (by show (k.jmp k.q1 k.imN).d.tc=_;rw [WK.jmp_tc]) (c61_flow_r g k 4 0 (fun w'=>Wk w' g ((k.jmp k.q1 k.imN).putN k.i.rd k.A.link)∧Sv g w.heap.size w w') w hs.wk ho (by decide) (by decide) (c92_cjalr g k k.i.rd k.i.r1 k.imN k.q1 w hs.wk ho rfl hd rfl h1 rfl (hf _) (hf 16) k.imN_eq hj))
theorem do_5 (hs:Stp g b B M T tv m xs w0 w k) (hd:k.i.rd<16) (h1:k.i.r1<16) (h2:k.i.r2<16) (hf:∀ i,(k.A.c i).fit) (hA:AluOk aD aI) (ho:k.i.o=5):DoOk g b B M T m xs w0 w k aD aI:=by
 obtain ⟨e,K⟩:=hA.i 5 k.q1.a k.q2.a (by decide) (by decide) (hf _).1 (hf _).1
 exact fin0 hs (if aI 5 k.q1.a k.q2.a=true then k.putN 16 (k.pc.sa ((k.pc.a+k.imN)%4294967296)) else k) (by unfold WK.doK;rw [ho];rfl) (by unfold WK.doX;rw [ho];rfl) (by unfold WK.doC;rw [ho];rfl) (by unfold WK.doM;rw [ho];rfl) (by unfold WK.doT;rw [ho];rfl) (by split <;> rfl) (c61_flow_r g k 5 0 (fun w'=>Wk w' g (if aI 5 k.q1.a k.q2.a=true then k.putN 16 (k.pc.sa ((k.pc.a+k.imN)%4294967296)) else k)∧Sv g w.heap.size w w') w hs.wk ho (by decide) (by decide) (c92_br g k 5 k.i.r1 k.i.r2 k.imN _ e k.pc k.q1 k.q2 w hs.wk ho (by decide) rfl h1 rfl h2 rfl rfl rfl (hf 16) k.imN_eq K))
theorem do_6 (hs:Stp g b B M T tv m xs w0 w k) (hd:k.i.rd<16) (h1:k.i.r1<16) (h2:k.i.r2<16) (hf:∀ i,(k.A.c i).fit) (hA:AluOk aD aI) (ho:k.i.o=6):DoOk g b B M T m xs w0 w k aD aI:=by
 obtain ⟨e,K⟩:=hA.i 6 k.q1.a k.q2.a (by decide) (by decide) (hf _).1 (hf _).1
 exact fin0 hs (if aI 6 k.q1.a k.q2.a=true then k.putN 16 (k.pc.sa ((k.pc.a+k.imN)%4294967296)) else k) (by unfold WK.doK;rw [ho];rfl) (by unfold WK.doX;rw [ho];rfl) (by unfold WK.doC;rw [ho];rfl) (by unfold WK.doM;rw [ho];rfl) (by unfold WK.doT;rw [ho];rfl) (by split <;> rfl) (c61_flow_r g k 6 0 (fun w'=>Wk w' g (if aI 6 k.q1.a k.q2.a=true then k.putN 16 (k.pc.sa ((k.pc.a+k.imN)%4294967296)) else k)∧Sv g w.heap.size w w') w hs.wk ho (by decide) (by decide) (c92_br g k 6 k.i.r1 k.i.r2 k.imN _ e k.pc k.q1 k.q2 w hs.wk ho (by decide) rfl h1 rfl h2 rfl rfl rfl (hf 16) k.imN_eq K))
theorem do_7 (hs:Stp g b B M T tv m xs w0 w k) (hd:k.i.rd<16) (h1:k.i.r1<16) (h2:k.i.r2<16) (hf:∀ i,(k.A.c i).fit) (hA:AluOk aD aI) (ho:k.i.o=7):DoOk g b B M T m xs w0 w k aD aI:=by
 obtain ⟨e,K⟩:=hA.i 7 k.q1.a k.q2.a (by decide) (by decide) (hf _).1 (hf _).1
 exact fin0 hs (if aI 7 k.q1.a k.q2.a=true then k.putN 16 (k.pc.sa ((k.pc.a+k.imN)%4294967296)) else k) (by unfold WK.doK;rw [ho];rfl) (by unfold WK.doX;rw [ho];rfl) (by unfold WK.doC;rw [ho];rfl) (by unfold WK.doM;rw [ho];rfl) (by unfold WK.doT;rw [ho];rfl) (by split <;> rfl) (c61_flow_r g k 7 0 (fun w'=>Wk w' g (if aI 7 k.q1.a k.q2.a=true then k.putN 16 (k.pc.sa ((k.pc.a+k.imN)%4294967296)) else k)∧Sv g w.heap.size w w') w hs.wk ho (by decide) (by decide) (c92_br g k 7 k.i.r1 k.i.r2 k.imN _ e k.pc k.q1 k.q2 w hs.wk ho (by decide) rfl h1 rfl h2 rfl rfl rfl (hf 16) k.imN_eq K))
theorem do_8 (hs:Stp g b B M T tv m xs w0 w k) (hd:k.i.rd<16) (h1:k.i.r1<16) (h2:k.i.r2<16) (hf:∀ i,(k.A.c i).fit) (hA:AluOk aD aI) (ho:k.i.o=8):DoOk g b B M T m xs w0 w k aD aI:=by
 obtain ⟨e,K⟩:=hA.i 8 k.q1.a k.q2.a (by decide) (by decide) (hf _).1 (hf _).1
 exact fin0 hs (if aI 8 k.q1.a k.q2.a=true then k.putN 16 (k.pc.sa ((k.pc.a+k.imN)%4294967296)) else k) (by unfold WK.doK;rw [ho];rfl) (by unfold WK.doX;rw [ho];rfl) (by unfold WK.doC;rw [ho];rfl) (by unfold WK.doM;rw [ho];rfl) (by unfold WK.doT;rw [ho];rfl) (by split <;> rfl) (c61_flow_r g k 8 0 (fun w'=>Wk w' g (if aI 8 k.q1.a k.q2.a=true then k.putN 16 (k.pc.sa ((k.pc.a+k.imN)%4294967296)) else k)∧Sv g w.heap.size w w') w hs.wk ho (by decide) (by decide) (c92_br g k 8 k.i.r1 k.i.r2 k.imN _ e k.pc k.q1 k.q2 w hs.wk ho (by decide) rfl h1 rfl h2 rfl rfl rfl (hf 16) k.imN_eq K))
theorem do_9 (hs:Stp g b B M T tv m xs w0 w k) (hd:k.i.rd<16) (h1:k.i.r1<16) (h2:k.i.r2<16) (hf:∀ i,(k.A.c i).fit) (hA:AluOk aD aI) (ho:k.i.o=9):DoOk g b B M T m xs w0 w k aD aI:=by
 obtain ⟨e,K⟩:=hA.i 9 k.q1.a k.q2.a (by decide) (by decide) (hf _).1 (hf _).1
 exact fin0 hs (if aI 9 k.q1.a k.q2.a=true then k.putN 16 (k.pc.sa ((k.pc.a+k.imN)%4294967296)) else k) (by unfold WK.doK;rw [ho];rfl) (by unfold WK.doX;rw [ho];rfl) (by unfold WK.doC;rw [ho];rfl) (by unfold WK.doM;rw [ho];rfl) (by unfold WK.doT;rw [ho];rfl) (by split <;> rfl) (c61_flow_r g k 9 0 (fun w'=>Wk w' g (if aI 9 k.q1.a k.q2.a=true then k.putN 16 (k.pc.sa ((k.pc.a+k.imN)%4294967296)) else k)∧Sv g w.heap.size w w') w hs.wk ho (by decide) (by decide) (c92_br g k 9 k.i.r1 k.i.r2 k.imN _ e k.pc k.q1 k.q2 w hs.wk ho (by decide) rfl h1 rfl h2 rfl rfl rfl (hf 16) k.imN_eq K))
theorem do_10 (hs:Stp g b B M T tv m xs w0 w k) (hd:k.i.rd<16) (h1:k.i.r1<16) (h2:k.i.r2<16) (hf:∀ i,(k.A.c i).fit) (hA:AluOk aD aI) (ho:k.i.o=10):DoOk g b B M T m xs w0 w k aD aI:=by
 obtain ⟨e,K⟩:=hA.i 10 k.q1.a k.q2.a (by decide) (by decide) (hf _).1 (hf _).1
 exact fin0 hs (if aI 10 k.q1.a k.q2.a=true then k.putN 16 (k.pc.sa ((k.pc.a+k.imN)%4294967296)) else k) (by unfold WK.doK;rw [ho];rfl) (by unfold WK.doX;rw [ho];rfl) (by unfold WK.doC;rw [ho];rfl) (by unfold WK.doM;rw [ho];rfl) (by unfold WK.doT;rw [ho];rfl) (by split <;> rfl) (c61_flow_r g k 10 0 (fun w'=>Wk w' g (if aI 10 k.q1.a k.q2.a=true then k.putN 16 (k.pc.sa ((k.pc.a+k.imN)%4294967296)) else k)∧Sv g w.heap.size w w') w hs.wk ho (by decide) (by decide) (c92_br g k 10 k.i.r1 k.i.r2 k.imN _ e k.pc k.q1 k.q2 w hs.wk ho (by decide) rfl h1 rfl h2 rfl rfl rfl (hf 16) k.imN_eq K))
end
section
variable {g b B:Nat} {M:Nat→Nat} {T:Nat→Bool} {tv:Value} {m:Nat} {xs:List Value} {w0 w:World} {k:WK} {aD:Nat→Nat→Nat→Nat} {aI:Nat→Nat→Nat→Bool}
theorem do_11 (hs:Stp g b B M T tv m xs w0 w k) (hd:k.i.rd<16) (h1:k.i.r1<16) (h2:k.i.r2<16) (hf:∀ i,(k.A.c i).fit) (hmp:k.mp=.pointer (some ⟨b,0,none⟩)) (hm6:m≤65536) (hM:∀ i,M i<256) (hp:plB k.q1 1 11 k.ad=true) (ho:k.i.o=11):DoOk g b B M T m xs w0 w k aD aI:=by
 have hpo:plB k.q1 1 11 ((k.q1.a+k.imN)%4294967296)=true:=hp
 have hdv:devB k.ad=false:=by
  unfold plB at hp
  simp only [Bool.and_eq_true,Bool.not_eq_true',Bool.and_eq_false_iff] at hp
  rcases hp.2.2.2 with h | h
  ·exact h
  ·exact absurd h (by decide)
 exact fin1 (k.putN k.i.rd (numQ (sgO 11 (numL M k.ad 1)))) M T [.int .i64 2,.int .u32 (k.ad:Int),.int .i64 1] (by unfold WK.doK WK.ldV;rw [ho];show k.putN _ (if devB k.ad=true then _ else _)=_;rw [if_neg (by rw [hdv];decide)];rfl) (by unfold WK.doX;rw [ho];rfl) (by unfold WK.doC;rw [ho];rfl) (by unfold WK.doM;rw [ho];rfl) (by unfold WK.doT;rw [ho];rfl) (c61_load_r g k 11 0 (fun w'=>∃ v,Stp g b B M T v (m+1) (xs++[Value.int IntKind.i64 2,Value.int IntKind.u32 (k.ad:Int),Value.int IntKind.i64 1]) w0 w' ((k.putN k.i.rd (numQ (sgO 11 (numL M k.ad 1)))).tc v)) w hs.wk ho (by decide) (by decide) (c93_n1 g b B M T tv m xs w0 w k 11 k.i.rd k.i.r1 k.imN k.q1 hs hmp hm6 ho (by decide) (by decide) rfl hd rfl h1 rfl (hf _) k.imN_eq hpo rfl hdv (numL_lt M hM _).1))
theorem do_12 (hs:Stp g b B M T tv m xs w0 w k) (hd:k.i.rd<16) (h1:k.i.r1<16) (h2:k.i.r2<16) (hf:∀ i,(k.A.c i).fit) (hmp:k.mp=.pointer (some ⟨b,0,none⟩)) (hm6:m≤65536) (hM:∀ i,M i<256) (hp:plB k.q1 1 12 k.ad=true) (ho:k.i.o=12):DoOk g b B M T m xs w0 w k aD aI:=by
 have hpo:plB k.q1 1 12 ((k.q1.a+k.imN)%4294967296)=true:=hp
 have hdv:devB k.ad=false:=by
  unfold plB at hp
  simp only [Bool.and_eq_true,Bool.not_eq_true',Bool.and_eq_false_iff] at hp
  rcases hp.2.2.2 with h | h
  ·exact h
  ·exact absurd h (by decide)
 exact fin1 (k.putN k.i.rd (numQ (sgO 12 (numL M k.ad 2)))) M T [.int .i64 2,.int .u32 (k.ad:Int),.int .i64 2] (by unfold WK.doK WK.ldV;rw [ho];show k.putN _ (if devB k.ad=true then _ else _)=_;rw [if_neg (by rw [hdv];decide)];rfl) (by unfold WK.doX;rw [ho];rfl) (by unfold WK.doC;rw [ho];rfl) (by unfold WK.doM;rw [ho];rfl) (by unfold WK.doT;rw [ho];rfl) (c61_load_r g k 12 0 (fun w'=>∃ v,Stp g b B M T v (m+1) (xs++[Value.int IntKind.i64 2,Value.int IntKind.u32 (k.ad:Int),Value.int IntKind.i64 2]) w0 w' ((k.putN k.i.rd (numQ (sgO 12 (numL M k.ad 2)))).tc v)) w hs.wk ho (by decide) (by decide) (c93_n2 g b B M T tv m xs w0 w k 12 k.i.rd k.i.r1 k.imN k.q1 hs hmp hm6 ho (by decide) (by decide) rfl hd rfl h1 rfl (hf _) k.imN_eq hpo rfl hdv (numL_lt M hM _).2.1))
theorem do_13 (hs:Stp g b B M T tv m xs w0 w k) (hd:k.i.rd<16) (h1:k.i.r1<16) (h2:k.i.r2<16) (hf:∀ i,(k.A.c i).fit) (hmp:k.mp=.pointer (some ⟨b,0,none⟩)) (hm6:m≤65536) (hM:∀ i,M i<256) (hp:plB k.q1 1 13 k.ad=true) (ho:k.i.o=13):DoOk g b B M T m xs w0 w k aD aI:=by
 have hpo:plB k.q1 1 13 ((k.q1.a+k.imN)%4294967296)=true:=hp
 cases hdv:devB k.ad with
 | true=>exact fin1 (k.putN k.i.rd (numQ k.ans)) M T [.int .i64 2,.int .u32 (k.ad:Int),.int .i64 4] (by unfold WK.doK WK.ldV;rw [ho];show k.putN _ (if devB k.ad=true then _ else _)=_;rw [if_pos hdv]) (by unfold WK.doX;rw [ho];rfl) (by unfold WK.doC;rw [ho];rfl) (by unfold WK.doM;rw [ho];rfl) (by unfold WK.doT;rw [ho];rfl) (c61_load_r g k 13 0 (fun w'=>∃ v,Stp g b B M T v (m+1) (xs++[Value.int IntKind.i64 2,Value.int IntKind.u32 (k.ad:Int),Value.int IntKind.i64 4]) w0 w' ((k.putN k.i.rd (numQ k.ans)).tc v)) w hs.wk ho (by decide) (by decide) (c93_dev g b B M T tv m xs w0 w k 13 k.i.rd k.i.r1 k.imN k.q1 hs hmp hm6 ho (by decide) (by decide) rfl hd rfl h1 rfl (hf _) k.imN_eq hpo rfl hdv))
 | false=>exact fin1 (k.putN k.i.rd (numQ (sgO 13 (numL M k.ad 4)))) M T [.int .i64 2,.int .u32 (k.ad:Int),.int .i64 4] (by unfold WK.doK WK.ldV;rw [ho];show k.putN _ (if devB k.ad=true then _ else _)=_;rw [if_neg (by rw [hdv];decide)];rfl) (by unfold WK.doX;rw [ho];rfl) (by unfold WK.doC;rw [ho];rfl) (by unfold WK.doM;rw [ho];rfl) (by unfold WK.doT;rw [ho];rfl) (c61_load_r g k 13 0 (fun w'=>∃ v,Stp g b B M T v (m+1) (xs++[Value.int IntKind.i64 2,Value.int IntKind.u32 (k.ad:Int),Value.int IntKind.i64 4]) w0 w' ((k.putN k.i.rd (numQ (sgO 13 (numL M k.ad 4)))).tc v)) w hs.wk ho (by decide) (by decide) (c93_n4 g b B M T tv m xs w0 w k 13 k.i.rd k.i.r1 k.imN k.q1 hs hmp hm6 ho (by decide) (by decide) rfl hd rfl h1 rfl (hf _) k.imN_eq hpo rfl hdv (numL_lt M hM _).2.2))
theorem do_14 (hs:Stp g b B M T tv m xs w0 w k) (hd:k.i.rd<16) (h1:k.i.r1<16) (h2:k.i.r2<16) (hf:∀ i,(k.A.c i).fit) (hmp:k.mp=.pointer (some ⟨b,0,none⟩)) (hm6:m≤65536) (hM:∀ i,M i<256) (hp:plB k.q1 1 14 k.ad=true) (ho:k.i.o=14):DoOk g b B M T m xs w0 w k aD aI:=by
 have hpo:plB k.q1 1 14 ((k.q1.a+k.imN)%4294967296)=true:=hp
 exact fin1 (k.putN k.i.rd (capAt M T k.ad)) M T [.int .i64 2,.int .u32 (k.ad:Int),.int .i64 8] (by unfold WK.doK WK.ldV;rw [ho];rfl) (by unfold WK.doX;rw [ho];rfl) (by unfold WK.doC;rw [ho];rfl) (by unfold WK.doM;rw [ho];rfl) (by unfold WK.doT;rw [ho];rfl) (c61_load_r g k 14 0 (fun w'=>∃ v,Stp g b B M T v (m+1) (xs++[Value.int IntKind.i64 2,Value.int IntKind.u32 (k.ad:Int),Value.int IntKind.i64 8]) w0 w' ((k.putN k.i.rd (capAt M T k.ad)).tc v)) w hs.wk ho (by decide) (by decide) (c93_cap g b B M T tv m xs w0 w k 14 k.i.rd k.i.r1 k.imN k.q1 hs hmp hm6 ho (by decide) (by decide) rfl hd rfl h1 rfl (hf _) k.imN_eq hpo rfl))
theorem do_15 (hs:Stp g b B M T tv m xs w0 w k) (hd:k.i.rd<16) (h1:k.i.r1<16) (h2:k.i.r2<16) (hf:∀ i,(k.A.c i).fit) (hmp:k.mp=.pointer (some ⟨b,0,none⟩)) (hm6:m≤65536) (hM:∀ i,M i<256) (hp:plB k.q1 1 15 k.ad=true) (ho:k.i.o=15):DoOk g b B M T m xs w0 w k aD aI:=by
 have hpo:plB k.q1 1 15 ((k.q1.a+k.imN)%4294967296)=true:=hp
 have hdv:devB k.ad=false:=by
  unfold plB at hp
  simp only [Bool.and_eq_true,Bool.not_eq_true',Bool.and_eq_false_iff] at hp
  rcases hp.2.2.2 with h | h
  ·exact h
  ·exact absurd h (by decide)
 exact fin1 (k.putN k.i.rd (numQ (sgO 15 (numL M k.ad 1)))) M T [.int .i64 2,.int .u32 (k.ad:Int),.int .i64 1] (by unfold WK.doK WK.ldV;rw [ho];show k.putN _ (if devB k.ad=true then _ else _)=_;rw [if_neg (by rw [hdv];decide)];rfl) (by unfold WK.doX;rw [ho];rfl) (by unfold WK.doC;rw [ho];rfl) (by unfold WK.doM;rw [ho];rfl) (by unfold WK.doT;rw [ho];rfl) (c61_load_r g k 15 0 (fun w'=>∃ v,Stp g b B M T v (m+1) (xs++[Value.int IntKind.i64 2,Value.int IntKind.u32 (k.ad:Int),Value.int IntKind.i64 1]) w0 w' ((k.putN k.i.rd (numQ (sgO 15 (numL M k.ad 1)))).tc v)) w hs.wk ho (by decide) (by decide) (c93_n1 g b B M T tv m xs w0 w k 15 k.i.rd k.i.r1 k.imN k.q1 hs hmp hm6 ho (by decide) (by decide) rfl hd rfl h1 rfl (hf _) k.imN_eq hpo rfl hdv (numL_lt M hM _).1))
theorem do_16 (hs:Stp g b B M T tv m xs w0 w k) (hd:k.i.rd<16) (h1:k.i.r1<16) (h2:k.i.r2<16) (hf:∀ i,(k.A.c i).fit) (hmp:k.mp=.pointer (some ⟨b,0,none⟩)) (hm6:m≤65536) (hM:∀ i,M i<256) (hp:plB k.q1 1 16 k.ad=true) (ho:k.i.o=16):DoOk g b B M T m xs w0 w k aD aI:=by
 have hpo:plB k.q1 1 16 ((k.q1.a+k.imN)%4294967296)=true:=hp
 have hdv:devB k.ad=false:=by
  unfold plB at hp
  simp only [Bool.and_eq_true,Bool.not_eq_true',Bool.and_eq_false_iff] at hp
  rcases hp.2.2.2 with h | h
  ·exact h
  ·exact absurd h (by decide)
 exact fin1 (k.putN k.i.rd (numQ (sgO 16 (numL M k.ad 2)))) M T [.int .i64 2,.int .u32 (k.ad:Int),.int .i64 2] (by unfold WK.doK WK.ldV;rw [ho];show k.putN _ (if devB k.ad=true then _ else _)=_;rw [if_neg (by rw [hdv];decide)];rfl) (by unfold WK.doX;rw [ho];rfl) (by unfold WK.doC;rw [ho];rfl) (by unfold WK.doM;rw [ho];rfl) (by unfold WK.doT;rw [ho];rfl) (c61_load_r g k 16 0 (fun w'=>∃ v,Stp g b B M T v (m+1) (xs++[Value.int IntKind.i64 2,Value.int IntKind.u32 (k.ad:Int),Value.int IntKind.i64 2]) w0 w' ((k.putN k.i.rd (numQ (sgO 16 (numL M k.ad 2)))).tc v)) w hs.wk ho (by decide) (by decide) (c93_n2 g b B M T tv m xs w0 w k 16 k.i.rd k.i.r1 k.imN k.q1 hs hmp hm6 ho (by decide) (by decide) rfl hd rfl h1 rfl (hf _) k.imN_eq hpo rfl hdv (numL_lt M hM _).2.1))
theorem do_17 (hs:Stp g b B M T tv m xs w0 w k) (hd:k.i.rd<16) (h1:k.i.r1<16) (h2:k.i.r2<16) (hf:∀ i,(k.A.c i).fit) (hmp:k.mp=.pointer (some ⟨b,0,none⟩)) (hm6:m≤65536) (hp:plB k.q1 2 17 k.ad=true) (ho:k.i.o=17):DoOk g b B M T m xs w0 w k aD aI:=by
 have hpo:plB k.q1 2 17 ((k.q1.a+k.imN)%4294967296)=true:=hp
 have hdv:devB k.ad=false:=by
  unfold plB at hp
  simp only [Bool.and_eq_true,Bool.not_eq_true',Bool.and_eq_false_iff] at hp
  rcases hp.2.2.2 with h | h
  ·exact h
  ·exact absurd h (by decide)
 exact fin1 (k) (stB M k.ad 1 k.q2.a) (stT T k.ad false) [.int .i64 3,.int .u32 (k.ad:Int),.int .i64 1] (by unfold WK.doK;rw [ho];show (if szO 17≠8∧devB k.ad=true then _ else _)=_;rw [if_neg (by rw [hdv];simp)]) (by unfold WK.doX;rw [ho];rfl) (by unfold WK.doC;rw [ho];rfl) (by unfold WK.doM;rw [ho];show (if devB k.ad=true then _ else _)=_;rw [if_neg (by rw [hdv];decide)];rfl) (by unfold WK.doT;rw [ho];show (if devB k.ad=true then _ else _)=_;rw [if_neg (by rw [hdv];decide)]) (c61_store_r g k 17 0 (fun w'=>∃ v,Stp g b B (stB M k.ad 1 k.q2.a) (stT T k.ad false) v (m+1) (xs++[Value.int IntKind.i64 3,Value.int IntKind.u32 (k.ad:Int),Value.int IntKind.i64 1]) w0 w' ((k).tc v)) w hs.wk ho (by decide) (by decide) (c94_n1 g b B M T tv m xs w0 w k 17 k.i.r1 k.i.r2 k.imN k.q1 k.q2 hs hmp hm6 ho (by decide) (by decide) rfl h1 rfl h2 rfl rfl (hf _) (hf _) k.imN_eq hpo rfl hdv))
theorem do_18 (hs:Stp g b B M T tv m xs w0 w k) (hd:k.i.rd<16) (h1:k.i.r1<16) (h2:k.i.r2<16) (hf:∀ i,(k.A.c i).fit) (hmp:k.mp=.pointer (some ⟨b,0,none⟩)) (hm6:m≤65536) (hp:plB k.q1 2 18 k.ad=true) (ho:k.i.o=18):DoOk g b B M T m xs w0 w k aD aI:=by
 have hpo:plB k.q1 2 18 ((k.q1.a+k.imN)%4294967296)=true:=hp
 have hdv:devB k.ad=false:=by
  unfold plB at hp
  simp only [Bool.and_eq_true,Bool.not_eq_true',Bool.and_eq_false_iff] at hp
  rcases hp.2.2.2 with h | h
  ·exact h
  ·exact absurd h (by decide)
 exact fin1 (k) (stB M k.ad 2 k.q2.a) (stT T k.ad false) [.int .i64 3,.int .u32 (k.ad:Int),.int .i64 2] (by unfold WK.doK;rw [ho];show (if szO 18≠8∧devB k.ad=true then _ else _)=_;rw [if_neg (by rw [hdv];simp)]) (by unfold WK.doX;rw [ho];rfl) (by unfold WK.doC;rw [ho];rfl) (by unfold WK.doM;rw [ho];show (if devB k.ad=true then _ else _)=_;rw [if_neg (by rw [hdv];decide)];rfl) (by unfold WK.doT;rw [ho];show (if devB k.ad=true then _ else _)=_;rw [if_neg (by rw [hdv];decide)]) (c61_store_r g k 18 0 (fun w'=>∃ v,Stp g b B (stB M k.ad 2 k.q2.a) (stT T k.ad false) v (m+1) (xs++[Value.int IntKind.i64 3,Value.int IntKind.u32 (k.ad:Int),Value.int IntKind.i64 2]) w0 w' ((k).tc v)) w hs.wk ho (by decide) (by decide) (c94_n2 g b B M T tv m xs w0 w k 18 k.i.r1 k.i.r2 k.imN k.q1 k.q2 hs hmp hm6 ho (by decide) (by decide) rfl h1 rfl h2 rfl rfl (hf _) (hf _) k.imN_eq hpo rfl hdv))
theorem do_19 (hs:Stp g b B M T tv m xs w0 w k) (hd:k.i.rd<16) (h1:k.i.r1<16) (h2:k.i.r2<16) (hf:∀ i,(k.A.c i).fit) (hmp:k.mp=.pointer (some ⟨b,0,none⟩)) (hm6:m≤65536) (hp:plB k.q1 2 19 k.ad=true) (ho:k.i.o=19):DoOk g b B M T m xs w0 w k aD aI:=by
 have hpo:plB k.q1 2 19 ((k.q1.a+k.imN)%4294967296)=true:=hp
 cases hdv:devB k.ad with
 | true=>exact fin1 (k.tl k.q2.a k.ad true true true) (M) (T) [.int .i64 3,.int .u32 (k.ad:Int),.int .i64 4] (by unfold WK.doK;rw [ho];show (if szO 19≠8∧devB k.ad=true then _ else _)=_;rw [if_pos ⟨by decide,hdv⟩]) (by unfold WK.doX;rw [ho];rfl) (by unfold WK.doC;rw [ho];rfl) (by unfold WK.doM;rw [ho];show (if devB k.ad=true then _ else _)=_;rw [if_pos hdv]) (by unfold WK.doT;rw [ho];show (if devB k.ad=true then _ else _)=_;rw [if_pos hdv]) (c61_store_r g k 19 0 (fun w'=>∃ v,Stp g b B (M) (T) v (m+1) (xs++[Value.int IntKind.i64 3,Value.int IntKind.u32 (k.ad:Int),Value.int IntKind.i64 4]) w0 w' ((k.tl k.q2.a k.ad true true true).tc v)) w hs.wk ho (by decide) (by decide) (c94_dev g b B M T tv m xs w0 w k 19 k.i.r1 k.i.r2 k.imN k.q1 k.q2 hs hmp hm6 ho (by decide) (by decide) rfl h1 rfl h2 rfl rfl (hf _) (hf _) k.imN_eq hpo rfl hdv))
 | false=>exact fin1 (k) (stB M k.ad 4 k.q2.a) (stT T k.ad false) [.int .i64 3,.int .u32 (k.ad:Int),.int .i64 4] (by unfold WK.doK;rw [ho];show (if szO 19≠8∧devB k.ad=true then _ else _)=_;rw [if_neg (by rw [hdv];simp)]) (by unfold WK.doX;rw [ho];rfl) (by unfold WK.doC;rw [ho];rfl) (by unfold WK.doM;rw [ho];show (if devB k.ad=true then _ else _)=_;rw [if_neg (by rw [hdv];decide)];rfl) (by unfold WK.doT;rw [ho];show (if devB k.ad=true then _ else _)=_;rw [if_neg (by rw [hdv];decide)]) (c61_store_r g k 19 0 (fun w'=>∃ v,Stp g b B (stB M k.ad 4 k.q2.a) (stT T k.ad false) v (m+1) (xs++[Value.int IntKind.i64 3,Value.int IntKind.u32 (k.ad:Int),Value.int IntKind.i64 4]) w0 w' ((k).tc v)) w hs.wk ho (by decide) (by decide) (c94_n4 g b B M T tv m xs w0 w k 19 k.i.r1 k.i.r2 k.imN k.q1 k.q2 hs hmp hm6 ho (by decide) (by decide) rfl h1 rfl h2 rfl rfl (hf _) (hf _) k.imN_eq hpo rfl hdv))
theorem do_20 (hs:Stp g b B M T tv m xs w0 w k) (hd:k.i.rd<16) (h1:k.i.r1<16) (h2:k.i.r2<16) (hf:∀ i,(k.A.c i).fit) (hmp:k.mp=.pointer (some ⟨b,0,none⟩)) (hm6:m≤65536) (hp:plB k.q1 2 20 k.ad=true) (hl:¬ (k.q2.g=true∧k.q2.p/16%2=0∧k.q1.p/32%2=0)) (ho:k.i.o=20):DoOk g b B M T m xs w0 w k aD aI:=by
 have hpo:plB k.q1 2 20 ((k.q1.a+k.imN)%4294967296)=true:=hp
 by_cases hg:k.q2.g=true
 ·by_cases h16:k.q2.p/16%2=1
  ·exact fin1 (k) (scB M k.ad (capB k.q2)) (stT T k.ad k.q2.g) [.int .i64 3,.int .u32 (k.ad:Int),.int .i64 8] (by unfold WK.doK;rw [ho];rfl) (by unfold WK.doX;rw [ho];rfl) (by unfold WK.doC;rw [ho];rfl) (by unfold WK.doM;rw [ho];rfl) (by unfold WK.doT;rw [ho];rfl) (c61_store_r g k 20 0 (fun w'=>∃ v,Stp g b B (scB M k.ad (capB k.q2)) (stT T k.ad k.q2.g) v (m+1) (xs++[Value.int IntKind.i64 3,Value.int IntKind.u32 (k.ad:Int),Value.int IntKind.i64 8]) w0 w' ((k).tc v)) w hs.wk ho (by decide) (by decide) (c94_capp1 g b B M T tv m xs w0 w k 20 k.i.r1 k.i.r2 k.imN k.q1 k.q2 hs hmp hm6 ho (by decide) (by decide) rfl h1 rfl h2 rfl rfl (hf _) (hf _) k.imN_eq hpo rfl hg h16))
  ·by_cases h32:k.q1.p/32%2=1
   ·exact fin1 (k) (scB M k.ad (capB k.q2)) (stT T k.ad k.q2.g) [.int .i64 3,.int .u32 (k.ad:Int),.int .i64 8] (by unfold WK.doK;rw [ho];rfl) (by unfold WK.doX;rw [ho];rfl) (by unfold WK.doC;rw [ho];rfl) (by unfold WK.doM;rw [ho];rfl) (by unfold WK.doT;rw [ho];rfl) (c61_store_r g k 20 0 (fun w'=>∃ v,Stp g b B (scB M k.ad (capB k.q2)) (stT T k.ad k.q2.g) v (m+1) (xs++[Value.int IntKind.i64 3,Value.int IntKind.u32 (k.ad:Int),Value.int IntKind.i64 8]) w0 w' ((k).tc v)) w hs.wk ho (by decide) (by decide) (c94_capl1 g b B M T tv m xs w0 w k 20 k.i.r1 k.i.r2 k.imN k.q1 k.q2 hs hmp hm6 ho (by decide) (by decide) rfl h1 rfl h2 rfl rfl (hf _) (hf _) k.imN_eq hpo rfl hg (by omega) h32))
   ·exact absurd ⟨hg,by omega,by omega⟩ hl
 ·exact fin1 (k) (scB M k.ad (capB k.q2)) (stT T k.ad k.q2.g) [.int .i64 3,.int .u32 (k.ad:Int),.int .i64 8] (by unfold WK.doK;rw [ho];rfl) (by unfold WK.doX;rw [ho];rfl) (by unfold WK.doC;rw [ho];rfl) (by unfold WK.doM;rw [ho];rfl) (by unfold WK.doT;rw [ho];rfl) (c61_store_r g k 20 0 (fun w'=>∃ v,Stp g b B (scB M k.ad (capB k.q2)) (stT T k.ad k.q2.g) v (m+1) (xs++[Value.int IntKind.i64 3,Value.int IntKind.u32 (k.ad:Int),Value.int IntKind.i64 8]) w0 w' ((k).tc v)) w hs.wk ho (by decide) (by decide) (c94_capg0 g b B M T tv m xs w0 w k 20 k.i.r1 k.i.r2 k.imN k.q1 k.q2 hs hmp hm6 ho (by decide) (by decide) rfl h1 rfl h2 rfl rfl (hf _) (hf _) k.imN_eq hpo rfl (by simpa using hg)))
end
section
variable {g b B:Nat} {M:Nat→Nat} {T:Nat→Bool} {tv:Value} {m:Nat} {xs:List Value} {w0 w:World} {k:WK} {aD:Nat→Nat→Nat→Nat} {aI:Nat→Nat→Nat→Bool}
theorem do_21 (hs:Stp g b B M T tv m xs w0 w k) (hd:k.i.rd<16) (h1:k.i.r1<16) (h2:k.i.r2<16) (hf:∀ i,(k.A.c i).fit) (hA:AluOk aD aI) (ho:k.i.o=21):DoOk g b B M T m xs w0 w k aD aI:=by
 obtain ⟨e,K⟩:=hA.d 21 k.q1.a k.imN (by decide) (by decide) (hf _).1 k.imN_lt
 exact fin0 hs (k.putN k.i.rd (numQ (aD 21 k.q1.a k.imN))) (by unfold WK.doK;rw [ho];rfl) (by unfold WK.doX;rw [ho];rfl) (by unfold WK.doC;rw [ho];rfl) (by unfold WK.doM;rw [ho];rfl) (by unfold WK.doT;rw [ho];rfl) rfl ((c61_imm g k 21 k.i.r1 k.i.rd _ e k.imN k.q1 w hs.wk ho (by decide) (by decide) rfl h1 rfl hd rfl k.imN_eq K).mono fun e w' ⟨a,b,c⟩=>⟨a,b,c.sv (Nat.le_refl _)⟩)
theorem do_22 (hs:Stp g b B M T tv m xs w0 w k) (hd:k.i.rd<16) (h1:k.i.r1<16) (h2:k.i.r2<16) (hf:∀ i,(k.A.c i).fit) (hA:AluOk aD aI) (ho:k.i.o=22):DoOk g b B M T m xs w0 w k aD aI:=by
 obtain ⟨e,K⟩:=hA.d 22 k.q1.a k.imN (by decide) (by decide) (hf _).1 k.imN_lt
 exact fin0 hs (k.putN k.i.rd (numQ (aD 22 k.q1.a k.imN))) (by unfold WK.doK;rw [ho];rfl) (by unfold WK.doX;rw [ho];rfl) (by unfold WK.doC;rw [ho];rfl) (by unfold WK.doM;rw [ho];rfl) (by unfold WK.doT;rw [ho];rfl) rfl ((c61_imm g k 22 k.i.r1 k.i.rd _ e k.imN k.q1 w hs.wk ho (by decide) (by decide) rfl h1 rfl hd rfl k.imN_eq K).mono fun e w' ⟨a,b,c⟩=>⟨a,b,c.sv (Nat.le_refl _)⟩)
theorem do_23 (hs:Stp g b B M T tv m xs w0 w k) (hd:k.i.rd<16) (h1:k.i.r1<16) (h2:k.i.r2<16) (hf:∀ i,(k.A.c i).fit) (hA:AluOk aD aI) (ho:k.i.o=23):DoOk g b B M T m xs w0 w k aD aI:=by
 obtain ⟨e,K⟩:=hA.d 23 k.q1.a k.imN (by decide) (by decide) (hf _).1 k.imN_lt
 exact fin0 hs (k.putN k.i.rd (numQ (aD 23 k.q1.a k.imN))) (by unfold WK.doK;rw [ho];rfl) (by unfold WK.doX;rw [ho];rfl) (by unfold WK.doC;rw [ho];rfl) (by unfold WK.doM;rw [ho];rfl) (by unfold WK.doT;rw [ho];rfl) rfl ((c61_imm g k 23 k.i.r1 k.i.rd _ e k.imN k.q1 w hs.wk ho (by decide) (by decide) rfl h1 rfl hd rfl k.imN_eq K).mono fun e w' ⟨a,b,c⟩=>⟨a,b,c.sv (Nat.le_refl _)⟩)
theorem do_24 (hs:Stp g b B M T tv m xs w0 w k) (hd:k.i.rd<16) (h1:k.i.r1<16) (h2:k.i.r2<16) (hf:∀ i,(k.A.c i).fit) (hA:AluOk aD aI) (ho:k.i.o=24):DoOk g b B M T m xs w0 w k aD aI:=by
 obtain ⟨e,K⟩:=hA.d 24 k.q1.a k.imN (by decide) (by decide) (hf _).1 k.imN_lt
 exact fin0 hs (k.putN k.i.rd (numQ (aD 24 k.q1.a k.imN))) (by unfold WK.doK;rw [ho];rfl) (by unfold WK.doX;rw [ho];rfl) (by unfold WK.doC;rw [ho];rfl) (by unfold WK.doM;rw [ho];rfl) (by unfold WK.doT;rw [ho];rfl) rfl ((c61_imm g k 24 k.i.r1 k.i.rd _ e k.imN k.q1 w hs.wk ho (by decide) (by decide) rfl h1 rfl hd rfl k.imN_eq K).mono fun e w' ⟨a,b,c⟩=>⟨a,b,c.sv (Nat.le_refl _)⟩)
theorem do_25 (hs:Stp g b B M T tv m xs w0 w k) (hd:k.i.rd<16) (h1:k.i.r1<16) (h2:k.i.r2<16) (hf:∀ i,(k.A.c i).fit) (hA:AluOk aD aI) (ho:k.i.o=25):DoOk g b B M T m xs w0 w k aD aI:=by
 obtain ⟨e,K⟩:=hA.d 25 k.q1.a k.imN (by decide) (by decide) (hf _).1 k.imN_lt
 exact fin0 hs (k.putN k.i.rd (numQ (aD 25 k.q1.a k.imN))) (by unfold WK.doK;rw [ho];rfl) (by unfold WK.doX;rw [ho];rfl) (by unfold WK.doC;rw [ho];rfl) (by unfold WK.doM;rw [ho];rfl) (by unfold WK.doT;rw [ho];rfl) rfl ((c61_imm g k 25 k.i.r1 k.i.rd _ e k.imN k.q1 w hs.wk ho (by decide) (by decide) rfl h1 rfl hd rfl k.imN_eq K).mono fun e w' ⟨a,b,c⟩=>⟨a,b,c.sv (Nat.le_refl _)⟩)
theorem do_26 (hs:Stp g b B M T tv m xs w0 w k) (hd:k.i.rd<16) (h1:k.i.r1<16) (h2:k.i.r2<16) (hf:∀ i,(k.A.c i).fit) (hA:AluOk aD aI) (ho:k.i.o=26):DoOk g b B M T m xs w0 w k aD aI:=by
 obtain ⟨e,K⟩:=hA.d 26 k.q1.a k.imN (by decide) (by decide) (hf _).1 k.imN_lt
 exact fin0 hs (k.putN k.i.rd (numQ (aD 26 k.q1.a k.imN))) (by unfold WK.doK;rw [ho];rfl) (by unfold WK.doX;rw [ho];rfl) (by unfold WK.doC;rw [ho];rfl) (by unfold WK.doM;rw [ho];rfl) (by unfold WK.doT;rw [ho];rfl) rfl ((c61_imm g k 26 k.i.r1 k.i.rd _ e k.imN k.q1 w hs.wk ho (by decide) (by decide) rfl h1 rfl hd rfl k.imN_eq K).mono fun e w' ⟨a,b,c⟩=>⟨a,b,c.sv (Nat.le_refl _)⟩)
theorem do_27 (hs:Stp g b B M T tv m xs w0 w k) (hd:k.i.rd<16) (h1:k.i.r1<16) (h2:k.i.r2<16) (hf:∀ i,(k.A.c i).fit) (hA:AluOk aD aI) (ho:k.i.o=27):DoOk g b B M T m xs w0 w k aD aI:=by
 obtain ⟨e,K⟩:=hA.d 27 k.q1.a k.imN (by decide) (by decide) (hf _).1 k.imN_lt
 exact fin0 hs (k.putN k.i.rd (numQ (aD 27 k.q1.a k.imN))) (by unfold WK.doK;rw [ho];rfl) (by unfold WK.doX;rw [ho];rfl) (by unfold WK.doC;rw [ho];rfl) (by unfold WK.doM;rw [ho];rfl) (by unfold WK.doT;rw [ho];rfl) rfl ((c61_imm g k 27 k.i.r1 k.i.rd _ e k.imN k.q1 w hs.wk ho (by decide) (by decide) rfl h1 rfl hd rfl k.imN_eq K).mono fun e w' ⟨a,b,c⟩=>⟨a,b,c.sv (Nat.le_refl _)⟩)
theorem do_28 (hs:Stp g b B M T tv m xs w0 w k) (hd:k.i.rd<16) (h1:k.i.r1<16) (h2:k.i.r2<16) (hf:∀ i,(k.A.c i).fit) (hA:AluOk aD aI) (ho:k.i.o=28):DoOk g b B M T m xs w0 w k aD aI:=by
 obtain ⟨e,K⟩:=hA.d 28 k.q1.a k.imN (by decide) (by decide) (hf _).1 k.imN_lt
 exact fin0 hs (k.putN k.i.rd (numQ (aD 28 k.q1.a k.imN))) (by unfold WK.doK;rw [ho];rfl) (by unfold WK.doX;rw [ho];rfl) (by unfold WK.doC;rw [ho];rfl) (by unfold WK.doM;rw [ho];rfl) (by unfold WK.doT;rw [ho];rfl) rfl ((c61_imm g k 28 k.i.r1 k.i.rd _ e k.imN k.q1 w hs.wk ho (by decide) (by decide) rfl h1 rfl hd rfl k.imN_eq K).mono fun e w' ⟨a,b,c⟩=>⟨a,b,c.sv (Nat.le_refl _)⟩)
theorem do_29 (hs:Stp g b B M T tv m xs w0 w k) (hd:k.i.rd<16) (h1:k.i.r1<16) (h2:k.i.r2<16) (hf:∀ i,(k.A.c i).fit) (hA:AluOk aD aI) (ho:k.i.o=29):DoOk g b B M T m xs w0 w k aD aI:=by
 obtain ⟨e,K⟩:=hA.d 29 k.q1.a k.imN (by decide) (by decide) (hf _).1 k.imN_lt
 exact fin0 hs (k.putN k.i.rd (numQ (aD 29 k.q1.a k.imN))) (by unfold WK.doK;rw [ho];rfl) (by unfold WK.doX;rw [ho];rfl) (by unfold WK.doC;rw [ho];rfl) (by unfold WK.doM;rw [ho];rfl) (by unfold WK.doT;rw [ho];rfl) rfl ((c61_imm g k 29 k.i.r1 k.i.rd _ e k.imN k.q1 w hs.wk ho (by decide) (by decide) rfl h1 rfl hd rfl k.imN_eq K).mono fun e w' ⟨a,b,c⟩=>⟨a,b,c.sv (Nat.le_refl _)⟩)
theorem do_30 (hs:Stp g b B M T tv m xs w0 w k) (hd:k.i.rd<16) (h1:k.i.r1<16) (h2:k.i.r2<16) (hf:∀ i,(k.A.c i).fit) (hA:AluOk aD aI) (ho:k.i.o=30):DoOk g b B M T m xs w0 w k aD aI:=by
 obtain ⟨e,K⟩:=hA.d 30 k.q1.a k.q2.a (by decide) (by decide) (hf _).1 (hf _).1
 exact fin0 hs (k.putN k.i.rd (numQ (aD 30 k.q1.a k.q2.a))) (by unfold WK.doK;rw [ho];rfl) (by unfold WK.doX;rw [ho];rfl) (by unfold WK.doC;rw [ho];rfl) (by unfold WK.doM;rw [ho];rfl) (by unfold WK.doT;rw [ho];rfl) rfl ((c61_reg g k 30 k.i.r1 k.i.r2 k.i.rd _ e k.q1 k.q2 w hs.wk ho (by decide) (by decide) rfl h1 rfl h2 rfl hd rfl rfl K).mono fun e w' ⟨a,b,c⟩=>⟨a,b,c.sv (Nat.le_refl _)⟩)
theorem do_31 (hs:Stp g b B M T tv m xs w0 w k) (hd:k.i.rd<16) (h1:k.i.r1<16) (h2:k.i.r2<16) (hf:∀ i,(k.A.c i).fit) (hA:AluOk aD aI) (ho:k.i.o=31):DoOk g b B M T m xs w0 w k aD aI:=by
 obtain ⟨e,K⟩:=hA.d 31 k.q1.a k.q2.a (by decide) (by decide) (hf _).1 (hf _).1
 exact fin0 hs (k.putN k.i.rd (numQ (aD 31 k.q1.a k.q2.a))) (by unfold WK.doK;rw [ho];rfl) (by unfold WK.doX;rw [ho];rfl) (by unfold WK.doC;rw [ho];rfl) (by unfold WK.doM;rw [ho];rfl) (by unfold WK.doT;rw [ho];rfl) rfl ((c61_reg g k 31 k.i.r1 k.i.r2 k.i.rd _ e k.q1 k.q2 w hs.wk ho (by decide) (by decide) rfl h1 rfl h2 rfl hd rfl rfl K).mono fun e w' ⟨a,b,c⟩=>⟨a,b,c.sv (Nat.le_refl _)⟩)
theorem do_32 (hs:Stp g b B M T tv m xs w0 w k) (hd:k.i.rd<16) (h1:k.i.r1<16) (h2:k.i.r2<16) (hf:∀ i,(k.A.c i).fit) (hA:AluOk aD aI) (ho:k.i.o=32):DoOk g b B M T m xs w0 w k aD aI:=by
 obtain ⟨e,K⟩:=hA.d 32 k.q1.a k.q2.a (by decide) (by decide) (hf _).1 (hf _).1
 exact fin0 hs (k.putN k.i.rd (numQ (aD 32 k.q1.a k.q2.a))) (by unfold WK.doK;rw [ho];rfl) (by unfold WK.doX;rw [ho];rfl) (by unfold WK.doC;rw [ho];rfl) (by unfold WK.doM;rw [ho];rfl) (by unfold WK.doT;rw [ho];rfl) rfl ((c61_reg g k 32 k.i.r1 k.i.r2 k.i.rd _ e k.q1 k.q2 w hs.wk ho (by decide) (by decide) rfl h1 rfl h2 rfl hd rfl rfl K).mono fun e w' ⟨a,b,c⟩=>⟨a,b,c.sv (Nat.le_refl _)⟩)
theorem do_33 (hs:Stp g b B M T tv m xs w0 w k) (hd:k.i.rd<16) (h1:k.i.r1<16) (h2:k.i.r2<16) (hf:∀ i,(k.A.c i).fit) (hA:AluOk aD aI) (ho:k.i.o=33):DoOk g b B M T m xs w0 w k aD aI:=by
 obtain ⟨e,K⟩:=hA.d 33 k.q1.a k.q2.a (by decide) (by decide) (hf _).1 (hf _).1
 exact fin0 hs (k.putN k.i.rd (numQ (aD 33 k.q1.a k.q2.a))) (by unfold WK.doK;rw [ho];rfl) (by unfold WK.doX;rw [ho];rfl) (by unfold WK.doC;rw [ho];rfl) (by unfold WK.doM;rw [ho];rfl) (by unfold WK.doT;rw [ho];rfl) rfl ((c61_reg g k 33 k.i.r1 k.i.r2 k.i.rd _ e k.q1 k.q2 w hs.wk ho (by decide) (by decide) rfl h1 rfl h2 rfl hd rfl rfl K).mono fun e w' ⟨a,b,c⟩=>⟨a,b,c.sv (Nat.le_refl _)⟩)
theorem do_34 (hs:Stp g b B M T tv m xs w0 w k) (hd:k.i.rd<16) (h1:k.i.r1<16) (h2:k.i.r2<16) (hf:∀ i,(k.A.c i).fit) (hA:AluOk aD aI) (ho:k.i.o=34):DoOk g b B M T m xs w0 w k aD aI:=by
 obtain ⟨e,K⟩:=hA.d 34 k.q1.a k.q2.a (by decide) (by decide) (hf _).1 (hf _).1
 exact fin0 hs (k.putN k.i.rd (numQ (aD 34 k.q1.a k.q2.a))) (by unfold WK.doK;rw [ho];rfl) (by unfold WK.doX;rw [ho];rfl) (by unfold WK.doC;rw [ho];rfl) (by unfold WK.doM;rw [ho];rfl) (by unfold WK.doT;rw [ho];rfl) rfl ((c61_reg g k 34 k.i.r1 k.i.r2 k.i.rd _ e k.q1 k.q2 w hs.wk ho (by decide) (by decide) rfl h1 rfl h2 rfl hd rfl rfl K).mono fun e w' ⟨a,b,c⟩=>⟨a,b,c.sv (Nat.le_refl _)⟩)
theorem do_35 (hs:Stp g b B M T tv m xs w0 w k) (hd:k.i.rd<16) (h1:k.i.r1<16) (h2:k.i.r2<16) (hf:∀ i,(k.A.c i).fit) (hA:AluOk aD aI) (ho:k.i.o=35):DoOk g b B M T m xs w0 w k aD aI:=by
 obtain ⟨e,K⟩:=hA.d 35 k.q1.a k.q2.a (by decide) (by decide) (hf _).1 (hf _).1
 exact fin0 hs (k.putN k.i.rd (numQ (aD 35 k.q1.a k.q2.a))) (by unfold WK.doK;rw [ho];rfl) (by unfold WK.doX;rw [ho];rfl) (by unfold WK.doC;rw [ho];rfl) (by unfold WK.doM;rw [ho];rfl) (by unfold WK.doT;rw [ho];rfl) rfl ((c61_reg g k 35 k.i.r1 k.i.r2 k.i.rd _ e k.q1 k.q2 w hs.wk ho (by decide) (by decide) rfl h1 rfl h2 rfl hd rfl rfl K).mono fun e w' ⟨a,b,c⟩=>⟨a,b,c.sv (Nat.le_refl _)⟩)
theorem do_36 (hs:Stp g b B M T tv m xs w0 w k) (hd:k.i.rd<16) (h1:k.i.r1<16) (h2:k.i.r2<16) (hf:∀ i,(k.A.c i).fit) (hA:AluOk aD aI) (ho:k.i.o=36):DoOk g b B M T m xs w0 w k aD aI:=by
 obtain ⟨e,K⟩:=hA.d 36 k.q1.a k.q2.a (by decide) (by decide) (hf _).1 (hf _).1
 exact fin0 hs (k.putN k.i.rd (numQ (aD 36 k.q1.a k.q2.a))) (by unfold WK.doK;rw [ho];rfl) (by unfold WK.doX;rw [ho];rfl) (by unfold WK.doC;rw [ho];rfl) (by unfold WK.doM;rw [ho];rfl) (by unfold WK.doT;rw [ho];rfl) rfl ((c61_reg g k 36 k.i.r1 k.i.r2 k.i.rd _ e k.q1 k.q2 w hs.wk ho (by decide) (by decide) rfl h1 rfl h2 rfl hd rfl rfl K).mono fun e w' ⟨a,b,c⟩=>⟨a,b,c.sv (Nat.le_refl _)⟩)
theorem do_37 (hs:Stp g b B M T tv m xs w0 w k) (hd:k.i.rd<16) (h1:k.i.r1<16) (h2:k.i.r2<16) (hf:∀ i,(k.A.c i).fit) (hA:AluOk aD aI) (ho:k.i.o=37):DoOk g b B M T m xs w0 w k aD aI:=by
 obtain ⟨e,K⟩:=hA.d 37 k.q1.a k.q2.a (by decide) (by decide) (hf _).1 (hf _).1
 exact fin0 hs (k.putN k.i.rd (numQ (aD 37 k.q1.a k.q2.a))) (by unfold WK.doK;rw [ho];rfl) (by unfold WK.doX;rw [ho];rfl) (by unfold WK.doC;rw [ho];rfl) (by unfold WK.doM;rw [ho];rfl) (by unfold WK.doT;rw [ho];rfl) rfl ((c61_reg g k 37 k.i.r1 k.i.r2 k.i.rd _ e k.q1 k.q2 w hs.wk ho (by decide) (by decide) rfl h1 rfl h2 rfl hd rfl rfl K).mono fun e w' ⟨a,b,c⟩=>⟨a,b,c.sv (Nat.le_refl _)⟩)
theorem do_38 (hs:Stp g b B M T tv m xs w0 w k) (hd:k.i.rd<16) (h1:k.i.r1<16) (h2:k.i.r2<16) (hf:∀ i,(k.A.c i).fit) (hA:AluOk aD aI) (ho:k.i.o=38):DoOk g b B M T m xs w0 w k aD aI:=by
 obtain ⟨e,K⟩:=hA.d 38 k.q1.a k.q2.a (by decide) (by decide) (hf _).1 (hf _).1
 exact fin0 hs (k.putN k.i.rd (numQ (aD 38 k.q1.a k.q2.a))) (by unfold WK.doK;rw [ho];rfl) (by unfold WK.doX;rw [ho];rfl) (by unfold WK.doC;rw [ho];rfl) (by unfold WK.doM;rw [ho];rfl) (by unfold WK.doT;rw [ho];rfl) rfl ((c61_reg g k 38 k.i.r1 k.i.r2 k.i.rd _ e k.q1 k.q2 w hs.wk ho (by decide) (by decide) rfl h1 rfl h2 rfl hd rfl rfl K).mono fun e w' ⟨a,b,c⟩=>⟨a,b,c.sv (Nat.le_refl _)⟩)
theorem do_39 (hs:Stp g b B M T tv m xs w0 w k) (hd:k.i.rd<16) (h1:k.i.r1<16) (h2:k.i.r2<16) (hf:∀ i,(k.A.c i).fit) (hA:AluOk aD aI) (ho:k.i.o=39):DoOk g b B M T m xs w0 w k aD aI:=by
 obtain ⟨e,K⟩:=hA.d 39 k.q1.a k.q2.a (by decide) (by decide) (hf _).1 (hf _).1
 exact fin0 hs (k.putN k.i.rd (numQ (aD 39 k.q1.a k.q2.a))) (by unfold WK.doK;rw [ho];rfl) (by unfold WK.doX;rw [ho];rfl) (by unfold WK.doC;rw [ho];rfl) (by unfold WK.doM;rw [ho];rfl) (by unfold WK.doT;rw [ho];rfl) rfl ((c61_reg g k 39 k.i.r1 k.i.r2 k.i.rd _ e k.q1 k.q2 w hs.wk ho (by decide) (by decide) rfl h1 rfl h2 rfl hd rfl rfl K).mono fun e w' ⟨a,b,c⟩=>⟨a,b,c.sv (Nat.le_refl _)⟩)
theorem do_40 (hs:Stp g b B M T tv m xs w0 w k) (hd:k.i.rd<16) (h1:k.i.r1<16) (h2:k.i.r2<16) (hf:∀ i,(k.A.c i).fit) (hA:AluOk aD aI) (ho:k.i.o=40):DoOk g b B M T m xs w0 w k aD aI:=by
 obtain ⟨e,K⟩:=hA.d 40 k.q1.a k.q2.a (by decide) (by decide) (hf _).1 (hf _).1
 exact fin0 hs (k.putN k.i.rd (numQ (aD 40 k.q1.a k.q2.a))) (by unfold WK.doK;rw [ho];rfl) (by unfold WK.doX;rw [ho];rfl) (by unfold WK.doC;rw [ho];rfl) (by unfold WK.doM;rw [ho];rfl) (by unfold WK.doT;rw [ho];rfl) rfl ((c61_reg g k 40 k.i.r1 k.i.r2 k.i.rd _ e k.q1 k.q2 w hs.wk ho (by decide) (by decide) rfl h1 rfl h2 rfl hd rfl rfl K).mono fun e w' ⟨a,b,c⟩=>⟨a,b,c.sv (Nat.le_refl _)⟩)
theorem do_41 (hs:Stp g b B M T tv m xs w0 w k) (hd:k.i.rd<16) (h1:k.i.r1<16) (h2:k.i.r2<16) (hf:∀ i,(k.A.c i).fit) (hA:AluOk aD aI) (ho:k.i.o=41):DoOk g b B M T m xs w0 w k aD aI:=by
 obtain ⟨e,K⟩:=hA.d 41 k.q1.a k.q2.a (by decide) (by decide) (hf _).1 (hf _).1
 exact fin0 hs (k.putN k.i.rd (numQ (aD 41 k.q1.a k.q2.a))) (by unfold WK.doK;rw [ho];rfl) (by unfold WK.doX;rw [ho];rfl) (by unfold WK.doC;rw [ho];rfl) (by unfold WK.doM;rw [ho];rfl) (by unfold WK.doT;rw [ho];rfl) rfl ((c61_reg g k 41 k.i.r1 k.i.r2 k.i.rd _ e k.q1 k.q2 w hs.wk ho (by decide) (by decide) rfl h1 rfl h2 rfl hd rfl rfl K).mono fun e w' ⟨a,b,c⟩=>⟨a,b,c.sv (Nat.le_refl _)⟩)
theorem do_42 (hs:Stp g b B M T tv m xs w0 w k) (hd:k.i.rd<16) (h1:k.i.r1<16) (h2:k.i.r2<16) (hf:∀ i,(k.A.c i).fit) (hA:AluOk aD aI) (ho:k.i.o=42):DoOk g b B M T m xs w0 w k aD aI:=by
 obtain ⟨e,K⟩:=hA.d 42 k.q1.a k.q2.a (by decide) (by decide) (hf _).1 (hf _).1
 exact fin0 hs (k.putN k.i.rd (numQ (aD 42 k.q1.a k.q2.a))) (by unfold WK.doK;rw [ho];rfl) (by unfold WK.doX;rw [ho];rfl) (by unfold WK.doC;rw [ho];rfl) (by unfold WK.doM;rw [ho];rfl) (by unfold WK.doT;rw [ho];rfl) rfl ((c61_reg g k 42 k.i.r1 k.i.r2 k.i.rd _ e k.q1 k.q2 w hs.wk ho (by decide) (by decide) rfl h1 rfl h2 rfl hd rfl rfl K).mono fun e w' ⟨a,b,c⟩=>⟨a,b,c.sv (Nat.le_refl _)⟩)
theorem do_43 (hs:Stp g b B M T tv m xs w0 w k) (hd:k.i.rd<16) (h1:k.i.r1<16) (h2:k.i.r2<16) (hf:∀ i,(k.A.c i).fit) (hA:AluOk aD aI) (ho:k.i.o=43):DoOk g b B M T m xs w0 w k aD aI:=by
 obtain ⟨e,K⟩:=hA.d 43 k.q1.a k.q2.a (by decide) (by decide) (hf _).1 (hf _).1
 exact fin0 hs (k.putN k.i.rd (numQ (aD 43 k.q1.a k.q2.a))) (by unfold WK.doK;rw [ho];rfl) (by unfold WK.doX;rw [ho];rfl) (by unfold WK.doC;rw [ho];rfl) (by unfold WK.doM;rw [ho];rfl) (by unfold WK.doT;rw [ho];rfl) rfl ((c61_reg g k 43 k.i.r1 k.i.r2 k.i.rd _ e k.q1 k.q2 w hs.wk ho (by decide) (by decide) rfl h1 rfl h2 rfl hd rfl rfl K).mono fun e w' ⟨a,b,c⟩=>⟨a,b,c.sv (Nat.le_refl _)⟩)
theorem do_44 (hs:Stp g b B M T tv m xs w0 w k) (hd:k.i.rd<16) (h1:k.i.r1<16) (h2:k.i.r2<16) (hf:∀ i,(k.A.c i).fit) (hA:AluOk aD aI) (ho:k.i.o=44):DoOk g b B M T m xs w0 w k aD aI:=by
 obtain ⟨e,K⟩:=hA.d 44 k.q1.a k.q2.a (by decide) (by decide) (hf _).1 (hf _).1
 exact fin0 hs (k.putN k.i.rd (numQ (aD 44 k.q1.a k.q2.a))) (by unfold WK.doK;rw [ho];rfl) (by unfold WK.doX;rw [ho];rfl) (by unfold WK.doC;rw [ho];rfl) (by unfold WK.doM;rw [ho];rfl) (by unfold WK.doT;rw [ho];rfl) rfl ((c61_reg g k 44 k.i.r1 k.i.r2 k.i.rd _ e k.q1 k.q2 w hs.wk ho (by decide) (by decide) rfl h1 rfl h2 rfl hd rfl rfl K).mono fun e w' ⟨a,b,c⟩=>⟨a,b,c.sv (Nat.le_refl _)⟩)
theorem do_45 (hs:Stp g b B M T tv m xs w0 w k) (hd:k.i.rd<16) (h1:k.i.r1<16) (h2:k.i.r2<16) (hf:∀ i,(k.A.c i).fit) (hA:AluOk aD aI) (ho:k.i.o=45):DoOk g b B M T m xs w0 w k aD aI:=by
 obtain ⟨e,K⟩:=hA.d 45 k.q1.a k.q2.a (by decide) (by decide) (hf _).1 (hf _).1
 exact fin0 hs (k.putN k.i.rd (numQ (aD 45 k.q1.a k.q2.a))) (by unfold WK.doK;rw [ho];rfl) (by unfold WK.doX;rw [ho];rfl) (by unfold WK.doC;rw [ho];rfl) (by unfold WK.doM;rw [ho];rfl) (by unfold WK.doT;rw [ho];rfl) rfl ((c61_reg g k 45 k.i.r1 k.i.r2 k.i.rd _ e k.q1 k.q2 w hs.wk ho (by decide) (by decide) rfl h1 rfl h2 rfl hd rfl rfl K).mono fun e w' ⟨a,b,c⟩=>⟨a,b,c.sv (Nat.le_refl _)⟩)
theorem do_46 (hs:Stp g b B M T tv m xs w0 w k) (hd:k.i.rd<16) (h1:k.i.r1<16) (h2:k.i.r2<16) (hf:∀ i,(k.A.c i).fit) (hA:AluOk aD aI) (ho:k.i.o=46):DoOk g b B M T m xs w0 w k aD aI:=by
 obtain ⟨e,K⟩:=hA.d 46 k.q1.a k.q2.a (by decide) (by decide) (hf _).1 (hf _).1
 exact fin0 hs (k.putN k.i.rd (numQ (aD 46 k.q1.a k.q2.a))) (by unfold WK.doK;rw [ho];rfl) (by unfold WK.doX;rw [ho];rfl) (by unfold WK.doC;rw [ho];rfl) (by unfold WK.doM;rw [ho];rfl) (by unfold WK.doT;rw [ho];rfl) rfl ((c61_reg g k 46 k.i.r1 k.i.r2 k.i.rd _ e k.q1 k.q2 w hs.wk ho (by decide) (by decide) rfl h1 rfl h2 rfl hd rfl rfl K).mono fun e w' ⟨a,b,c⟩=>⟨a,b,c.sv (Nat.le_refl _)⟩)
theorem do_47 (hs:Stp g b B M T tv m xs w0 w k) (hd:k.i.rd<16) (h1:k.i.r1<16) (h2:k.i.r2<16) (hf:∀ i,(k.A.c i).fit) (hA:AluOk aD aI) (ho:k.i.o=47):DoOk g b B M T m xs w0 w k aD aI:=by
 obtain ⟨e,K⟩:=hA.d 47 k.q1.a k.q2.a (by decide) (by decide) (hf _).1 (hf _).1
 exact fin0 hs (k.putN k.i.rd (numQ (aD 47 k.q1.a k.q2.a))) (by unfold WK.doK;rw [ho];rfl) (by unfold WK.doX;rw [ho];rfl) (by unfold WK.doC;rw [ho];rfl) (by unfold WK.doM;rw [ho];rfl) (by unfold WK.doT;rw [ho];rfl) rfl ((c61_reg g k 47 k.i.r1 k.i.r2 k.i.rd _ e k.q1 k.q2 w hs.wk ho (by decide) (by decide) rfl h1 rfl h2 rfl hd rfl rfl K).mono fun e w' ⟨a,b,c⟩=>⟨a,b,c.sv (Nat.le_refl _)⟩)
end
end Go.Proofs.YtnkoknfihhdelaaGreatDoor
