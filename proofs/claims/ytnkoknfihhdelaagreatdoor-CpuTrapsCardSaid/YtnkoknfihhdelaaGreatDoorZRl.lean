import Derived.Test.YtnkoknfihhdelaaGreatDoorZRg
namespace Go.Proofs.YtnkoknfihhdelaaGreatDoor
open Go.ChangeShapes Go.WideShapes Go.ChangeAt Go.RowKit
set_option linter.unusedVariables false
set_option linter.unusedSimpArgs false
set_option maxRecDepth 100000
theorem Wk.sevenN {w:World} {g:Nat} {k:WK} (h:Wk w g k) (r o:Nat) (hr:r<21) (ho:o=152+7*r) (q:Cq) (hq:k.N.c r=q) :
  w.cell? ⟨g,o,none⟩=some (.bool q.g)∧w.cell? ⟨g,o+1,none⟩=some (.int .u32 (q.a:Int))∧w.cell? ⟨g,o+2,none⟩=some (.int .u8 (q.p:Int)) ∧
  w.cell? ⟨g,o+3,none⟩=some (.int .u8 (q.y:Int))∧w.cell? ⟨g,o+4,none⟩=some (.int .u8 (q.e:Int))∧w.cell? ⟨g,o+5,none⟩=some (.int .u16 (q.b:Int))∧w.cell? ⟨g,o+6,none⟩=some (.int .u16 (q.t:Int)):=by
 subst hq
 exact ⟨h.cellN r 0 hr (by decide) _ (by omega),h.cellN r 1 hr (by decide) _ (by omega),h.cellN r 2 hr (by decide) _ (by omega),h.cellN r 3 hr (by decide) _ (by omega),h.cellN r 4 hr (by decide) _ (by omega),h.cellN r 5 hr (by decide) _ (by omega),h.cellN r 6 hr (by decide) _ (by omega)⟩
theorem Wk.causeA {w:World} {g:Nat} {k:WK} (h:Wk w g k):w.cell? ⟨g,148,none⟩=some (.int .u32 (k.A.cause:Int)):=by
 rw [Blk.cell h,List.getElem?_toArray,show 148=1+(147+0) by omega,k.atA _ (by omega),k.A.tl 0]
 rfl
theorem Wk.wasA {w:World} {g:Nat} {k:WK} (h:Wk w g k):w.cell? ⟨g,150,none⟩=some (.bool k.A.was):=by
 rw [Blk.cell h,List.getElem?_toArray,show 150=1+(147+2) by omega,k.atA _ (by omega),k.A.tl 2]
 rfl
section
variable {P:Program} {o:Oper} {a:Act} {w:World} {K:Act→World→Prop} {Q:Exit→Act→World→Prop}
theorem wp_st (t:TypeId) (x y:Operand) (ho:o.op=.store t x y) (p:Addr) (v old:Value) (hx:a.eval x=.pointer (some p)) (hy:a.eval y=v) (hv:v.oneCell'=true) (ht:(P.info? t).map (·.size)=some 1) (hc:w.cell? p=some old) (hz:w.frozen? p=false) (hk:K (a.put o.dst undef) (w.setCell p v)):o.wp P a w K Q:=by
 have hcs:v.cells=#[v]:=by cases v <;> simp_all [Value.oneCell',Value.cells]
 have e:(storeVar t p v).run P w=.ok () (w.setCell p v):=by
  cases hq:P.info? t with
  | none=>simp [hq] at ht
  | some i =>
   have hs:i.size=1:=by simpa [hq] using ht
   have hst:(store (p.add 0) v).run P w=.ok () (w.setCell p v):=by
    rw [show p.add 0=p by unfold Addr.add;cases p;split <;> simp_all,run_store P w _ v _ hv,hc]
    simp [hz]
   simp [storeVar,sizeOf,typeInfo,hq,hcs,hs,storeCells,Sem.run_bind,hst]
 unfold Oper.wp execOp
 simp only [ho,hx,hy,Instr.storeAt,Instr.sureAddr,Sem.run_bind,Sem.run_pure,Result.andThen_ok,e]
 exact hk
end
set_option maxHeartbeats 2000000 in
theorem c142_28z (g:Nat) (k:WK) (rd r1:Nat) (q1 q3:Cq) (w:World) (h:Wk w g k) (him:k.i.im=28) (hd:k.i.rd=rd) (hd16:rd<16) (hr1:k.i.r1=r1) (h116:r1<16) (hq1:k.A.c r1=q1) (hq3:k.N.c 17=q3) (h0:r1=0) :
  Calls Tryz.prog 142 #[.pointer (some ⟨g,0,none⟩)] w fun e w'=>e=.returned (.tuple #[])∧Wk w' g (k.putN rd q3)∧Sv g w.heap.size w w':=by
 have hl:=Blk.lt h
 have x307:w.cell? ⟨g,307,none⟩=some (.int .i32 28):=by have:=h.cellT 4 307 rfl;rw [this];show some (Value.int .i32 k.i.im)=_;rw [him]
 obtain ⟨x0,x1,x2,x3,x4,x5,x6⟩:=h.sevenN 17 271 (by decide) rfl q3 hq3
 have K95:=Lib.hid (c95 g k q3 w h rd hd hd16)
 obtain ⟨k1,hk1⟩:∃ k1,k.putN rd q3=k1:=⟨_,rfl⟩
 have hkA:k1.A=k.A:=by rw [←hk1];rfl
 have hki:k1.i=k.i:=by rw [←hk1];rfl
 rw [hk1] at K95 ⊢
 have HX:Hid (∀ W,Wk W g k1→W.cell? ⟨g,305,none⟩=some (.int .u8 (r1:Int))):=Lib.hid (fun W hk=>by rw [←hr1,←hki];exact hk.cellT 2 305 rfl)
 have K136:Hid (∀ W,Wk W g k1→Calls Tryz.prog 136 #[.pointer (some ⟨g,0,none⟩)] W fun e w'=>e=.returned (.agg #[.bool q1.g,.int .u32 (q1.a:Int),.int .u8 (q1.p:Int),.int .u8 (q1.y:Int),.int .u8 (q1.e:Int),.int .u16 (q1.b:Int),.int .u16 (q1.t:Int)])∧Below W.heap.size W w'):=Lib.hid (fun W hk=>c136 g k1 W hk r1 q1 (by rw [hki];exact hr1) (by rw [hkA];exact hq1) h116)
 have HP:=Lib.hid (k1.putN_L 17 q1 (by decide))
 have b0:((r1:Int) != 0)=false:=by simp;omega
 clear h him hd hr1 hq1 hq3 hk1 hkA hki
 go_enter Tryz.func142,Tryz.ntmps142
 go_wp2_with fail
 refine K95.out.mono ?_
 rintro _ w1 ⟨rfl,hk1,ho1⟩
 have HK1:=Lib.hid hk1
 have HS1:Hid (Sv g w.heap.size w w1):=Lib.hid (ho1.sv (Nat.le_refl _))
 have x305:=HX.out w1 hk1
 have hlg:=Blk.lt hk1
 clear hk1 ho1 x0 x1 x2 x3 x4 x5 x6 x307
 go_wp2_with fail
 go_end0
 exact ⟨rfl,HK1.out,HS1.out⟩
set_option maxHeartbeats 2000000 in
theorem c142_28 (g:Nat) (k:WK) (rd r1:Nat) (q1 q3:Cq) (w:World) (h:Wk w g k) (him:k.i.im=28) (hd:k.i.rd=rd) (hd16:rd<16) (hr1:k.i.r1=r1) (h116:r1<16) (hq1:k.A.c r1=q1) (hq3:k.N.c 17=q3) (h0:r1≠0) :
  Calls Tryz.prog 142 #[.pointer (some ⟨g,0,none⟩)] w fun e w'=>e=.returned (.tuple #[])∧Wk w' g ((k.putN rd q3).putN 17 q1)∧Sv g w.heap.size w w':=by
 have hl:=Blk.lt h
 have x307:w.cell? ⟨g,307,none⟩=some (.int .i32 28):=by have:=h.cellT 4 307 rfl;rw [this];show some (Value.int .i32 k.i.im)=_;rw [him]
 obtain ⟨x0,x1,x2,x3,x4,x5,x6⟩:=h.sevenN 17 271 (by decide) rfl q3 hq3
 have K95:=Lib.hid (c95 g k q3 w h rd hd hd16)
 obtain ⟨k1,hk1⟩:∃ k1,k.putN rd q3=k1:=⟨_,rfl⟩
 have hkA:k1.A=k.A:=by rw [←hk1];rfl
 have hki:k1.i=k.i:=by rw [←hk1];rfl
 rw [hk1] at K95 ⊢
 have HX:Hid (∀ W,Wk W g k1→W.cell? ⟨g,305,none⟩=some (.int .u8 (r1:Int))):=Lib.hid (fun W hk=>by rw [←hr1,←hki];exact hk.cellT 2 305 rfl)
 have K136:Hid (∀ W,Wk W g k1→Calls Tryz.prog 136 #[.pointer (some ⟨g,0,none⟩)] W fun e w'=>e=.returned (.agg #[.bool q1.g,.int .u32 (q1.a:Int),.int .u8 (q1.p:Int),.int .u8 (q1.y:Int),.int .u8 (q1.e:Int),.int .u16 (q1.b:Int),.int .u16 (q1.t:Int)])∧Below W.heap.size W w'):=Lib.hid (fun W hk=>c136 g k1 W hk r1 q1 (by rw [hki];exact hr1) (by rw [hkA];exact hq1) h116)
 have HP:=Lib.hid (k1.putN_L 17 q1 (by decide))
 have b0:((r1:Int) != 0)=true:=by simp;omega
 clear h him hd hr1 hq1 hq3 hk1 hkA hki
 go_enter Tryz.func142,Tryz.ntmps142
 go_wp2_with fail
 refine K95.out.mono ?_
 rintro _ w1 ⟨rfl,hk1,ho1⟩
 have HK1:=Lib.hid hk1
 have HS1:Hid (Sv g w.heap.size w w1):=Lib.hid (ho1.sv (Nat.le_refl _))
 have x305:=HX.out w1 hk1
 have hlg:=Blk.lt hk1
 clear hk1 ho1 x0 x1 x2 x3 x4 x5 x6 x307
 go_wp2_with fail
 refine (K136.out w1 HK1.out).mono ?_
 rintro _ w2 ⟨rfl,hb2⟩
 have HK2:Hid (Wk w2 g k1):=Lib.hid (Blk.below HK1.out hb2 HK1.out.lt)
 have HS2:Hid (Sv g w.heap.size w w2):=Lib.hid (HS1.out.trans (Below.sv hb2 HS1.out.size))
 clear hb2 x305 hlg
 have hput:putA k1.L.toArray 271 (#[.bool q1.g,.int .u32 (q1.a:Int),.int .u8 (q1.p:Int),.int .u8 (q1.y:Int),.int .u8 (q1.e:Int),.int .u16 (q1.b:Int),.int .u16 (q1.t:Int)]).toList=(k1.putN 17 q1).L.toArray:=HP.out
 go_wp2_with (refine wpList_store_sub rfl 29 (.tmp 54) (.tmp 53) rfl g 271 #[.bool q1.g,.int .u32 (q1.a:Int),.int .u8 (q1.p:Int),.int .u8 (q1.y:Int),.int .u8 (q1.e:Int),.int .u16 (q1.b:Int),.int .u16 (q1.t:Int)] rfl rfl 81 k1.L.toArray HK2.out info29s (by have:=k1.len;simp;omega) (arr_all q1) ?_;rw [hput])
 have HK3:Hid (Wk (w2.setRow g (k1.putN 17 q1).L.toArray) g (k1.putN 17 q1)):=Lib.hid (blk_row HK2.out _)
 have HS3:Hid (Sv g w.heap.size w (w2.setRow g (k1.putN 17 q1).L.toArray)):=Lib.hid (HS2.out.trans ((only_row w2 g _).sv HS2.out.size))
 go_end0
 exact ⟨rfl,HK3.out,HS3.out⟩
set_option maxHeartbeats 2000000 in
theorem c142_29z (g:Nat) (k:WK) (rd r1:Nat) (q1 q3:Cq) (w:World) (h:Wk w g k) (him:k.i.im=29) (hd:k.i.rd=rd) (hd16:rd<16) (hr1:k.i.r1=r1) (h116:r1<16) (hq1:k.A.c r1=q1) (hq3:k.N.c 18=q3) (h0:r1=0) :
  Calls Tryz.prog 142 #[.pointer (some ⟨g,0,none⟩)] w fun e w'=>e=.returned (.tuple #[])∧Wk w' g (k.putN rd q3)∧Sv g w.heap.size w w':=by
 have hl:=Blk.lt h
 have x307:w.cell? ⟨g,307,none⟩=some (.int .i32 29):=by have:=h.cellT 4 307 rfl;rw [this];show some (Value.int .i32 k.i.im)=_;rw [him]
 obtain ⟨x0,x1,x2,x3,x4,x5,x6⟩:=h.sevenN 18 278 (by decide) rfl q3 hq3
 have K95:=Lib.hid (c95 g k q3 w h rd hd hd16)
 obtain ⟨k1,hk1⟩:∃ k1,k.putN rd q3=k1:=⟨_,rfl⟩
 have hkA:k1.A=k.A:=by rw [←hk1];rfl
 have hki:k1.i=k.i:=by rw [←hk1];rfl
 rw [hk1] at K95 ⊢
 have HX:Hid (∀ W,Wk W g k1→W.cell? ⟨g,305,none⟩=some (.int .u8 (r1:Int))):=Lib.hid (fun W hk=>by rw [←hr1,←hki];exact hk.cellT 2 305 rfl)
 have K136:Hid (∀ W,Wk W g k1→Calls Tryz.prog 136 #[.pointer (some ⟨g,0,none⟩)] W fun e w'=>e=.returned (.agg #[.bool q1.g,.int .u32 (q1.a:Int),.int .u8 (q1.p:Int),.int .u8 (q1.y:Int),.int .u8 (q1.e:Int),.int .u16 (q1.b:Int),.int .u16 (q1.t:Int)])∧Below W.heap.size W w'):=Lib.hid (fun W hk=>c136 g k1 W hk r1 q1 (by rw [hki];exact hr1) (by rw [hkA];exact hq1) h116)
 have HP:=Lib.hid (k1.putN_L 18 q1 (by decide))
 have b0:((r1:Int) != 0)=false:=by simp;omega
 clear h him hd hr1 hq1 hq3 hk1 hkA hki
 go_enter Tryz.func142,Tryz.ntmps142
 go_wp2_with fail
 refine K95.out.mono ?_
 rintro _ w1 ⟨rfl,hk1,ho1⟩
 have HK1:=Lib.hid hk1
 have HS1:Hid (Sv g w.heap.size w w1):=Lib.hid (ho1.sv (Nat.le_refl _))
 have x305:=HX.out w1 hk1
 have hlg:=Blk.lt hk1
 clear hk1 ho1 x0 x1 x2 x3 x4 x5 x6 x307
 go_wp2_with fail
 go_end0
 exact ⟨rfl,HK1.out,HS1.out⟩
set_option maxHeartbeats 2000000 in
theorem c142_29 (g:Nat) (k:WK) (rd r1:Nat) (q1 q3:Cq) (w:World) (h:Wk w g k) (him:k.i.im=29) (hd:k.i.rd=rd) (hd16:rd<16) (hr1:k.i.r1=r1) (h116:r1<16) (hq1:k.A.c r1=q1) (hq3:k.N.c 18=q3) (h0:r1≠0) :
  Calls Tryz.prog 142 #[.pointer (some ⟨g,0,none⟩)] w fun e w'=>e=.returned (.tuple #[])∧Wk w' g ((k.putN rd q3).putN 18 q1)∧Sv g w.heap.size w w':=by
 have hl:=Blk.lt h
 have x307:w.cell? ⟨g,307,none⟩=some (.int .i32 29):=by have:=h.cellT 4 307 rfl;rw [this];show some (Value.int .i32 k.i.im)=_;rw [him]
 obtain ⟨x0,x1,x2,x3,x4,x5,x6⟩:=h.sevenN 18 278 (by decide) rfl q3 hq3
 have K95:=Lib.hid (c95 g k q3 w h rd hd hd16)
 obtain ⟨k1,hk1⟩:∃ k1,k.putN rd q3=k1:=⟨_,rfl⟩
 have hkA:k1.A=k.A:=by rw [←hk1];rfl
 have hki:k1.i=k.i:=by rw [←hk1];rfl
 rw [hk1] at K95 ⊢
 have HX:Hid (∀ W,Wk W g k1→W.cell? ⟨g,305,none⟩=some (.int .u8 (r1:Int))):=Lib.hid (fun W hk=>by rw [←hr1,←hki];exact hk.cellT 2 305 rfl)
 have K136:Hid (∀ W,Wk W g k1→Calls Tryz.prog 136 #[.pointer (some ⟨g,0,none⟩)] W fun e w'=>e=.returned (.agg #[.bool q1.g,.int .u32 (q1.a:Int),.int .u8 (q1.p:Int),.int .u8 (q1.y:Int),.int .u8 (q1.e:Int),.int .u16 (q1.b:Int),.int .u16 (q1.t:Int)])∧Below W.heap.size W w'):=Lib.hid (fun W hk=>c136 g k1 W hk r1 q1 (by rw [hki];exact hr1) (by rw [hkA];exact hq1) h116)
 have HP:=Lib.hid (k1.putN_L 18 q1 (by decide))
 have b0:((r1:Int) != 0)=true:=by simp;omega
 clear h him hd hr1 hq1 hq3 hk1 hkA hki
 go_enter Tryz.func142,Tryz.ntmps142
 go_wp2_with fail
 refine K95.out.mono ?_
 rintro _ w1 ⟨rfl,hk1,ho1⟩
 have HK1:=Lib.hid hk1
 have HS1:Hid (Sv g w.heap.size w w1):=Lib.hid (ho1.sv (Nat.le_refl _))
 have x305:=HX.out w1 hk1
 have hlg:=Blk.lt hk1
 clear hk1 ho1 x0 x1 x2 x3 x4 x5 x6 x307
 go_wp2_with fail
 refine (K136.out w1 HK1.out).mono ?_
 rintro _ w2 ⟨rfl,hb2⟩
 have HK2:Hid (Wk w2 g k1):=Lib.hid (Blk.below HK1.out hb2 HK1.out.lt)
 have HS2:Hid (Sv g w.heap.size w w2):=Lib.hid (HS1.out.trans (Below.sv hb2 HS1.out.size))
 clear hb2 x305 hlg
 have hput:putA k1.L.toArray 278 (#[.bool q1.g,.int .u32 (q1.a:Int),.int .u8 (q1.p:Int),.int .u8 (q1.y:Int),.int .u8 (q1.e:Int),.int .u16 (q1.b:Int),.int .u16 (q1.t:Int)]).toList=(k1.putN 18 q1).L.toArray:=HP.out
 go_wp2_with (refine wpList_store_sub rfl 29 (.tmp 54) (.tmp 53) rfl g 278 #[.bool q1.g,.int .u32 (q1.a:Int),.int .u8 (q1.p:Int),.int .u8 (q1.y:Int),.int .u8 (q1.e:Int),.int .u16 (q1.b:Int),.int .u16 (q1.t:Int)] rfl rfl 81 k1.L.toArray HK2.out info29s (by have:=k1.len;simp;omega) (arr_all q1) ?_;rw [hput])
 have HK3:Hid (Wk (w2.setRow g (k1.putN 18 q1).L.toArray) g (k1.putN 18 q1)):=Lib.hid (blk_row HK2.out _)
 have HS3:Hid (Sv g w.heap.size w (w2.setRow g (k1.putN 18 q1).L.toArray)):=Lib.hid (HS2.out.trans ((only_row w2 g _).sv HS2.out.size))
 go_end0
 exact ⟨rfl,HK3.out,HS3.out⟩
set_option maxHeartbeats 2000000 in
theorem c142_30z (g:Nat) (k:WK) (rd r1:Nat) (q1 q3:Cq) (w:World) (h:Wk w g k) (him:k.i.im=30) (hd:k.i.rd=rd) (hd16:rd<16) (hr1:k.i.r1=r1) (h116:r1<16) (hq1:k.A.c r1=q1) (hq3:k.N.c 19=q3) (h0:r1=0) :
  Calls Tryz.prog 142 #[.pointer (some ⟨g,0,none⟩)] w fun e w'=>e=.returned (.tuple #[])∧Wk w' g (k.putN rd q3)∧Sv g w.heap.size w w':=by
 have hl:=Blk.lt h
 have x307:w.cell? ⟨g,307,none⟩=some (.int .i32 30):=by have:=h.cellT 4 307 rfl;rw [this];show some (Value.int .i32 k.i.im)=_;rw [him]
 obtain ⟨x0,x1,x2,x3,x4,x5,x6⟩:=h.sevenN 19 285 (by decide) rfl q3 hq3
 have K95:=Lib.hid (c95 g k q3 w h rd hd hd16)
 obtain ⟨k1,hk1⟩:∃ k1,k.putN rd q3=k1:=⟨_,rfl⟩
 have hkA:k1.A=k.A:=by rw [←hk1];rfl
 have hki:k1.i=k.i:=by rw [←hk1];rfl
 rw [hk1] at K95 ⊢
 have HX:Hid (∀ W,Wk W g k1→W.cell? ⟨g,305,none⟩=some (.int .u8 (r1:Int))):=Lib.hid (fun W hk=>by rw [←hr1,←hki];exact hk.cellT 2 305 rfl)
 have K136:Hid (∀ W,Wk W g k1→Calls Tryz.prog 136 #[.pointer (some ⟨g,0,none⟩)] W fun e w'=>e=.returned (.agg #[.bool q1.g,.int .u32 (q1.a:Int),.int .u8 (q1.p:Int),.int .u8 (q1.y:Int),.int .u8 (q1.e:Int),.int .u16 (q1.b:Int),.int .u16 (q1.t:Int)])∧Below W.heap.size W w'):=Lib.hid (fun W hk=>c136 g k1 W hk r1 q1 (by rw [hki];exact hr1) (by rw [hkA];exact hq1) h116)
 have HP:=Lib.hid (k1.putN_L 19 q1 (by decide))
 have b0:((r1:Int) != 0)=false:=by simp;omega
 clear h him hd hr1 hq1 hq3 hk1 hkA hki
 go_enter Tryz.func142,Tryz.ntmps142
 go_wp2_with fail
 refine K95.out.mono ?_
 rintro _ w1 ⟨rfl,hk1,ho1⟩
 have HK1:=Lib.hid hk1
 have HS1:Hid (Sv g w.heap.size w w1):=Lib.hid (ho1.sv (Nat.le_refl _))
 have x305:=HX.out w1 hk1
 have hlg:=Blk.lt hk1
 clear hk1 ho1 x0 x1 x2 x3 x4 x5 x6 x307
 go_wp2_with fail
 go_end0
 exact ⟨rfl,HK1.out,HS1.out⟩
set_option maxHeartbeats 2000000 in
theorem c142_30 (g:Nat) (k:WK) (rd r1:Nat) (q1 q3:Cq) (w:World) (h:Wk w g k) (him:k.i.im=30) (hd:k.i.rd=rd) (hd16:rd<16) (hr1:k.i.r1=r1) (h116:r1<16) (hq1:k.A.c r1=q1) (hq3:k.N.c 19=q3) (h0:r1≠0) :
  Calls Tryz.prog 142 #[.pointer (some ⟨g,0,none⟩)] w fun e w'=>e=.returned (.tuple #[])∧Wk w' g ((k.putN rd q3).putN 19 q1)∧Sv g w.heap.size w w':=by
 have hl:=Blk.lt h
 have x307:w.cell? ⟨g,307,none⟩=some (.int .i32 30):=by have:=h.cellT 4 307 rfl;rw [this];show some (Value.int .i32 k.i.im)=_;rw [him]
 obtain ⟨x0,x1,x2,x3,x4,x5,x6⟩:=h.sevenN 19 285 (by decide) rfl q3 hq3
 have K95:=Lib.hid (c95 g k q3 w h rd hd hd16)
 obtain ⟨k1,hk1⟩:∃ k1,k.putN rd q3=k1:=⟨_,rfl⟩
 have hkA:k1.A=k.A:=by rw [←hk1];rfl
 have hki:k1.i=k.i:=by rw [←hk1];rfl
 rw [hk1] at K95 ⊢
 have HX:Hid (∀ W,Wk W g k1→W.cell? ⟨g,305,none⟩=some (.int .u8 (r1:Int))):=Lib.hid (fun W hk=>by rw [←hr1,←hki];exact hk.cellT 2 305 rfl)
 have K136:Hid (∀ W,Wk W g k1→Calls Tryz.prog 136 #[.pointer (some ⟨g,0,none⟩)] W fun e w'=>e=.returned (.agg #[.bool q1.g,.int .u32 (q1.a:Int),.int .u8 (q1.p:Int),.int .u8 (q1.y:Int),.int .u8 (q1.e:Int),.int .u16 (q1.b:Int),.int .u16 (q1.t:Int)])∧Below W.heap.size W w'):=Lib.hid (fun W hk=>c136 g k1 W hk r1 q1 (by rw [hki];exact hr1) (by rw [hkA];exact hq1) h116)
 have HP:=Lib.hid (k1.putN_L 19 q1 (by decide))
 have b0:((r1:Int) != 0)=true:=by simp;omega
 clear h him hd hr1 hq1 hq3 hk1 hkA hki
 go_enter Tryz.func142,Tryz.ntmps142
 go_wp2_with fail
 refine K95.out.mono ?_
 rintro _ w1 ⟨rfl,hk1,ho1⟩
 have HK1:=Lib.hid hk1
 have HS1:Hid (Sv g w.heap.size w w1):=Lib.hid (ho1.sv (Nat.le_refl _))
 have x305:=HX.out w1 hk1
 have hlg:=Blk.lt hk1
 clear hk1 ho1 x0 x1 x2 x3 x4 x5 x6 x307
 go_wp2_with fail
 refine (K136.out w1 HK1.out).mono ?_
 rintro _ w2 ⟨rfl,hb2⟩
 have HK2:Hid (Wk w2 g k1):=Lib.hid (Blk.below HK1.out hb2 HK1.out.lt)
 have HS2:Hid (Sv g w.heap.size w w2):=Lib.hid (HS1.out.trans (Below.sv hb2 HS1.out.size))
 clear hb2 x305 hlg
 have hput:putA k1.L.toArray 285 (#[.bool q1.g,.int .u32 (q1.a:Int),.int .u8 (q1.p:Int),.int .u8 (q1.y:Int),.int .u8 (q1.e:Int),.int .u16 (q1.b:Int),.int .u16 (q1.t:Int)]).toList=(k1.putN 19 q1).L.toArray:=HP.out
 go_wp2_with (refine wpList_store_sub rfl 29 (.tmp 54) (.tmp 53) rfl g 285 #[.bool q1.g,.int .u32 (q1.a:Int),.int .u8 (q1.p:Int),.int .u8 (q1.y:Int),.int .u8 (q1.e:Int),.int .u16 (q1.b:Int),.int .u16 (q1.t:Int)] rfl rfl 81 k1.L.toArray HK2.out info29s (by have:=k1.len;simp;omega) (arr_all q1) ?_;rw [hput])
 have HK3:Hid (Wk (w2.setRow g (k1.putN 19 q1).L.toArray) g (k1.putN 19 q1)):=Lib.hid (blk_row HK2.out _)
 have HS3:Hid (Sv g w.heap.size w (w2.setRow g (k1.putN 19 q1).L.toArray)):=Lib.hid (HS2.out.trans ((only_row w2 g _).sv HS2.out.size))
 go_end0
 exact ⟨rfl,HK3.out,HS3.out⟩
set_option maxHeartbeats 2000000 in
theorem c142_31z (g:Nat) (k:WK) (rd r1:Nat) (q1 q3:Cq) (w:World) (h:Wk w g k) (him:k.i.im=31) (hd:k.i.rd=rd) (hd16:rd<16) (hr1:k.i.r1=r1) (h116:r1<16) (hq1:k.A.c r1=q1) (hq3:k.N.c 20=q3) (h0:r1=0) :
  Calls Tryz.prog 142 #[.pointer (some ⟨g,0,none⟩)] w fun e w'=>e=.returned (.tuple #[])∧Wk w' g (k.putN rd q3)∧Sv g w.heap.size w w':=by
 have hl:=Blk.lt h
 have x307:w.cell? ⟨g,307,none⟩=some (.int .i32 31):=by have:=h.cellT 4 307 rfl;rw [this];show some (Value.int .i32 k.i.im)=_;rw [him]
 obtain ⟨x0,x1,x2,x3,x4,x5,x6⟩:=h.sevenN 20 292 (by decide) rfl q3 hq3
 have K95:=Lib.hid (c95 g k q3 w h rd hd hd16)
 obtain ⟨k1,hk1⟩:∃ k1,k.putN rd q3=k1:=⟨_,rfl⟩
 have hkA:k1.A=k.A:=by rw [←hk1];rfl
 have hki:k1.i=k.i:=by rw [←hk1];rfl
 rw [hk1] at K95 ⊢
 have HX:Hid (∀ W,Wk W g k1→W.cell? ⟨g,305,none⟩=some (.int .u8 (r1:Int))):=Lib.hid (fun W hk=>by rw [←hr1,←hki];exact hk.cellT 2 305 rfl)
 have K136:Hid (∀ W,Wk W g k1→Calls Tryz.prog 136 #[.pointer (some ⟨g,0,none⟩)] W fun e w'=>e=.returned (.agg #[.bool q1.g,.int .u32 (q1.a:Int),.int .u8 (q1.p:Int),.int .u8 (q1.y:Int),.int .u8 (q1.e:Int),.int .u16 (q1.b:Int),.int .u16 (q1.t:Int)])∧Below W.heap.size W w'):=Lib.hid (fun W hk=>c136 g k1 W hk r1 q1 (by rw [hki];exact hr1) (by rw [hkA];exact hq1) h116)
 have HP:=Lib.hid (k1.putN_L 20 q1 (by decide))
 have b0:((r1:Int) != 0)=false:=by simp;omega
 clear h him hd hr1 hq1 hq3 hk1 hkA hki
 go_enter Tryz.func142,Tryz.ntmps142
 go_wp2_with fail
 refine K95.out.mono ?_
 rintro _ w1 ⟨rfl,hk1,ho1⟩
 have HK1:=Lib.hid hk1
 have HS1:Hid (Sv g w.heap.size w w1):=Lib.hid (ho1.sv (Nat.le_refl _))
 have x305:=HX.out w1 hk1
 have hlg:=Blk.lt hk1
 clear hk1 ho1 x0 x1 x2 x3 x4 x5 x6 x307
 go_wp2_with fail
 go_end0
 exact ⟨rfl,HK1.out,HS1.out⟩
set_option maxHeartbeats 2000000 in
theorem c142_31 (g:Nat) (k:WK) (rd r1:Nat) (q1 q3:Cq) (w:World) (h:Wk w g k) (him:k.i.im=31) (hd:k.i.rd=rd) (hd16:rd<16) (hr1:k.i.r1=r1) (h116:r1<16) (hq1:k.A.c r1=q1) (hq3:k.N.c 20=q3) (h0:r1≠0) :
  Calls Tryz.prog 142 #[.pointer (some ⟨g,0,none⟩)] w fun e w'=>e=.returned (.tuple #[])∧Wk w' g ((k.putN rd q3).putN 20 q1)∧Sv g w.heap.size w w':=by
 have hl:=Blk.lt h
 have x307:w.cell? ⟨g,307,none⟩=some (.int .i32 31):=by have:=h.cellT 4 307 rfl;rw [this];show some (Value.int .i32 k.i.im)=_;rw [him]
 obtain ⟨x0,x1,x2,x3,x4,x5,x6⟩:=h.sevenN 20 292 (by decide) rfl q3 hq3
 have K95:=Lib.hid (c95 g k q3 w h rd hd hd16)
 obtain ⟨k1,hk1⟩:∃ k1,k.putN rd q3=k1:=⟨_,rfl⟩
 have hkA:k1.A=k.A:=by rw [←hk1];rfl
 have hki:k1.i=k.i:=by rw [←hk1];rfl
 rw [hk1] at K95 ⊢
 have HX:Hid (∀ W,Wk W g k1→W.cell? ⟨g,305,none⟩=some (.int .u8 (r1:Int))):=Lib.hid (fun W hk=>by rw [←hr1,←hki];exact hk.cellT 2 305 rfl)
 have K136:Hid (∀ W,Wk W g k1→Calls Tryz.prog 136 #[.pointer (some ⟨g,0,none⟩)] W fun e w'=>e=.returned (.agg #[.bool q1.g,.int .u32 (q1.a:Int),.int .u8 (q1.p:Int),.int .u8 (q1.y:Int),.int .u8 (q1.e:Int),.int .u16 (q1.b:Int),.int .u16 (q1.t:Int)])∧Below W.heap.size W w'):=Lib.hid (fun W hk=>c136 g k1 W hk r1 q1 (by rw [hki];exact hr1) (by rw [hkA];exact hq1) h116)
 have HP:=Lib.hid (k1.putN_L 20 q1 (by decide))
 have b0:((r1:Int) != 0)=true:=by simp;omega
 clear h him hd hr1 hq1 hq3 hk1 hkA hki
 go_enter Tryz.func142,Tryz.ntmps142
 go_wp2_with fail
 refine K95.out.mono ?_
 rintro _ w1 ⟨rfl,hk1,ho1⟩
 have HK1:=Lib.hid hk1
 have HS1:Hid (Sv g w.heap.size w w1):=Lib.hid (ho1.sv (Nat.le_refl _))
 have x305:=HX.out w1 hk1
 have hlg:=Blk.lt hk1
 clear hk1 ho1 x0 x1 x2 x3 x4 x5 x6 x307
 go_wp2_with fail
 refine (K136.out w1 HK1.out).mono ?_
 rintro _ w2 ⟨rfl,hb2⟩
 have HK2:Hid (Wk w2 g k1):=Lib.hid (Blk.below HK1.out hb2 HK1.out.lt)
 have HS2:Hid (Sv g w.heap.size w w2):=Lib.hid (HS1.out.trans (Below.sv hb2 HS1.out.size))
 clear hb2 x305 hlg
 have hput:putA k1.L.toArray 292 (#[.bool q1.g,.int .u32 (q1.a:Int),.int .u8 (q1.p:Int),.int .u8 (q1.y:Int),.int .u8 (q1.e:Int),.int .u16 (q1.b:Int),.int .u16 (q1.t:Int)]).toList=(k1.putN 20 q1).L.toArray:=HP.out
 go_wp2_with (refine wpList_store_sub rfl 29 (.tmp 54) (.tmp 53) rfl g 292 #[.bool q1.g,.int .u32 (q1.a:Int),.int .u8 (q1.p:Int),.int .u8 (q1.y:Int),.int .u8 (q1.e:Int),.int .u16 (q1.b:Int),.int .u16 (q1.t:Int)] rfl rfl 81 k1.L.toArray HK2.out info29s (by have:=k1.len;simp;omega) (arr_all q1) ?_;rw [hput])
 have HK3:Hid (Wk (w2.setRow g (k1.putN 20 q1).L.toArray) g (k1.putN 20 q1)):=Lib.hid (blk_row HK2.out _)
 have HS3:Hid (Sv g w.heap.size w (w2.setRow g (k1.putN 20 q1).L.toArray)):=Lib.hid (HS2.out.trans ((only_row w2 g _).sv HS2.out.size))
 go_end0
 exact ⟨rfl,HK3.out,HS3.out⟩
set_option maxHeartbeats 1000000 in
theorem c142_d (g:Nat) (k:WK) (rd:Nat) (w:World) (h:Wk w g k) (hd:k.i.rd=rd) (hd16:rd<16) (hi:k.i.im≠28∧k.i.im≠29∧k.i.im≠30∧k.i.im≠31) :
  Calls Tryz.prog 142 #[.pointer (some ⟨g,0,none⟩)] w fun e w'=>e=.returned (.tuple #[])∧Wk w' g (k.putN rd (numQ k.A.cause))∧Sv g w.heap.size w w':=by
 have hl:=Blk.lt h
 have x307:w.cell? ⟨g,307,none⟩=some (.int .i32 k.i.im):=h.cellT 4 307 rfl
 have x148:=h.causeA
 obtain ⟨i28,i29,i30,i31⟩:=hi
 have b28:(k.i.im==28)=false:=by rw [beq_eq_false_iff_ne];exact i28
 have b29:(k.i.im==29)=false:=by rw [beq_eq_false_iff_ne];exact i29
 have b30:(k.i.im==30)=false:=by rw [beq_eq_false_iff_ne];exact i30
 have b31:(k.i.im==31)=false:=by rw [beq_eq_false_iff_ne];exact i31
 have K132:=Lib.hid (int_call k.A.cause w)
 have K95:Hid (∀ W,Below w.heap.size w W→Calls Tryz.prog 95 #[.pointer (some ⟨g,0,none⟩),(numQ k.A.cause).v] W fun e w'=>e=.returned (.tuple #[])∧Wk w' g (k.putN rd (numQ k.A.cause))∧Sv g w.heap.size w w'):=Lib.hid (fun W hb=>(c95 g k (numQ k.A.cause) W (Blk.below h hb hl) rd hd hd16).mono fun e w' ⟨h1,h2,h3⟩=>⟨h1,h2,(Below.sv hb (Nat.le_refl _)).trans (h3.sv hb.size)⟩)
 generalize k.i.im=im at *
 clear h hd i28 i29 i30 i31
 go_enter Tryz.func142,Tryz.ntmps142
 go_wp2_with fail
 refine K132.out.mono ?_
 rintro _ w1 ⟨rfl,hb⟩
 have K:=Lib.hid (K95.out w1 hb)
 clear hb x307 x148
 go_wp2_with fail
 refine K.out.mono ?_
 rintro _ w2 ⟨rfl,hk2,hs2⟩
 go_wp2_with fail
 exact bodyPost_ret (v:=.tuple #[]) (by simp [results,Tryz.results142,go_sem]) rfl ⟨rfl,hk2,hs2⟩
def WK.spe (k:WK) (rd r1:Nat) (q1:Cq) (s:Nat):WK:=if r1=0 then k.putN rd (k.N.c s) else (k.putN rd (k.N.c s)).putN s q1
def WK.spec (k:WK) (rd r1:Nat) (q1:Cq):WK:=if k.i.im=28 then k.spe rd r1 q1 17 else if k.i.im=29 then k.spe rd r1 q1 18 else if k.i.im=30 then k.spe rd r1 q1 19 else if k.i.im=31 then k.spe rd r1 q1 20 else k.putN rd (numQ k.A.cause)
theorem c142 (g:Nat) (k:WK) (rd r1:Nat) (q1:Cq) (w:World) (h:Wk w g k) (hd:k.i.rd=rd) (hd16:rd<16) (hr1:k.i.r1=r1) (h116:r1<16) (hq1:k.A.c r1=q1) :
  Calls Tryz.prog 142 #[.pointer (some ⟨g,0,none⟩)] w fun e w'=>e=.returned (.tuple #[])∧Wk w' g (k.spec rd r1 q1)∧Sv g w.heap.size w w':=by
 unfold WK.spec WK.spe
 by_cases h28:k.i.im=28
 ·rw [if_pos h28]
  by_cases h0:r1=0
  ·rw [if_pos h0]
   exact c142_28z g k rd r1 q1 _ w h h28 hd hd16 hr1 h116 hq1 rfl h0
  ·rw [if_neg h0]
   exact c142_28 g k rd r1 q1 _ w h h28 hd hd16 hr1 h116 hq1 rfl h0
 by_cases h29:k.i.im=29
 ·rw [if_neg h28,if_pos h29]
  by_cases h0:r1=0
  ·rw [if_pos h0]
   exact c142_29z g k rd r1 q1 _ w h h29 hd hd16 hr1 h116 hq1 rfl h0
  ·rw [if_neg h0]
   exact c142_29 g k rd r1 q1 _ w h h29 hd hd16 hr1 h116 hq1 rfl h0
 by_cases h30:k.i.im=30
 ·rw [if_neg h28,if_neg h29,if_pos h30]
  by_cases h0:r1=0
  ·rw [if_pos h0]
   exact c142_30z g k rd r1 q1 _ w h h30 hd hd16 hr1 h116 hq1 rfl h0
  ·rw [if_neg h0]
   exact c142_30 g k rd r1 q1 _ w h h30 hd hd16 hr1 h116 hq1 rfl h0
 by_cases h31:k.i.im=31
 ·rw [if_neg h28,if_neg h29,if_neg h30,if_pos h31]
  by_cases h0:r1=0
  ·rw [if_pos h0]
   exact c142_31z g k rd r1 q1 _ w h h31 hd hd16 hr1 h116 hq1 rfl h0
  ·rw [if_neg h0]
   exact c142_31 g k rd r1 q1 _ w h h31 hd hd16 hr1 h116 hq1 rfl h0
 rw [if_neg h28,if_neg h29,if_neg h30,if_neg h31]
 exact c142_d g k rd w h hd hd16 ⟨h28,h29,h30,h31⟩
theorem nat64:∀ p,p<256→p &&& 64=p/64%2*64:=by decide +kernel
theorem u8and64 (p:Nat) (hp:p<256) (h:p/64%2=1):bits .and .u8 (p:Int) 64=64:=by
 have:=u8_and_nat p 64 hp (by omega)
 rw [nat64 p hp,h] at this
 exact this
theorem u8and64z (p:Nat) (hp:p<256) (h:p/64%2=0):bits .and .u8 (p:Int) 64=0:=by
 have:=u8_and_nat p 64 hp (by omega)
 rw [nat64 p hp,h] at this
 exact this
def WK.mr (k:WK) (q:Cq) (b:Bool) (x y:Bool):WK:=if y=true then (if x=true then k.putN 16 q else k).onN b else (if x=true then k.putN 16 q else k)
theorem WK.mr_A (k:WK) (q:Cq) (b x y:Bool):(k.mr q b x y).A=k.A:=by unfold WK.mr;cases x <;> cases y <;> rfl
theorem WK.mr_x (k:WK) (q:Cq) (b y:Bool):(k.mr q b false y).putN 16 q=k.mr q b true y:=by unfold WK.mr;cases y <;> rfl
theorem WK.mr_y (k:WK) (q:Cq) (b x:Bool):(k.mr q b x false).onN b=k.mr q b x true:=by unfold WK.mr;cases x <;> rfl
def JM (g B:Nat) (w0:World) (k:WK) (q:Cq) (b:Bool) (i1 i2:Nat) (_p:Nat) (l:Array Bool) (W:World):Prop:=Sv g B w0 W∧B≤W.heap.size∧Wk W g (k.mr q b (l.getD i1 false) (l.getD i2 false))
theorem JM.other {g B:Nat} {w0 W:World} {k:WK} {q:Cq} {b:Bool} {i1 i2 p:Nat} {l:Array Bool} (h:JM g B w0 k q b i1 i2 p l W) (i:Nat) (h1:i≠i1) (h2:i≠i2):JM g B w0 k q b i1 i2 p (l.setIfInBounds i true) W:=by
 have e1:(l.setIfInBounds i true).getD i1 false=l.getD i1 false:=by rw [set_at2,if_neg (fun e=>h1 e.1)]
 have e2:(l.setIfInBounds i true).getD i2 false=l.getD i2 false:=by rw [set_at2,if_neg (fun e=>h2 e.1)]
 exact ⟨h.1,h.2.1,by rw [e1,e2];exact h.2.2⟩
theorem JM.st1 {g B:Nat} {w0 W:World} {k:WK} {q:Cq} {b:Bool} {i1 i2 p:Nat} {l:Array Bool} (h:JM g B w0 k q b i1 i2 p l W) (h12:i1≠i2) (hl:i1<l.size) (hu:l.getD i1 false=false):JM g B w0 k q b i1 i2 p (l.setIfInBounds i1 true) (W.setRow g ((k.mr q b (l.getD i1 false) (l.getD i2 false)).putN 16 q).L.toArray):=by
 have e1:(l.setIfInBounds i1 true).getD i1 false=true:=by rw [set_at2,if_pos ⟨rfl,hl⟩]
 have e2:(l.setIfInBounds i1 true).getD i2 false=l.getD i2 false:=by rw [set_at2,if_neg (fun e=>h12 e.1)]
 refine ⟨h.1.trans ((only_row W g _).sv h.2.1),by simpa [World.setRow] using h.2.1,?_⟩
 rw [e1,e2,←WK.mr_x,hu]
 have:=h.2.2
 rw [hu] at this
 exact blk_row this _
theorem JM.st2 {g B:Nat} {w0 W:World} {k:WK} {q:Cq} {b:Bool} {i1 i2 p:Nat} {l:Array Bool} (h:JM g B w0 k q b i1 i2 p l W) (h12:i1≠i2) (hl:i2<l.size) (hu:l.getD i2 false=false):JM g B w0 k q b i1 i2 p (l.setIfInBounds i2 true) (W.setCell ⟨g,300,none⟩ (.bool b)):=by
 have e1:(l.setIfInBounds i2 true).getD i1 false=l.getD i1 false:=by rw [set_at2,if_neg (fun e=>h12 e.1.symm)]
 have e2:(l.setIfInBounds i2 true).getD i2 false=true:=by rw [set_at2,if_pos ⟨rfl,hl⟩]
 refine ⟨h.1.trans ⟨rfl,rfl,rfl,by simp,fun k' hk' hg'=>Below.heap_setCell _ _ _ _ hg'⟩,by simpa using h.2.1,?_⟩
 rw [e1,e2,←WK.mr_y]
 have h3:=h.2.2
 rw [hu] at h3
 have:=Blk.set_ h3 300 (.bool b)
 rw [WK.onN_L] at this
 exact this
theorem JM.begin {g B:Nat} {w0:World} {k:WK} (h:Wk w0 g k) (hB:B≤w0.heap.size) (q:Cq) (b:Bool) (i1 i2 p n:Nat):JM g B w0 k q b i1 i2 p (Array.replicate n false) w0.drew:=by
 have e:∀ j,(Array.replicate n false).getD j false=false:=fun j=>by
  rw [Array.getD_eq_getD_getElem?,Array.getElem?_replicate]
  split <;> rfl
 exact ⟨⟨rfl,rfl,rfl,Nat.le_refl _,fun _ _ _=>rfl⟩,hB,by rw [e,e];exact Blk.drew h⟩
theorem Wk.onN_cell {w:World} {g:Nat} {k:WK} (h:Wk w g k):w.cell? ⟨g,300,none⟩=some (.bool k.N.on):=by
 rw [Blk.cell h,List.getElem?_toArray,show 300=152+(147+1) by omega,k.atN _ (by omega),k.N.tl 1]
 rfl
theorem fa32_5 (g:Nat) (W:World):(execOp (fun _=>.pointer (some ⟨g,1,none⟩)) { dst:=none,op:=.fieldAddr 32 (.tmp 0) 5,type:=0,pos:="",after:=#[],guard:=none }).run Tryz.prog W=.ok (.value (.pointer (some ⟨g,141,none⟩))) W:=by kernel_rfl
theorem fa32_8 (g:Nat) (W:World):(execOp (fun _=>.pointer (some ⟨g,1,none⟩)) { dst:=none,op:=.fieldAddr 32 (.tmp 0) 8,type:=0,pos:="",after:=#[],guard:=none }).run Tryz.prog W=.ok (.value (.pointer (some ⟨g,150,none⟩))) W:=by kernel_rfl
theorem fa32N_7 (g:Nat) (W:World):(execOp (fun _=>.pointer (some ⟨g,152,none⟩)) { dst:=none,op:=.fieldAddr 32 (.tmp 0) 7,type:=0,pos:="",after:=#[],guard:=none }).run Tryz.prog W=.ok (.value (.pointer (some ⟨g,300,none⟩))) W:=by kernel_rfl
theorem info4s:(Tryz.prog.info? 4).map (·.size)=some 1:=by kernel_rfl
set_option maxHeartbeats 1000000 in
theorem c99_t (g:Nat) (k:WK) (q:Cq) (w:World) (h:Wk w g k) (hq:k.A.c 16=q) (hf:q.fit) (hp:q.p/64%2=0) :
  Calls Tryz.prog 99 #[.pointer (some ⟨g,0,none⟩)] w fun e w'=>e=.panicked [{ v:=.iface 118 (.agg #[.int .u32 6]),recovered:=false }]∧Below w.heap.size w w':=by
 have hl:=Blk.lt h
 have HW:=Lib.hid h
 have x115:w.cell? ⟨g,115,none⟩=some (.int .u8 (q.p:Int)):=by rw [←hq];exact h.cellA 16 2 (by decide) (by decide) 115 rfl
 have ha:=u8and64z q.p hf.2.1 hp
 clear h hq hf hp
 go_enter Tryz.func99,Tryz.ntmps99
 go_wp2_with fail
 exact ⟨rfl,rfl,Below.refl _ _⟩
set_option maxHeartbeats 1000000 in
theorem c99_spec (g:Nat) (k:WK) (q:Cq) (rd r1:Nat) (q1:Cq) (w:World) (h:Wk w g k) (hq:k.A.c 16=q) (hf:q.fit) (hp:q.p/64%2=1) (ho:k.i.o=66) (hd:k.i.rd=rd) (hd16:rd<16) (hr1:k.i.r1=r1) (h116:r1<16) (hq1:k.A.c r1=q1) :
  Calls Tryz.prog 99 #[.pointer (some ⟨g,0,none⟩)] w fun e w'=>e=.returned (.tuple #[])∧Wk w' g (k.spec rd r1 q1)∧Sv g w.heap.size w w':=by
 have hl:=Blk.lt h
 have HW:=Lib.hid h
 have x115:w.cell? ⟨g,115,none⟩=some (.int .u8 (q.p:Int)):=by rw [←hq];exact h.cellA 16 2 (by decide) (by decide) 115 rfl
 have ha:=u8and64 q.p hf.2.1 hp
 have xo:w.cell? ⟨g,303,none⟩=some (.int .u8 66):=by have:=h.cellT 0 303 rfl;rw [this];show some (Value.int .u8 (k.i.o:Int))=_;rw [ho];rfl
 have K:=Lib.hid (c142 g k rd r1 q1 w h hd hd16 hr1 h116 hq1)
 clear h hq hf hp ho hd hr1 hq1
 go_enter Tryz.func99,Tryz.ntmps99
 go_wp2_with fail
 refine K.out.mono ?_
 rintro _ w1 ⟨rfl,hk1,hs1⟩
 go_wp2_with fail
 go_end0
 exact ⟨rfl,hk1,hs1⟩
set_option maxHeartbeats 1000000 in
theorem c99_seal (g:Nat) (k:WK) (q:Cq) (rd r1 r2:Nat) (q1 q2:Cq) (w:World) (h:Wk w g k) (hq:k.A.c 16=q) (hf:q.fit) (hp:q.p/64%2=1) (ho:k.i.o=51) (hd:k.i.rd=rd) (hd16:rd<16) (hr1:k.i.r1=r1) (h116:r1<16) (hr2:k.i.r2=r2) (h216:r2<16) (hq1:k.A.c r1=q1) (hq2:k.A.c r2=q2) (hf1:q1.fit) (hf2:q2.fit) :
  Calls Tryz.prog 99 #[.pointer (some ⟨g,0,none⟩)] w fun e w'=>e=.returned (.tuple #[])∧Wk w' g (k.putN rd (q1.se q2.a))∧Sv g w.heap.size w w':=by
 have hl:=Blk.lt h
 have HW:=Lib.hid h
 have x115:w.cell? ⟨g,115,none⟩=some (.int .u8 (q.p:Int)):=by rw [←hq];exact h.cellA 16 2 (by decide) (by decide) 115 rfl
 have ha:=u8and64 q.p hf.2.1 hp
 have xo:w.cell? ⟨g,303,none⟩=some (.int .u8 51):=by have:=h.cellT 0 303 rfl;rw [this];show some (Value.int .u8 (k.i.o:Int))=_;rw [ho];rfl
 have K136:=Lib.hid (c136 g k w h r1 q1 hr1 hq1 h116)
 have K98:Hid (∀ W,Below w.heap.size w W→Calls Tryz.prog 98 #[.pointer (some ⟨g,0,none⟩)] W fun e w'=>e=.returned (.agg #[.bool q2.g,.int .u32 (q2.a:Int),.int .u8 (q2.p:Int),.int .u8 (q2.y:Int),.int .u8 (q2.e:Int),.int .u16 (q2.b:Int),.int .u16 (q2.t:Int)])∧Below W.heap.size W w'):=Lib.hid (fun W hb=>c98 g k W (h.under hb hl) r2 q2 hr2 hq2 h216)
 have KS:=Lib.hid (se_call q1 hf1 q2.a hf2.1)
 obtain ⟨q3,hq3⟩:∃ q3,q1.se q2.a=q3:=⟨_,rfl⟩
 rw [hq3] at KS ⊢
 have hfd:∀ W,(Instr.field 29 (.agg #[.bool q2.g,.int .u32 (q2.a:Int),.int .u8 (q2.p:Int),.int .u8 (q2.y:Int),.int .u8 (q2.e:Int),.int .u16 (q2.b:Int),.int .u16 (q2.t:Int)]) 1).run Tryz.prog W=.ok (.int .u32 (q2.a:Int)) W:=fun W=>fld2 _ _ _ _ _ _ _ W
 have K95:Hid (∀ W,Below w.heap.size w W→Calls Tryz.prog 95 #[.pointer (some ⟨g,0,none⟩),.agg #[.bool q3.g,.int .u32 (q3.a:Int),.int .u8 (q3.p:Int),.int .u8 (q3.y:Int),.int .u8 (q3.e:Int),.int .u16 (q3.b:Int),.int .u16 (q3.t:Int)]] W fun e w'=>e=.returned (.tuple #[])∧Wk w' g (k.putN rd q3)∧Sv g w.heap.size w w'):=Lib.hid (fun W hb=>(c95 g k q3 W (h.under hb hl) rd hd hd16).mono fun e w' ⟨h1,h2,h3⟩=>⟨h1,h2,(Below.sv hb (Nat.le_refl _)).trans (h3.sv hb.size)⟩)
 clear h hq hf hp ho hd hr1 hq1 hr2 hq2 hf1 hf2 hq3
 go_enter Tryz.func99,Tryz.ntmps99
 go_wp2_with fail
 refine K136.out.mono ?_
 rintro _ w1 ⟨rfl,hb1⟩
 have HB1:=Lib.hid hb1
 clear hb1 xo x115
 go_wp2_with fail
 refine (K98.out _ HB1.out).mono ?_
 rintro _ w2 ⟨rfl,hb2⟩
 have HB2:Hid (Below w.heap.size w w2):=Lib.hid (HB1.out.trans (hb2.mono HB1.out.size))
 clear hb2
 go_wp2_with fail
 refine (KS.out _).mono ?_
 rintro _ w3 ⟨rfl,hb3⟩
 have HB3:Hid (Below w.heap.size w w3):=Lib.hid (HB2.out.trans (hb3.mono HB2.out.size))
 clear hb3
 go_wp2_with fail
 refine (K95.out _ HB3.out).mono ?_
 rintro _ w5 ⟨rfl,hk5,hs5⟩
 go_wp2_with fail
 go_end0
 exact ⟨rfl,hk5,hs5⟩
set_option maxHeartbeats 1000000 in
theorem c99_us (g:Nat) (k:WK) (q:Cq) (rd r1:Nat) (q1:Cq) (w:World) (h:Wk w g k) (hq:k.A.c 16=q) (hf:q.fit) (hp:q.p/64%2=1) (ho:k.i.o=52) (hd:k.i.rd=rd) (hd16:rd<16) (hr1:k.i.r1=r1) (h116:r1<16) (hq1:k.A.c r1=q1) (hf1:q1.fit) :
  Calls Tryz.prog 99 #[.pointer (some ⟨g,0,none⟩)] w fun e w'=>e=.returned (.tuple #[])∧Wk w' g (k.putN rd q1.us)∧Sv g w.heap.size w w':=by
 have hl:=Blk.lt h
 have HW:=Lib.hid h
 have x115:w.cell? ⟨g,115,none⟩=some (.int .u8 (q.p:Int)):=by rw [←hq];exact h.cellA 16 2 (by decide) (by decide) 115 rfl
 have ha:=u8and64 q.p hf.2.1 hp
 have xo:w.cell? ⟨g,303,none⟩=some (.int .u8 52):=by have:=h.cellT 0 303 rfl;rw [this];show some (Value.int .u8 (k.i.o:Int))=_;rw [ho];rfl
 have K136:=Lib.hid (c136 g k w h r1 q1 hr1 hq1 h116)
 have KS:=Lib.hid (us_call q1 hf1)
 obtain ⟨q3,hq3⟩:∃ q3,q1.us=q3:=⟨_,rfl⟩
 rw [hq3] at KS ⊢
 have K95:Hid (∀ W,Below w.heap.size w W→Calls Tryz.prog 95 #[.pointer (some ⟨g,0,none⟩),.agg #[.bool q3.g,.int .u32 (q3.a:Int),.int .u8 (q3.p:Int),.int .u8 (q3.y:Int),.int .u8 (q3.e:Int),.int .u16 (q3.b:Int),.int .u16 (q3.t:Int)]] W fun e w'=>e=.returned (.tuple #[])∧Wk w' g (k.putN rd q3)∧Sv g w.heap.size w w'):=Lib.hid (fun W hb=>(c95 g k q3 W (h.under hb hl) rd hd hd16).mono fun e w' ⟨h1,h2,h3⟩=>⟨h1,h2,(Below.sv hb (Nat.le_refl _)).trans (h3.sv hb.size)⟩)
 clear h hq hf hp ho hd hr1 hq1 hf1 hq3
 go_enter Tryz.func99,Tryz.ntmps99
 go_wp2_with fail
 refine K136.out.mono ?_
 rintro _ w1 ⟨rfl,hb1⟩
 have HB1:=Lib.hid hb1
 clear hb1 xo x115
 go_wp2_with fail
 refine (KS.out _).mono ?_
 rintro _ w3 ⟨rfl,hb3⟩
 have HB3:Hid (Below w.heap.size w w3):=Lib.hid (HB1.out.trans (hb3.mono HB1.out.size))
 clear hb3
 go_wp2_with fail
 refine (K95.out _ HB3.out).mono ?_
 rintro _ w5 ⟨rfl,hk5,hs5⟩
 go_wp2_with fail
 go_end0
 exact ⟨rfl,hk5,hs5⟩
set_option maxHeartbeats 2000000 in
theorem c99_mret (g:Nat) (k:WK) (q:Cq) (qm:Cq) (bw:Bool) (w:World) (h:Wk w g k) (hq:k.A.c 16=q) (hf:q.fit) (hp:q.p/64%2=1) (ho:k.i.o=68) (hm:k.A.c 20=qm) (hb:k.A.was=bw) :
  Calls Tryz.prog 99 #[.pointer (some ⟨g,0,none⟩)] w fun e w'=>e=.returned (.tuple #[])∧Wk w' g ((k.putN 16 qm).onN bw)∧Sv g w.heap.size w w':=by
 have hl:=Blk.lt h
 have HW:=Lib.hid h
 have x115:w.cell? ⟨g,115,none⟩=some (.int .u8 (q.p:Int)):=by rw [←hq];exact h.cellA 16 2 (by decide) (by decide) 115 rfl
 have ha:=u8and64 q.p hf.2.1 hp
 have xo:w.cell? ⟨g,303,none⟩=some (.int .u8 68):=by have:=h.cellT 0 303 rfl;rw [this];show some (Value.int .u8 (k.i.o:Int))=_;rw [ho];rfl
 have HM:Hid (∀ k':WK,k'.A=k.A→∀ j v,qm.L[j]?=some v→k'.L.toArray[141+j]?=some v):=Lib.hid (fun k' hA=>by
  intro j v hv
  have hj:j<7:=by have:=(List.getElem?_eq_some_iff.1 hv).1;simpa using this
  rw [←hm,←hA] at hv
  rw [List.getElem?_toArray,show 141+j=1+(7*20+j) by omega,k'.atA _ (by omega),k'.A.cap 20 j (by omega) hj]
  exact hv)
 have HWA:Hid (k.A.was=bw):=Lib.hid hb
 clear h hq hf hp ho hm hb
 go_enter Tryz.func99,Tryz.ntmps99
 go_upto_region 9 with fail
 refine at_eq fun T0 hT=>?_
 have hts:T0.size=56:=by rw [hT];rfl
 have fx0:T0.getD 0 undef=.pointer (some ⟨g,0,none⟩):=by rw [hT];rfl
 have HT:=Lib.hid hT
 clear hT
 obtain ⟨ex,hex⟩:∃ ex:Nat→Ex,ex=fun p=>[(0,38,.pointer (some ⟨g,0,none⟩)),(1,39,.pointer (some ⟨g,0,none⟩)),(2,40,.pointer (some ⟨g,0,none⟩)),(3,41,.pointer (some ⟨g,0,none⟩)),(4,42,.pointer (some ⟨g,1,none⟩)),(5,43,.pointer (some ⟨g,141,none⟩)),(6,44,.agg #[.bool qm.g,.int .u32 (qm.a:Int),.int .u8 (qm.p:Int),.int .u8 (qm.y:Int),.int .u8 (qm.e:Int),.int .u16 (qm.b:Int),.int .u16 (qm.t:Int)]),(7,45,.pointer (some ⟨g,0,none⟩)),(8,46,.pointer (some ⟨g,0,none⟩)),(9,47,.pointer (some ⟨g,1,none⟩)),(10,48,.pointer (some ⟨g,150,none⟩)),(11,49,.bool bw),(12,50,.pointer (some ⟨g,0,none⟩)),(13,51,.pointer (some ⟨g,152,none⟩)),(14,52,.pointer (some ⟨g,264,none⟩)),(16,53,.pointer (some ⟨g,0,none⟩)),(17,54,.pointer (some ⟨g,152,none⟩)),(18,55,.pointer (some ⟨g,300,none⟩))]:=⟨_,rfl⟩
 have HN:∀ p,apartB (ex p)=true:=by rw [hex];intro p;kernel_rfl
 have M0:∀ p,(0,38,.pointer (some ⟨g,0,none⟩))∈ex p:=by rw [hex];intro p;simp
 have M1:∀ p,(1,39,.pointer (some ⟨g,0,none⟩))∈ex p:=by rw [hex];intro p;simp
 have M2:∀ p,(2,40,.pointer (some ⟨g,0,none⟩))∈ex p:=by rw [hex];intro p;simp
 have M3:∀ p,(3,41,.pointer (some ⟨g,0,none⟩))∈ex p:=by rw [hex];intro p;simp
 have M4:∀ p,(4,42,.pointer (some ⟨g,1,none⟩))∈ex p:=by rw [hex];intro p;simp
 have M5:∀ p,(5,43,.pointer (some ⟨g,141,none⟩))∈ex p:=by rw [hex];intro p;simp
 have M6:∀ p,(6,44,.agg #[.bool qm.g,.int .u32 (qm.a:Int),.int .u8 (qm.p:Int),.int .u8 (qm.y:Int),.int .u8 (qm.e:Int),.int .u16 (qm.b:Int),.int .u16 (qm.t:Int)])∈ex p:=by rw [hex];intro p;simp
 have M7:∀ p,(7,45,.pointer (some ⟨g,0,none⟩))∈ex p:=by rw [hex];intro p;simp
 have M8:∀ p,(8,46,.pointer (some ⟨g,0,none⟩))∈ex p:=by rw [hex];intro p;simp
 have M9:∀ p,(9,47,.pointer (some ⟨g,1,none⟩))∈ex p:=by rw [hex];intro p;simp
 have M10:∀ p,(10,48,.pointer (some ⟨g,150,none⟩))∈ex p:=by rw [hex];intro p;simp
 have M11:∀ p,(11,49,.bool bw)∈ex p:=by rw [hex];intro p;simp
 have M12:∀ p,(12,50,.pointer (some ⟨g,0,none⟩))∈ex p:=by rw [hex];intro p;simp
 have M13:∀ p,(13,51,.pointer (some ⟨g,152,none⟩))∈ex p:=by rw [hex];intro p;simp
 have M14:∀ p,(14,52,.pointer (some ⟨g,264,none⟩))∈ex p:=by rw [hex];intro p;simp
 have M16:∀ p,(16,53,.pointer (some ⟨g,0,none⟩))∈ex p:=by rw [hex];intro p;simp
 have M17:∀ p,(17,54,.pointer (some ⟨g,152,none⟩))∈ex p:=by rw [hex];intro p;simp
 have M18:∀ p,(18,55,.pointer (some ⟨g,300,none⟩))∈ex p:=by rw [hex];intro p;simp
 refine wp_region_tm (by kernel_rfl) (by kernel_rfl) ex (JM g w.heap.size w k qm bw 15 19) 0 (JM.begin HW.out (Nat.le_refl _) _ _ _ _ _ _) ?_ (by rw [hex];intro p;kernel_rfl) ?_
 ·intro p l W i o hls hop hun hdep hj
  have hi:i<20:=(Array.getElem?_eq_some_iff.1 hop).1
  have hil:i<l.size:=by rw [hls];exact hi
  rcases (by omega:i=0∨i=1∨i=2∨i=3∨i=4∨i=5∨i=6∨i=7∨i=8∨i=9∨i=10∨i=11∨i=12∨i=13∨i=14∨i=15∨i=16∨i=17∨i=18∨i=19) with rfl | rfl | rfl | rfl | rfl | rfl | rfl | rfl | rfl | rfl | rfl | rfl | rfl | rfl | rfl | rfl | rfl | rfl | rfl | rfl
  ·cases hop
   have r0:=(tmA_none T0 (ex p) l 0 (by rw [hex];kernel_rfl)).trans fx0
   refine wpOp_of rfl rfl ?_
   refine wp_move (.tmp 0) rfl _ r0 ?_
   exact step_val (p':=p) _ (HN _) (M0 _) hil (by rw [hts];decide) rfl (hj.other 0 (by decide) (by decide))
  ·cases hop
   have r0:=(tmA_none T0 (ex p) l 0 (by rw [hex];kernel_rfl)).trans fx0
   refine wpOp_of rfl rfl ?_
   refine wp_move (.tmp 0) rfl _ r0 ?_
   exact step_val (p':=p) _ (HN _) (M1 _) hil (by rw [hts];decide) rfl (hj.other 1 (by decide) (by decide))
  ·cases hop
   have r0:=(tmA_none T0 (ex p) l 0 (by rw [hex];kernel_rfl)).trans fx0
   refine wpOp_of rfl rfl ?_
   refine wp_move (.tmp 0) rfl _ r0 ?_
   exact step_val (p':=p) _ (HN _) (M2 _) hil (by rw [hts];decide) rfl (hj.other 2 (by decide) (by decide))
  ·cases hop
   have r40:=tmA_some T0 _ _ (HN p) 2 40 _ (M2 p) (hdep ⟨2,.data⟩ (by simp) rfl) (by rw [hts];decide)
   refine wpOp_of rfl rfl ?_
   refine wp_nil (.tmp 40) rfl _ r40 ?_
   exact step_val (p':=p) _ (HN _) (M3 _) hil (by rw [hts];decide) rfl (hj.other 3 (by decide) (by decide))
  ·cases hop
   have r41:=tmA_some T0 _ _ (HN p) 3 41 _ (M3 p) (hdep ⟨3,.data⟩ (by simp) rfl) (by rw [hts];decide)
   refine wpOp_of rfl rfl ?_
   refine wp_fa 81 (.tmp 41) 1 0 rfl g 0 1 r41 (fa81_1 g) ?_
   exact step_val (p':=p) _ (HN _) (M4 _) hil (by rw [hts];decide) rfl (hj.other 4 (by decide) (by decide))
  ·cases hop
   have r42:=tmA_some T0 _ _ (HN p) 4 42 _ (M4 p) (hdep ⟨4,.data⟩ (by simp) rfl) (by rw [hts];decide)
   refine wpOp_of rfl rfl ?_
   refine wp_fa 32 (.tmp 42) 5 0 rfl g 1 141 r42 (fa32_5 g) ?_
   exact step_val (p':=p) _ (HN _) (M5 _) hil (by rw [hts];decide) rfl (hj.other 5 (by decide) (by decide))
  ·cases hop
   have r43:=tmA_some T0 _ _ (HN p) 5 43 _ (M5 p) (hdep ⟨5,.data⟩ (by simp) rfl) (by rw [hts];decide)
   refine wpOp_of rfl rfl ?_
   refine wp_load_sub 29 (.tmp 43) rfl g 141 r43 81 _ qm.L (0,0) _ hj.2.2 (HM.out _ (WK.mr_A _ _ _ _ _)) Tryz.underlying29 rfl info29s ?_
   exact step_val (p':=p) _ (HN _) (M6 _) hil (by rw [hts];decide) rfl (hj.other 6 (by decide) (by decide))
  ·cases hop
   have r0:=(tmA_none T0 (ex p) l 0 (by rw [hex];kernel_rfl)).trans fx0
   refine wpOp_of rfl rfl ?_
   refine wp_move (.tmp 0) rfl _ r0 ?_
   exact step_val (p':=p) _ (HN _) (M7 _) hil (by rw [hts];decide) rfl (hj.other 7 (by decide) (by decide))
  ·cases hop
   have r45:=tmA_some T0 _ _ (HN p) 7 45 _ (M7 p) (hdep ⟨7,.data⟩ (by simp) rfl) (by rw [hts];decide)
   refine wpOp_of rfl rfl ?_
   refine wp_nil (.tmp 45) rfl _ r45 ?_
   exact step_val (p':=p) _ (HN _) (M8 _) hil (by rw [hts];decide) rfl (hj.other 8 (by decide) (by decide))
  ·cases hop
   have r46:=tmA_some T0 _ _ (HN p) 8 46 _ (M8 p) (hdep ⟨8,.data⟩ (by simp) rfl) (by rw [hts];decide)
   refine wpOp_of rfl rfl ?_
   refine wp_fa 81 (.tmp 46) 1 0 rfl g 0 1 r46 (fa81_1 g) ?_
   exact step_val (p':=p) _ (HN _) (M9 _) hil (by rw [hts];decide) rfl (hj.other 9 (by decide) (by decide))
  ·cases hop
   have r47:=tmA_some T0 _ _ (HN p) 9 47 _ (M9 p) (hdep ⟨9,.data⟩ (by simp) rfl) (by rw [hts];decide)
   refine wpOp_of rfl rfl ?_
   refine wp_fa 32 (.tmp 47) 8 0 rfl g 1 150 r47 (fa32_8 g) ?_
   exact step_val (p':=p) _ (HN _) (M10 _) hil (by rw [hts];decide) rfl (hj.other 10 (by decide) (by decide))
  ·cases hop
   have r48:=tmA_some T0 _ _ (HN p) 10 48 _ (M10 p) (hdep ⟨10,.data⟩ (by simp) rfl) (by rw [hts];decide)
   refine wpOp_of rfl rfl ?_
   refine wp_ld 4 (.tmp 48) rfl ⟨g,150,none⟩ _ r48 agg4 (hj.2.2.wasA.trans (by rw [WK.mr_A,HWA.out])) ?_
   exact step_val (p':=p) _ (HN _) (M11 _) hil (by rw [hts];decide) rfl (hj.other 11 (by decide) (by decide))
  ·cases hop
   have r38:=tmA_some T0 _ _ (HN p) 0 38 _ (M0 p) (hdep ⟨0,.data⟩ (by simp) rfl) (by rw [hts];decide)
   refine wpOp_of rfl rfl ?_
   refine wp_nil (.tmp 38) rfl _ r38 ?_
   exact step_val (p':=p) _ (HN _) (M12 _) hil (by rw [hts];decide) rfl (hj.other 12 (by decide) (by decide))
  ·cases hop
   have r50:=tmA_some T0 _ _ (HN p) 12 50 _ (M12 p) (hdep ⟨12,.data⟩ (by simp) rfl) (by rw [hts];decide)
   refine wpOp_of rfl rfl ?_
   refine wp_fa 81 (.tmp 50) 2 0 rfl g 0 152 r50 (fa81_2 g) ?_
   exact step_val (p':=p) _ (HN _) (M13 _) hil (by rw [hts];decide) rfl (hj.other 13 (by decide) (by decide))
  ·cases hop
   have r51:=tmA_some T0 _ _ (HN p) 13 51 _ (M13 p) (hdep ⟨13,.data⟩ (by simp) rfl) (by rw [hts];decide)
   refine wpOp_of rfl rfl ?_
   refine wp_fa 32 (.tmp 51) 1 0 rfl g 152 264 r51 (fa32N_1 g) ?_
   exact step_val (p':=p) _ (HN _) (M14 _) hil (by rw [hts];decide) rfl (hj.other 14 (by decide) (by decide))
  ·cases hop
   have hun':=getD_un hun
   have r52:=tmA_some T0 _ _ (HN p) 14 52 _ (M14 p) (hdep ⟨14,.data⟩ (by simp) rfl) (by rw [hts];decide)
   have r44:=tmA_some T0 _ _ (HN p) 6 44 _ (M6 p) (hdep ⟨6,.data⟩ (by simp) rfl) (by rw [hts];decide)
   refine wpOp_of rfl rfl ?_
   have hput:putA (k.mr qm bw (l.getD 15 false) (l.getD 19 false)).L.toArray 264 (#[.bool qm.g,.int .u32 (qm.a:Int),.int .u8 (qm.p:Int),.int .u8 (qm.y:Int),.int .u8 (qm.e:Int),.int .u16 (qm.b:Int),.int .u16 (qm.t:Int)]).toList=((k.mr qm bw (l.getD 15 false) (l.getD 19 false)).putN 16 qm).L.toArray:=(k.mr qm bw (l.getD 15 false) (l.getD 19 false)).putN_L 16 qm (by decide)
   refine wp_store_sub 29 (.tmp 52) (.tmp 44) rfl g 264 #[.bool qm.g,.int .u32 (qm.a:Int),.int .u8 (qm.p:Int),.int .u8 (qm.y:Int),.int .u8 (qm.e:Int),.int .u16 (qm.b:Int),.int .u16 (qm.t:Int)] r52 r44 81 (k.mr qm bw (l.getD 15 false) (l.getD 19 false)).L.toArray hj.2.2 info29s (by have:=(k.mr qm bw (l.getD 15 false) (l.getD 19 false)).len;show 264+7≤(k.mr qm bw (l.getD 15 false) (l.getD 19 false)).L.length;omega) (arr_all qm) ?_
   rw [hput]
   exact step_none (by rw [hex];kernel_rfl) _ (hj.st1 (by decide) hil hun')
  ·cases hop
   have r39:=tmA_some T0 _ _ (HN p) 1 39 _ (M1 p) (hdep ⟨1,.data⟩ (by simp) rfl) (by rw [hts];decide)
   refine wpOp_of rfl rfl ?_
   refine wp_nil (.tmp 39) rfl _ r39 ?_
   exact step_val (p':=p) _ (HN _) (M16 _) hil (by rw [hts];decide) rfl (hj.other 16 (by decide) (by decide))
  ·cases hop
   have r53:=tmA_some T0 _ _ (HN p) 16 53 _ (M16 p) (hdep ⟨16,.data⟩ (by simp) rfl) (by rw [hts];decide)
   refine wpOp_of rfl rfl ?_
   refine wp_fa 81 (.tmp 53) 2 0 rfl g 0 152 r53 (fa81_2 g) ?_
   exact step_val (p':=p) _ (HN _) (M17 _) hil (by rw [hts];decide) rfl (hj.other 17 (by decide) (by decide))
  ·cases hop
   have r54:=tmA_some T0 _ _ (HN p) 17 54 _ (M17 p) (hdep ⟨17,.data⟩ (by simp) rfl) (by rw [hts];decide)
   refine wpOp_of rfl rfl ?_
   refine wp_fa 32 (.tmp 54) 7 0 rfl g 152 300 r54 (fa32N_7 g) ?_
   exact step_val (p':=p) _ (HN _) (M18 _) hil (by rw [hts];decide) rfl (hj.other 18 (by decide) (by decide))
  ·cases hop
   have hun':=getD_un hun
   have r55:=tmA_some T0 _ _ (HN p) 18 55 _ (M18 p) (hdep ⟨18,.data⟩ (by simp) rfl) (by rw [hts];decide)
   have r49:=tmA_some T0 _ _ (HN p) 11 49 _ (M11 p) (hdep ⟨11,.data⟩ (by simp) rfl) (by rw [hts];decide)
   refine wpOp_of rfl rfl ?_
   refine wp_st 4 (.tmp 55) (.tmp 49) rfl ⟨g,300,none⟩ _ _ r55 r49 rfl info4s hj.2.2.onN_cell (Blk.frozen hj.2.2 300) ?_
   exact step_none (by rw [hex];kernel_rfl) _ (hj.st2 (by decide) hil hun')
 ·intro p l W hall hj
  have hk:=hj.2.2
  rw [hall 15 (by show 15<20;omega),hall 19 (by show 19<20;omega)] at hk
  have hs:=hj.1
  have hk':Wk W g ((k.putN 16 qm).onN bw):=hk
  subst hex
  rw [HT.out]
  simp only [putAll]
  clear hj hall hk
  go_wp2_with fail
  go_end0
  exact ⟨rfl,hk',hs⟩
end Go.Proofs.YtnkoknfihhdelaaGreatDoor
