import Derived.Test.YtnkoknfihhdelaaGreatDoorZRe
namespace Go.Proofs.YtnkoknfihhdelaaGreatDoor
open Go.ChangeShapes Go.WideShapes Go.ChangeAt Go.RowKit
set_option linter.unusedVariables false
set_option linter.unusedSimpArgs false
set_option maxRecDepth 100000
set_option maxHeartbeats 2000000 in
theorem c100_mv (g:Nat) (k:WK) (rd r1 r2:Nat) (q1 q2:Cq) (w:World) (h:Wk w g k) (ho:k.i.o=62) (hd:k.i.rd=rd) (hd16:rd<16) (hr1:k.i.r1=r1) (h116:r1<16) (hr2:k.i.r2=r2) (h216:r2<16) (hq1:k.A.c r1=q1) (hq2:k.A.c r2=q2) (hf1:q1.fit) (hf2:q2.fit) :
  Calls Tryz.prog 100 #[.pointer (some ⟨g,0,none⟩)] w fun e w'=>e=.returned (.tuple #[])∧Wk w' g (k.putN rd q1)∧Sv g w.heap.size w w':=by
 have hl:=Blk.lt h
 have HX:Hid (∀ W,Below w.heap.size w W→W.cell? ⟨g,303,none⟩=some (.int .u8 62)):=Lib.hid (fun W hb=>by have:=(h.under hb hl).cellT 0 303 rfl;rw [this];show some (Value.int .u8 (k.i.o:Int))=_;rw [ho];rfl)
 have K136:=Lib.hid (c136 g k w h r1 q1 hr1 hq1 h116)
 have K98:Hid (∀ W,Below w.heap.size w W→Calls Tryz.prog 98 #[.pointer (some ⟨g,0,none⟩)] W fun e w'=>e=.returned (.agg #[.bool q2.g,.int .u32 (q2.a:Int),.int .u8 (q2.p:Int),.int .u8 (q2.y:Int),.int .u8 (q2.e:Int),.int .u16 (q2.b:Int),.int .u16 (q2.t:Int)])∧Below W.heap.size W w'):=Lib.hid (fun W hb=>c98 g k W (h.under hb hl) r2 q2 hr2 hq2 h216)
 obtain ⟨q3,hq3⟩:∃ q3,q1=q3:=⟨_,rfl⟩
 subst hq3
 have K95:Hid (∀ W,Below w.heap.size w W→Calls Tryz.prog 95 #[.pointer (some ⟨g,0,none⟩),.agg #[.bool q1.g,.int .u32 (q1.a:Int),.int .u8 (q1.p:Int),.int .u8 (q1.y:Int),.int .u8 (q1.e:Int),.int .u16 (q1.b:Int),.int .u16 (q1.t:Int)]] W fun e w'=>e=.returned (.tuple #[])∧Wk w' g (k.putN rd q1)∧Sv g w.heap.size w w'):=Lib.hid (fun W hb=>(c95 g k q1 W (h.under hb hl) rd hd hd16).mono fun e w' ⟨h1,h2,h3⟩=>⟨h1,h2,(Below.sv hb (Nat.le_refl _)).trans (h3.sv hb.size)⟩)
 clear h ho hd hr1 hr2 hq1 hq2 hf1 hf2
 go_enter Tryz.func100,Tryz.ntmps100
 go_wp2_with fail
 refine K136.out.mono ?_
 rintro _ w1 ⟨rfl,hb1⟩
 have HB1:=Lib.hid hb1
 clear hb1
 go_wp2_with fail
 refine (K98.out _ HB1.out).mono ?_
 rintro _ w2 ⟨rfl,hb2⟩
 have HB2:Hid (Below w.heap.size w w2):=Lib.hid (HB1.out.trans (hb2.mono HB1.out.size))
 have hfd:∀ W,(Instr.field 29 (.agg #[.bool q2.g,.int .u32 (q2.a:Int),.int .u8 (q2.p:Int),.int .u8 (q2.y:Int),.int .u8 (q2.e:Int),.int .u16 (q2.b:Int),.int .u16 (q2.t:Int)]) 1).run Tryz.prog W=.ok (.int .u32 (q2.a:Int)) W:=fun W=>fld2 _ _ _ _ _ _ _ W
 clear hb2
 have HA3:Hid (Blk (w2.alloc (.cells #[.bool q1.g,.int .u32 (q1.a:Int),.int .u8 (q1.p:Int),.int .u8 (q1.y:Int),.int .u8 (q1.e:Int),.int .u16 (q1.b:Int),.int .u16 (q1.t:Int)] 29)) w2.heap.size 29 #[.bool q1.g,.int .u32 (q1.a:Int),.int .u8 (q1.p:Int),.int .u8 (q1.y:Int),.int .u8 (q1.e:Int),.int .u16 (q1.b:Int),.int .u16 (q1.t:Int)]):=Lib.hid (Blk.new w2 29 _)
 have HB3:Hid (Below w.heap.size w (w2.alloc (.cells #[.bool q1.g,.int .u32 (q1.a:Int),.int .u8 (q1.p:Int),.int .u8 (q1.y:Int),.int .u8 (q1.e:Int),.int .u16 (q1.b:Int),.int .u16 (q1.t:Int)] 29))):=Lib.hid (HB2.out.alloc HB2.out.size _)
 have x303:=HX.out _ HB3.out
 have hlp:w.heap.size≤w2.heap.size:=HB2.out.size
 obtain ⟨pb,hpe⟩:∃ pb,w2.heap.size=pb:=⟨_,rfl⟩
 rw [hpe] at HA3
 go_upto_region 1 with fail
 generalize w2.alloc (.cells #[.bool q1.g,.int .u32 (q1.a:Int),.int .u8 (q1.p:Int),.int .u8 (q1.y:Int),.int .u8 (q1.e:Int),.int .u16 (q1.b:Int),.int .u16 (q1.t:Int)] 29)=W3 at *
 have y0:=HA3.out.cell 0
 have y1:=HA3.out.cell 1
 have y2:=HA3.out.cell 2
 have y3:=HA3.out.cell 3
 have y4:=HA3.out.cell 4
 have y5:=HA3.out.cell 5
 have y6:=HA3.out.cell 6
 simp only [List.getElem?_toArray,List.getElem?_cons_zero,List.getElem?_cons_succ] at y0 y1 y2 y3 y4 y5 y6
 have hlg:g<W3.heap.size:=by have:=HB3.out.size;omega
 go_wp2_with fail
 refine (K95.out _ HB3.out).mono ?_
 rintro _ w5 ⟨rfl,hk5,hs5⟩
 go_wp2_with fail
 go_end0
 exact ⟨rfl,hk5,hs5⟩
set_option maxHeartbeats 2000000 in
theorem c100_ct (g:Nat) (k:WK) (rd r1 r2:Nat) (q1 q2:Cq) (w:World) (h:Wk w g k) (ho:k.i.o=63) (hd:k.i.rd=rd) (hd16:rd<16) (hr1:k.i.r1=r1) (h116:r1<16) (hr2:k.i.r2=r2) (h216:r2<16) (hq1:k.A.c r1=q1) (hq2:k.A.c r2=q2) (hf1:q1.fit) (hf2:q2.fit) :
  Calls Tryz.prog 100 #[.pointer (some ⟨g,0,none⟩)] w fun e w'=>e=.returned (.tuple #[])∧Wk w' g (k.putN rd q1.ct)∧Sv g w.heap.size w w':=by
 have hl:=Blk.lt h
 have HX:Hid (∀ W,Below w.heap.size w W→W.cell? ⟨g,303,none⟩=some (.int .u8 63)):=Lib.hid (fun W hb=>by have:=(h.under hb hl).cellT 0 303 rfl;rw [this];show some (Value.int .u8 (k.i.o:Int))=_;rw [ho];rfl)
 have K136:=Lib.hid (c136 g k w h r1 q1 hr1 hq1 h116)
 have K98:Hid (∀ W,Below w.heap.size w W→Calls Tryz.prog 98 #[.pointer (some ⟨g,0,none⟩)] W fun e w'=>e=.returned (.agg #[.bool q2.g,.int .u32 (q2.a:Int),.int .u8 (q2.p:Int),.int .u8 (q2.y:Int),.int .u8 (q2.e:Int),.int .u16 (q2.b:Int),.int .u16 (q2.t:Int)])∧Below W.heap.size W w'):=Lib.hid (fun W hb=>c98 g k W (h.under hb hl) r2 q2 hr2 hq2 h216)
 have KC:=Lib.hid (ct_call q1)
 obtain ⟨q3,hq3⟩:∃ q3,q1.ct=q3:=⟨_,rfl⟩
 rw [hq3] at KC ⊢
 have K95:Hid (∀ W,Below w.heap.size w W→Calls Tryz.prog 95 #[.pointer (some ⟨g,0,none⟩),.agg #[.bool q3.g,.int .u32 (q3.a:Int),.int .u8 (q3.p:Int),.int .u8 (q3.y:Int),.int .u8 (q3.e:Int),.int .u16 (q3.b:Int),.int .u16 (q3.t:Int)]] W fun e w'=>e=.returned (.tuple #[])∧Wk w' g (k.putN rd q3)∧Sv g w.heap.size w w'):=Lib.hid (fun W hb=>(c95 g k q3 W (h.under hb hl) rd hd hd16).mono fun e w' ⟨h1,h2,h3⟩=>⟨h1,h2,(Below.sv hb (Nat.le_refl _)).trans (h3.sv hb.size)⟩)
 clear h ho hd hr1 hr2 hq1 hq2 hf1 hf2
 go_enter Tryz.func100,Tryz.ntmps100
 go_wp2_with fail
 refine K136.out.mono ?_
 rintro _ w1 ⟨rfl,hb1⟩
 have HB1:=Lib.hid hb1
 clear hb1
 go_wp2_with fail
 refine (K98.out _ HB1.out).mono ?_
 rintro _ w2 ⟨rfl,hb2⟩
 have HB2:Hid (Below w.heap.size w w2):=Lib.hid (HB1.out.trans (hb2.mono HB1.out.size))
 have hfd:∀ W,(Instr.field 29 (.agg #[.bool q2.g,.int .u32 (q2.a:Int),.int .u8 (q2.p:Int),.int .u8 (q2.y:Int),.int .u8 (q2.e:Int),.int .u16 (q2.b:Int),.int .u16 (q2.t:Int)]) 1).run Tryz.prog W=.ok (.int .u32 (q2.a:Int)) W:=fun W=>fld2 _ _ _ _ _ _ _ W
 clear hb2
 have HA3:Hid (Blk (w2.alloc (.cells #[.bool q1.g,.int .u32 (q1.a:Int),.int .u8 (q1.p:Int),.int .u8 (q1.y:Int),.int .u8 (q1.e:Int),.int .u16 (q1.b:Int),.int .u16 (q1.t:Int)] 29)) w2.heap.size 29 #[.bool q1.g,.int .u32 (q1.a:Int),.int .u8 (q1.p:Int),.int .u8 (q1.y:Int),.int .u8 (q1.e:Int),.int .u16 (q1.b:Int),.int .u16 (q1.t:Int)]):=Lib.hid (Blk.new w2 29 _)
 have HB3:Hid (Below w.heap.size w (w2.alloc (.cells #[.bool q1.g,.int .u32 (q1.a:Int),.int .u8 (q1.p:Int),.int .u8 (q1.y:Int),.int .u8 (q1.e:Int),.int .u16 (q1.b:Int),.int .u16 (q1.t:Int)] 29))):=Lib.hid (HB2.out.alloc HB2.out.size _)
 have x303:=HX.out _ HB3.out
 have hlp:w.heap.size≤w2.heap.size:=HB2.out.size
 obtain ⟨pb,hpe⟩:∃ pb,w2.heap.size=pb:=⟨_,rfl⟩
 rw [hpe] at HA3
 go_upto_region 1 with fail
 generalize w2.alloc (.cells #[.bool q1.g,.int .u32 (q1.a:Int),.int .u8 (q1.p:Int),.int .u8 (q1.y:Int),.int .u8 (q1.e:Int),.int .u16 (q1.b:Int),.int .u16 (q1.t:Int)] 29)=W3 at *
 have y0:=HA3.out.cell 0
 have y1:=HA3.out.cell 1
 have y2:=HA3.out.cell 2
 have y3:=HA3.out.cell 3
 have y4:=HA3.out.cell 4
 have y5:=HA3.out.cell 5
 have y6:=HA3.out.cell 6
 simp only [List.getElem?_toArray,List.getElem?_cons_zero,List.getElem?_cons_succ] at y0 y1 y2 y3 y4 y5 y6
 have hlg:g<W3.heap.size:=by have:=HB3.out.size;omega
 go_wp2_with fail
 refine (KC.out _).mono ?_
 rintro _ w4 ⟨rfl,hb4⟩
 have HB4:Hid (Below w.heap.size w w4):=Lib.hid (HB3.out.trans (hb4.mono HB3.out.size))
 clear hb4
 go_wp2_with fail
 refine (K95.out _ HB4.out).mono ?_
 rintro _ w5 ⟨rfl,hk5,hs5⟩
 go_wp2_with fail
 go_end0
 exact ⟨rfl,hk5,hs5⟩
set_option maxHeartbeats 2000000 in
theorem c100_sy (g:Nat) (k:WK) (rd r1 r2:Nat) (q1 q2:Cq) (w:World) (h:Wk w g k) (ho:k.i.o=65) (hd:k.i.rd=rd) (hd16:rd<16) (hr1:k.i.r1=r1) (h116:r1<16) (hr2:k.i.r2=r2) (h216:r2<16) (hq1:k.A.c r1=q1) (hq2:k.A.c r2=q2) (hf1:q1.fit) (hf2:q2.fit) :
  Calls Tryz.prog 100 #[.pointer (some ⟨g,0,none⟩)] w fun e w'=>e=.returned (.tuple #[])∧Wk w' g (k.putN rd q1.sy)∧Sv g w.heap.size w w':=by
 have hl:=Blk.lt h
 have HX:Hid (∀ W,Below w.heap.size w W→W.cell? ⟨g,303,none⟩=some (.int .u8 65)):=Lib.hid (fun W hb=>by have:=(h.under hb hl).cellT 0 303 rfl;rw [this];show some (Value.int .u8 (k.i.o:Int))=_;rw [ho];rfl)
 have K136:=Lib.hid (c136 g k w h r1 q1 hr1 hq1 h116)
 have K98:Hid (∀ W,Below w.heap.size w W→Calls Tryz.prog 98 #[.pointer (some ⟨g,0,none⟩)] W fun e w'=>e=.returned (.agg #[.bool q2.g,.int .u32 (q2.a:Int),.int .u8 (q2.p:Int),.int .u8 (q2.y:Int),.int .u8 (q2.e:Int),.int .u16 (q2.b:Int),.int .u16 (q2.t:Int)])∧Below W.heap.size W w'):=Lib.hid (fun W hb=>c98 g k W (h.under hb hl) r2 q2 hr2 hq2 h216)
 have KC:=Lib.hid (sy_call q1 hf1)
 obtain ⟨q3,hq3⟩:∃ q3,q1.sy=q3:=⟨_,rfl⟩
 rw [hq3] at KC ⊢
 have K95:Hid (∀ W,Below w.heap.size w W→Calls Tryz.prog 95 #[.pointer (some ⟨g,0,none⟩),.agg #[.bool q3.g,.int .u32 (q3.a:Int),.int .u8 (q3.p:Int),.int .u8 (q3.y:Int),.int .u8 (q3.e:Int),.int .u16 (q3.b:Int),.int .u16 (q3.t:Int)]] W fun e w'=>e=.returned (.tuple #[])∧Wk w' g (k.putN rd q3)∧Sv g w.heap.size w w'):=Lib.hid (fun W hb=>(c95 g k q3 W (h.under hb hl) rd hd hd16).mono fun e w' ⟨h1,h2,h3⟩=>⟨h1,h2,(Below.sv hb (Nat.le_refl _)).trans (h3.sv hb.size)⟩)
 clear h ho hd hr1 hr2 hq1 hq2 hf1 hf2
 go_enter Tryz.func100,Tryz.ntmps100
 go_wp2_with fail
 refine K136.out.mono ?_
 rintro _ w1 ⟨rfl,hb1⟩
 have HB1:=Lib.hid hb1
 clear hb1
 go_wp2_with fail
 refine (K98.out _ HB1.out).mono ?_
 rintro _ w2 ⟨rfl,hb2⟩
 have HB2:Hid (Below w.heap.size w w2):=Lib.hid (HB1.out.trans (hb2.mono HB1.out.size))
 have hfd:∀ W,(Instr.field 29 (.agg #[.bool q2.g,.int .u32 (q2.a:Int),.int .u8 (q2.p:Int),.int .u8 (q2.y:Int),.int .u8 (q2.e:Int),.int .u16 (q2.b:Int),.int .u16 (q2.t:Int)]) 1).run Tryz.prog W=.ok (.int .u32 (q2.a:Int)) W:=fun W=>fld2 _ _ _ _ _ _ _ W
 clear hb2
 have HA3:Hid (Blk (w2.alloc (.cells #[.bool q1.g,.int .u32 (q1.a:Int),.int .u8 (q1.p:Int),.int .u8 (q1.y:Int),.int .u8 (q1.e:Int),.int .u16 (q1.b:Int),.int .u16 (q1.t:Int)] 29)) w2.heap.size 29 #[.bool q1.g,.int .u32 (q1.a:Int),.int .u8 (q1.p:Int),.int .u8 (q1.y:Int),.int .u8 (q1.e:Int),.int .u16 (q1.b:Int),.int .u16 (q1.t:Int)]):=Lib.hid (Blk.new w2 29 _)
 have HB3:Hid (Below w.heap.size w (w2.alloc (.cells #[.bool q1.g,.int .u32 (q1.a:Int),.int .u8 (q1.p:Int),.int .u8 (q1.y:Int),.int .u8 (q1.e:Int),.int .u16 (q1.b:Int),.int .u16 (q1.t:Int)] 29))):=Lib.hid (HB2.out.alloc HB2.out.size _)
 have x303:=HX.out _ HB3.out
 have hlp:w.heap.size≤w2.heap.size:=HB2.out.size
 obtain ⟨pb,hpe⟩:∃ pb,w2.heap.size=pb:=⟨_,rfl⟩
 rw [hpe] at HA3
 go_upto_region 1 with fail
 generalize w2.alloc (.cells #[.bool q1.g,.int .u32 (q1.a:Int),.int .u8 (q1.p:Int),.int .u8 (q1.y:Int),.int .u8 (q1.e:Int),.int .u16 (q1.b:Int),.int .u16 (q1.t:Int)] 29)=W3 at *
 have y0:=HA3.out.cell 0
 have y1:=HA3.out.cell 1
 have y2:=HA3.out.cell 2
 have y3:=HA3.out.cell 3
 have y4:=HA3.out.cell 4
 have y5:=HA3.out.cell 5
 have y6:=HA3.out.cell 6
 simp only [List.getElem?_toArray,List.getElem?_cons_zero,List.getElem?_cons_succ] at y0 y1 y2 y3 y4 y5 y6
 have hlg:g<W3.heap.size:=by have:=HB3.out.size;omega
 go_wp2_with fail
 refine (KC.out _).mono ?_
 rintro _ w4 ⟨rfl,hb4⟩
 have HB4:Hid (Below w.heap.size w w4):=Lib.hid (HB3.out.trans (hb4.mono HB3.out.size))
 clear hb4
 go_wp2_with fail
 refine (K95.out _ HB4.out).mono ?_
 rintro _ w5 ⟨rfl,hk5,hs5⟩
 go_wp2_with fail
 go_end0
 exact ⟨rfl,hk5,hs5⟩
set_option maxHeartbeats 2000000 in
theorem c100_sa (g:Nat) (k:WK) (rd r1 r2:Nat) (q1 q2:Cq) (w:World) (h:Wk w g k) (ho:k.i.o=54) (hd:k.i.rd=rd) (hd16:rd<16) (hr1:k.i.r1=r1) (h116:r1<16) (hr2:k.i.r2=r2) (h216:r2<16) (hq1:k.A.c r1=q1) (hq2:k.A.c r2=q2) (hf1:q1.fit) (hf2:q2.fit) :
  Calls Tryz.prog 100 #[.pointer (some ⟨g,0,none⟩)] w fun e w'=>e=.returned (.tuple #[])∧Wk w' g (k.putN rd (q1.sa q2.a))∧Sv g w.heap.size w w':=by
 have hl:=Blk.lt h
 have HX:Hid (∀ W,Below w.heap.size w W→W.cell? ⟨g,303,none⟩=some (.int .u8 54)):=Lib.hid (fun W hb=>by have:=(h.under hb hl).cellT 0 303 rfl;rw [this];show some (Value.int .u8 (k.i.o:Int))=_;rw [ho];rfl)
 have K136:=Lib.hid (c136 g k w h r1 q1 hr1 hq1 h116)
 have K98:Hid (∀ W,Below w.heap.size w W→Calls Tryz.prog 98 #[.pointer (some ⟨g,0,none⟩)] W fun e w'=>e=.returned (.agg #[.bool q2.g,.int .u32 (q2.a:Int),.int .u8 (q2.p:Int),.int .u8 (q2.y:Int),.int .u8 (q2.e:Int),.int .u16 (q2.b:Int),.int .u16 (q2.t:Int)])∧Below W.heap.size W w'):=Lib.hid (fun W hb=>c98 g k W (h.under hb hl) r2 q2 hr2 hq2 h216)
 have KC:=Lib.hid (sa_call q1 hf1 q2.a hf2.1)
 obtain ⟨q3,hq3⟩:∃ q3,(q1.sa q2.a)=q3:=⟨_,rfl⟩
 rw [hq3] at KC ⊢
 have K95:Hid (∀ W,Below w.heap.size w W→Calls Tryz.prog 95 #[.pointer (some ⟨g,0,none⟩),.agg #[.bool q3.g,.int .u32 (q3.a:Int),.int .u8 (q3.p:Int),.int .u8 (q3.y:Int),.int .u8 (q3.e:Int),.int .u16 (q3.b:Int),.int .u16 (q3.t:Int)]] W fun e w'=>e=.returned (.tuple #[])∧Wk w' g (k.putN rd q3)∧Sv g w.heap.size w w'):=Lib.hid (fun W hb=>(c95 g k q3 W (h.under hb hl) rd hd hd16).mono fun e w' ⟨h1,h2,h3⟩=>⟨h1,h2,(Below.sv hb (Nat.le_refl _)).trans (h3.sv hb.size)⟩)
 clear h ho hd hr1 hr2 hq1 hq2 hf1 hf2
 go_enter Tryz.func100,Tryz.ntmps100
 go_wp2_with fail
 refine K136.out.mono ?_
 rintro _ w1 ⟨rfl,hb1⟩
 have HB1:=Lib.hid hb1
 clear hb1
 go_wp2_with fail
 refine (K98.out _ HB1.out).mono ?_
 rintro _ w2 ⟨rfl,hb2⟩
 have HB2:Hid (Below w.heap.size w w2):=Lib.hid (HB1.out.trans (hb2.mono HB1.out.size))
 have hfd:∀ W,(Instr.field 29 (.agg #[.bool q2.g,.int .u32 (q2.a:Int),.int .u8 (q2.p:Int),.int .u8 (q2.y:Int),.int .u8 (q2.e:Int),.int .u16 (q2.b:Int),.int .u16 (q2.t:Int)]) 1).run Tryz.prog W=.ok (.int .u32 (q2.a:Int)) W:=fun W=>fld2 _ _ _ _ _ _ _ W
 clear hb2
 have HA3:Hid (Blk (w2.alloc (.cells #[.bool q1.g,.int .u32 (q1.a:Int),.int .u8 (q1.p:Int),.int .u8 (q1.y:Int),.int .u8 (q1.e:Int),.int .u16 (q1.b:Int),.int .u16 (q1.t:Int)] 29)) w2.heap.size 29 #[.bool q1.g,.int .u32 (q1.a:Int),.int .u8 (q1.p:Int),.int .u8 (q1.y:Int),.int .u8 (q1.e:Int),.int .u16 (q1.b:Int),.int .u16 (q1.t:Int)]):=Lib.hid (Blk.new w2 29 _)
 have HB3:Hid (Below w.heap.size w (w2.alloc (.cells #[.bool q1.g,.int .u32 (q1.a:Int),.int .u8 (q1.p:Int),.int .u8 (q1.y:Int),.int .u8 (q1.e:Int),.int .u16 (q1.b:Int),.int .u16 (q1.t:Int)] 29))):=Lib.hid (HB2.out.alloc HB2.out.size _)
 have x303:=HX.out _ HB3.out
 have hlp:w.heap.size≤w2.heap.size:=HB2.out.size
 obtain ⟨pb,hpe⟩:∃ pb,w2.heap.size=pb:=⟨_,rfl⟩
 rw [hpe] at HA3
 go_upto_region 1 with fail
 generalize w2.alloc (.cells #[.bool q1.g,.int .u32 (q1.a:Int),.int .u8 (q1.p:Int),.int .u8 (q1.y:Int),.int .u8 (q1.e:Int),.int .u16 (q1.b:Int),.int .u16 (q1.t:Int)] 29)=W3 at *
 have y0:=HA3.out.cell 0
 have y1:=HA3.out.cell 1
 have y2:=HA3.out.cell 2
 have y3:=HA3.out.cell 3
 have y4:=HA3.out.cell 4
 have y5:=HA3.out.cell 5
 have y6:=HA3.out.cell 6
 simp only [List.getElem?_toArray,List.getElem?_cons_zero,List.getElem?_cons_succ] at y0 y1 y2 y3 y4 y5 y6
 have hlg:g<W3.heap.size:=by have:=HB3.out.size;omega
 go_wp2_with fail
 refine (KC.out _).mono ?_
 rintro _ w4 ⟨rfl,hb4⟩
 have HB4:Hid (Below w.heap.size w w4):=Lib.hid (HB3.out.trans (hb4.mono HB3.out.size))
 clear hb4
 go_wp2_with fail
 refine (K95.out _ HB4.out).mono ?_
 rintro _ w5 ⟨rfl,hk5,hs5⟩
 go_wp2_with fail
 go_end0
 exact ⟨rfl,hk5,hs5⟩
set_option maxHeartbeats 2000000 in
theorem c100_ap (g:Nat) (k:WK) (rd r1 r2:Nat) (q1 q2:Cq) (w:World) (h:Wk w g k) (ho:k.i.o=53) (hd:k.i.rd=rd) (hd16:rd<16) (hr1:k.i.r1=r1) (h116:r1<16) (hr2:k.i.r2=r2) (h216:r2<16) (hq1:k.A.c r1=q1) (hq2:k.A.c r2=q2) (hf1:q1.fit) (hf2:q2.fit) :
  Calls Tryz.prog 100 #[.pointer (some ⟨g,0,none⟩)] w fun e w'=>e=.returned (.tuple #[])∧Wk w' g (k.putN rd (q1.ap q2.a))∧Sv g w.heap.size w w':=by
 have hl:=Blk.lt h
 have HX:Hid (∀ W,Below w.heap.size w W→W.cell? ⟨g,303,none⟩=some (.int .u8 53)):=Lib.hid (fun W hb=>by have:=(h.under hb hl).cellT 0 303 rfl;rw [this];show some (Value.int .u8 (k.i.o:Int))=_;rw [ho];rfl)
 have K136:=Lib.hid (c136 g k w h r1 q1 hr1 hq1 h116)
 have K98:Hid (∀ W,Below w.heap.size w W→Calls Tryz.prog 98 #[.pointer (some ⟨g,0,none⟩)] W fun e w'=>e=.returned (.agg #[.bool q2.g,.int .u32 (q2.a:Int),.int .u8 (q2.p:Int),.int .u8 (q2.y:Int),.int .u8 (q2.e:Int),.int .u16 (q2.b:Int),.int .u16 (q2.t:Int)])∧Below W.heap.size W w'):=Lib.hid (fun W hb=>c98 g k W (h.under hb hl) r2 q2 hr2 hq2 h216)
 have KC:=Lib.hid (ap_call q1 hf1 q2.a hf2.1)
 obtain ⟨q3,hq3⟩:∃ q3,(q1.ap q2.a)=q3:=⟨_,rfl⟩
 rw [hq3] at KC ⊢
 have K95:Hid (∀ W,Below w.heap.size w W→Calls Tryz.prog 95 #[.pointer (some ⟨g,0,none⟩),.agg #[.bool q3.g,.int .u32 (q3.a:Int),.int .u8 (q3.p:Int),.int .u8 (q3.y:Int),.int .u8 (q3.e:Int),.int .u16 (q3.b:Int),.int .u16 (q3.t:Int)]] W fun e w'=>e=.returned (.tuple #[])∧Wk w' g (k.putN rd q3)∧Sv g w.heap.size w w'):=Lib.hid (fun W hb=>(c95 g k q3 W (h.under hb hl) rd hd hd16).mono fun e w' ⟨h1,h2,h3⟩=>⟨h1,h2,(Below.sv hb (Nat.le_refl _)).trans (h3.sv hb.size)⟩)
 clear h ho hd hr1 hr2 hq1 hq2 hf1 hf2
 go_enter Tryz.func100,Tryz.ntmps100
 go_wp2_with fail
 refine K136.out.mono ?_
 rintro _ w1 ⟨rfl,hb1⟩
 have HB1:=Lib.hid hb1
 clear hb1
 go_wp2_with fail
 refine (K98.out _ HB1.out).mono ?_
 rintro _ w2 ⟨rfl,hb2⟩
 have HB2:Hid (Below w.heap.size w w2):=Lib.hid (HB1.out.trans (hb2.mono HB1.out.size))
 have hfd:∀ W,(Instr.field 29 (.agg #[.bool q2.g,.int .u32 (q2.a:Int),.int .u8 (q2.p:Int),.int .u8 (q2.y:Int),.int .u8 (q2.e:Int),.int .u16 (q2.b:Int),.int .u16 (q2.t:Int)]) 1).run Tryz.prog W=.ok (.int .u32 (q2.a:Int)) W:=fun W=>fld2 _ _ _ _ _ _ _ W
 clear hb2
 have HA3:Hid (Blk (w2.alloc (.cells #[.bool q1.g,.int .u32 (q1.a:Int),.int .u8 (q1.p:Int),.int .u8 (q1.y:Int),.int .u8 (q1.e:Int),.int .u16 (q1.b:Int),.int .u16 (q1.t:Int)] 29)) w2.heap.size 29 #[.bool q1.g,.int .u32 (q1.a:Int),.int .u8 (q1.p:Int),.int .u8 (q1.y:Int),.int .u8 (q1.e:Int),.int .u16 (q1.b:Int),.int .u16 (q1.t:Int)]):=Lib.hid (Blk.new w2 29 _)
 have HB3:Hid (Below w.heap.size w (w2.alloc (.cells #[.bool q1.g,.int .u32 (q1.a:Int),.int .u8 (q1.p:Int),.int .u8 (q1.y:Int),.int .u8 (q1.e:Int),.int .u16 (q1.b:Int),.int .u16 (q1.t:Int)] 29))):=Lib.hid (HB2.out.alloc HB2.out.size _)
 have x303:=HX.out _ HB3.out
 have hlp:w.heap.size≤w2.heap.size:=HB2.out.size
 obtain ⟨pb,hpe⟩:∃ pb,w2.heap.size=pb:=⟨_,rfl⟩
 rw [hpe] at HA3
 go_upto_region 1 with fail
 generalize w2.alloc (.cells #[.bool q1.g,.int .u32 (q1.a:Int),.int .u8 (q1.p:Int),.int .u8 (q1.y:Int),.int .u8 (q1.e:Int),.int .u16 (q1.b:Int),.int .u16 (q1.t:Int)] 29)=W3 at *
 have y0:=HA3.out.cell 0
 have y1:=HA3.out.cell 1
 have y2:=HA3.out.cell 2
 have y3:=HA3.out.cell 3
 have y4:=HA3.out.cell 4
 have y5:=HA3.out.cell 5
 have y6:=HA3.out.cell 6
 simp only [List.getElem?_toArray,List.getElem?_cons_zero,List.getElem?_cons_succ] at y0 y1 y2 y3 y4 y5 y6
 have hlg:g<W3.heap.size:=by have:=HB3.out.size;omega
 go_wp2_with fail
 refine (KC.out _).mono ?_
 rintro _ w4 ⟨rfl,hb4⟩
 have HB4:Hid (Below w.heap.size w w4):=Lib.hid (HB3.out.trans (hb4.mono HB3.out.size))
 clear hb4
 go_wp2_with fail
 refine (K95.out _ HB4.out).mono ?_
 rintro _ w5 ⟨rfl,hk5,hs5⟩
 go_wp2_with fail
 go_end0
 exact ⟨rfl,hk5,hs5⟩
set_option maxHeartbeats 2000000 in
theorem c100_ii (g:Nat) (k:WK) (rd r1 r2:Nat) (q1 q2:Cq) (w:World) (h:Wk w g k) (ho:k.i.o=48) (hd:k.i.rd=rd) (hd16:rd<16) (hr1:k.i.r1=r1) (h116:r1<16) (hr2:k.i.r2=r2) (h216:r2<16) (hq1:k.A.c r1=q1) (hq2:k.A.c r2=q2) (hf1:q1.fit) (hf2:q2.fit) (n:Nat) (hn:k.i.im%4294967296=(n:Int)) :
  Calls Tryz.prog 100 #[.pointer (some ⟨g,0,none⟩)] w fun e w'=>e=.returned (.tuple #[])∧Wk w' g (k.putN rd (q1.sa ((q1.a+n)%4294967296)))∧Sv g w.heap.size w w':=by
 have hl:=Blk.lt h
 have HX:Hid (∀ W,Below w.heap.size w W→W.cell? ⟨g,303,none⟩=some (.int .u8 48)):=Lib.hid (fun W hb=>by have:=(h.under hb hl).cellT 0 303 rfl;rw [this];show some (Value.int .u8 (k.i.o:Int))=_;rw [ho];rfl)
 have K136:=Lib.hid (c136 g k w h r1 q1 hr1 hq1 h116)
 have K98:Hid (∀ W,Below w.heap.size w W→Calls Tryz.prog 98 #[.pointer (some ⟨g,0,none⟩)] W fun e w'=>e=.returned (.agg #[.bool q2.g,.int .u32 (q2.a:Int),.int .u8 (q2.p:Int),.int .u8 (q2.y:Int),.int .u8 (q2.e:Int),.int .u16 (q2.b:Int),.int .u16 (q2.t:Int)])∧Below W.heap.size W w'):=Lib.hid (fun W hb=>c98 g k W (h.under hb hl) r2 q2 hr2 hq2 h216)
 have hn2:n<4294967296:=by omega
 have K97:Hid (∀ W,Below w.heap.size w W→Calls Tryz.prog 97 #[.pointer (some ⟨g,0,none⟩)] W fun e w'=>e=.returned (.int .u32 (n:Int))∧W=w'):=Lib.hid (fun W hb=>by rw [←hn];exact c97 g k W (h.under hb hl))
 obtain ⟨m,hm⟩:∃ m,(q1.a+n)%4294967296=m:=⟨_,rfl⟩
 have hw:IntKind.u32.wrap ((q1.a:Int)+(n:Int))=(m:Int):=by rw [IntKind.wrap_u32];omega
 have hm2:m<4294967296:=by omega
 rw [hm]
 have KC:=Lib.hid (sa_call q1 hf1 m hm2)
 obtain ⟨q3,hq3⟩:∃ q3,(q1.sa m)=q3:=⟨_,rfl⟩
 rw [hq3] at KC ⊢
 have K95:Hid (∀ W,Below w.heap.size w W→Calls Tryz.prog 95 #[.pointer (some ⟨g,0,none⟩),.agg #[.bool q3.g,.int .u32 (q3.a:Int),.int .u8 (q3.p:Int),.int .u8 (q3.y:Int),.int .u8 (q3.e:Int),.int .u16 (q3.b:Int),.int .u16 (q3.t:Int)]] W fun e w'=>e=.returned (.tuple #[])∧Wk w' g (k.putN rd q3)∧Sv g w.heap.size w w'):=Lib.hid (fun W hb=>(c95 g k q3 W (h.under hb hl) rd hd hd16).mono fun e w' ⟨h1,h2,h3⟩=>⟨h1,h2,(Below.sv hb (Nat.le_refl _)).trans (h3.sv hb.size)⟩)
 clear h ho hd hr1 hr2 hq1 hq2 hf1 hf2 hn hm
 go_enter Tryz.func100,Tryz.ntmps100
 go_wp2_with fail
 refine K136.out.mono ?_
 rintro _ w1 ⟨rfl,hb1⟩
 have HB1:=Lib.hid hb1
 clear hb1
 go_wp2_with fail
 refine (K98.out _ HB1.out).mono ?_
 rintro _ w2 ⟨rfl,hb2⟩
 have HB2:Hid (Below w.heap.size w w2):=Lib.hid (HB1.out.trans (hb2.mono HB1.out.size))
 have hfd:∀ W,(Instr.field 29 (.agg #[.bool q2.g,.int .u32 (q2.a:Int),.int .u8 (q2.p:Int),.int .u8 (q2.y:Int),.int .u8 (q2.e:Int),.int .u16 (q2.b:Int),.int .u16 (q2.t:Int)]) 1).run Tryz.prog W=.ok (.int .u32 (q2.a:Int)) W:=fun W=>fld2 _ _ _ _ _ _ _ W
 clear hb2
 have HA3:Hid (Blk (w2.alloc (.cells #[.bool q1.g,.int .u32 (q1.a:Int),.int .u8 (q1.p:Int),.int .u8 (q1.y:Int),.int .u8 (q1.e:Int),.int .u16 (q1.b:Int),.int .u16 (q1.t:Int)] 29)) w2.heap.size 29 #[.bool q1.g,.int .u32 (q1.a:Int),.int .u8 (q1.p:Int),.int .u8 (q1.y:Int),.int .u8 (q1.e:Int),.int .u16 (q1.b:Int),.int .u16 (q1.t:Int)]):=Lib.hid (Blk.new w2 29 _)
 have HB3:Hid (Below w.heap.size w (w2.alloc (.cells #[.bool q1.g,.int .u32 (q1.a:Int),.int .u8 (q1.p:Int),.int .u8 (q1.y:Int),.int .u8 (q1.e:Int),.int .u16 (q1.b:Int),.int .u16 (q1.t:Int)] 29))):=Lib.hid (HB2.out.alloc HB2.out.size _)
 have x303:=HX.out _ HB3.out
 have hlp:w.heap.size≤w2.heap.size:=HB2.out.size
 obtain ⟨pb,hpe⟩:∃ pb,w2.heap.size=pb:=⟨_,rfl⟩
 rw [hpe] at HA3
 go_upto_region 1 with fail
 generalize w2.alloc (.cells #[.bool q1.g,.int .u32 (q1.a:Int),.int .u8 (q1.p:Int),.int .u8 (q1.y:Int),.int .u8 (q1.e:Int),.int .u16 (q1.b:Int),.int .u16 (q1.t:Int)] 29)=W3 at *
 have y0:=HA3.out.cell 0
 have y1:=HA3.out.cell 1
 have y2:=HA3.out.cell 2
 have y3:=HA3.out.cell 3
 have y4:=HA3.out.cell 4
 have y5:=HA3.out.cell 5
 have y6:=HA3.out.cell 6
 simp only [List.getElem?_toArray,List.getElem?_cons_zero,List.getElem?_cons_succ] at y0 y1 y2 y3 y4 y5 y6
 have hlg:g<W3.heap.size:=by have:=HB3.out.size;omega
 go_wp2_with fail
 refine (K97.out _ HB3.out).mono ?_
 rintro _ _ ⟨rfl,rfl⟩
 go_wp2_with fail
 refine (KC.out _).mono ?_
 rintro _ w4 ⟨rfl,hb4⟩
 have HB4:Hid (Below w.heap.size w w4):=Lib.hid (HB3.out.trans (hb4.mono HB3.out.size))
 clear hb4
 go_wp2_with fail
 refine (K95.out _ HB4.out).mono ?_
 rintro _ w5 ⟨rfl,hk5,hs5⟩
 go_wp2_with fail
 go_end0
 exact ⟨rfl,hk5,hs5⟩
set_option maxHeartbeats 2000000 in
theorem c100_ic (g:Nat) (k:WK) (rd r1 r2:Nat) (q1 q2:Cq) (w:World) (h:Wk w g k) (ho:k.i.o=55) (hd:k.i.rd=rd) (hd16:rd<16) (hr1:k.i.r1=r1) (h116:r1<16) (hr2:k.i.r2=r2) (h216:r2<16) (hq1:k.A.c r1=q1) (hq2:k.A.c r2=q2) (hf1:q1.fit) (hf2:q2.fit) :
  Calls Tryz.prog 100 #[.pointer (some ⟨g,0,none⟩)] w fun e w'=>e=.returned (.tuple #[])∧Wk w' g (k.putN rd (q1.sa ((q1.a+q2.a)%4294967296)))∧Sv g w.heap.size w w':=by
 have hl:=Blk.lt h
 have HX:Hid (∀ W,Below w.heap.size w W→W.cell? ⟨g,303,none⟩=some (.int .u8 55)):=Lib.hid (fun W hb=>by have:=(h.under hb hl).cellT 0 303 rfl;rw [this];show some (Value.int .u8 (k.i.o:Int))=_;rw [ho];rfl)
 have K136:=Lib.hid (c136 g k w h r1 q1 hr1 hq1 h116)
 have K98:Hid (∀ W,Below w.heap.size w W→Calls Tryz.prog 98 #[.pointer (some ⟨g,0,none⟩)] W fun e w'=>e=.returned (.agg #[.bool q2.g,.int .u32 (q2.a:Int),.int .u8 (q2.p:Int),.int .u8 (q2.y:Int),.int .u8 (q2.e:Int),.int .u16 (q2.b:Int),.int .u16 (q2.t:Int)])∧Below W.heap.size W w'):=Lib.hid (fun W hb=>c98 g k W (h.under hb hl) r2 q2 hr2 hq2 h216)
 obtain ⟨m,hm⟩:∃ m,(q1.a+q2.a)%4294967296=m:=⟨_,rfl⟩
 have hw:IntKind.u32.wrap ((q1.a:Int)+(q2.a:Int))=(m:Int):=by rw [IntKind.wrap_u32];omega
 have hm2:m<4294967296:=by omega
 rw [hm]
 have KC:=Lib.hid (sa_call q1 hf1 m hm2)
 obtain ⟨q3,hq3⟩:∃ q3,(q1.sa m)=q3:=⟨_,rfl⟩
 rw [hq3] at KC ⊢
 have K95:Hid (∀ W,Below w.heap.size w W→Calls Tryz.prog 95 #[.pointer (some ⟨g,0,none⟩),.agg #[.bool q3.g,.int .u32 (q3.a:Int),.int .u8 (q3.p:Int),.int .u8 (q3.y:Int),.int .u8 (q3.e:Int),.int .u16 (q3.b:Int),.int .u16 (q3.t:Int)]] W fun e w'=>e=.returned (.tuple #[])∧Wk w' g (k.putN rd q3)∧Sv g w.heap.size w w'):=Lib.hid (fun W hb=>(c95 g k q3 W (h.under hb hl) rd hd hd16).mono fun e w' ⟨h1,h2,h3⟩=>⟨h1,h2,(Below.sv hb (Nat.le_refl _)).trans (h3.sv hb.size)⟩)
 clear h ho hd hr1 hr2 hq1 hq2 hf1 hf2 hm
 go_enter Tryz.func100,Tryz.ntmps100
 go_wp2_with fail
 refine K136.out.mono ?_
 rintro _ w1 ⟨rfl,hb1⟩
 have HB1:=Lib.hid hb1
 clear hb1
 go_wp2_with fail
 refine (K98.out _ HB1.out).mono ?_
 rintro _ w2 ⟨rfl,hb2⟩
 have HB2:Hid (Below w.heap.size w w2):=Lib.hid (HB1.out.trans (hb2.mono HB1.out.size))
 have hfd:∀ W,(Instr.field 29 (.agg #[.bool q2.g,.int .u32 (q2.a:Int),.int .u8 (q2.p:Int),.int .u8 (q2.y:Int),.int .u8 (q2.e:Int),.int .u16 (q2.b:Int),.int .u16 (q2.t:Int)]) 1).run Tryz.prog W=.ok (.int .u32 (q2.a:Int)) W:=fun W=>fld2 _ _ _ _ _ _ _ W
 clear hb2
 have HA3:Hid (Blk (w2.alloc (.cells #[.bool q1.g,.int .u32 (q1.a:Int),.int .u8 (q1.p:Int),.int .u8 (q1.y:Int),.int .u8 (q1.e:Int),.int .u16 (q1.b:Int),.int .u16 (q1.t:Int)] 29)) w2.heap.size 29 #[.bool q1.g,.int .u32 (q1.a:Int),.int .u8 (q1.p:Int),.int .u8 (q1.y:Int),.int .u8 (q1.e:Int),.int .u16 (q1.b:Int),.int .u16 (q1.t:Int)]):=Lib.hid (Blk.new w2 29 _)
 have HB3:Hid (Below w.heap.size w (w2.alloc (.cells #[.bool q1.g,.int .u32 (q1.a:Int),.int .u8 (q1.p:Int),.int .u8 (q1.y:Int),.int .u8 (q1.e:Int),.int .u16 (q1.b:Int),.int .u16 (q1.t:Int)] 29))):=Lib.hid (HB2.out.alloc HB2.out.size _)
 have x303:=HX.out _ HB3.out
 have hlp:w.heap.size≤w2.heap.size:=HB2.out.size
 obtain ⟨pb,hpe⟩:∃ pb,w2.heap.size=pb:=⟨_,rfl⟩
 rw [hpe] at HA3
 go_upto_region 1 with fail
 generalize w2.alloc (.cells #[.bool q1.g,.int .u32 (q1.a:Int),.int .u8 (q1.p:Int),.int .u8 (q1.y:Int),.int .u8 (q1.e:Int),.int .u16 (q1.b:Int),.int .u16 (q1.t:Int)] 29)=W3 at *
 have y0:=HA3.out.cell 0
 have y1:=HA3.out.cell 1
 have y2:=HA3.out.cell 2
 have y3:=HA3.out.cell 3
 have y4:=HA3.out.cell 4
 have y5:=HA3.out.cell 5
 have y6:=HA3.out.cell 6
 simp only [List.getElem?_toArray,List.getElem?_cons_zero,List.getElem?_cons_succ] at y0 y1 y2 y3 y4 y5 y6
 have hlg:g<W3.heap.size:=by have:=HB3.out.size;omega
 go_wp2_with fail
 refine (KC.out _).mono ?_
 rintro _ w4 ⟨rfl,hb4⟩
 have HB4:Hid (Below w.heap.size w w4):=Lib.hid (HB3.out.trans (hb4.mono HB3.out.size))
 clear hb4
 go_wp2_with fail
 refine (K95.out _ HB4.out).mono ?_
 rintro _ w5 ⟨rfl,hk5,hs5⟩
 go_wp2_with fail
 go_end0
 exact ⟨rfl,hk5,hs5⟩
set_option maxHeartbeats 2000000 in
theorem c100_bi (g:Nat) (k:WK) (rd r1 r2:Nat) (q1 q2:Cq) (w:World) (h:Wk w g k) (ho:k.i.o=49) (hd:k.i.rd=rd) (hd16:rd<16) (hr1:k.i.r1=r1) (h116:r1<16) (hr2:k.i.r2=r2) (h216:r2<16) (hq1:k.A.c r1=q1) (hq2:k.A.c r2=q2) (hf1:q1.fit) (hf2:q2.fit) (n:Nat) (hn:k.i.im%4294967296=(n:Int)) :
  Calls Tryz.prog 100 #[.pointer (some ⟨g,0,none⟩)] w fun e w'=>e=.returned (.tuple #[])∧Wk w' g (k.putN rd (q1.sb n))∧Sv g w.heap.size w w':=by
 have hl:=Blk.lt h
 have HX:Hid (∀ W,Below w.heap.size w W→W.cell? ⟨g,303,none⟩=some (.int .u8 49)):=Lib.hid (fun W hb=>by have:=(h.under hb hl).cellT 0 303 rfl;rw [this];show some (Value.int .u8 (k.i.o:Int))=_;rw [ho];rfl)
 have K136:=Lib.hid (c136 g k w h r1 q1 hr1 hq1 h116)
 have K98:Hid (∀ W,Below w.heap.size w W→Calls Tryz.prog 98 #[.pointer (some ⟨g,0,none⟩)] W fun e w'=>e=.returned (.agg #[.bool q2.g,.int .u32 (q2.a:Int),.int .u8 (q2.p:Int),.int .u8 (q2.y:Int),.int .u8 (q2.e:Int),.int .u16 (q2.b:Int),.int .u16 (q2.t:Int)])∧Below W.heap.size W w'):=Lib.hid (fun W hb=>c98 g k W (h.under hb hl) r2 q2 hr2 hq2 h216)
 have hn2:n<4294967296:=by omega
 have K97:Hid (∀ W,Below w.heap.size w W→Calls Tryz.prog 97 #[.pointer (some ⟨g,0,none⟩)] W fun e w'=>e=.returned (.int .u32 (n:Int))∧W=w'):=Lib.hid (fun W hb=>by rw [←hn];exact c97 g k W (h.under hb hl))
 have KC:=Lib.hid (sb_call q1 hf1 n hn2)
 obtain ⟨q3,hq3⟩:∃ q3,(q1.sb n)=q3:=⟨_,rfl⟩
 rw [hq3] at KC ⊢
 have K95:Hid (∀ W,Below w.heap.size w W→Calls Tryz.prog 95 #[.pointer (some ⟨g,0,none⟩),.agg #[.bool q3.g,.int .u32 (q3.a:Int),.int .u8 (q3.p:Int),.int .u8 (q3.y:Int),.int .u8 (q3.e:Int),.int .u16 (q3.b:Int),.int .u16 (q3.t:Int)]] W fun e w'=>e=.returned (.tuple #[])∧Wk w' g (k.putN rd q3)∧Sv g w.heap.size w w'):=Lib.hid (fun W hb=>(c95 g k q3 W (h.under hb hl) rd hd hd16).mono fun e w' ⟨h1,h2,h3⟩=>⟨h1,h2,(Below.sv hb (Nat.le_refl _)).trans (h3.sv hb.size)⟩)
 clear h ho hd hr1 hr2 hq1 hq2 hf1 hf2 hn
 go_enter Tryz.func100,Tryz.ntmps100
 go_wp2_with fail
 refine K136.out.mono ?_
 rintro _ w1 ⟨rfl,hb1⟩
 have HB1:=Lib.hid hb1
 clear hb1
 go_wp2_with fail
 refine (K98.out _ HB1.out).mono ?_
 rintro _ w2 ⟨rfl,hb2⟩
 have HB2:Hid (Below w.heap.size w w2):=Lib.hid (HB1.out.trans (hb2.mono HB1.out.size))
 have hfd:∀ W,(Instr.field 29 (.agg #[.bool q2.g,.int .u32 (q2.a:Int),.int .u8 (q2.p:Int),.int .u8 (q2.y:Int),.int .u8 (q2.e:Int),.int .u16 (q2.b:Int),.int .u16 (q2.t:Int)]) 1).run Tryz.prog W=.ok (.int .u32 (q2.a:Int)) W:=fun W=>fld2 _ _ _ _ _ _ _ W
 clear hb2
 have HA3:Hid (Blk (w2.alloc (.cells #[.bool q1.g,.int .u32 (q1.a:Int),.int .u8 (q1.p:Int),.int .u8 (q1.y:Int),.int .u8 (q1.e:Int),.int .u16 (q1.b:Int),.int .u16 (q1.t:Int)] 29)) w2.heap.size 29 #[.bool q1.g,.int .u32 (q1.a:Int),.int .u8 (q1.p:Int),.int .u8 (q1.y:Int),.int .u8 (q1.e:Int),.int .u16 (q1.b:Int),.int .u16 (q1.t:Int)]):=Lib.hid (Blk.new w2 29 _)
 have HB3:Hid (Below w.heap.size w (w2.alloc (.cells #[.bool q1.g,.int .u32 (q1.a:Int),.int .u8 (q1.p:Int),.int .u8 (q1.y:Int),.int .u8 (q1.e:Int),.int .u16 (q1.b:Int),.int .u16 (q1.t:Int)] 29))):=Lib.hid (HB2.out.alloc HB2.out.size _)
 have x303:=HX.out _ HB3.out
 have hlp:w.heap.size≤w2.heap.size:=HB2.out.size
 obtain ⟨pb,hpe⟩:∃ pb,w2.heap.size=pb:=⟨_,rfl⟩
 rw [hpe] at HA3
 go_upto_region 1 with fail
 generalize w2.alloc (.cells #[.bool q1.g,.int .u32 (q1.a:Int),.int .u8 (q1.p:Int),.int .u8 (q1.y:Int),.int .u8 (q1.e:Int),.int .u16 (q1.b:Int),.int .u16 (q1.t:Int)] 29)=W3 at *
 have y0:=HA3.out.cell 0
 have y1:=HA3.out.cell 1
 have y2:=HA3.out.cell 2
 have y3:=HA3.out.cell 3
 have y4:=HA3.out.cell 4
 have y5:=HA3.out.cell 5
 have y6:=HA3.out.cell 6
 simp only [List.getElem?_toArray,List.getElem?_cons_zero,List.getElem?_cons_succ] at y0 y1 y2 y3 y4 y5 y6
 have hlg:g<W3.heap.size:=by have:=HB3.out.size;omega
 go_wp2_with fail
 refine (K97.out _ HB3.out).mono ?_
 rintro _ _ ⟨rfl,rfl⟩
 go_wp2_with fail
 refine (KC.out _).mono ?_
 rintro _ w4 ⟨rfl,hb4⟩
 have HB4:Hid (Below w.heap.size w w4):=Lib.hid (HB3.out.trans (hb4.mono HB3.out.size))
 clear hb4
 go_wp2_with fail
 refine (K95.out _ HB4.out).mono ?_
 rintro _ w5 ⟨rfl,hk5,hs5⟩
 go_wp2_with fail
 go_end0
 exact ⟨rfl,hk5,hs5⟩
set_option maxHeartbeats 2000000 in
theorem c100_sb (g:Nat) (k:WK) (rd r1 r2:Nat) (q1 q2:Cq) (w:World) (h:Wk w g k) (ho:k.i.o=50) (hd:k.i.rd=rd) (hd16:rd<16) (hr1:k.i.r1=r1) (h116:r1<16) (hr2:k.i.r2=r2) (h216:r2<16) (hq1:k.A.c r1=q1) (hq2:k.A.c r2=q2) (hf1:q1.fit) (hf2:q2.fit) :
  Calls Tryz.prog 100 #[.pointer (some ⟨g,0,none⟩)] w fun e w'=>e=.returned (.tuple #[])∧Wk w' g (k.putN rd (q1.sb q2.a))∧Sv g w.heap.size w w':=by
 have hl:=Blk.lt h
 have HX:Hid (∀ W,Below w.heap.size w W→W.cell? ⟨g,303,none⟩=some (.int .u8 50)):=Lib.hid (fun W hb=>by have:=(h.under hb hl).cellT 0 303 rfl;rw [this];show some (Value.int .u8 (k.i.o:Int))=_;rw [ho];rfl)
 have K136:=Lib.hid (c136 g k w h r1 q1 hr1 hq1 h116)
 have K98:Hid (∀ W,Below w.heap.size w W→Calls Tryz.prog 98 #[.pointer (some ⟨g,0,none⟩)] W fun e w'=>e=.returned (.agg #[.bool q2.g,.int .u32 (q2.a:Int),.int .u8 (q2.p:Int),.int .u8 (q2.y:Int),.int .u8 (q2.e:Int),.int .u16 (q2.b:Int),.int .u16 (q2.t:Int)])∧Below W.heap.size W w'):=Lib.hid (fun W hb=>c98 g k W (h.under hb hl) r2 q2 hr2 hq2 h216)
 have KC:=Lib.hid (sb_call q1 hf1 q2.a hf2.1)
 obtain ⟨q3,hq3⟩:∃ q3,(q1.sb q2.a)=q3:=⟨_,rfl⟩
 rw [hq3] at KC ⊢
 have K95:Hid (∀ W,Below w.heap.size w W→Calls Tryz.prog 95 #[.pointer (some ⟨g,0,none⟩),.agg #[.bool q3.g,.int .u32 (q3.a:Int),.int .u8 (q3.p:Int),.int .u8 (q3.y:Int),.int .u8 (q3.e:Int),.int .u16 (q3.b:Int),.int .u16 (q3.t:Int)]] W fun e w'=>e=.returned (.tuple #[])∧Wk w' g (k.putN rd q3)∧Sv g w.heap.size w w'):=Lib.hid (fun W hb=>(c95 g k q3 W (h.under hb hl) rd hd hd16).mono fun e w' ⟨h1,h2,h3⟩=>⟨h1,h2,(Below.sv hb (Nat.le_refl _)).trans (h3.sv hb.size)⟩)
 clear h ho hd hr1 hr2 hq1 hq2 hf1 hf2
 go_enter Tryz.func100,Tryz.ntmps100
 go_wp2_with fail
 refine K136.out.mono ?_
 rintro _ w1 ⟨rfl,hb1⟩
 have HB1:=Lib.hid hb1
 clear hb1
 go_wp2_with fail
 refine (K98.out _ HB1.out).mono ?_
 rintro _ w2 ⟨rfl,hb2⟩
 have HB2:Hid (Below w.heap.size w w2):=Lib.hid (HB1.out.trans (hb2.mono HB1.out.size))
 have hfd:∀ W,(Instr.field 29 (.agg #[.bool q2.g,.int .u32 (q2.a:Int),.int .u8 (q2.p:Int),.int .u8 (q2.y:Int),.int .u8 (q2.e:Int),.int .u16 (q2.b:Int),.int .u16 (q2.t:Int)]) 1).run Tryz.prog W=.ok (.int .u32 (q2.a:Int)) W:=fun W=>fld2 _ _ _ _ _ _ _ W
 clear hb2
 have HA3:Hid (Blk (w2.alloc (.cells #[.bool q1.g,.int .u32 (q1.a:Int),.int .u8 (q1.p:Int),.int .u8 (q1.y:Int),.int .u8 (q1.e:Int),.int .u16 (q1.b:Int),.int .u16 (q1.t:Int)] 29)) w2.heap.size 29 #[.bool q1.g,.int .u32 (q1.a:Int),.int .u8 (q1.p:Int),.int .u8 (q1.y:Int),.int .u8 (q1.e:Int),.int .u16 (q1.b:Int),.int .u16 (q1.t:Int)]):=Lib.hid (Blk.new w2 29 _)
 have HB3:Hid (Below w.heap.size w (w2.alloc (.cells #[.bool q1.g,.int .u32 (q1.a:Int),.int .u8 (q1.p:Int),.int .u8 (q1.y:Int),.int .u8 (q1.e:Int),.int .u16 (q1.b:Int),.int .u16 (q1.t:Int)] 29))):=Lib.hid (HB2.out.alloc HB2.out.size _)
 have x303:=HX.out _ HB3.out
 have hlp:w.heap.size≤w2.heap.size:=HB2.out.size
 obtain ⟨pb,hpe⟩:∃ pb,w2.heap.size=pb:=⟨_,rfl⟩
 rw [hpe] at HA3
 go_upto_region 1 with fail
 generalize w2.alloc (.cells #[.bool q1.g,.int .u32 (q1.a:Int),.int .u8 (q1.p:Int),.int .u8 (q1.y:Int),.int .u8 (q1.e:Int),.int .u16 (q1.b:Int),.int .u16 (q1.t:Int)] 29)=W3 at *
 have y0:=HA3.out.cell 0
 have y1:=HA3.out.cell 1
 have y2:=HA3.out.cell 2
 have y3:=HA3.out.cell 3
 have y4:=HA3.out.cell 4
 have y5:=HA3.out.cell 5
 have y6:=HA3.out.cell 6
 simp only [List.getElem?_toArray,List.getElem?_cons_zero,List.getElem?_cons_succ] at y0 y1 y2 y3 y4 y5 y6
 have hlg:g<W3.heap.size:=by have:=HB3.out.size;omega
 go_wp2_with fail
 refine (KC.out _).mono ?_
 rintro _ w4 ⟨rfl,hb4⟩
 have HB4:Hid (Below w.heap.size w w4):=Lib.hid (HB3.out.trans (hb4.mono HB3.out.size))
 clear hb4
 go_wp2_with fail
 refine (K95.out _ HB4.out).mono ?_
 rintro _ w5 ⟨rfl,hk5,hs5⟩
 go_wp2_with fail
 go_end0
 exact ⟨rfl,hk5,hs5⟩
set_option maxHeartbeats 2000000 in
theorem c100_sub (g:Nat) (k:WK) (o1 rd r1 r2 v:Nat) (q1 q2:Cq) (w:World) (h:Wk w g k) (ho:k.i.o=o1) (hd:k.i.rd=rd) (hd16:rd<16) (hr1:k.i.r1=r1) (h116:r1<16) (hr2:k.i.r2=r2) (h216:r2<16) (hq1:k.A.c r1=q1) (hq2:k.A.c r2=q2) (hf1:q1.fit) (hf2:q2.fit) (ho1:o1=56) (hv:(if q2.subs q1=true then 1 else 0)=v) :
  Calls Tryz.prog 100 #[.pointer (some ⟨g,0,none⟩)] w fun e w'=>e=.returned (.tuple #[])∧Wk w' g (k.putN rd (numQ v))∧Sv g w.heap.size w w':=by
 have hl:=Blk.lt h
 have HW:=Lib.hid h
 have HX:Hid (∀ W,Below w.heap.size w W→W.cell? ⟨g,303,none⟩=some (.int .u8 (o1:Int))):=Lib.hid (fun W hb=>by rw [←ho];exact (h.under hb hl).cellT 0 303 rfl)
 have K136:=Lib.hid (c136 g k w h r1 q1 hr1 hq1 h116)
 have K98:Hid (∀ W,Below w.heap.size w W→Calls Tryz.prog 98 #[.pointer (some ⟨g,0,none⟩)] W fun e w'=>e=.returned (.agg #[.bool q2.g,.int .u32 (q2.a:Int),.int .u8 (q2.p:Int),.int .u8 (q2.y:Int),.int .u8 (q2.e:Int),.int .u16 (q2.b:Int),.int .u16 (q2.t:Int)])∧Below W.heap.size W w'):=Lib.hid (fun W hb=>c98 g k W (h.under hb hl) r2 q2 hr2 hq2 h216)
 have HD:=Lib.hid hd
 have HR2:Hid (k.i.r2=r2∧k.A.c r2=q2):=Lib.hid ⟨hr2,hq2⟩
 subst ho1
 have KS:=Lib.hid (subs_call q2 q1 hf2 hf1)
 have KF:Hid (∀ W,Calls Tryz.prog 147 #[.bool (q2.subs q1)] W fun e w'=>e=.returned (.int .u32 (v:Int))∧W=w'):=Lib.hid (fun W=>(c147 (q2.subs q1) W).mono fun e w' ⟨h1,h2⟩=>⟨by rw [h1,←hv];split <;> rfl,h2⟩)
 obtain ⟨sb,hsb⟩:∃ sb,q2.subs q1=sb:=⟨_,rfl⟩
 rw [hsb] at KS KF
 clear hsb
 have KN:Hid (∀ W,Calls Tryz.prog 132 #[.int .u32 (v:Int)] W fun e w'=>e=.returned (.agg #[.bool false,.int .u32 (v:Int),.int .u8 0,.int .u8 0,.int .u8 0,.int .u16 0,.int .u16 0])∧Below W.heap.size W w'):=Lib.hid (fun W=>int_call v W)
 clear h ho hd hr1 hr2 hq1 hq2 hf1 hf2 hv
 go_enter Tryz.func100,Tryz.ntmps100
 go_wp2_with fail
 refine K136.out.mono ?_
 rintro _ w1 ⟨rfl,hb1⟩
 have HB1:=Lib.hid hb1
 clear hb1
 go_wp2_with fail
 refine (K98.out _ HB1.out).mono ?_
 rintro _ w2 ⟨rfl,hb2⟩
 have HB2:Hid (Below w.heap.size w w2):=Lib.hid (HB1.out.trans (hb2.mono HB1.out.size))
 have hfd:∀ W,(Instr.field 29 (.agg #[.bool q2.g,.int .u32 (q2.a:Int),.int .u8 (q2.p:Int),.int .u8 (q2.y:Int),.int .u8 (q2.e:Int),.int .u16 (q2.b:Int),.int .u16 (q2.t:Int)]) 1).run Tryz.prog W=.ok (.int .u32 (q2.a:Int)) W:=fun W=>fld2 _ _ _ _ _ _ _ W
 clear hb2
 have HA3:Hid (Blk (w2.alloc (.cells #[.bool q1.g,.int .u32 (q1.a:Int),.int .u8 (q1.p:Int),.int .u8 (q1.y:Int),.int .u8 (q1.e:Int),.int .u16 (q1.b:Int),.int .u16 (q1.t:Int)] 29)) w2.heap.size 29 #[.bool q1.g,.int .u32 (q1.a:Int),.int .u8 (q1.p:Int),.int .u8 (q1.y:Int),.int .u8 (q1.e:Int),.int .u16 (q1.b:Int),.int .u16 (q1.t:Int)]):=Lib.hid (Blk.new w2 29 _)
 have HB3:Hid (Below w.heap.size w (w2.alloc (.cells #[.bool q1.g,.int .u32 (q1.a:Int),.int .u8 (q1.p:Int),.int .u8 (q1.y:Int),.int .u8 (q1.e:Int),.int .u16 (q1.b:Int),.int .u16 (q1.t:Int)] 29))):=Lib.hid (HB2.out.alloc HB2.out.size _)
 have x303:=HX.out _ HB3.out
 have hlp:w.heap.size≤w2.heap.size:=HB2.out.size
 obtain ⟨pb,hpe⟩:∃ pb,w2.heap.size=pb:=⟨_,rfl⟩
 rw [hpe] at HA3 hlp
 go_upto_region 1 with fail
 generalize w2.alloc (.cells #[.bool q1.g,.int .u32 (q1.a:Int),.int .u8 (q1.p:Int),.int .u8 (q1.y:Int),.int .u8 (q1.e:Int),.int .u16 (q1.b:Int),.int .u16 (q1.t:Int)] 29)=W3 at *
 have hlg:g<W3.heap.size:=by have:=HB3.out.size;omega
 go_upto_region 21 with fail
 have HK3:Hid (Wk W3 g k):=Lib.hid (HW.out.under HB3.out hl)
 have HS3:Hid (Sv g w.heap.size w W3):=Lib.hid (Below.sv HB3.out (Nat.le_refl _))
 have HZ3:Hid (w.heap.size≤W3.heap.size):=Lib.hid HB3.out.size
 have hgp:pb≠g:=by omega
 have HSt:=Lib.hid (Stays.blk g pb 29 #[.bool q1.g,.int .u32 (q1.a:Int),.int .u8 (q1.p:Int),.int .u8 (q1.y:Int),.int .u8 (q1.e:Int),.int .u16 (q1.b:Int),.int .u16 (q1.t:Int)] hgp)
 have HXW:Hid (∀ W,Wk W g k→W.cell? ⟨g,303,none⟩=some (.int .u8 (56))):=Lib.hid (fun W hk=>(hk.cellT 0 303 rfl).trans (by have:=(HW.out.cellT 0 303 rfl).symm.trans (HX.out _ (Below.refl _ _));exact this))
 clear x303 hpe
 refine at_eq fun T0 hT=>?_
 have hts:T0.size=90:=by rw [hT];rfl
 have fx0:T0.getD 0 undef=.pointer (some ⟨g,0,none⟩):=by rw [hT];rfl
 have fx2:T0.getD 2 undef=.pointer (some ⟨pb,0,none⟩):=by rw [hT];rfl
 have HT:=Lib.hid hT
 clear hT
 obtain ⟨ex,hex⟩:∃ ex:Nat→Ex,ex=fun p=>[(0,72,.pointer (some ⟨g,0,none⟩)),(1,73,.pointer (some ⟨g,0,none⟩)),(2,74,.agg #[.bool q2.g,.int .u32 (q2.a:Int),.int .u8 (q2.p:Int),.int .u8 (q2.y:Int),.int .u8 (q2.e:Int),.int .u16 (q2.b:Int),.int .u16 (q2.t:Int)]),(3,75,.agg #[.bool q1.g,.int .u32 (q1.a:Int),.int .u8 (q1.p:Int),.int .u8 (q1.y:Int),.int .u8 (q1.e:Int),.int .u16 (q1.b:Int),.int .u16 (q1.t:Int)]),(4,76,.bool sb),(5,77,.int .u32 (v:Int)),(6,78,.agg #[.bool false,.int .u32 (v:Int),.int .u8 0,.int .u8 0,.int .u8 0,.int .u16 0,.int .u16 0]),(7,79,.tuple #[])]:=⟨_,rfl⟩
 have HN:∀ p,apartB (ex p)=true:=by rw [hex];intro p;kernel_rfl
 have M0:∀ p,(0,72,.pointer (some ⟨g,0,none⟩))∈ex p:=by rw [hex];intro p;simp
 have M1:∀ p,(1,73,.pointer (some ⟨g,0,none⟩))∈ex p:=by rw [hex];intro p;simp
 have M2:∀ p,(2,74,.agg #[.bool q2.g,.int .u32 (q2.a:Int),.int .u8 (q2.p:Int),.int .u8 (q2.y:Int),.int .u8 (q2.e:Int),.int .u16 (q2.b:Int),.int .u16 (q2.t:Int)])∈ex p:=by rw [hex];intro p;simp
 have M3:∀ p,(3,75,.agg #[.bool q1.g,.int .u32 (q1.a:Int),.int .u8 (q1.p:Int),.int .u8 (q1.y:Int),.int .u8 (q1.e:Int),.int .u16 (q1.b:Int),.int .u16 (q1.t:Int)])∈ex p:=by rw [hex];intro p;simp
 have M4:∀ p,(4,76,.bool sb)∈ex p:=by rw [hex];intro p;simp
 have M5:∀ p,(5,77,.int .u32 (v:Int))∈ex p:=by rw [hex];intro p;simp
 have M6:∀ p,(6,78,.agg #[.bool false,.int .u32 (v:Int),.int .u8 0,.int .u8 0,.int .u8 0,.int .u16 0,.int .u16 0])∈ex p:=by rw [hex];intro p;simp
 have M7:∀ p,(7,79,.tuple #[])∈ex p:=by rw [hex];intro p;simp
 refine wp_region_tm (by kernel_rfl) (by kernel_rfl) ex ((fun _=>JG g w.heap.size W3 k (k.putN rd (numQ v)) (fun W=>Blk W pb 29 #[.bool q1.g,.int .u32 (q1.a:Int),.int .u8 (q1.p:Int),.int .u8 (q1.y:Int),.int .u8 (q1.e:Int),.int .u16 (q1.b:Int),.int .u16 (q1.t:Int)]) 7 0)) 0 (JG.begin HSt.out HK3.out HA3.out HZ3.out _ _) ?_ (by rw [hex];intro p;kernel_rfl) ?_
 ·intro p l W i o hls hop hun hdep hj
  have hi:i<8:=(Array.getElem?_eq_some_iff.1 hop).1
  have hil:i<l.size:=by rw [hls];exact hi
  rcases (by omega:i=0∨i=1∨i=2∨i=3∨i=4∨i=5∨i=6∨i=7) with rfl | rfl | rfl | rfl | rfl | rfl | rfl | rfl
  ·cases hop
   have r0:=(tmA_none T0 (ex p) l 0 (by rw [hex];kernel_rfl)).trans fx0
   refine wpOp_of rfl rfl ?_
   refine wp_move (.tmp 0) rfl _ r0 ?_
   exact step_val (p':=p) _ (HN _) (M0 _) hil (by rw [hts];decide) rfl (hj.other HSt.out 0 (by decide) (Below.refl _ _))
  ·cases hop
   have r0:=(tmA_none T0 (ex p) l 0 (by rw [hex];kernel_rfl)).trans fx0
   refine wpOp_of rfl rfl ?_
   refine wp_move (.tmp 0) rfl _ r0 ?_
   exact step_val (p':=p) _ (HN _) (M1 _) hil (by rw [hts];decide) rfl (hj.other HSt.out 1 (by decide) (Below.refl _ _))
  ·cases hop
   have r73:=tmA_some T0 _ _ (HN p) 1 73 _ (M1 p) (hdep ⟨1,.data⟩ (by simp) rfl) (by rw [hts];decide)
   refine wpOp_of rfl rfl ?_
   refine wp_call1 98 (.tmp 73) 116 rfl _ r73 (cf98 _) ?_
   refine (hj.rs2 rfl rfl r2 q2 HR2.out.1 HR2.out.2 h216).mono ?_
   rintro _ W' ⟨rfl,hb⟩
   exact step_val (p':=p) _ (HN _) (M2 _) hil (by rw [hts];decide) rfl (hj.other HSt.out 2 (by decide) hb)
  ·cases hop
   have r2:=(tmA_none T0 (ex p) l 2 (by rw [hex];kernel_rfl)).trans fx2
   refine wpOp_of rfl rfl ?_
   refine wp_load_row 29 (.tmp 2) rfl pb r2 29 #[.bool q1.g,.int .u32 (q1.a:Int),.int .u8 (q1.p:Int),.int .u8 (q1.y:Int),.int .u8 (q1.e:Int),.int .u16 (q1.b:Int),.int .u16 (q1.t:Int)] (0,0) _ hj.x Tryz.underlying29 rfl info29s ?_
   exact step_val (p':=p) _ (HN _) (M3 _) hil (by rw [hts];decide) rfl (hj.other HSt.out 3 (by decide) (Below.refl _ _))
  ·cases hop
   have r74:=tmA_some T0 _ _ (HN p) 2 74 _ (M2 p) (hdep ⟨2,.data⟩ (by simp) rfl) (by rw [hts];decide)
   have r75:=tmA_some T0 _ _ (HN p) 3 75 _ (M3 p) (hdep ⟨3,.data⟩ (by simp) rfl) (by rw [hts];decide)
   refine wpOp_of rfl rfl ?_
   refine wp_call2 148 (.tmp 74) (.tmp 75) 29 29 rfl _ _ r74 r75 (cf148 _ _) ?_
   refine (KS.out W).mono ?_
   rintro _ W' ⟨rfl,hb⟩
   exact step_val (p':=p) _ (HN _) (M4 _) hil (by rw [hts];decide) rfl (hj.other HSt.out 4 (by decide) hb)
  ·cases hop
   have r76:=tmA_some T0 _ _ (HN p) 4 76 _ (M4 p) (hdep ⟨4,.data⟩ (by simp) rfl) (by rw [hts];decide)
   refine wpOp_of rfl rfl ?_
   refine wp_call1 147 (.tmp 76) 4 rfl _ r76 (cf147 _) ?_
   refine (KF.out W).mono ?_
   rintro _ _ ⟨rfl,rfl⟩
   exact step_val (p':=p) _ (HN _) (M5 _) hil (by rw [hts];decide) rfl (hj.other HSt.out 5 (by decide) (Below.refl _ _))
  ·cases hop
   have r77:=tmA_some T0 _ _ (HN p) 5 77 _ (M5 p) (hdep ⟨5,.data⟩ (by simp) rfl) (by rw [hts];decide)
   refine wpOp_of rfl rfl ?_
   refine wp_call1 132 (.tmp 77) 25 rfl _ r77 (cf132 _) ?_
   refine (KN.out W).mono ?_
   rintro _ W' ⟨rfl,hb⟩
   exact step_val (p':=p) _ (HN _) (M6 _) hil (by rw [hts];decide) rfl (hj.other HSt.out 6 (by decide) hb)
  ·cases hop
   have hun':=getD_un hun
   have r72:=tmA_some T0 _ _ (HN p) 0 72 _ (M0 p) (hdep ⟨0,.data⟩ (by simp) rfl) (by rw [hts];decide)
   have r78:=tmA_some T0 _ _ (HN p) 6 78 _ (M6 p) (hdep ⟨6,.data⟩ (by simp) rfl) (by rw [hts];decide)
   refine wpOp_of rfl rfl ?_
   refine wp_call2 95 (.tmp 72) (.tmp 78) 116 29 rfl _ _ r72 r78 (cf95 _ _) ?_
   refine (JG.set rd (numQ v) HSt.out hj hil hun' HD.out hd16).mono ?_
   rintro _ W' ⟨rfl,hj'⟩
   exact step_val (p':=p) _ (HN _) (M7 _) hil (by rw [hts];decide) rfl (hj')
 ·intro p l W hall hj
  have hk:=hj.last (hall 7 (by show 7<8;omega))
  have hs:=HS3.out.trans hj.sv
  subst hex
  rw [HT.out]
  simp only [putAll]
  clear hj hall
  go_wp2_with fail
  go_end0
  exact ⟨rfl,hk,hs⟩
set_option maxHeartbeats 2000000 in
theorem c100_told (g:Nat) (k:WK) (o1 rd r1 r2 v:Nat) (q1 q2:Cq) (w:World) (h:Wk w g k) (ho:k.i.o=o1) (hd:k.i.rd=rd) (hd16:rd<16) (hr1:k.i.r1=r1) (h116:r1<16) (hr2:k.i.r2=r2) (h216:r2<16) (hq1:k.A.c r1=q1) (hq2:k.A.c r2=q2) (hf1:q1.fit) (hf2:q2.fit) (hn:o1≠62∧o1≠63∧o1≠65∧o1≠54∧o1≠53∧o1≠48∧o1≠55∧o1≠49∧o1≠50∧o1≠56) (hv:q1.told o1=v) :
  Calls Tryz.prog 100 #[.pointer (some ⟨g,0,none⟩)] w fun e w'=>e=.returned (.tuple #[])∧Wk w' g (k.putN rd (numQ v))∧Sv g w.heap.size w w':=by
 have hl:=Blk.lt h
 have HW:=Lib.hid h
 have HX:Hid (∀ W,Below w.heap.size w W→W.cell? ⟨g,303,none⟩=some (.int .u8 (o1:Int))):=Lib.hid (fun W hb=>by rw [←ho];exact (h.under hb hl).cellT 0 303 rfl)
 have K136:=Lib.hid (c136 g k w h r1 q1 hr1 hq1 h116)
 have K98:Hid (∀ W,Below w.heap.size w W→Calls Tryz.prog 98 #[.pointer (some ⟨g,0,none⟩)] W fun e w'=>e=.returned (.agg #[.bool q2.g,.int .u32 (q2.a:Int),.int .u8 (q2.p:Int),.int .u8 (q2.y:Int),.int .u8 (q2.e:Int),.int .u16 (q2.b:Int),.int .u16 (q2.t:Int)])∧Below W.heap.size W w'):=Lib.hid (fun W hb=>c98 g k W (h.under hb hl) r2 q2 hr2 hq2 h216)
 have HD:=Lib.hid hd
 have HR2:Hid (k.i.r2=r2∧k.A.c r2=q2):=Lib.hid ⟨hr2,hq2⟩
 have KT:=Lib.hid (c149 o1 q1 hf1)
 rw [hv] at KT
 have b62:((o1:Int)==62)=false:=by rw [beq_eq_false_iff_ne];omega
 have b63:((o1:Int)==63)=false:=by rw [beq_eq_false_iff_ne];omega
 have b65:((o1:Int)==65)=false:=by rw [beq_eq_false_iff_ne];omega
 have b54:((o1:Int)==54)=false:=by rw [beq_eq_false_iff_ne];omega
 have b53:((o1:Int)==53)=false:=by rw [beq_eq_false_iff_ne];omega
 have b48:((o1:Int)==48)=false:=by rw [beq_eq_false_iff_ne];omega
 have b55:((o1:Int)==55)=false:=by rw [beq_eq_false_iff_ne];omega
 have b49:((o1:Int)==49)=false:=by rw [beq_eq_false_iff_ne];omega
 have b50:((o1:Int)==50)=false:=by rw [beq_eq_false_iff_ne];omega
 have b56:((o1:Int)==56)=false:=by rw [beq_eq_false_iff_ne];omega
 have KN:Hid (∀ W,Calls Tryz.prog 132 #[.int .u32 (v:Int)] W fun e w'=>e=.returned (.agg #[.bool false,.int .u32 (v:Int),.int .u8 0,.int .u8 0,.int .u8 0,.int .u16 0,.int .u16 0])∧Below W.heap.size W w'):=Lib.hid (fun W=>int_call v W)
 clear h ho hd hr1 hr2 hq1 hq2 hf1 hf2 hv hn
 go_enter Tryz.func100,Tryz.ntmps100
 go_wp2_with fail
 refine K136.out.mono ?_
 rintro _ w1 ⟨rfl,hb1⟩
 have HB1:=Lib.hid hb1
 clear hb1
 go_wp2_with fail
 refine (K98.out _ HB1.out).mono ?_
 rintro _ w2 ⟨rfl,hb2⟩
 have HB2:Hid (Below w.heap.size w w2):=Lib.hid (HB1.out.trans (hb2.mono HB1.out.size))
 have hfd:∀ W,(Instr.field 29 (.agg #[.bool q2.g,.int .u32 (q2.a:Int),.int .u8 (q2.p:Int),.int .u8 (q2.y:Int),.int .u8 (q2.e:Int),.int .u16 (q2.b:Int),.int .u16 (q2.t:Int)]) 1).run Tryz.prog W=.ok (.int .u32 (q2.a:Int)) W:=fun W=>fld2 _ _ _ _ _ _ _ W
 clear hb2
 have HA3:Hid (Blk (w2.alloc (.cells #[.bool q1.g,.int .u32 (q1.a:Int),.int .u8 (q1.p:Int),.int .u8 (q1.y:Int),.int .u8 (q1.e:Int),.int .u16 (q1.b:Int),.int .u16 (q1.t:Int)] 29)) w2.heap.size 29 #[.bool q1.g,.int .u32 (q1.a:Int),.int .u8 (q1.p:Int),.int .u8 (q1.y:Int),.int .u8 (q1.e:Int),.int .u16 (q1.b:Int),.int .u16 (q1.t:Int)]):=Lib.hid (Blk.new w2 29 _)
 have HB3:Hid (Below w.heap.size w (w2.alloc (.cells #[.bool q1.g,.int .u32 (q1.a:Int),.int .u8 (q1.p:Int),.int .u8 (q1.y:Int),.int .u8 (q1.e:Int),.int .u16 (q1.b:Int),.int .u16 (q1.t:Int)] 29))):=Lib.hid (HB2.out.alloc HB2.out.size _)
 have x303:=HX.out _ HB3.out
 have hlp:w.heap.size≤w2.heap.size:=HB2.out.size
 obtain ⟨pb,hpe⟩:∃ pb,w2.heap.size=pb:=⟨_,rfl⟩
 rw [hpe] at HA3 hlp
 go_upto_region 1 with fail
 generalize w2.alloc (.cells #[.bool q1.g,.int .u32 (q1.a:Int),.int .u8 (q1.p:Int),.int .u8 (q1.y:Int),.int .u8 (q1.e:Int),.int .u16 (q1.b:Int),.int .u16 (q1.t:Int)] 29)=W3 at *
 have hlg:g<W3.heap.size:=by have:=HB3.out.size;omega
 go_upto_region 22 with fail
 have HK3:Hid (Wk W3 g k):=Lib.hid (HW.out.under HB3.out hl)
 have HS3:Hid (Sv g w.heap.size w W3):=Lib.hid (Below.sv HB3.out (Nat.le_refl _))
 have HZ3:Hid (w.heap.size≤W3.heap.size):=Lib.hid HB3.out.size
 have hgp:pb≠g:=by omega
 have HSt:=Lib.hid (Stays.blk g pb 29 #[.bool q1.g,.int .u32 (q1.a:Int),.int .u8 (q1.p:Int),.int .u8 (q1.y:Int),.int .u8 (q1.e:Int),.int .u16 (q1.b:Int),.int .u16 (q1.t:Int)] hgp)
 have HXW:Hid (∀ W,Wk W g k→W.cell? ⟨g,303,none⟩=some (.int .u8 (o1:Int))):=Lib.hid (fun W hk=>(hk.cellT 0 303 rfl).trans (by have:=(HW.out.cellT 0 303 rfl).symm.trans (HX.out _ (Below.refl _ _));exact this))
 clear x303 hpe
 refine at_eq fun T0 hT=>?_
 have hts:T0.size=90:=by rw [hT];rfl
 have fx0:T0.getD 0 undef=.pointer (some ⟨g,0,none⟩):=by rw [hT];rfl
 have fx2:T0.getD 2 undef=.pointer (some ⟨pb,0,none⟩):=by rw [hT];rfl
 have HT:=Lib.hid hT
 clear hT
 obtain ⟨ex,hex⟩:∃ ex:Nat→Ex,ex=fun p=>[(0,80,.pointer (some ⟨g,0,none⟩)),(1,81,.pointer (some ⟨g,0,none⟩)),(2,82,.pointer (some ⟨g,0,none⟩)),(3,83,.pointer (some ⟨g,303,none⟩)),(4,84,.pointer (some ⟨g,303,none⟩)),(5,85,.int .u8 (o1:Int)),(6,86,.agg #[.bool q1.g,.int .u32 (q1.a:Int),.int .u8 (q1.p:Int),.int .u8 (q1.y:Int),.int .u8 (q1.e:Int),.int .u16 (q1.b:Int),.int .u16 (q1.t:Int)]),(7,87,.int .u32 (v:Int)),(8,88,.agg #[.bool false,.int .u32 (v:Int),.int .u8 0,.int .u8 0,.int .u8 0,.int .u16 0,.int .u16 0]),(9,89,.tuple #[])]:=⟨_,rfl⟩
 have HN:∀ p,apartB (ex p)=true:=by rw [hex];intro p;kernel_rfl
 have M0:∀ p,(0,80,.pointer (some ⟨g,0,none⟩))∈ex p:=by rw [hex];intro p;simp
 have M1:∀ p,(1,81,.pointer (some ⟨g,0,none⟩))∈ex p:=by rw [hex];intro p;simp
 have M2:∀ p,(2,82,.pointer (some ⟨g,0,none⟩))∈ex p:=by rw [hex];intro p;simp
 have M3:∀ p,(3,83,.pointer (some ⟨g,303,none⟩))∈ex p:=by rw [hex];intro p;simp
 have M4:∀ p,(4,84,.pointer (some ⟨g,303,none⟩))∈ex p:=by rw [hex];intro p;simp
 have M5:∀ p,(5,85,.int .u8 (o1:Int))∈ex p:=by rw [hex];intro p;simp
 have M6:∀ p,(6,86,.agg #[.bool q1.g,.int .u32 (q1.a:Int),.int .u8 (q1.p:Int),.int .u8 (q1.y:Int),.int .u8 (q1.e:Int),.int .u16 (q1.b:Int),.int .u16 (q1.t:Int)])∈ex p:=by rw [hex];intro p;simp
 have M7:∀ p,(7,87,.int .u32 (v:Int))∈ex p:=by rw [hex];intro p;simp
 have M8:∀ p,(8,88,.agg #[.bool false,.int .u32 (v:Int),.int .u8 0,.int .u8 0,.int .u8 0,.int .u16 0,.int .u16 0])∈ex p:=by rw [hex];intro p;simp
 have M9:∀ p,(9,89,.tuple #[])∈ex p:=by rw [hex];intro p;simp
 refine wp_region_tm (by kernel_rfl) (by kernel_rfl) ex ((fun _=>JG g w.heap.size W3 k (k.putN rd (numQ v)) (fun W=>Blk W pb 29 #[.bool q1.g,.int .u32 (q1.a:Int),.int .u8 (q1.p:Int),.int .u8 (q1.y:Int),.int .u8 (q1.e:Int),.int .u16 (q1.b:Int),.int .u16 (q1.t:Int)]) 9 0)) 0 (JG.begin HSt.out HK3.out HA3.out HZ3.out _ _) ?_ (by rw [hex];intro p;kernel_rfl) ?_
 ·intro p l W i o hls hop hun hdep hj
  have hi:i<10:=(Array.getElem?_eq_some_iff.1 hop).1
  have hil:i<l.size:=by rw [hls];exact hi
  rcases (by omega:i=0∨i=1∨i=2∨i=3∨i=4∨i=5∨i=6∨i=7∨i=8∨i=9) with rfl | rfl | rfl | rfl | rfl | rfl | rfl | rfl | rfl | rfl
  ·cases hop
   have r0:=(tmA_none T0 (ex p) l 0 (by rw [hex];kernel_rfl)).trans fx0
   refine wpOp_of rfl rfl ?_
   refine wp_move (.tmp 0) rfl _ r0 ?_
   exact step_val (p':=p) _ (HN _) (M0 _) hil (by rw [hts];decide) rfl (hj.other HSt.out 0 (by decide) (Below.refl _ _))
  ·cases hop
   have r0:=(tmA_none T0 (ex p) l 0 (by rw [hex];kernel_rfl)).trans fx0
   refine wpOp_of rfl rfl ?_
   refine wp_move (.tmp 0) rfl _ r0 ?_
   exact step_val (p':=p) _ (HN _) (M1 _) hil (by rw [hts];decide) rfl (hj.other HSt.out 1 (by decide) (Below.refl _ _))
  ·cases hop
   have r81:=tmA_some T0 _ _ (HN p) 1 81 _ (M1 p) (hdep ⟨1,.data⟩ (by simp) rfl) (by rw [hts];decide)
   refine wpOp_of rfl rfl ?_
   refine wp_nil (.tmp 81) rfl _ r81 ?_
   exact step_val (p':=p) _ (HN _) (M2 _) hil (by rw [hts];decide) rfl (hj.other HSt.out 2 (by decide) (Below.refl _ _))
  ·cases hop
   have r82:=tmA_some T0 _ _ (HN p) 2 82 _ (M2 p) (hdep ⟨2,.data⟩ (by simp) rfl) (by rw [hts];decide)
   refine wpOp_of rfl rfl ?_
   refine wp_fa 81 (.tmp 82) 3 0 rfl g 0 303 r82 (fa81_3 g) ?_
   exact step_val (p':=p) _ (HN _) (M3 _) hil (by rw [hts];decide) rfl (hj.other HSt.out 3 (by decide) (Below.refl _ _))
  ·cases hop
   have r83:=tmA_some T0 _ _ (HN p) 3 83 _ (M3 p) (hdep ⟨3,.data⟩ (by simp) rfl) (by rw [hts];decide)
   refine wpOp_of rfl rfl ?_
   refine wp_fa 53 (.tmp 83) 0 0 rfl g 303 303 r83 (fa53_0 g) ?_
   exact step_val (p':=p) _ (HN _) (M4 _) hil (by rw [hts];decide) rfl (hj.other HSt.out 4 (by decide) (Below.refl _ _))
  ·cases hop
   have r84:=tmA_some T0 _ _ (HN p) 4 84 _ (M4 p) (hdep ⟨4,.data⟩ (by simp) rfl) (by rw [hts];decide)
   refine wpOp_of rfl rfl ?_
   obtain ⟨kk,hkk,ha,hi'⟩:=hj.any rfl rfl
   refine wp_ld 51 (.tmp 84) rfl ⟨g,303,none⟩ _ r84 agg51 ((hkk.cellT 0 303 rfl).trans (by have:=HXW.out w HW.out;have e:=(HW.out.cellT 0 303 rfl).symm.trans this;rw [hi'];exact e)) ?_
   exact step_val (p':=p) _ (HN _) (M5 _) hil (by rw [hts];decide) rfl (hj.other HSt.out 5 (by decide) (Below.refl _ _))
  ·cases hop
   have r2:=(tmA_none T0 (ex p) l 2 (by rw [hex];kernel_rfl)).trans fx2
   refine wpOp_of rfl rfl ?_
   refine wp_load_row 29 (.tmp 2) rfl pb r2 29 #[.bool q1.g,.int .u32 (q1.a:Int),.int .u8 (q1.p:Int),.int .u8 (q1.y:Int),.int .u8 (q1.e:Int),.int .u16 (q1.b:Int),.int .u16 (q1.t:Int)] (0,0) _ hj.x Tryz.underlying29 rfl info29s ?_
   exact step_val (p':=p) _ (HN _) (M6 _) hil (by rw [hts];decide) rfl (hj.other HSt.out 6 (by decide) (Below.refl _ _))
  ·cases hop
   have r85:=tmA_some T0 _ _ (HN p) 5 85 _ (M5 p) (hdep ⟨5,.data⟩ (by simp) rfl) (by rw [hts];decide)
   have r86:=tmA_some T0 _ _ (HN p) 6 86 _ (M6 p) (hdep ⟨6,.data⟩ (by simp) rfl) (by rw [hts];decide)
   refine wpOp_of rfl rfl ?_
   refine wp_call2 149 (.tmp 85) (.tmp 86) 51 29 rfl _ _ r85 r86 (cf149 _ _) ?_
   refine (KT.out W).mono ?_
   rintro _ W' ⟨rfl,hb⟩
   exact step_val (p':=p) _ (HN _) (M7 _) hil (by rw [hts];decide) rfl (hj.other HSt.out 7 (by decide) hb)
  ·cases hop
   have r87:=tmA_some T0 _ _ (HN p) 7 87 _ (M7 p) (hdep ⟨7,.data⟩ (by simp) rfl) (by rw [hts];decide)
   refine wpOp_of rfl rfl ?_
   refine wp_call1 132 (.tmp 87) 25 rfl _ r87 (cf132 _) ?_
   refine (KN.out W).mono ?_
   rintro _ W' ⟨rfl,hb⟩
   exact step_val (p':=p) _ (HN _) (M8 _) hil (by rw [hts];decide) rfl (hj.other HSt.out 8 (by decide) hb)
  ·cases hop
   have hun':=getD_un hun
   have r80:=tmA_some T0 _ _ (HN p) 0 80 _ (M0 p) (hdep ⟨0,.data⟩ (by simp) rfl) (by rw [hts];decide)
   have r88:=tmA_some T0 _ _ (HN p) 8 88 _ (M8 p) (hdep ⟨8,.data⟩ (by simp) rfl) (by rw [hts];decide)
   refine wpOp_of rfl rfl ?_
   refine wp_call2 95 (.tmp 80) (.tmp 88) 116 29 rfl _ _ r80 r88 (cf95 _ _) ?_
   refine (JG.set rd (numQ v) HSt.out hj hil hun' HD.out hd16).mono ?_
   rintro _ W' ⟨rfl,hj'⟩
   exact step_val (p':=p) _ (HN _) (M9 _) hil (by rw [hts];decide) rfl (hj')
 ·intro p l W hall hj
  have hk:=hj.last (hall 9 (by show 9<10;omega))
  have hs:=HS3.out.trans hj.sv
  subst hex
  rw [HT.out]
  simp only [putAll]
  clear hj hall
  go_wp2_with fail
  go_end0
  exact ⟨rfl,hk,hs⟩
end Go.Proofs.YtnkoknfihhdelaaGreatDoor
