import Derived.Test.YtnkoknfihhdelaaGreatDoorZOb
import Derived.Test.YtnkoknfihhdelaaGreatDoorZA
import Derived.Test.YtnkoknfihhdelaaGreatDoorZMQ
import Derived.Test.YtnkoknfihhdelaaGreatDoorZME
namespace Go.Proofs.YtnkoknfihhdelaaGreatDoor
open Go.ChangeShapes Go.WideShapes Go.ChangeAt Go.RowKit
set_option linter.unusedVariables false
set_option maxRecDepth 100000
set_option maxHeartbeats 1000000
theorem step_may (b:Nat) (s:St) (q:Cq) (tm:Bool) (x:Nat) (M:Nat→Nat) (T:Nat→Bool) (w:World) (hm:Mem w b M T) (hh:s.halted=false) (hon:(tm&&s.on)=false) (hq:s.c 16=q) (hf:q.fit) (hmay:Ca.may q.g q.a q.p q.y q.e q.b q.t 8 q.a 4=false) :
  Calls Tryz.prog 10 #[.pointer (some ⟨b,0,none⟩),.agg s.L.toArray,.bool tm,.int .u32 (x:Int)] w fun e w'=>e=.returned (.tuple #[.agg (trp (s.put 0 nul) 1).L.toArray,.agg (⟨1,.slice none 0 0,false,0,0⟩:Dn).L.toArray,.int .i64 0])∧Below w.heap.size w w':=by
 refine (c10_run b s tm x 1 M T (fun k'=>k'=wk0 (.pointer (some ⟨b,0,none⟩)) (s.put 0 nul) x) (fun w2=>Below w.heap.size w w2) w hm hh hon (fun k' hk=>⟨none,0,0,by rw [hk];rfl⟩) ?_).mono ?_
 ·intro w1 g hg hb hk
  have hq':(wk0 (.pointer (some ⟨b,0,none⟩)) (s.put 0 nul) x).A.c 16=q:=hq
  refine (c30_pan g 1 w1 hk.lt fun w2 hb2=>?_).mono ?_
  ·refine (c58_may g _ q w2 (Blk.below hk hb2 hk.lt) hq' hf hmay).mono ?_
   rintro e w' ⟨rfl,h2⟩
   exact ⟨rfl,h2⟩
  ·rintro e w' ⟨rfl,hb2⟩
   exact ⟨rfl,_,rfl,Blk.below hk hb2 hk.lt,hb.trans (hb2.mono hb.size),fun i _ hi=>hb2.block i (by have:=hk.lt;omega),hb2.size⟩
 ·rintro e w' ⟨k',w2,rfl,hb,hb2,rfl⟩
  exact ⟨rfl,hb.trans hb2⟩
theorem step_imm (b:Nat) (s:St) (q x1:Cq) (tm:Bool) (x:Nat) (M:Nat→Nat) (T:Nat→Bool) (i:In.Ins) (v n:Nat) (e:Int) (w:World) (hm:Mem w b M T) (hh:s.halted=false) (hon:(tm&&s.on)=false) (hq:s.c 16=q) (hf:q.fit) (hmay:Ca.may q.g q.a q.p q.y q.e q.b q.t 8 q.a 4=true) (hd:devB q.a=false)
  (hw:wordB q.a 4=true) (hgl:In.Glob w) (hn:numL M q.a 4<4294967296) (hget:In.get (numL M q.a 4)=(i,0)) (ho1:21≤i.o) (ho2:i.o≤29) (hr16:i.a<16) (hd16:i.d<16) (hx:(s.put 0 nul).c i.a=x1) (hi:i.m%4294967296=(n:Int)) (ha4:q.a+4<4294967296)
  (KA:∀ w,Calls Tryz.prog 139 #[.int .u8 (i.o:Int),.int .u32 (x1.a:Int),.int .u32 (n:Int)] w fun en w'=>en=.returned (.tuple #[.int .u32 (v:Int),.int .i64 e])∧w=w') :
  Calls Tryz.prog 10 #[.pointer (some ⟨b,0,none⟩),.agg s.L.toArray,.bool tm,.int .u32 (x:Int)] w fun e w'=>∃ A c,e=.returned (.tuple #[.agg ((((s.put 0 nul).put 16 (q.sa (q.a+4))).put i.d (numQ v)).put 0 nul).L.toArray,.agg (⟨0,.slice A 1 c,false,0,0⟩:Dn).L.toArray,.int .i64 0])∧Below w.heap.size w w':=by
 have hbl:=hm.lt
 have hg3:=hgl.size
 refine (c10_run b s tm x 0 M T (fun k'=>∃ A c,k'=((((wk0 (.pointer (some ⟨b,0,none⟩)) (s.put 0 nul) x).tc (.slice A 1 c)).ins (toI i)).putN 16 (q.sa (q.a+4))).putN i.d (numQ v)) (fun w2=>Below w.heap.size w w2) w hm hh hon (fun k' hk=>by obtain ⟨A,c,hk⟩:=hk;exact ⟨A,1,c,by rw [hk];rfl⟩) ?_).mono ?_
 ·intro w1 g hg hb hk
  refine (c30_imm g _ q x1 b M T i v n e w1 hk hq hf hmay hd rfl (hm.below hb hbl) hw (by omega) rfl (hgl.below hb hg3) (by omega) hn hget ho1 ho2 hr16 hd16 hx hi ha4 KA).mono ?_
  rintro e w' ⟨rfl,tv,⟨A,c,rfl⟩,hk2,hs⟩
  exact ⟨rfl,_,⟨A,c,rfl⟩,hk2,⟨hs.os.trans hb.os,hs.tape.trans hb.tape,hs.output.trans hb.output,Nat.le_trans hb.size hs.size,fun i hi=>(hs.block i (by have:=hk.lt;omega) (by omega)).trans (hb.block i hi)⟩,fun i _ hi=>hs.block i (by have:=hk.lt;omega) (by omega),hs.size⟩
 ·rintro e w' ⟨k',w2,⟨A,c,rfl⟩,hb,hb2,rfl⟩
  exact ⟨A,c,rfl,hb.trans hb2⟩
end Go.Proofs.YtnkoknfihhdelaaGreatDoor
namespace Go.Proofs.YtnkoknfihhdelaaGreatDoor
open Go.ChangeShapes Go.WideShapes Go.ChangeAt Go.RowKit
set_option linter.unusedVariables false
set_option maxRecDepth 100000
set_option maxHeartbeats 2000000
theorem root9 (w:World):Calls Tryz.prog 44 #[.int .u64 4096,.int .u64 8192,.int .u8 9] w fun en w'=>en=.returned (.tuple #[.agg #[.bool true,.int .u32 4096,.int .u8 9,.int .u8 0,.int .u8 4,.int .u16 256,.int .u16 0],.int .i64 0])∧Below w.heap.size w w':=by
 have h:=Cp.c33 4096 8192 9 (by omega) (by omega) (by omega) w
 unfold Cp.rootV at h
 rw [show Cp.ex 4096 8192=(4,256,0,0) by decide,if_pos rfl] at h
 exact h
theorem walk14 (M0 M1:Nat→Nat) (T0 T1:Nat→Bool) (SP SZ R1 R2:Array Value) (w:World)
  (n0:SP.size=151) (n1:R1.size=151) (n2:R2.size=151) (nz:SZ.size=151)
  (o1:R1.all (·.oneCell')=true) (o2:R2.all (·.oneCell')=true)
  (r1:R1[8]?=some (.int .u32 5)) (r2:R1[113]?=some (.int .u32 4100)) (r3:R2[150]?=some (.bool true))
  (z32:∀ W,(zeroValue 32).run Tryz.prog W=.ok (.agg SZ) W)
  (z41:∀ W,(zeroValue 41).run Tryz.prog W=.ok (.agg #[.int .u32 0,.slice none 0 0,.bool false,.int .u32 0,.int .u32 0]) W)
  (K20:Calls Tryz.prog 20 #[] w fun e w'=>e=.returned (.pointer (some ⟨w.heap.size,0,none⟩))∧Below w.heap.size w w'∧w'.heap.size=w.heap.size+1∧Mem w' w.heap.size M0 T0)
  (K22:∀ W,Mem W w.heap.size M0 T0→Calls Tryz.prog 22 #[.pointer (some ⟨w.heap.size,0,none⟩),.int .u32 4096,.int .i64 4,.int .u32 5243027] W fun e w'=>e=.returned (.int .i64 0)∧Only w.heap.size W w'∧Mem w' w.heap.size M1 T1)
  (K44:∀ W,Calls Tryz.prog 44 #[.int .u64 4096,.int .u64 8192,.int .u8 9] W fun en w'=>en=.returned (.tuple #[.agg #[.bool true,.int .u32 4096,.int .u8 9,.int .u8 0,.int .u8 4,.int .u16 256,.int .u16 0],.int .i64 0])∧Below W.heap.size W w')
  (K45:∀ W,Calls Tryz.prog 45 #[.agg #[.bool true,.int .u32 4096,.int .u8 9,.int .u8 0,.int .u8 4,.int .u16 256,.int .u16 0]] W fun en w'=>en=.returned (.agg SP)∧Below W.heap.size W w')
  (K45z:∀ W,Calls Tryz.prog 45 #[.agg #[.bool false,.int .u32 0,.int .u8 0,.int .u8 0,.int .u8 0,.int .u16 0,.int .u16 0]] W fun en w'=>en=.returned (.agg SZ)∧Below W.heap.size W w')
  (K10:∀ tm W,Below w.heap.size w W→Mem W w.heap.size M1 T1→Calls Tryz.prog 10 #[.pointer (some ⟨w.heap.size,0,none⟩),.agg SP,.bool tm,.int .u32 0] W fun e w'=>∃ A c,e=.returned (.tuple #[.agg R1,.agg #[.int .u32 0,.slice A 1 c,.bool false,.int .u32 0,.int .u32 0],.int .i64 0])∧Below W.heap.size W w')
  (K10z:∀ W,Below w.heap.size w W→Mem W w.heap.size M1 T1→Calls Tryz.prog 10 #[.pointer (some ⟨w.heap.size,0,none⟩),.agg SZ,.bool false,.int .u32 0] W fun e w'=>e=.returned (.tuple #[.agg R2,.agg #[.int .u32 1,.slice none 0 0,.bool false,.int .u32 0,.int .u32 0],.int .i64 0])∧Below W.heap.size W w') :
  Calls Tryz.prog 14 #[] w fun en w'=>en=.returned (.bool true)∧Below w.heap.size w w':=by
 have N0:=Lib.hid n0
 have N1:=Lib.hid n1
 have N2:=Lib.hid n2
 have NZ:=Lib.hid nz
 have O1:=Lib.hid o1
 have O2:=Lib.hid o2
 have R1':=Lib.hid r1
 have R2':=Lib.hid r2
 have R3':=Lib.hid r3
 have KA:=Lib.hid K20
 have KB:=Lib.hid K22
 have KC:=Lib.hid K44
 have KD:=Lib.hid K45
 have KE:=Lib.hid K45z
 have KF:=Lib.hid K10
 have KG:=Lib.hid K10z
 have HZ:=Lib.hid z32
 clear n0 n1 n2 nz o1 o2 r1 r2 r3 K20 K22 K44 K45 K45z K10 K10z
 go_enter Tryz.func14,Tryz.ntmps14
 go_wp2_with fail
 refine KA.out.mono ?_
 rintro _ w1 ⟨rfl,hb1,hz1,hm1⟩
 have HB1:=Lib.hid hb1
 have HM1:=Lib.hid hm1
 have HS1:=Lib.hid hz1
 clear hb1 hm1 hz1
 go_wp2_with fail
 refine (KB.out _ HM1.out).mono ?_
 rintro _ w2 ⟨rfl,ho2,hm2⟩
 have HB2:Hid (Below w.heap.size w w2):=Lib.hid (HB1.out.trans (ho2.1 _ (Nat.le_refl _) (by have:=HS1.out;omega)))
 have HM2:=Lib.hid hm2
 clear ho2 hm2 HB1 HM1 HS1
 go_wp2_with fail
 refine (KC.out _).mono ?_
 rintro _ w3 ⟨rfl,hb3⟩
 have HB3:Hid (Below w.heap.size w w3):=Lib.hid (HB2.out.trans (hb3.mono HB2.out.size))
 have HM3:Hid (Mem w3 w.heap.size M1 T1):=Lib.hid (HM2.out.below hb3 HM2.out.lt)
 clear hb3 HB2 HM2
 have HC4:Hid (Blk (w3.alloc (.cells #[.bool true,.int .u32 4096,.int .u8 9,.int .u8 0,.int .u8 4,.int .u16 256,.int .u16 0] 29)) w3.heap.size 29 #[.bool true,.int .u32 4096,.int .u8 9,.int .u8 0,.int .u8 4,.int .u16 256,.int .u16 0]):=Lib.hid (Blk.new w3 29 #[.bool true,.int .u32 4096,.int .u8 9,.int .u8 0,.int .u8 4,.int .u16 256,.int .u16 0])
 have HB4:Hid (Below w.heap.size w (w3.alloc (.cells #[.bool true,.int .u32 4096,.int .u8 9,.int .u8 0,.int .u8 4,.int .u16 256,.int .u16 0] 29))):=Lib.hid (HB3.out.alloc HB3.out.size _)
 have HM4:Hid (Mem (w3.alloc (.cells #[.bool true,.int .u32 4096,.int .u8 9,.int .u8 0,.int .u8 4,.int .u16 256,.int .u16 0] 29)) w.heap.size M1 T1):=Lib.hid (HM3.out.below ((Below.refl w3.heap.size w3).alloc (Nat.le_refl _) _) HM3.out.lt)
 obtain ⟨p3,hp3⟩:∃ p3,w3.heap.size=p3:=⟨_,rfl⟩
 have hlt3:w.heap.size<p3:=by rw [←hp3];exact HM3.out.lt
 rw [hp3] at HC4
 have HP:=Lib.hid hp3
 clear HB3 HM3
 go_upto_region 4 with fail
 generalize (w3.alloc (.cells #[.bool true,.int .u32 4096,.int .u8 9,.int .u8 0,.int .u8 4,.int .u16 256,.int .u16 0] 29))=W4 at *
 clear HP hp3
 have y0:=HC4.out.cell 0
 have y1:=HC4.out.cell 1
 have y2:=HC4.out.cell 2
 have y3:=HC4.out.cell 3
 have y4:=HC4.out.cell 4
 have y5:=HC4.out.cell 5
 have y6:=HC4.out.cell 6
 simp only [List.getElem?_toArray,List.getElem?_cons_zero,List.getElem?_cons_succ] at y0 y1 y2 y3 y4 y5 y6
 go_wp2_with fail
 refine (KD.out _).mono ?_
 rintro _ V ⟨rfl,hb⟩
 have HBa:Hid (Below w.heap.size w V):=Lib.hid (HB4.out.trans (hb.mono HB4.out.size))
 have HMa:Hid (Mem V w.heap.size M1 T1):=Lib.hid (HM4.out.below hb HM4.out.lt)
 have HCa:Hid (Blk V p3 29 #[.bool true,.int .u32 4096,.int .u8 9,.int .u8 0,.int .u8 4,.int .u16 256,.int .u16 0]):=Lib.hid (HC4.out.below hb HC4.out.lt)
 clear hb HB4 HM4 HC4 y0 y1 y2 y3 y4 y5 y6
 go_wp2_with fail
 refine (KF.out false V HBa.out HMa.out).mono ?_
 rintro _ U ⟨A4,c4,rfl,hb⟩
 have HBb:Hid (Below w.heap.size w U):=Lib.hid (HBa.out.trans (hb.mono HBa.out.size))
 have HMb:Hid (Mem U w.heap.size M1 T1):=Lib.hid (HMa.out.below hb HMa.out.lt)
 have HCb:Hid (Blk U p3 29 #[.bool true,.int .u32 4096,.int .u8 9,.int .u8 0,.int .u8 4,.int .u16 256,.int .u16 0]):=Lib.hid (HCa.out.below hb HCa.out.lt)
 clear hb HBa HMa HCa
 obtain ⟨q4,hq⟩:∃ q,U.heap.size=q:=⟨_,rfl⟩
 have hS0:Blk ((U.alloc (.cells SZ 32)).alloc (.cells #[.int .u32 0,.slice none 0 0,.bool false,.int .u32 0,.int .u32 0] 41)) q4 32 SZ:=by rw [←hq];exact (Blk.new U 32 SZ).alloc _
 have hD0:Blk ((U.alloc (.cells SZ 32)).alloc (.cells #[.int .u32 0,.slice none 0 0,.bool false,.int .u32 0,.int .u32 0] 41)) (q4+1) 41 #[.int .u32 0,.slice none 0 0,.bool false,.int .u32 0,.int .u32 0]:=by
  have:=Blk.new (U.alloc (.cells SZ 32)) 41 #[.int .u32 0,.slice none 0 0,.bool false,.int .u32 0,.int .u32 0]
  rw [←hq]
  simpa using this
 have HS0:=Lib.hid hS0
 have HS1:Hid (Blk (((U.alloc (.cells SZ 32)).alloc (.cells #[.int .u32 0,.slice none 0 0,.bool false,.int .u32 0,.int .u32 0] 41)).setRow q4 R1) q4 32 R1):=Lib.hid (blk_row hS0 _)
 have HD1:Hid (Blk (((U.alloc (.cells SZ 32)).alloc (.cells #[.int .u32 0,.slice none 0 0,.bool false,.int .u32 0,.int .u32 0] 41)).setRow q4 R1) (q4+1) 41 #[.int .u32 0,.slice none 0 0,.bool false,.int .u32 0,.int .u32 0]):=Lib.hid ((only_row _ q4 R1).blk (by omega) hD0)
 have HD2:Hid (Blk ((((U.alloc (.cells SZ 32)).alloc (.cells #[.int .u32 0,.slice none 0 0,.bool false,.int .u32 0,.int .u32 0] 41)).setRow q4 R1).setRow (q4+1) #[.int .u32 0,.slice A4 1 c4,.bool false,.int .u32 0,.int .u32 0]) (q4+1) 41 #[.int .u32 0,.slice A4 1 c4,.bool false,.int .u32 0,.int .u32 0]):=Lib.hid (blk_row HD1.out _)
 have HS2:Hid (Blk ((((U.alloc (.cells SZ 32)).alloc (.cells #[.int .u32 0,.slice none 0 0,.bool false,.int .u32 0,.int .u32 0] 41)).setRow q4 R1).setRow (q4+1) #[.int .u32 0,.slice A4 1 c4,.bool false,.int .u32 0,.int .u32 0]) q4 32 R1):=Lib.hid ((only_row _ (q4+1) #[.int .u32 0,.slice A4 1 c4,.bool false,.int .u32 0,.int .u32 0]).blk (by omega) HS1.out)
 have hX:Below U.heap.size U ((((U.alloc (.cells SZ 32)).alloc (.cells #[.int .u32 0,.slice none 0 0,.bool false,.int .u32 0,.int .u32 0] 41)).setRow q4 R1).setRow (q4+1) #[.int .u32 0,.slice A4 1 c4,.bool false,.int .u32 0,.int .u32 0]):=below_setRow (below_setRow (((Below.refl _ _).alloc (Nat.le_refl _) _).alloc (by simp) _) (by omega) _) (by omega) _
 have HB5:Hid (Below w.heap.size w ((((U.alloc (.cells SZ 32)).alloc (.cells #[.int .u32 0,.slice none 0 0,.bool false,.int .u32 0,.int .u32 0] 41)).setRow q4 R1).setRow (q4+1) #[.int .u32 0,.slice A4 1 c4,.bool false,.int .u32 0,.int .u32 0])):=Lib.hid (HBb.out.trans (hX.mono HBb.out.size))
 have HM5:Hid (Mem ((((U.alloc (.cells SZ 32)).alloc (.cells #[.int .u32 0,.slice none 0 0,.bool false,.int .u32 0,.int .u32 0] 41)).setRow q4 R1).setRow (q4+1) #[.int .u32 0,.slice A4 1 c4,.bool false,.int .u32 0,.int .u32 0]) w.heap.size M1 T1):=Lib.hid (HMb.out.below hX HMb.out.lt)
 have HC5:Hid (Blk ((((U.alloc (.cells SZ 32)).alloc (.cells #[.int .u32 0,.slice none 0 0,.bool false,.int .u32 0,.int .u32 0] 41)).setRow q4 R1).setRow (q4+1) #[.int .u32 0,.slice A4 1 c4,.bool false,.int .u32 0,.int .u32 0]) p3 29 #[.bool true,.int .u32 4096,.int .u8 9,.int .u8 0,.int .u8 4,.int .u16 256,.int .u16 0]):=Lib.hid (HCb.out.below hX HCb.out.lt)
 clear hS0 hD0 hX HBb HMb HCb
 have hz32:=HZ.out
 go_upto_region 5 with (first | (rw [hq]) | (refine wpList_store_row rfl 32 (.tmp 5) (.tmp 26) rfl q4 R1 rfl rfl 32 SZ HS0.out (by rw [info32s,N1.out]) (by rw [NZ.out,N1.out]) O1.out ?_) | (refine wpList_store_row rfl 41 (.tmp 6) (.tmp 27) rfl (q4+1) #[.int .u32 0,.slice A4 1 c4,.bool false,.int .u32 0,.int .u32 0] rfl rfl 41 #[.int .u32 0,.slice none 0 0,.bool false,.int .u32 0,.int .u32 0] HD1.out info41s rfl (by simp [Value.oneCell']) ?_))
 generalize ((((U.alloc (.cells SZ 32)).alloc (.cells #[.int .u32 0,.slice none 0 0,.bool false,.int .u32 0,.int .u32 0] 41)).setRow q4 R1).setRow (q4+1) #[.int .u32 0,.slice A4 1 c4,.bool false,.int .u32 0,.int .u32 0])=W5 at *
 have HS45:=HS2
 have HD45:=HD2
 clear HS0 HS1 HD1 HS2 HD2 hz32 hq
 go_wp2_with fail
 refine (KE.out _).mono ?_
 rintro _ V ⟨rfl,hb⟩
 have HBa:Hid (Below w.heap.size w V):=Lib.hid (HB5.out.trans (hb.mono HB5.out.size))
 have HMa:Hid (Mem V w.heap.size M1 T1):=Lib.hid (HM5.out.below hb HM5.out.lt)
 have HCa:Hid (Blk V p3 29 #[.bool true,.int .u32 4096,.int .u8 9,.int .u8 0,.int .u8 4,.int .u16 256,.int .u16 0]):=Lib.hid (HC5.out.below hb HC5.out.lt)
 have HS4a:Hid (Blk V q4 32 R1):=Lib.hid (HS45.out.below hb HS45.out.lt)
 have HD4a:Hid (Blk V (q4+1) 41 #[.int .u32 0,.slice A4 1 c4,.bool false,.int .u32 0,.int .u32 0]):=Lib.hid (HD45.out.below hb HD45.out.lt)
 clear hb HB5 HM5 HC5 HS45 HD45
 go_wp2_with fail
 refine (KG.out V HBa.out HMa.out).mono ?_
 rintro _ U ⟨rfl,hb⟩
 have HBb:Hid (Below w.heap.size w U):=Lib.hid (HBa.out.trans (hb.mono HBa.out.size))
 have HMb:Hid (Mem U w.heap.size M1 T1):=Lib.hid (HMa.out.below hb HMa.out.lt)
 have HCb:Hid (Blk U p3 29 #[.bool true,.int .u32 4096,.int .u8 9,.int .u8 0,.int .u8 4,.int .u16 256,.int .u16 0]):=Lib.hid (HCa.out.below hb HCa.out.lt)
 have HS4b:Hid (Blk U q4 32 R1):=Lib.hid (HS4a.out.below hb HS4a.out.lt)
 have HD4b:Hid (Blk U (q4+1) 41 #[.int .u32 0,.slice A4 1 c4,.bool false,.int .u32 0,.int .u32 0]):=Lib.hid (HD4a.out.below hb HD4a.out.lt)
 clear hb HBa HMa HCa HS4a HD4a
 obtain ⟨q5,hq⟩:∃ q,U.heap.size=q:=⟨_,rfl⟩
 have hS0:Blk ((U.alloc (.cells SZ 32)).alloc (.cells #[.int .u32 0,.slice none 0 0,.bool false,.int .u32 0,.int .u32 0] 41)) q5 32 SZ:=by rw [←hq];exact (Blk.new U 32 SZ).alloc _
 have hD0:Blk ((U.alloc (.cells SZ 32)).alloc (.cells #[.int .u32 0,.slice none 0 0,.bool false,.int .u32 0,.int .u32 0] 41)) (q5+1) 41 #[.int .u32 0,.slice none 0 0,.bool false,.int .u32 0,.int .u32 0]:=by
  have:=Blk.new (U.alloc (.cells SZ 32)) 41 #[.int .u32 0,.slice none 0 0,.bool false,.int .u32 0,.int .u32 0]
  rw [←hq]
  simpa using this
 have HS0:=Lib.hid hS0
 have HS1:Hid (Blk (((U.alloc (.cells SZ 32)).alloc (.cells #[.int .u32 0,.slice none 0 0,.bool false,.int .u32 0,.int .u32 0] 41)).setRow q5 R2) q5 32 R2):=Lib.hid (blk_row hS0 _)
 have HD1:Hid (Blk (((U.alloc (.cells SZ 32)).alloc (.cells #[.int .u32 0,.slice none 0 0,.bool false,.int .u32 0,.int .u32 0] 41)).setRow q5 R2) (q5+1) 41 #[.int .u32 0,.slice none 0 0,.bool false,.int .u32 0,.int .u32 0]):=Lib.hid ((only_row _ q5 R2).blk (by omega) hD0)
 have HD2:Hid (Blk ((((U.alloc (.cells SZ 32)).alloc (.cells #[.int .u32 0,.slice none 0 0,.bool false,.int .u32 0,.int .u32 0] 41)).setRow q5 R2).setRow (q5+1) #[.int .u32 1,.slice none 0 0,.bool false,.int .u32 0,.int .u32 0]) (q5+1) 41 #[.int .u32 1,.slice none 0 0,.bool false,.int .u32 0,.int .u32 0]):=Lib.hid (blk_row HD1.out _)
 have HS2:Hid (Blk ((((U.alloc (.cells SZ 32)).alloc (.cells #[.int .u32 0,.slice none 0 0,.bool false,.int .u32 0,.int .u32 0] 41)).setRow q5 R2).setRow (q5+1) #[.int .u32 1,.slice none 0 0,.bool false,.int .u32 0,.int .u32 0]) q5 32 R2):=Lib.hid ((only_row _ (q5+1) #[.int .u32 1,.slice none 0 0,.bool false,.int .u32 0,.int .u32 0]).blk (by omega) HS1.out)
 have hX:Below U.heap.size U ((((U.alloc (.cells SZ 32)).alloc (.cells #[.int .u32 0,.slice none 0 0,.bool false,.int .u32 0,.int .u32 0] 41)).setRow q5 R2).setRow (q5+1) #[.int .u32 1,.slice none 0 0,.bool false,.int .u32 0,.int .u32 0]):=below_setRow (below_setRow (((Below.refl _ _).alloc (Nat.le_refl _) _).alloc (by simp) _) (by omega) _) (by omega) _
 have HB6:Hid (Below w.heap.size w ((((U.alloc (.cells SZ 32)).alloc (.cells #[.int .u32 0,.slice none 0 0,.bool false,.int .u32 0,.int .u32 0] 41)).setRow q5 R2).setRow (q5+1) #[.int .u32 1,.slice none 0 0,.bool false,.int .u32 0,.int .u32 0])):=Lib.hid (HBb.out.trans (hX.mono HBb.out.size))
 have HM6:Hid (Mem ((((U.alloc (.cells SZ 32)).alloc (.cells #[.int .u32 0,.slice none 0 0,.bool false,.int .u32 0,.int .u32 0] 41)).setRow q5 R2).setRow (q5+1) #[.int .u32 1,.slice none 0 0,.bool false,.int .u32 0,.int .u32 0]) w.heap.size M1 T1):=Lib.hid (HMb.out.below hX HMb.out.lt)
 have HC6:Hid (Blk ((((U.alloc (.cells SZ 32)).alloc (.cells #[.int .u32 0,.slice none 0 0,.bool false,.int .u32 0,.int .u32 0] 41)).setRow q5 R2).setRow (q5+1) #[.int .u32 1,.slice none 0 0,.bool false,.int .u32 0,.int .u32 0]) p3 29 #[.bool true,.int .u32 4096,.int .u8 9,.int .u8 0,.int .u8 4,.int .u16 256,.int .u16 0]):=Lib.hid (HCb.out.below hX HCb.out.lt)
 have HS46:Hid (Blk ((((U.alloc (.cells SZ 32)).alloc (.cells #[.int .u32 0,.slice none 0 0,.bool false,.int .u32 0,.int .u32 0] 41)).setRow q5 R2).setRow (q5+1) #[.int .u32 1,.slice none 0 0,.bool false,.int .u32 0,.int .u32 0]) q4 32 R1):=Lib.hid (HS4b.out.below hX HS4b.out.lt)
 have HD46:Hid (Blk ((((U.alloc (.cells SZ 32)).alloc (.cells #[.int .u32 0,.slice none 0 0,.bool false,.int .u32 0,.int .u32 0] 41)).setRow q5 R2).setRow (q5+1) #[.int .u32 1,.slice none 0 0,.bool false,.int .u32 0,.int .u32 0]) (q4+1) 41 #[.int .u32 0,.slice A4 1 c4,.bool false,.int .u32 0,.int .u32 0]):=Lib.hid (HD4b.out.below hX HD4b.out.lt)
 clear hS0 hD0 hX HBb HMb HCb HS4b HD4b
 have hz32:=HZ.out
 go_upto_region 6 with (first | (rw [hq]) | (refine wpList_store_row rfl 32 (.tmp 8) (.tmp 34) rfl q5 R2 rfl rfl 32 SZ HS0.out (by rw [info32s,N2.out]) (by rw [NZ.out,N2.out]) O2.out ?_) | (refine wpList_store_row rfl 41 (.tmp 9) (.tmp 35) rfl (q5+1) #[.int .u32 1,.slice none 0 0,.bool false,.int .u32 0,.int .u32 0] rfl rfl 41 #[.int .u32 0,.slice none 0 0,.bool false,.int .u32 0,.int .u32 0] HD1.out info41s rfl (by simp [Value.oneCell']) ?_))
 generalize ((((U.alloc (.cells SZ 32)).alloc (.cells #[.int .u32 0,.slice none 0 0,.bool false,.int .u32 0,.int .u32 0] 41)).setRow q5 R2).setRow (q5+1) #[.int .u32 1,.slice none 0 0,.bool false,.int .u32 0,.int .u32 0])=W6 at *
 have HS56:=HS2
 have HD56:=HD2
 clear HS0 HS1 HD1 HS2 HD2 hz32 hq
 have y0:=HC6.out.cell 0
 have y1:=HC6.out.cell 1
 have y2:=HC6.out.cell 2
 have y3:=HC6.out.cell 3
 have y4:=HC6.out.cell 4
 have y5:=HC6.out.cell 5
 have y6:=HC6.out.cell 6
 simp only [List.getElem?_toArray,List.getElem?_cons_zero,List.getElem?_cons_succ] at y0 y1 y2 y3 y4 y5 y6
 go_wp2_with fail
 refine (KD.out _).mono ?_
 rintro _ V ⟨rfl,hb⟩
 have HBa:Hid (Below w.heap.size w V):=Lib.hid (HB6.out.trans (hb.mono HB6.out.size))
 have HMa:Hid (Mem V w.heap.size M1 T1):=Lib.hid (HM6.out.below hb HM6.out.lt)
 have HCa:Hid (Blk V p3 29 #[.bool true,.int .u32 4096,.int .u8 9,.int .u8 0,.int .u8 4,.int .u16 256,.int .u16 0]):=Lib.hid (HC6.out.below hb HC6.out.lt)
 have HS4a:Hid (Blk V q4 32 R1):=Lib.hid (HS46.out.below hb HS46.out.lt)
 have HD4a:Hid (Blk V (q4+1) 41 #[.int .u32 0,.slice A4 1 c4,.bool false,.int .u32 0,.int .u32 0]):=Lib.hid (HD46.out.below hb HD46.out.lt)
 have HS5a:Hid (Blk V q5 32 R2):=Lib.hid (HS56.out.below hb HS56.out.lt)
 have HD5a:Hid (Blk V (q5+1) 41 #[.int .u32 1,.slice none 0 0,.bool false,.int .u32 0,.int .u32 0]):=Lib.hid (HD56.out.below hb HD56.out.lt)
 clear hb HB6 HM6 HC6 HS46 HD46 HS56 HD56 y0 y1 y2 y3 y4 y5 y6
 go_wp2_with fail
 refine (KF.out true V HBa.out HMa.out).mono ?_
 rintro _ U ⟨A6,c6,rfl,hb⟩
 have HBb:Hid (Below w.heap.size w U):=Lib.hid (HBa.out.trans (hb.mono HBa.out.size))
 have HMb:Hid (Mem U w.heap.size M1 T1):=Lib.hid (HMa.out.below hb HMa.out.lt)
 have HCb:Hid (Blk U p3 29 #[.bool true,.int .u32 4096,.int .u8 9,.int .u8 0,.int .u8 4,.int .u16 256,.int .u16 0]):=Lib.hid (HCa.out.below hb HCa.out.lt)
 have HS4b:Hid (Blk U q4 32 R1):=Lib.hid (HS4a.out.below hb HS4a.out.lt)
 have HD4b:Hid (Blk U (q4+1) 41 #[.int .u32 0,.slice A4 1 c4,.bool false,.int .u32 0,.int .u32 0]):=Lib.hid (HD4a.out.below hb HD4a.out.lt)
 have HS5b:Hid (Blk U q5 32 R2):=Lib.hid (HS5a.out.below hb HS5a.out.lt)
 have HD5b:Hid (Blk U (q5+1) 41 #[.int .u32 1,.slice none 0 0,.bool false,.int .u32 0,.int .u32 0]):=Lib.hid (HD5a.out.below hb HD5a.out.lt)
 clear hb HBa HMa HCa HS4a HD4a HS5a HD5a
 obtain ⟨q6,hq⟩:∃ q,U.heap.size=q:=⟨_,rfl⟩
 have hS0:Blk ((U.alloc (.cells SZ 32)).alloc (.cells #[.int .u32 0,.slice none 0 0,.bool false,.int .u32 0,.int .u32 0] 41)) q6 32 SZ:=by rw [←hq];exact (Blk.new U 32 SZ).alloc _
 have hD0:Blk ((U.alloc (.cells SZ 32)).alloc (.cells #[.int .u32 0,.slice none 0 0,.bool false,.int .u32 0,.int .u32 0] 41)) (q6+1) 41 #[.int .u32 0,.slice none 0 0,.bool false,.int .u32 0,.int .u32 0]:=by
  have:=Blk.new (U.alloc (.cells SZ 32)) 41 #[.int .u32 0,.slice none 0 0,.bool false,.int .u32 0,.int .u32 0]
  rw [←hq]
  simpa using this
 have HS0:=Lib.hid hS0
 have HS1:Hid (Blk (((U.alloc (.cells SZ 32)).alloc (.cells #[.int .u32 0,.slice none 0 0,.bool false,.int .u32 0,.int .u32 0] 41)).setRow q6 R1) q6 32 R1):=Lib.hid (blk_row hS0 _)
 have HD1:Hid (Blk (((U.alloc (.cells SZ 32)).alloc (.cells #[.int .u32 0,.slice none 0 0,.bool false,.int .u32 0,.int .u32 0] 41)).setRow q6 R1) (q6+1) 41 #[.int .u32 0,.slice none 0 0,.bool false,.int .u32 0,.int .u32 0]):=Lib.hid ((only_row _ q6 R1).blk (by omega) hD0)
 have HD2:Hid (Blk ((((U.alloc (.cells SZ 32)).alloc (.cells #[.int .u32 0,.slice none 0 0,.bool false,.int .u32 0,.int .u32 0] 41)).setRow q6 R1).setRow (q6+1) #[.int .u32 0,.slice A6 1 c6,.bool false,.int .u32 0,.int .u32 0]) (q6+1) 41 #[.int .u32 0,.slice A6 1 c6,.bool false,.int .u32 0,.int .u32 0]):=Lib.hid (blk_row HD1.out _)
 have HS2:Hid (Blk ((((U.alloc (.cells SZ 32)).alloc (.cells #[.int .u32 0,.slice none 0 0,.bool false,.int .u32 0,.int .u32 0] 41)).setRow q6 R1).setRow (q6+1) #[.int .u32 0,.slice A6 1 c6,.bool false,.int .u32 0,.int .u32 0]) q6 32 R1):=Lib.hid ((only_row _ (q6+1) #[.int .u32 0,.slice A6 1 c6,.bool false,.int .u32 0,.int .u32 0]).blk (by omega) HS1.out)
 have hX:Below U.heap.size U ((((U.alloc (.cells SZ 32)).alloc (.cells #[.int .u32 0,.slice none 0 0,.bool false,.int .u32 0,.int .u32 0] 41)).setRow q6 R1).setRow (q6+1) #[.int .u32 0,.slice A6 1 c6,.bool false,.int .u32 0,.int .u32 0]):=below_setRow (below_setRow (((Below.refl _ _).alloc (Nat.le_refl _) _).alloc (by simp) _) (by omega) _) (by omega) _
 have HB7:Hid (Below w.heap.size w ((((U.alloc (.cells SZ 32)).alloc (.cells #[.int .u32 0,.slice none 0 0,.bool false,.int .u32 0,.int .u32 0] 41)).setRow q6 R1).setRow (q6+1) #[.int .u32 0,.slice A6 1 c6,.bool false,.int .u32 0,.int .u32 0])):=Lib.hid (HBb.out.trans (hX.mono HBb.out.size))
 have HM7:Hid (Mem ((((U.alloc (.cells SZ 32)).alloc (.cells #[.int .u32 0,.slice none 0 0,.bool false,.int .u32 0,.int .u32 0] 41)).setRow q6 R1).setRow (q6+1) #[.int .u32 0,.slice A6 1 c6,.bool false,.int .u32 0,.int .u32 0]) w.heap.size M1 T1):=Lib.hid (HMb.out.below hX HMb.out.lt)
 have HC7:Hid (Blk ((((U.alloc (.cells SZ 32)).alloc (.cells #[.int .u32 0,.slice none 0 0,.bool false,.int .u32 0,.int .u32 0] 41)).setRow q6 R1).setRow (q6+1) #[.int .u32 0,.slice A6 1 c6,.bool false,.int .u32 0,.int .u32 0]) p3 29 #[.bool true,.int .u32 4096,.int .u8 9,.int .u8 0,.int .u8 4,.int .u16 256,.int .u16 0]):=Lib.hid (HCb.out.below hX HCb.out.lt)
 have HS47:Hid (Blk ((((U.alloc (.cells SZ 32)).alloc (.cells #[.int .u32 0,.slice none 0 0,.bool false,.int .u32 0,.int .u32 0] 41)).setRow q6 R1).setRow (q6+1) #[.int .u32 0,.slice A6 1 c6,.bool false,.int .u32 0,.int .u32 0]) q4 32 R1):=Lib.hid (HS4b.out.below hX HS4b.out.lt)
 have HD47:Hid (Blk ((((U.alloc (.cells SZ 32)).alloc (.cells #[.int .u32 0,.slice none 0 0,.bool false,.int .u32 0,.int .u32 0] 41)).setRow q6 R1).setRow (q6+1) #[.int .u32 0,.slice A6 1 c6,.bool false,.int .u32 0,.int .u32 0]) (q4+1) 41 #[.int .u32 0,.slice A4 1 c4,.bool false,.int .u32 0,.int .u32 0]):=Lib.hid (HD4b.out.below hX HD4b.out.lt)
 have HS57:Hid (Blk ((((U.alloc (.cells SZ 32)).alloc (.cells #[.int .u32 0,.slice none 0 0,.bool false,.int .u32 0,.int .u32 0] 41)).setRow q6 R1).setRow (q6+1) #[.int .u32 0,.slice A6 1 c6,.bool false,.int .u32 0,.int .u32 0]) q5 32 R2):=Lib.hid (HS5b.out.below hX HS5b.out.lt)
 have HD57:Hid (Blk ((((U.alloc (.cells SZ 32)).alloc (.cells #[.int .u32 0,.slice none 0 0,.bool false,.int .u32 0,.int .u32 0] 41)).setRow q6 R1).setRow (q6+1) #[.int .u32 0,.slice A6 1 c6,.bool false,.int .u32 0,.int .u32 0]) (q5+1) 41 #[.int .u32 1,.slice none 0 0,.bool false,.int .u32 0,.int .u32 0]):=Lib.hid (HD5b.out.below hX HD5b.out.lt)
 clear hS0 hD0 hX HBb HMb HCb HS4b HD4b HS5b HD5b
 have hz32:=HZ.out
 go_upto_region 7 with (first | (rw [hq]) | (refine wpList_store_row rfl 32 (.tmp 11) (.tmp 42) rfl q6 R1 rfl rfl 32 SZ HS0.out (by rw [info32s,N1.out]) (by rw [NZ.out,N1.out]) O1.out ?_) | (refine wpList_store_row rfl 41 (.tmp 12) (.tmp 43) rfl (q6+1) #[.int .u32 0,.slice A6 1 c6,.bool false,.int .u32 0,.int .u32 0] rfl rfl 41 #[.int .u32 0,.slice none 0 0,.bool false,.int .u32 0,.int .u32 0] HD1.out info41s rfl (by simp [Value.oneCell']) ?_))
 generalize ((((U.alloc (.cells SZ 32)).alloc (.cells #[.int .u32 0,.slice none 0 0,.bool false,.int .u32 0,.int .u32 0] 41)).setRow q6 R1).setRow (q6+1) #[.int .u32 0,.slice A6 1 c6,.bool false,.int .u32 0,.int .u32 0])=W7 at *
 have HS67:=HS2
 have HD67:=HD2
 clear HS0 HS1 HD1 HS2 HD2 hz32 hq
 have x1:W7.cell? ⟨q4,8,none⟩=some (.int .u32 5):=(HS47.out.cell 8).trans R1'.out
 have x2:W7.cell? ⟨q4,113,none⟩=some (.int .u32 4100):=(HS47.out.cell 113).trans R2'.out
 have x3:W7.cell? ⟨q4+1,0,none⟩=some (.int .u32 0):=HD47.out.cell 0
 have x4:W7.cell? ⟨q5,150,none⟩=some (.bool true):=(HS57.out.cell 150).trans R3'.out
 have x5:W7.cell? ⟨q5+1,0,none⟩=some (.int .u32 1):=HD57.out.cell 0
 have x6:W7.cell? ⟨q6+1,0,none⟩=some (.int .u32 0):=HD67.out.cell 0
 go_wp2_with fail
 go_ret
 exact ⟨rfl,HB7.out⟩
def pw:Cq:=⟨true,4096,9,0,4,256,0⟩
def mw:Nat→Nat:=stB (fun _=>0) 4096 4 5243027
def iw:In.Ins:=⟨21,1,0,0,5⟩
def sw:St:=st0.put 16 pw
theorem mw_num:numL mw 4096 4=5243027:=by decide +kernel
theorem get_w:In.get 5243027=(iw,0):=by kernel_rfl
theorem do5 (w:World):Calls Tryz.prog 139 #[.int .u8 21,.int .u32 0,.int .u32 5] w fun en w'=>en=.returned (.tuple #[.int .u32 5,.int .i64 0])∧w=w':=by
 go_enter Tryz.func139,Tryz.ntmps139
 go_wp2_with fail
 go_ret2
 exact ⟨rfl,rfl⟩
def r1w:St:=(((((sw.put 0 nul).put 16 (pw.sa 4100)).put 1 (numQ 5)).put 0 nul))
def r2w:St:=trp ((st0.put 16 nul).put 0 nul) 1
theorem r1_a:r1w.L.toArray[8]?=some (.int .u32 5):=by kernel_rfl
theorem r1_b:r1w.L.toArray[113]?=some (.int .u32 4100):=by kernel_rfl
theorem r2_a:r2w.L.toArray[150]?=some (.bool true):=by kernel_rfl
theorem may_w:Ca.may pw.g pw.a pw.p pw.y pw.e pw.b pw.t 8 pw.a 4=true:=by decide +kernel
theorem may_z:Ca.may nul.g nul.a nul.p nul.y nul.e nul.b nul.t 8 nul.a 4=false:=by decide +kernel
theorem fit_pw:pw.fit:=⟨by decide,by decide,by decide,by decide,by decide,by decide⟩
theorem fit_nul:nul.fit:=⟨by decide,by decide,by decide,by decide,by decide,by decide⟩
theorem lives (w:World) (hg:In.Glob w):Calls Tryz.prog 14 #[] w fun en w'=>en=.returned (.bool true)∧Below w.heap.size w w':=by
 have hsz:=hg.size
 refine walk14 (fun _=>0) mw (fun _=>false) (stT (fun _=>false) 4096 false) sw.L.toArray (st0.put 16 nul).L.toArray r1w.L.toArray r2w.L.toArray w (by rw [List.size_toArray];exact St.len _) (by rw [List.size_toArray];exact St.len _) (by rw [List.size_toArray];exact St.len _) (by rw [List.size_toArray];exact St.len _) (St.one _) (St.one _) r1_a r1_b r2_a z32 z41 (mNew w) (fun W hm=>mStore w.heap.size 4096 5243027 4 _ _ W hm (by decide) (by decide)) root9 (fun W=>c45 pw W) (fun W=>c45 nul W) ?_ ?_
 ·intro tm W hb hm
  refine (step_imm w.heap.size sw pw nul tm 0 mw _ iw 5 5 0 W hm rfl (by cases tm <;> rfl) rfl fit_pw may_w (by decide +kernel) (by decide) (hg.below hb hsz) (by rw [show pw.a=4096 from rfl,mw_num];decide) (by rw [show pw.a=4096 from rfl,mw_num];exact get_w) (by decide) (by decide) (by decide) (by decide) rfl (by decide) (by decide) do5).mono ?_
  rintro e w' ⟨A,c,rfl,h⟩
  exact ⟨A,c,rfl,h⟩
 ·intro W hb hm
  refine (step_may w.heap.size (st0.put 16 nul) nul false 0 mw _ W hm rfl rfl rfl fit_nul may_z).mono ?_
  rintro e w' ⟨rfl,h⟩
  exact ⟨rfl,h⟩
end Go.Proofs.YtnkoknfihhdelaaGreatDoor
