import Derived.Test.YtnkoknfihhdelaaGreatDoorZIX
import Derived.Deep.Cut
import Derived.Deep.CutRange
namespace Go.Proofs.YtnkoknfihhdelaaGreatDoor.In
open Go.ChangeShapes Go.WideShapes Go.ChangeAt Go.RowKit
set_option linter.unusedVariables false
set_option maxRecDepth 100000
set_option maxRecDepth 100000 in
set_option maxHeartbeats 4000000 in
theorem refPut0 (q W d a b rc r3 rx:Nat) (rn:List UInt8) (n:Int) (hq:q≤67) (hd:d<256) (ha:a<256) (hb:b<256) (hn:i32 n) (hT:rc<128∧r3=0∧W=rc)
  (K18:Hid (∀ w:World,Calls Tryz.prog 46 #[.int .u8 ((q:Int)+1)] w fun en w'=>en=.returned (.tuple #[.agg #[.int .u8 ((q:Int)+1),.string ⟨rn.toArray⟩,.int .i64 0,.int .u32 (rc:Int),.int .u32 (r3:Int),.int .u32 (rx:Int)],.bool true])∧Below w.heap.size w w')) (w:World) :
  Calls Tryz.prog 15 #[.agg #[.int .u8 ((q:Int)+1),.int .u8 (d:Int),.int .u8 (a:Int),.int .u8 (b:Int),.int .i32 n]] w fun en w'=>en=.returned (putV 0 W d a b n)∧Below w.heap.size w w':=by
 have k19:∀ w:World,Calls Tryz.prog 47 #[.agg #[.int .u8 ((q:Int)+1),.string ⟨rn.toArray⟩,.int .i64 0,.int .u32 (rc:Int),.int .u32 (r3:Int),.int .u32 (rx:Int)],.agg #[.int .u8 ((q:Int)+1),.int .u8 (d:Int),.int .u8 (a:Int),.int .u8 (b:Int),.int .i32 n]] w fun en w'=>en=.returned (.bool (okF 0 d a b n))∧Below w.heap.size w w':=fun w=>by
  have:=fields0 (q+1) rc r3 rx d a b ⟨rn.toArray⟩ n hd ha hb hn w
  rw [Int.natCast_add] at this
  exact this
 have hV:putV 0 W d a b n=if okF 0 d a b n=true then .tuple #[.int .u32 (wordF 0 W d a b n:Int),.int .i64 0] else .tuple #[.int .u32 0,.int .i64 2]:=rfl
 rw [hV]
 clear hV
 have hu:=u32_cast n
 have hul:=u32_lt n
 have ho:okF 0 d a b n=true→∃ (V0 V1 V2:Nat),bits .or .u32 (rc:Int) ((r3:Int)*4096)=(V0:Int)∧bits .or .u32 (V0:Int) ((d:Int)*128)=(V1:Int)∧bits .or .u32 (V1:Int) ((u32 n:Nat):Int)=(V2:Int)∧V2=wordF 0 W d a b n∧d<16∧a<16∧b<16:=by
  intro hk
  simp only [okF,Bool.and_eq_true] at hk
  obtain ⟨kd,ka,kb,km⟩:=hk
  have ld:=regOk_lt _ _ kd
  have la:=regOk_lt _ _ ka
  have lb:=regOk_lt _ _ kb
  have a0:=regOk_no _ ka
  have b0:=regOk_no _ kb
  simp only [mayF,decide_eq_true_eq] at km
  obtain ⟨hc,h3,hW⟩:=hT
  obtain ⟨V0,s0,e0⟩:=or32' rc r3 12 3 4096 8 (r3*4096) rfl rfl rfl (by rw [Nat.div_eq_of_lt (by omega)]) (by omega) (by omega)
  obtain ⟨V1,s1,e1⟩:=or32' V0 d 7 5 128 32 (d*128) rfl rfl rfl (by omega) (by omega) (by omega)
  obtain ⟨V2,s2,e2⟩:=or32' V1 (u32 n/4096) 12 20 4096 1048576 (u32 n) rfl rfl (by omega) (by rw [Nat.div_eq_of_lt (by omega)]) (by omega) (by omega)
  refine ⟨V0,V1,V2,e0,e1,e2,?_,by omega,by omega,by omega⟩
  show _=W+d*128+a*32768+b*1048576+putF 0 n
  simp only [putF]
  omega
 have hr3:r3<8:=by omega
 have HO:=Lib.hid ho
 clear ho hT
 generalize wordF 0 W d a b n=V at *
 generalize okF 0 d a b n=O at *
 generalize u32 n=u at *
 have K19:=Lib.hid k19
 clear k19
 go_enter Tryz.func15,Tryz.ntmps15
 go_wp2_with fail
 refine (K18.out _).mono ?_
 rintro _ w1 ⟨rfl,b1⟩
 have q1:=b1.size
 simp at q1
 have l1:w.heap.size<w1.heap.size:=by omega
 have l0:w.heap.size<w.heap.size+1:=by omega
 have f1:Below w.heap.size w w1:=((Below.refl _ _).alloc (Nat.le_refl _) _).trans (b1.mono (by simp))
 obtain ⟨hc1,hf1⟩:=bcell b1
 clear b1
 go_wp2_with fail
 refine (K19.out _).mono ?_
 rintro _ w2 ⟨rfl,b2⟩
 have q2:=b2.size
 simp at q2
 have l2:w.heap.size<w2.heap.size:=by omega
 have l3:w1.heap.size<w2.heap.size:=by omega
 have l4:w.heap.size<w1.heap.size+1:=by omega
 have f2:Below w.heap.size w w2:=(f1.alloc (by omega) _).trans (b2.mono (by simp;omega))
 obtain ⟨hc2,hf2⟩:=bcell b2
 clear b2
 cases O
 ·go_wp2_with fail
  go_ret2
  exact ⟨rfl,f2⟩
 obtain ⟨V0,V1,V2,e0,e1,e2,eV,ld,la,lb⟩:=HO.out rfl
 have EV:=Lib.hid eV
 clear eV HO
 have x3:IntKind.u32.wrap (d:Int)=d:=by rw [IntKind.wrap_u32'];omega
 have x4:IntKind.u32.wrap (a:Int)=a:=by rw [IntKind.wrap_u32'];omega
 have x5:IntKind.u32.wrap (b:Int)=b:=by rw [IntKind.wrap_u32'];omega
 have x6:IntKind.u32.wrap ((d:Int)*128)=d*128:=by rw [IntKind.wrap_u32'];omega
 have x7:IntKind.u32.wrap ((a:Int)*32768)=a*32768:=by rw [IntKind.wrap_u32'];omega
 have x8:IntKind.u32.wrap ((b:Int)*1048576)=b*1048576:=by rw [IntKind.wrap_u32'];omega
 have y0:(r3:Int)*4096%4294967296=r3*4096:=by omega
 go_wp2_with fail
 go_quiet (fail)
 go_wp2_with fail
 go_ret2
 refine ⟨?_,below_drewN f2 _⟩
 rw [←EV.out]
 rfl
set_option maxRecDepth 100000 in
set_option maxHeartbeats 4000000 in
theorem refPut1 (q W d a b rc r3 rx:Nat) (rn:List UInt8) (n:Int) (hq:q≤67) (hd:d<256) (ha:a<256) (hb:b<256) (hn:i32 n) (hT:rc<128∧r3=0∧W=rc)
  (K18:Hid (∀ w:World,Calls Tryz.prog 46 #[.int .u8 ((q:Int)+1)] w fun en w'=>en=.returned (.tuple #[.agg #[.int .u8 ((q:Int)+1),.string ⟨rn.toArray⟩,.int .i64 1,.int .u32 (rc:Int),.int .u32 (r3:Int),.int .u32 (rx:Int)],.bool true])∧Below w.heap.size w w')) (w:World) :
  Calls Tryz.prog 15 #[.agg #[.int .u8 ((q:Int)+1),.int .u8 (d:Int),.int .u8 (a:Int),.int .u8 (b:Int),.int .i32 n]] w fun en w'=>en=.returned (putV 1 W d a b n)∧Below w.heap.size w w':=by
 have k19:∀ w:World,Calls Tryz.prog 47 #[.agg #[.int .u8 ((q:Int)+1),.string ⟨rn.toArray⟩,.int .i64 1,.int .u32 (rc:Int),.int .u32 (r3:Int),.int .u32 (rx:Int)],.agg #[.int .u8 ((q:Int)+1),.int .u8 (d:Int),.int .u8 (a:Int),.int .u8 (b:Int),.int .i32 n]] w fun en w'=>en=.returned (.bool (okF 1 d a b n))∧Below w.heap.size w w':=fun w=>by
  have:=fields1 (q+1) rc r3 rx d a b ⟨rn.toArray⟩ n hd ha hb hn w
  rw [Int.natCast_add] at this
  exact this
 have hV:putV 1 W d a b n=if okF 1 d a b n=true then .tuple #[.int .u32 (wordF 1 W d a b n:Int),.int .i64 0] else .tuple #[.int .u32 0,.int .i64 2]:=rfl
 rw [hV]
 clear hV
 have hu:=u32_cast n
 have hul:=u32_lt n
 have ho:okF 1 d a b n=true→∃ (V0 V1 V2 V3 V4 V5 m1 m2 m3 m4:Nat),bits .or .u32 (rc:Int) ((r3:Int)*4096)=(V0:Int)∧bits .or .u32 (V0:Int) ((d:Int)*128)=(V1:Int)∧bits .or .u32 (V1:Int) ((m1:Int)*2147483648)=(V2:Int)∧bits .or .u32 (V2:Int) ((m2:Int)*2097152)=(V3:Int)∧bits .or .u32 (V3:Int) ((m3:Int)*1048576)=(V4:Int)∧bits .or .u32 (V4:Int) ((m4:Int)*4096)=(V5:Int)∧(m1<2∧∀ w:World,Calls Tryz.prog 48 #[.int .u32 ((u32 n:Nat):Int),.int .u64 20,.int .u64 1] w fun en w'=>en=.returned (.int .u32 (m1:Int))∧w=w')∧(m2<1024∧∀ w:World,Calls Tryz.prog 48 #[.int .u32 ((u32 n:Nat):Int),.int .u64 1,.int .u64 10] w fun en w'=>en=.returned (.int .u32 (m2:Int))∧w=w')∧(m3<2∧∀ w:World,Calls Tryz.prog 48 #[.int .u32 ((u32 n:Nat):Int),.int .u64 11,.int .u64 1] w fun en w'=>en=.returned (.int .u32 (m3:Int))∧w=w')∧(m4<256∧∀ w:World,Calls Tryz.prog 48 #[.int .u32 ((u32 n:Nat):Int),.int .u64 12,.int .u64 8] w fun en w'=>en=.returned (.int .u32 (m4:Int))∧w=w')∧V5=wordF 1 W d a b n∧d<16∧a<16∧b<16:=by
  intro hk
  simp only [okF,Bool.and_eq_true] at hk
  obtain ⟨kd,ka,kb,km⟩:=hk
  have ld:=regOk_lt _ _ kd
  have la:=regOk_lt _ _ ka
  have lb:=regOk_lt _ _ kb
  have a0:=regOk_no _ ka
  have b0:=regOk_no _ kb
  simp only [mayF,decide_eq_true_eq] at km
  obtain ⟨hc,h3,hW⟩:=hT
  obtain ⟨V0,s0,e0⟩:=or32' rc r3 12 3 4096 8 (r3*4096) rfl rfl rfl (by rw [Nat.div_eq_of_lt (by omega)]) (by omega) (by omega)
  obtain ⟨V1,s1,e1⟩:=or32' V0 d 7 5 128 32 (d*128) rfl rfl rfl (by omega) (by omega) (by omega)
  obtain ⟨m1,hm1,lm1,c1⟩:∃ m:Nat,m=u32 n/1048576%2∧m<2∧∀ w:World,Calls Tryz.prog 48 #[.int .u32 ((u32 n:Nat):Int),.int .u64 20,.int .u64 1] w fun en w'=>en=.returned (.int .u32 (m:Int))∧w=w':=⟨_,rfl,Nat.mod_lt _ (by omega),fun w=>bs_20_1 (u32 n) hul w⟩
  have hM1:=Lib.hid hm1
  clear hm1
  obtain ⟨V2,s2,e2⟩:=or32' V1 m1 31 1 2147483648 2 (m1*2147483648) rfl rfl rfl (by omega) (by omega) (by omega)
  obtain ⟨m2,hm2,lm2,c2⟩:∃ m:Nat,m=u32 n/2%1024∧m<1024∧∀ w:World,Calls Tryz.prog 48 #[.int .u32 ((u32 n:Nat):Int),.int .u64 1,.int .u64 10] w fun en w'=>en=.returned (.int .u32 (m:Int))∧w=w':=⟨_,rfl,Nat.mod_lt _ (by omega),fun w=>bs_1_10 (u32 n) hul w⟩
  have hM2:=Lib.hid hm2
  clear hm2
  obtain ⟨V3,s3,e3⟩:=or32' V2 m2 21 10 2097152 1024 (m2*2097152) rfl rfl rfl (by omega) (by omega) (by omega)
  obtain ⟨m3,hm3,lm3,c3⟩:∃ m:Nat,m=u32 n/2048%2∧m<2∧∀ w:World,Calls Tryz.prog 48 #[.int .u32 ((u32 n:Nat):Int),.int .u64 11,.int .u64 1] w fun en w'=>en=.returned (.int .u32 (m:Int))∧w=w':=⟨_,rfl,Nat.mod_lt _ (by omega),fun w=>bs_11_1 (u32 n) hul w⟩
  have hM3:=Lib.hid hm3
  clear hm3
  obtain ⟨V4,s4,e4⟩:=or32' V3 m3 20 1 1048576 2 (m3*1048576) rfl rfl rfl (by omega) (by omega) (by omega)
  obtain ⟨m4,hm4,lm4,c4⟩:∃ m:Nat,m=u32 n/4096%256∧m<256∧∀ w:World,Calls Tryz.prog 48 #[.int .u32 ((u32 n:Nat):Int),.int .u64 12,.int .u64 8] w fun en w'=>en=.returned (.int .u32 (m:Int))∧w=w':=⟨_,rfl,Nat.mod_lt _ (by omega),fun w=>bs_12_8 (u32 n) hul w⟩
  have hM4:=Lib.hid hm4
  clear hm4
  obtain ⟨V5,s5,e5⟩:=or32' V4 m4 12 8 4096 256 (m4*4096) rfl rfl rfl (by omega) (by omega) (by omega)
  refine ⟨V0,V1,V2,V3,V4,V5,m1,m2,m3,m4,e0,e1,e2,e3,e4,e5,⟨lm1,c1⟩,⟨lm2,c2⟩,⟨lm3,c3⟩,⟨lm4,c4⟩,?_,by omega,by omega,by omega⟩
  have hm1:=hM1.out;have hm2:=hM2.out;have hm3:=hM3.out;have hm4:=hM4.out;show _=W+d*128+a*32768+b*1048576+putF 1 n
  simp only [putF]
  omega
 have hr3:r3<8:=by omega
 have HO:=Lib.hid ho
 clear ho hT
 generalize wordF 1 W d a b n=V at *
 generalize okF 1 d a b n=O at *
 generalize u32 n=u at *
 have K19:=Lib.hid k19
 clear k19
 go_enter Tryz.func15,Tryz.ntmps15
 go_wp2_with fail
 refine (K18.out _).mono ?_
 rintro _ w1 ⟨rfl,b1⟩
 have q1:=b1.size
 simp at q1
 have l1:w.heap.size<w1.heap.size:=by omega
 have l0:w.heap.size<w.heap.size+1:=by omega
 have f1:Below w.heap.size w w1:=((Below.refl _ _).alloc (Nat.le_refl _) _).trans (b1.mono (by simp))
 obtain ⟨hc1,hf1⟩:=bcell b1
 clear b1
 go_wp2_with fail
 refine (K19.out _).mono ?_
 rintro _ w2 ⟨rfl,b2⟩
 have q2:=b2.size
 simp at q2
 have l2:w.heap.size<w2.heap.size:=by omega
 have l3:w1.heap.size<w2.heap.size:=by omega
 have l4:w.heap.size<w1.heap.size+1:=by omega
 have f2:Below w.heap.size w w2:=(f1.alloc (by omega) _).trans (b2.mono (by simp;omega))
 obtain ⟨hc2,hf2⟩:=bcell b2
 clear b2
 cases O
 ·go_wp2_with fail
  go_ret2
  exact ⟨rfl,f2⟩
 obtain ⟨V0,V1,V2,V3,V4,V5,m1,m2,m3,m4,e0,e1,e2,e3,e4,e5,⟨lm1,c1⟩,⟨lm2,c2⟩,⟨lm3,c3⟩,⟨lm4,c4⟩,eV,ld,la,lb⟩:=HO.out rfl
 have EV:=Lib.hid eV
 clear eV HO
 have C1:=Lib.hid c1
 clear c1
 have C2:=Lib.hid c2
 clear c2
 have C3:=Lib.hid c3
 clear c3
 have C4:=Lib.hid c4
 clear c4
 have x3:IntKind.u32.wrap (d:Int)=d:=by rw [IntKind.wrap_u32'];omega
 have x4:IntKind.u32.wrap (a:Int)=a:=by rw [IntKind.wrap_u32'];omega
 have x5:IntKind.u32.wrap (b:Int)=b:=by rw [IntKind.wrap_u32'];omega
 have x6:IntKind.u32.wrap ((d:Int)*128)=d*128:=by rw [IntKind.wrap_u32'];omega
 have x7:IntKind.u32.wrap ((a:Int)*32768)=a*32768:=by rw [IntKind.wrap_u32'];omega
 have x8:IntKind.u32.wrap ((b:Int)*1048576)=b*1048576:=by rw [IntKind.wrap_u32'];omega
 have y0:(r3:Int)*4096%4294967296=r3*4096:=by omega
 have y2:(m1:Int)*2147483648%4294967296=m1*2147483648:=by omega
 have y3:(m2:Int)*2097152%4294967296=m2*2097152:=by omega
 have y4:(m3:Int)*1048576%4294967296=m3*1048576:=by omega
 have y5:(m4:Int)*4096%4294967296=m4*4096:=by omega
 go_wp2_with fail
 go_quiet (fail)
 go_wp2_with fail
 refine (C1.out _).mono ?_
 rintro _ _ ⟨rfl,rfl⟩
 go_wp2_with fail
 refine (C2.out _).mono ?_
 rintro _ _ ⟨rfl,rfl⟩
 go_wp2_with fail
 refine (C3.out _).mono ?_
 rintro _ _ ⟨rfl,rfl⟩
 go_wp2_with fail
 refine (C4.out _).mono ?_
 rintro _ _ ⟨rfl,rfl⟩
 go_wp2_with fail
 go_ret2
 refine ⟨?_,below_drewN f2 _⟩
 rw [←EV.out]
 rfl
set_option maxRecDepth 100000 in
set_option maxHeartbeats 4000000 in
theorem refPut2 (q W d a b rc r3 rx:Nat) (rn:List UInt8) (n:Int) (hq:q≤67) (hd:d<256) (ha:a<256) (hb:b<256) (hn:i32 n) (hT:rc<128∧r3<8∧W=rc+r3*4096)
  (K18:Hid (∀ w:World,Calls Tryz.prog 46 #[.int .u8 ((q:Int)+1)] w fun en w'=>en=.returned (.tuple #[.agg #[.int .u8 ((q:Int)+1),.string ⟨rn.toArray⟩,.int .i64 2,.int .u32 (rc:Int),.int .u32 (r3:Int),.int .u32 (rx:Int)],.bool true])∧Below w.heap.size w w')) (w:World) :
  Calls Tryz.prog 15 #[.agg #[.int .u8 ((q:Int)+1),.int .u8 (d:Int),.int .u8 (a:Int),.int .u8 (b:Int),.int .i32 n]] w fun en w'=>en=.returned (putV 2 W d a b n)∧Below w.heap.size w w':=by
 have k19:∀ w:World,Calls Tryz.prog 47 #[.agg #[.int .u8 ((q:Int)+1),.string ⟨rn.toArray⟩,.int .i64 2,.int .u32 (rc:Int),.int .u32 (r3:Int),.int .u32 (rx:Int)],.agg #[.int .u8 ((q:Int)+1),.int .u8 (d:Int),.int .u8 (a:Int),.int .u8 (b:Int),.int .i32 n]] w fun en w'=>en=.returned (.bool (okF 2 d a b n))∧Below w.heap.size w w':=fun w=>by
  have:=fields2 (q+1) rc r3 rx d a b ⟨rn.toArray⟩ n hd ha hb hn w
  rw [Int.natCast_add] at this
  exact this
 have hV:putV 2 W d a b n=if okF 2 d a b n=true then .tuple #[.int .u32 (wordF 2 W d a b n:Int),.int .i64 0] else .tuple #[.int .u32 0,.int .i64 2]:=rfl
 rw [hV]
 clear hV
 have hu:=u32_cast n
 have hul:=u32_lt n
 have ho:okF 2 d a b n=true→∃ (V0 V1 V2 V3 m2:Nat),bits .or .u32 (rc:Int) ((r3:Int)*4096)=(V0:Int)∧bits .or .u32 (V0:Int) ((d:Int)*128)=(V1:Int)∧bits .or .u32 (V1:Int) ((a:Int)*32768)=(V2:Int)∧bits .or .u32 (V2:Int) ((m2:Int)*1048576)=(V3:Int)∧(m2<4096∧∀ w:World,Calls Tryz.prog 48 #[.int .u32 ((u32 n:Nat):Int),.int .u64 0,.int .u64 12] w fun en w'=>en=.returned (.int .u32 (m2:Int))∧w=w')∧V3=wordF 2 W d a b n∧d<16∧a<16∧b<16:=by
  intro hk
  simp only [okF,Bool.and_eq_true] at hk
  obtain ⟨kd,ka,kb,km⟩:=hk
  have ld:=regOk_lt _ _ kd
  have la:=regOk_lt _ _ ka
  have lb:=regOk_lt _ _ kb
  have b0:=regOk_no _ kb
  simp only [mayF,decide_eq_true_eq] at km
  obtain ⟨hc,h3,hW⟩:=hT
  obtain ⟨V0,s0,e0⟩:=or32' rc r3 12 3 4096 8 (r3*4096) rfl rfl rfl (by rw [Nat.div_eq_of_lt (by omega)]) (by omega) (by omega)
  obtain ⟨V1,s1,e1⟩:=or32' V0 d 7 5 128 32 (d*128) rfl rfl rfl (by omega) (by omega) (by omega)
  obtain ⟨V2,s2,e2⟩:=or32' V1 a 15 5 32768 32 (a*32768) rfl rfl rfl (by omega) (by omega) (by omega)
  obtain ⟨m2,hm2,lm2,c2⟩:∃ m:Nat,m=u32 n/1%4096∧m<4096∧∀ w:World,Calls Tryz.prog 48 #[.int .u32 ((u32 n:Nat):Int),.int .u64 0,.int .u64 12] w fun en w'=>en=.returned (.int .u32 (m:Int))∧w=w':=⟨_,rfl,Nat.mod_lt _ (by omega),fun w=>by have:=bs_0_12 (u32 n) hul w;simp only [Nat.div_one] at this ⊢;exact this⟩
  have hM2:=Lib.hid hm2
  clear hm2
  obtain ⟨V3,s3,e3⟩:=or32' V2 m2 20 12 1048576 4096 (m2*1048576) rfl rfl rfl (by omega) (by omega) (by omega)
  refine ⟨V0,V1,V2,V3,m2,e0,e1,e2,e3,⟨lm2,c2⟩,?_,by omega,by omega,by omega⟩
  have hm2:=hM2.out;show _=W+d*128+a*32768+b*1048576+putF 2 n
  simp only [putF]
  omega
 have hr3:r3<8:=by omega
 have HO:=Lib.hid ho
 clear ho hT
 generalize wordF 2 W d a b n=V at *
 generalize okF 2 d a b n=O at *
 generalize u32 n=u at *
 have K19:=Lib.hid k19
 clear k19
 go_enter Tryz.func15,Tryz.ntmps15
 go_wp2_with fail
 refine (K18.out _).mono ?_
 rintro _ w1 ⟨rfl,b1⟩
 have q1:=b1.size
 simp at q1
 have l1:w.heap.size<w1.heap.size:=by omega
 have l0:w.heap.size<w.heap.size+1:=by omega
 have f1:Below w.heap.size w w1:=((Below.refl _ _).alloc (Nat.le_refl _) _).trans (b1.mono (by simp))
 obtain ⟨hc1,hf1⟩:=bcell b1
 clear b1
 go_wp2_with fail
 refine (K19.out _).mono ?_
 rintro _ w2 ⟨rfl,b2⟩
 have q2:=b2.size
 simp at q2
 have l2:w.heap.size<w2.heap.size:=by omega
 have l3:w1.heap.size<w2.heap.size:=by omega
 have l4:w.heap.size<w1.heap.size+1:=by omega
 have f2:Below w.heap.size w w2:=(f1.alloc (by omega) _).trans (b2.mono (by simp;omega))
 obtain ⟨hc2,hf2⟩:=bcell b2
 clear b2
 cases O
 ·go_wp2_with fail
  go_ret2
  exact ⟨rfl,f2⟩
 obtain ⟨V0,V1,V2,V3,m2,e0,e1,e2,e3,⟨lm2,c2⟩,eV,ld,la,lb⟩:=HO.out rfl
 have EV:=Lib.hid eV
 clear eV HO
 have C2:=Lib.hid c2
 clear c2
 have x3:IntKind.u32.wrap (d:Int)=d:=by rw [IntKind.wrap_u32'];omega
 have x4:IntKind.u32.wrap (a:Int)=a:=by rw [IntKind.wrap_u32'];omega
 have x5:IntKind.u32.wrap (b:Int)=b:=by rw [IntKind.wrap_u32'];omega
 have x6:IntKind.u32.wrap ((d:Int)*128)=d*128:=by rw [IntKind.wrap_u32'];omega
 have x7:IntKind.u32.wrap ((a:Int)*32768)=a*32768:=by rw [IntKind.wrap_u32'];omega
 have x8:IntKind.u32.wrap ((b:Int)*1048576)=b*1048576:=by rw [IntKind.wrap_u32'];omega
 have y0:(r3:Int)*4096%4294967296=r3*4096:=by omega
 have y3:(m2:Int)*1048576%4294967296=m2*1048576:=by omega
 go_wp2_with fail
 go_quiet (fail)
 go_wp2_with fail
 refine (C2.out _).mono ?_
 rintro _ _ ⟨rfl,rfl⟩
 go_wp2_with fail
 go_ret2
 refine ⟨?_,below_drewN f2 _⟩
 rw [←EV.out]
 rfl
set_option maxRecDepth 100000 in
set_option maxHeartbeats 4000000 in
theorem refPut3 (q W d a b rc r3 rx:Nat) (rn:List UInt8) (n:Int) (hq:q≤67) (hd:d<256) (ha:a<256) (hb:b<256) (hn:i32 n) (hT:rc<128∧r3<8∧W=rc+r3*4096)
  (K18:Hid (∀ w:World,Calls Tryz.prog 46 #[.int .u8 ((q:Int)+1)] w fun en w'=>en=.returned (.tuple #[.agg #[.int .u8 ((q:Int)+1),.string ⟨rn.toArray⟩,.int .i64 3,.int .u32 (rc:Int),.int .u32 (r3:Int),.int .u32 (rx:Int)],.bool true])∧Below w.heap.size w w')) (w:World) :
  Calls Tryz.prog 15 #[.agg #[.int .u8 ((q:Int)+1),.int .u8 (d:Int),.int .u8 (a:Int),.int .u8 (b:Int),.int .i32 n]] w fun en w'=>en=.returned (putV 3 W d a b n)∧Below w.heap.size w w':=by
 have k19:∀ w:World,Calls Tryz.prog 47 #[.agg #[.int .u8 ((q:Int)+1),.string ⟨rn.toArray⟩,.int .i64 3,.int .u32 (rc:Int),.int .u32 (r3:Int),.int .u32 (rx:Int)],.agg #[.int .u8 ((q:Int)+1),.int .u8 (d:Int),.int .u8 (a:Int),.int .u8 (b:Int),.int .i32 n]] w fun en w'=>en=.returned (.bool (okF 3 d a b n))∧Below w.heap.size w w':=fun w=>by
  have:=fields3 (q+1) rc r3 rx d a b ⟨rn.toArray⟩ n hd ha hb hn w
  rw [Int.natCast_add] at this
  exact this
 have hV:putV 3 W d a b n=if okF 3 d a b n=true then .tuple #[.int .u32 (wordF 3 W d a b n:Int),.int .i64 0] else .tuple #[.int .u32 0,.int .i64 2]:=rfl
 rw [hV]
 clear hV
 have hu:=u32_cast n
 have hul:=u32_lt n
 have ho:okF 3 d a b n=true→∃ (V0 V1 V2 V3 m2:Nat),bits .or .u32 (rc:Int) ((r3:Int)*4096)=(V0:Int)∧bits .or .u32 (V0:Int) ((d:Int)*128)=(V1:Int)∧bits .or .u32 (V1:Int) ((a:Int)*32768)=(V2:Int)∧bits .or .u32 (V2:Int) ((m2:Int)*1048576)=(V3:Int)∧(m2<4096∧∀ w:World,Calls Tryz.prog 48 #[.int .u32 ((u32 n:Nat):Int),.int .u64 0,.int .u64 12] w fun en w'=>en=.returned (.int .u32 (m2:Int))∧w=w')∧V3=wordF 3 W d a b n∧d<16∧a<16∧b<16:=by
  intro hk
  simp only [okF,Bool.and_eq_true] at hk
  obtain ⟨kd,ka,kb,km⟩:=hk
  have ld:=regOk_lt _ _ kd
  have la:=regOk_lt _ _ ka
  have lb:=regOk_lt _ _ kb
  have b0:=regOk_no _ kb
  simp only [mayF,decide_eq_true_eq] at km
  obtain ⟨hc,h3,hW⟩:=hT
  obtain ⟨V0,s0,e0⟩:=or32' rc r3 12 3 4096 8 (r3*4096) rfl rfl rfl (by rw [Nat.div_eq_of_lt (by omega)]) (by omega) (by omega)
  obtain ⟨V1,s1,e1⟩:=or32' V0 d 7 5 128 32 (d*128) rfl rfl rfl (by omega) (by omega) (by omega)
  obtain ⟨V2,s2,e2⟩:=or32' V1 a 15 5 32768 32 (a*32768) rfl rfl rfl (by omega) (by omega) (by omega)
  obtain ⟨m2,hm2,lm2,c2⟩:∃ m:Nat,m=u32 n/1%4096∧m<4096∧∀ w:World,Calls Tryz.prog 48 #[.int .u32 ((u32 n:Nat):Int),.int .u64 0,.int .u64 12] w fun en w'=>en=.returned (.int .u32 (m:Int))∧w=w':=⟨_,rfl,Nat.mod_lt _ (by omega),fun w=>by have:=bs_0_12 (u32 n) hul w;simp only [Nat.div_one] at this ⊢;exact this⟩
  have hM2:=Lib.hid hm2
  clear hm2
  obtain ⟨V3,s3,e3⟩:=or32' V2 m2 20 12 1048576 4096 (m2*1048576) rfl rfl rfl (by omega) (by omega) (by omega)
  refine ⟨V0,V1,V2,V3,m2,e0,e1,e2,e3,⟨lm2,c2⟩,?_,by omega,by omega,by omega⟩
  have hm2:=hM2.out;show _=W+d*128+a*32768+b*1048576+putF 3 n
  simp only [putF]
  omega
 have hr3:r3<8:=by omega
 have HO:=Lib.hid ho
 clear ho hT
 generalize wordF 3 W d a b n=V at *
 generalize okF 3 d a b n=O at *
 generalize u32 n=u at *
 have K19:=Lib.hid k19
 clear k19
 go_enter Tryz.func15,Tryz.ntmps15
 go_wp2_with fail
 refine (K18.out _).mono ?_
 rintro _ w1 ⟨rfl,b1⟩
 have q1:=b1.size
 simp at q1
 have l1:w.heap.size<w1.heap.size:=by omega
 have l0:w.heap.size<w.heap.size+1:=by omega
 have f1:Below w.heap.size w w1:=((Below.refl _ _).alloc (Nat.le_refl _) _).trans (b1.mono (by simp))
 obtain ⟨hc1,hf1⟩:=bcell b1
 clear b1
 go_wp2_with fail
 refine (K19.out _).mono ?_
 rintro _ w2 ⟨rfl,b2⟩
 have q2:=b2.size
 simp at q2
 have l2:w.heap.size<w2.heap.size:=by omega
 have l3:w1.heap.size<w2.heap.size:=by omega
 have l4:w.heap.size<w1.heap.size+1:=by omega
 have f2:Below w.heap.size w w2:=(f1.alloc (by omega) _).trans (b2.mono (by simp;omega))
 obtain ⟨hc2,hf2⟩:=bcell b2
 clear b2
 cases O
 ·go_wp2_with fail
  go_ret2
  exact ⟨rfl,f2⟩
 obtain ⟨V0,V1,V2,V3,m2,e0,e1,e2,e3,⟨lm2,c2⟩,eV,ld,la,lb⟩:=HO.out rfl
 have EV:=Lib.hid eV
 clear eV HO
 have C2:=Lib.hid c2
 clear c2
 have x3:IntKind.u32.wrap (d:Int)=d:=by rw [IntKind.wrap_u32'];omega
 have x4:IntKind.u32.wrap (a:Int)=a:=by rw [IntKind.wrap_u32'];omega
 have x5:IntKind.u32.wrap (b:Int)=b:=by rw [IntKind.wrap_u32'];omega
 have x6:IntKind.u32.wrap ((d:Int)*128)=d*128:=by rw [IntKind.wrap_u32'];omega
 have x7:IntKind.u32.wrap ((a:Int)*32768)=a*32768:=by rw [IntKind.wrap_u32'];omega
 have x8:IntKind.u32.wrap ((b:Int)*1048576)=b*1048576:=by rw [IntKind.wrap_u32'];omega
 have y0:(r3:Int)*4096%4294967296=r3*4096:=by omega
 have y3:(m2:Int)*1048576%4294967296=m2*1048576:=by omega
 go_wp2_with fail
 go_quiet (fail)
 go_wp2_with fail
 refine (C2.out _).mono ?_
 rintro _ _ ⟨rfl,rfl⟩
 go_wp2_with fail
 go_ret2
 refine ⟨?_,below_drewN f2 _⟩
 rw [←EV.out]
 rfl
set_option maxRecDepth 100000 in
set_option maxHeartbeats 4000000 in
theorem refPut4 (q W d a b rc r3 rx:Nat) (rn:List UInt8) (n:Int) (hq:q≤67) (hd:d<256) (ha:a<256) (hb:b<256) (hn:i32 n) (hT:rc<128∧r3<8∧rx<128∧W=rc+r3*4096+rx*33554432)
  (K18:Hid (∀ w:World,Calls Tryz.prog 46 #[.int .u8 ((q:Int)+1)] w fun en w'=>en=.returned (.tuple #[.agg #[.int .u8 ((q:Int)+1),.string ⟨rn.toArray⟩,.int .i64 4,.int .u32 (rc:Int),.int .u32 (r3:Int),.int .u32 (rx:Int)],.bool true])∧Below w.heap.size w w')) (w:World) :
  Calls Tryz.prog 15 #[.agg #[.int .u8 ((q:Int)+1),.int .u8 (d:Int),.int .u8 (a:Int),.int .u8 (b:Int),.int .i32 n]] w fun en w'=>en=.returned (putV 4 W d a b n)∧Below w.heap.size w w':=by
 have k19:∀ w:World,Calls Tryz.prog 47 #[.agg #[.int .u8 ((q:Int)+1),.string ⟨rn.toArray⟩,.int .i64 4,.int .u32 (rc:Int),.int .u32 (r3:Int),.int .u32 (rx:Int)],.agg #[.int .u8 ((q:Int)+1),.int .u8 (d:Int),.int .u8 (a:Int),.int .u8 (b:Int),.int .i32 n]] w fun en w'=>en=.returned (.bool (okF 4 d a b n))∧Below w.heap.size w w':=fun w=>by
  have:=fields4 (q+1) rc r3 rx d a b ⟨rn.toArray⟩ n hd ha hb hn w
  rw [Int.natCast_add] at this
  exact this
 have hV:putV 4 W d a b n=if okF 4 d a b n=true then .tuple #[.int .u32 (wordF 4 W d a b n:Int),.int .i64 0] else .tuple #[.int .u32 0,.int .i64 2]:=rfl
 rw [hV]
 clear hV
 have hu:=u32_cast n
 have hul:=u32_lt n
 have ho:okF 4 d a b n=true→∃ (V0 V1 V2 V3 V4:Nat),bits .or .u32 (rc:Int) ((r3:Int)*4096)=(V0:Int)∧bits .or .u32 (V0:Int) ((d:Int)*128)=(V1:Int)∧bits .or .u32 (V1:Int) ((a:Int)*32768)=(V2:Int)∧bits .or .u32 (V2:Int) (((u32 n:Nat):Int)*1048576)=(V3:Int)∧bits .or .u32 (V3:Int) ((rx:Int)*33554432)=(V4:Int)∧V4=wordF 4 W d a b n∧d<16∧a<16∧b<16∧u32 n<32:=by
  intro hk
  simp only [okF,Bool.and_eq_true] at hk
  obtain ⟨kd,ka,kb,km⟩:=hk
  have ld:=regOk_lt _ _ kd
  have la:=regOk_lt _ _ ka
  have lb:=regOk_lt _ _ kb
  have b0:=regOk_no _ kb
  simp only [mayF,decide_eq_true_eq] at km
  obtain ⟨hc,h3,hx,hW⟩:=hT
  obtain ⟨V0,s0,e0⟩:=or32' rc r3 12 3 4096 8 (r3*4096) rfl rfl rfl (by rw [Nat.div_eq_of_lt (by omega)]) (by omega) (by omega)
  obtain ⟨V1,s1,e1⟩:=or32' V0 d 7 5 128 32 (d*128) rfl rfl rfl (by omega) (by omega) (by omega)
  obtain ⟨V2,s2,e2⟩:=or32' V1 a 15 5 32768 32 (a*32768) rfl rfl rfl (by omega) (by omega) (by omega)
  have hu5:u32 n<32:=by omega
  obtain ⟨V3,s3,e3⟩:=or32' V2 (u32 n) 20 5 1048576 32 (u32 n*1048576) rfl rfl rfl (by omega) (by omega) (by omega)
  obtain ⟨V4,s4,e4⟩:=or32' V3 rx 25 7 33554432 128 (rx*33554432) rfl rfl rfl (by omega) (by omega) (by omega)
  refine ⟨V0,V1,V2,V3,V4,e0,e1,e2,e3,e4,?_,by omega,by omega,by omega,hu5⟩
  show _=W+d*128+a*32768+b*1048576+putF 4 n
  simp only [putF]
  omega
 have hr3:r3<8:=by omega
 have hrx:rx<128:=by omega
 have HO:=Lib.hid ho
 clear ho hT
 generalize wordF 4 W d a b n=V at *
 generalize okF 4 d a b n=O at *
 generalize u32 n=u at *
 have K19:=Lib.hid k19
 clear k19
 go_enter Tryz.func15,Tryz.ntmps15
 go_wp2_with fail
 refine (K18.out _).mono ?_
 rintro _ w1 ⟨rfl,b1⟩
 have q1:=b1.size
 simp at q1
 have l1:w.heap.size<w1.heap.size:=by omega
 have l0:w.heap.size<w.heap.size+1:=by omega
 have f1:Below w.heap.size w w1:=((Below.refl _ _).alloc (Nat.le_refl _) _).trans (b1.mono (by simp))
 obtain ⟨hc1,hf1⟩:=bcell b1
 clear b1
 go_wp2_with fail
 refine (K19.out _).mono ?_
 rintro _ w2 ⟨rfl,b2⟩
 have q2:=b2.size
 simp at q2
 have l2:w.heap.size<w2.heap.size:=by omega
 have l3:w1.heap.size<w2.heap.size:=by omega
 have l4:w.heap.size<w1.heap.size+1:=by omega
 have f2:Below w.heap.size w w2:=(f1.alloc (by omega) _).trans (b2.mono (by simp;omega))
 obtain ⟨hc2,hf2⟩:=bcell b2
 clear b2
 cases O
 ·go_wp2_with fail
  go_ret2
  exact ⟨rfl,f2⟩
 obtain ⟨V0,V1,V2,V3,V4,e0,e1,e2,e3,e4,eV,ld,la,lb,hu5⟩:=HO.out rfl
 have EV:=Lib.hid eV
 clear eV HO
 have x3:IntKind.u32.wrap (d:Int)=d:=by rw [IntKind.wrap_u32'];omega
 have x4:IntKind.u32.wrap (a:Int)=a:=by rw [IntKind.wrap_u32'];omega
 have x5:IntKind.u32.wrap (b:Int)=b:=by rw [IntKind.wrap_u32'];omega
 have x6:IntKind.u32.wrap ((d:Int)*128)=d*128:=by rw [IntKind.wrap_u32'];omega
 have x7:IntKind.u32.wrap ((a:Int)*32768)=a*32768:=by rw [IntKind.wrap_u32'];omega
 have x8:IntKind.u32.wrap ((b:Int)*1048576)=b*1048576:=by rw [IntKind.wrap_u32'];omega
 have y0:(r3:Int)*4096%4294967296=r3*4096:=by omega
 have y3:(u:Int)*1048576%4294967296=u*1048576:=by omega
 have y4:(rx:Int)*33554432%4294967296=rx*33554432:=by omega
 go_wp2_with fail
 go_quiet (fail)
 go_wp2_with fail
 go_ret2
 refine ⟨?_,below_drewN f2 _⟩
 rw [←EV.out]
 rfl
set_option maxRecDepth 100000 in
set_option maxHeartbeats 4000000 in
theorem refPut5 (q W d a b rc r3 rx:Nat) (rn:List UInt8) (n:Int) (hq:q≤67) (hd:d<256) (ha:a<256) (hb:b<256) (hn:i32 n) (hT:rc<128∧r3<8∧W=rc+r3*4096)
  (K18:Hid (∀ w:World,Calls Tryz.prog 46 #[.int .u8 ((q:Int)+1)] w fun en w'=>en=.returned (.tuple #[.agg #[.int .u8 ((q:Int)+1),.string ⟨rn.toArray⟩,.int .i64 5,.int .u32 (rc:Int),.int .u32 (r3:Int),.int .u32 (rx:Int)],.bool true])∧Below w.heap.size w w')) (w:World) :
  Calls Tryz.prog 15 #[.agg #[.int .u8 ((q:Int)+1),.int .u8 (d:Int),.int .u8 (a:Int),.int .u8 (b:Int),.int .i32 n]] w fun en w'=>en=.returned (putV 5 W d a b n)∧Below w.heap.size w w':=by
 have k19:∀ w:World,Calls Tryz.prog 47 #[.agg #[.int .u8 ((q:Int)+1),.string ⟨rn.toArray⟩,.int .i64 5,.int .u32 (rc:Int),.int .u32 (r3:Int),.int .u32 (rx:Int)],.agg #[.int .u8 ((q:Int)+1),.int .u8 (d:Int),.int .u8 (a:Int),.int .u8 (b:Int),.int .i32 n]] w fun en w'=>en=.returned (.bool (okF 5 d a b n))∧Below w.heap.size w w':=fun w=>by
  have:=fields5 (q+1) rc r3 rx d a b ⟨rn.toArray⟩ n hd ha hb hn w
  rw [Int.natCast_add] at this
  exact this
 have hV:putV 5 W d a b n=if okF 5 d a b n=true then .tuple #[.int .u32 (wordF 5 W d a b n:Int),.int .i64 0] else .tuple #[.int .u32 0,.int .i64 2]:=rfl
 rw [hV]
 clear hV
 have hu:=u32_cast n
 have hul:=u32_lt n
 have ho:okF 5 d a b n=true→∃ (V0 V1 V2 V3 V4 m2 m3:Nat),bits .or .u32 (rc:Int) ((r3:Int)*4096)=(V0:Int)∧bits .or .u32 (V0:Int) ((a:Int)*32768)=(V1:Int)∧bits .or .u32 (V1:Int) ((b:Int)*1048576)=(V2:Int)∧bits .or .u32 (V2:Int) ((m2:Int)*128)=(V3:Int)∧bits .or .u32 (V3:Int) ((m3:Int)*33554432)=(V4:Int)∧(m2<32∧∀ w:World,Calls Tryz.prog 48 #[.int .u32 ((u32 n:Nat):Int),.int .u64 0,.int .u64 5] w fun en w'=>en=.returned (.int .u32 (m2:Int))∧w=w')∧(m3<128∧∀ w:World,Calls Tryz.prog 48 #[.int .u32 ((u32 n:Nat):Int),.int .u64 5,.int .u64 7] w fun en w'=>en=.returned (.int .u32 (m3:Int))∧w=w')∧V4=wordF 5 W d a b n∧d<16∧a<16∧b<16:=by
  intro hk
  simp only [okF,Bool.and_eq_true] at hk
  obtain ⟨kd,ka,kb,km⟩:=hk
  have ld:=regOk_lt _ _ kd
  have la:=regOk_lt _ _ ka
  have lb:=regOk_lt _ _ kb
  have d0:=regOk_no _ kd
  simp only [mayF,decide_eq_true_eq] at km
  obtain ⟨hc,h3,hW⟩:=hT
  obtain ⟨V0,s0,e0⟩:=or32' rc r3 12 3 4096 8 (r3*4096) rfl rfl rfl (by rw [Nat.div_eq_of_lt (by omega)]) (by omega) (by omega)
  obtain ⟨V1,s1,e1⟩:=or32' V0 a 15 5 32768 32 (a*32768) rfl rfl rfl (by omega) (by omega) (by omega)
  obtain ⟨V2,s2,e2⟩:=or32' V1 b 20 5 1048576 32 (b*1048576) rfl rfl rfl (by omega) (by omega) (by omega)
  obtain ⟨m2,hm2,lm2,c2⟩:∃ m:Nat,m=u32 n/1%32∧m<32∧∀ w:World,Calls Tryz.prog 48 #[.int .u32 ((u32 n:Nat):Int),.int .u64 0,.int .u64 5] w fun en w'=>en=.returned (.int .u32 (m:Int))∧w=w':=⟨_,rfl,Nat.mod_lt _ (by omega),fun w=>by have:=bs_0_5 (u32 n) hul w;simp only [Nat.div_one] at this ⊢;exact this⟩
  have hM2:=Lib.hid hm2
  clear hm2
  obtain ⟨V3,s3,e3⟩:=or32' V2 m2 7 5 128 32 (m2*128) rfl rfl rfl (by omega) (by omega) (by omega)
  obtain ⟨m3,hm3,lm3,c3⟩:∃ m:Nat,m=u32 n/32%128∧m<128∧∀ w:World,Calls Tryz.prog 48 #[.int .u32 ((u32 n:Nat):Int),.int .u64 5,.int .u64 7] w fun en w'=>en=.returned (.int .u32 (m:Int))∧w=w':=⟨_,rfl,Nat.mod_lt _ (by omega),fun w=>bs_5_7 (u32 n) hul w⟩
  have hM3:=Lib.hid hm3
  clear hm3
  obtain ⟨V4,s4,e4⟩:=or32' V3 m3 25 7 33554432 128 (m3*33554432) rfl rfl rfl (by omega) (by omega) (by omega)
  refine ⟨V0,V1,V2,V3,V4,m2,m3,e0,e1,e2,e3,e4,⟨lm2,c2⟩,⟨lm3,c3⟩,?_,by omega,by omega,by omega⟩
  have hm2:=hM2.out;have hm3:=hM3.out;show _=W+d*128+a*32768+b*1048576+putF 5 n
  simp only [putF]
  omega
 have hr3:r3<8:=by omega
 have HO:=Lib.hid ho
 clear ho hT
 generalize wordF 5 W d a b n=V at *
 generalize okF 5 d a b n=O at *
 generalize u32 n=u at *
 have K19:=Lib.hid k19
 clear k19
 go_enter Tryz.func15,Tryz.ntmps15
 go_wp2_with fail
 refine (K18.out _).mono ?_
 rintro _ w1 ⟨rfl,b1⟩
 have q1:=b1.size
 simp at q1
 have l1:w.heap.size<w1.heap.size:=by omega
 have l0:w.heap.size<w.heap.size+1:=by omega
 have f1:Below w.heap.size w w1:=((Below.refl _ _).alloc (Nat.le_refl _) _).trans (b1.mono (by simp))
 obtain ⟨hc1,hf1⟩:=bcell b1
 clear b1
 go_wp2_with fail
 refine (K19.out _).mono ?_
 rintro _ w2 ⟨rfl,b2⟩
 have q2:=b2.size
 simp at q2
 have l2:w.heap.size<w2.heap.size:=by omega
 have l3:w1.heap.size<w2.heap.size:=by omega
 have l4:w.heap.size<w1.heap.size+1:=by omega
 have f2:Below w.heap.size w w2:=(f1.alloc (by omega) _).trans (b2.mono (by simp;omega))
 obtain ⟨hc2,hf2⟩:=bcell b2
 clear b2
 cases O
 ·go_wp2_with fail
  go_ret2
  exact ⟨rfl,f2⟩
 obtain ⟨V0,V1,V2,V3,V4,m2,m3,e0,e1,e2,e3,e4,⟨lm2,c2⟩,⟨lm3,c3⟩,eV,ld,la,lb⟩:=HO.out rfl
 have EV:=Lib.hid eV
 clear eV HO
 have C2:=Lib.hid c2
 clear c2
 have C3:=Lib.hid c3
 clear c3
 have x3:IntKind.u32.wrap (d:Int)=d:=by rw [IntKind.wrap_u32'];omega
 have x4:IntKind.u32.wrap (a:Int)=a:=by rw [IntKind.wrap_u32'];omega
 have x5:IntKind.u32.wrap (b:Int)=b:=by rw [IntKind.wrap_u32'];omega
 have x6:IntKind.u32.wrap ((d:Int)*128)=d*128:=by rw [IntKind.wrap_u32'];omega
 have x7:IntKind.u32.wrap ((a:Int)*32768)=a*32768:=by rw [IntKind.wrap_u32'];omega
 have x8:IntKind.u32.wrap ((b:Int)*1048576)=b*1048576:=by rw [IntKind.wrap_u32'];omega
 have y0:(r3:Int)*4096%4294967296=r3*4096:=by omega
 have y3:(m2:Int)*128%4294967296=m2*128:=by omega
 have y4:(m3:Int)*33554432%4294967296=m3*33554432:=by omega
 go_wp2_with fail
 go_quiet (fail)
 go_wp2_with fail
 refine (C2.out _).mono ?_
 rintro _ _ ⟨rfl,rfl⟩
 go_wp2_with fail
 refine (C3.out _).mono ?_
 rintro _ _ ⟨rfl,rfl⟩
 go_wp2_with fail
 go_ret2
 refine ⟨?_,below_drewN f2 _⟩
 rw [←EV.out]
 rfl
set_option maxRecDepth 100000 in
set_option maxHeartbeats 4000000 in
theorem refPut6 (q W d a b rc r3 rx:Nat) (rn:List UInt8) (n:Int) (hq:q≤67) (hd:d<256) (ha:a<256) (hb:b<256) (hn:i32 n) (hT:rc<128∧r3<8∧W=rc+r3*4096)
  (K18:Hid (∀ w:World,Calls Tryz.prog 46 #[.int .u8 ((q:Int)+1)] w fun en w'=>en=.returned (.tuple #[.agg #[.int .u8 ((q:Int)+1),.string ⟨rn.toArray⟩,.int .i64 6,.int .u32 (rc:Int),.int .u32 (r3:Int),.int .u32 (rx:Int)],.bool true])∧Below w.heap.size w w')) (w:World) :
  Calls Tryz.prog 15 #[.agg #[.int .u8 ((q:Int)+1),.int .u8 (d:Int),.int .u8 (a:Int),.int .u8 (b:Int),.int .i32 n]] w fun en w'=>en=.returned (putV 6 W d a b n)∧Below w.heap.size w w':=by
 have k19:∀ w:World,Calls Tryz.prog 47 #[.agg #[.int .u8 ((q:Int)+1),.string ⟨rn.toArray⟩,.int .i64 6,.int .u32 (rc:Int),.int .u32 (r3:Int),.int .u32 (rx:Int)],.agg #[.int .u8 ((q:Int)+1),.int .u8 (d:Int),.int .u8 (a:Int),.int .u8 (b:Int),.int .i32 n]] w fun en w'=>en=.returned (.bool (okF 6 d a b n))∧Below w.heap.size w w':=fun w=>by
  have:=fields6 (q+1) rc r3 rx d a b ⟨rn.toArray⟩ n hd ha hb hn w
  rw [Int.natCast_add] at this
  exact this
 have hV:putV 6 W d a b n=if okF 6 d a b n=true then .tuple #[.int .u32 (wordF 6 W d a b n:Int),.int .i64 0] else .tuple #[.int .u32 0,.int .i64 2]:=rfl
 rw [hV]
 clear hV
 have hu:=u32_cast n
 have hul:=u32_lt n
 have ho:okF 6 d a b n=true→∃ (V0 V1 V2 V3 V4 V5 V6 m2 m3 m4 m5:Nat),bits .or .u32 (rc:Int) ((r3:Int)*4096)=(V0:Int)∧bits .or .u32 (V0:Int) ((a:Int)*32768)=(V1:Int)∧bits .or .u32 (V1:Int) ((b:Int)*1048576)=(V2:Int)∧bits .or .u32 (V2:Int) ((m2:Int)*128)=(V3:Int)∧bits .or .u32 (V3:Int) ((m3:Int)*256)=(V4:Int)∧bits .or .u32 (V4:Int) ((m4:Int)*33554432)=(V5:Int)∧bits .or .u32 (V5:Int) ((m5:Int)*2147483648)=(V6:Int)∧(m2<2∧∀ w:World,Calls Tryz.prog 48 #[.int .u32 ((u32 n:Nat):Int),.int .u64 11,.int .u64 1] w fun en w'=>en=.returned (.int .u32 (m2:Int))∧w=w')∧(m3<16∧∀ w:World,Calls Tryz.prog 48 #[.int .u32 ((u32 n:Nat):Int),.int .u64 1,.int .u64 4] w fun en w'=>en=.returned (.int .u32 (m3:Int))∧w=w')∧(m4<64∧∀ w:World,Calls Tryz.prog 48 #[.int .u32 ((u32 n:Nat):Int),.int .u64 5,.int .u64 6] w fun en w'=>en=.returned (.int .u32 (m4:Int))∧w=w')∧(m5<2∧∀ w:World,Calls Tryz.prog 48 #[.int .u32 ((u32 n:Nat):Int),.int .u64 12,.int .u64 1] w fun en w'=>en=.returned (.int .u32 (m5:Int))∧w=w')∧V6=wordF 6 W d a b n∧d<16∧a<16∧b<16:=by
  intro hk
  simp only [okF,Bool.and_eq_true] at hk
  obtain ⟨kd,ka,kb,km⟩:=hk
  have ld:=regOk_lt _ _ kd
  have la:=regOk_lt _ _ ka
  have lb:=regOk_lt _ _ kb
  have d0:=regOk_no _ kd
  simp only [mayF,decide_eq_true_eq] at km
  obtain ⟨hc,h3,hW⟩:=hT
  obtain ⟨V0,s0,e0⟩:=or32' rc r3 12 3 4096 8 (r3*4096) rfl rfl rfl (by rw [Nat.div_eq_of_lt (by omega)]) (by omega) (by omega)
  obtain ⟨V1,s1,e1⟩:=or32' V0 a 15 5 32768 32 (a*32768) rfl rfl rfl (by omega) (by omega) (by omega)
  obtain ⟨V2,s2,e2⟩:=or32' V1 b 20 5 1048576 32 (b*1048576) rfl rfl rfl (by omega) (by omega) (by omega)
  obtain ⟨m2,hm2,lm2,c2⟩:∃ m:Nat,m=u32 n/2048%2∧m<2∧∀ w:World,Calls Tryz.prog 48 #[.int .u32 ((u32 n:Nat):Int),.int .u64 11,.int .u64 1] w fun en w'=>en=.returned (.int .u32 (m:Int))∧w=w':=⟨_,rfl,Nat.mod_lt _ (by omega),fun w=>bs_11_1 (u32 n) hul w⟩
  have hM2:=Lib.hid hm2
  clear hm2
  obtain ⟨V3,s3,e3⟩:=or32' V2 m2 7 1 128 2 (m2*128) rfl rfl rfl (by omega) (by omega) (by omega)
  obtain ⟨m3,hm3,lm3,c3⟩:∃ m:Nat,m=u32 n/2%16∧m<16∧∀ w:World,Calls Tryz.prog 48 #[.int .u32 ((u32 n:Nat):Int),.int .u64 1,.int .u64 4] w fun en w'=>en=.returned (.int .u32 (m:Int))∧w=w':=⟨_,rfl,Nat.mod_lt _ (by omega),fun w=>bs_1_4 (u32 n) hul w⟩
  have hM3:=Lib.hid hm3
  clear hm3
  obtain ⟨V4,s4,e4⟩:=or32' V3 m3 8 4 256 16 (m3*256) rfl rfl rfl (by omega) (by omega) (by omega)
  obtain ⟨m4,hm4,lm4,c4⟩:∃ m:Nat,m=u32 n/32%64∧m<64∧∀ w:World,Calls Tryz.prog 48 #[.int .u32 ((u32 n:Nat):Int),.int .u64 5,.int .u64 6] w fun en w'=>en=.returned (.int .u32 (m:Int))∧w=w':=⟨_,rfl,Nat.mod_lt _ (by omega),fun w=>bs_5_6 (u32 n) hul w⟩
  have hM4:=Lib.hid hm4
  clear hm4
  obtain ⟨V5,s5,e5⟩:=or32' V4 m4 25 6 33554432 64 (m4*33554432) rfl rfl rfl (by omega) (by omega) (by omega)
  obtain ⟨m5,hm5,lm5,c5⟩:∃ m:Nat,m=u32 n/4096%2∧m<2∧∀ w:World,Calls Tryz.prog 48 #[.int .u32 ((u32 n:Nat):Int),.int .u64 12,.int .u64 1] w fun en w'=>en=.returned (.int .u32 (m:Int))∧w=w':=⟨_,rfl,Nat.mod_lt _ (by omega),fun w=>bs_12_1 (u32 n) hul w⟩
  have hM5:=Lib.hid hm5
  clear hm5
  obtain ⟨V6,s6,e6⟩:=or32' V5 m5 31 1 2147483648 2 (m5*2147483648) rfl rfl rfl (by omega) (by omega) (by omega)
  refine ⟨V0,V1,V2,V3,V4,V5,V6,m2,m3,m4,m5,e0,e1,e2,e3,e4,e5,e6,⟨lm2,c2⟩,⟨lm3,c3⟩,⟨lm4,c4⟩,⟨lm5,c5⟩,?_,by omega,by omega,by omega⟩
  have hm2:=hM2.out;have hm3:=hM3.out;have hm4:=hM4.out;have hm5:=hM5.out;show _=W+d*128+a*32768+b*1048576+putF 6 n
  simp only [putF]
  omega
 have hr3:r3<8:=by omega
 have HO:=Lib.hid ho
 clear ho hT
 generalize wordF 6 W d a b n=V at *
 generalize okF 6 d a b n=O at *
 generalize u32 n=u at *
 have K19:=Lib.hid k19
 clear k19
 go_enter Tryz.func15,Tryz.ntmps15
 go_wp2_with fail
 refine (K18.out _).mono ?_
 rintro _ w1 ⟨rfl,b1⟩
 have q1:=b1.size
 simp at q1
 have l1:w.heap.size<w1.heap.size:=by omega
 have l0:w.heap.size<w.heap.size+1:=by omega
 have f1:Below w.heap.size w w1:=((Below.refl _ _).alloc (Nat.le_refl _) _).trans (b1.mono (by simp))
 obtain ⟨hc1,hf1⟩:=bcell b1
 clear b1
 go_wp2_with fail
 refine (K19.out _).mono ?_
 rintro _ w2 ⟨rfl,b2⟩
 have q2:=b2.size
 simp at q2
 have l2:w.heap.size<w2.heap.size:=by omega
 have l3:w1.heap.size<w2.heap.size:=by omega
 have l4:w.heap.size<w1.heap.size+1:=by omega
 have f2:Below w.heap.size w w2:=(f1.alloc (by omega) _).trans (b2.mono (by simp;omega))
 obtain ⟨hc2,hf2⟩:=bcell b2
 clear b2
 cases O
 ·go_wp2_with fail
  go_ret2
  exact ⟨rfl,f2⟩
 obtain ⟨V0,V1,V2,V3,V4,V5,V6,m2,m3,m4,m5,e0,e1,e2,e3,e4,e5,e6,⟨lm2,c2⟩,⟨lm3,c3⟩,⟨lm4,c4⟩,⟨lm5,c5⟩,eV,ld,la,lb⟩:=HO.out rfl
 have EV:=Lib.hid eV
 clear eV HO
 have C2:=Lib.hid c2
 clear c2
 have C3:=Lib.hid c3
 clear c3
 have C4:=Lib.hid c4
 clear c4
 have C5:=Lib.hid c5
 clear c5
 have x3:IntKind.u32.wrap (d:Int)=d:=by rw [IntKind.wrap_u32'];omega
 have x4:IntKind.u32.wrap (a:Int)=a:=by rw [IntKind.wrap_u32'];omega
 have x5:IntKind.u32.wrap (b:Int)=b:=by rw [IntKind.wrap_u32'];omega
 have x6:IntKind.u32.wrap ((d:Int)*128)=d*128:=by rw [IntKind.wrap_u32'];omega
 have x7:IntKind.u32.wrap ((a:Int)*32768)=a*32768:=by rw [IntKind.wrap_u32'];omega
 have x8:IntKind.u32.wrap ((b:Int)*1048576)=b*1048576:=by rw [IntKind.wrap_u32'];omega
 have y0:(r3:Int)*4096%4294967296=r3*4096:=by omega
 have y3:(m2:Int)*128%4294967296=m2*128:=by omega
 have y4:(m3:Int)*256%4294967296=m3*256:=by omega
 have y5:(m4:Int)*33554432%4294967296=m4*33554432:=by omega
 have y6:(m5:Int)*2147483648%4294967296=m5*2147483648:=by omega
 go_wp2_with fail
 go_quiet (fail)
 go_wp2_with fail
 refine (C2.out _).mono ?_
 rintro _ _ ⟨rfl,rfl⟩
 go_wp2_with fail
 refine (C3.out _).mono ?_
 rintro _ _ ⟨rfl,rfl⟩
 go_wp2_with fail
 refine (C4.out _).mono ?_
 rintro _ _ ⟨rfl,rfl⟩
 go_wp2_with fail
 refine (C5.out _).mono ?_
 rintro _ _ ⟨rfl,rfl⟩
 go_wp2_with fail
 go_ret2
 refine ⟨?_,below_drewN f2 _⟩
 rw [←EV.out]
 rfl
set_option maxRecDepth 100000 in
set_option maxHeartbeats 4000000 in
theorem refPut7 (q W d a b rc r3 rx:Nat) (rn:List UInt8) (n:Int) (hq:q≤67) (hd:d<256) (ha:a<256) (hb:b<256) (hn:i32 n) (hT:rc<128∧r3<8∧rx<128∧W=rc+r3*4096+rx*33554432)
  (K18:Hid (∀ w:World,Calls Tryz.prog 46 #[.int .u8 ((q:Int)+1)] w fun en w'=>en=.returned (.tuple #[.agg #[.int .u8 ((q:Int)+1),.string ⟨rn.toArray⟩,.int .i64 7,.int .u32 (rc:Int),.int .u32 (r3:Int),.int .u32 (rx:Int)],.bool true])∧Below w.heap.size w w')) (w:World) :
  Calls Tryz.prog 15 #[.agg #[.int .u8 ((q:Int)+1),.int .u8 (d:Int),.int .u8 (a:Int),.int .u8 (b:Int),.int .i32 n]] w fun en w'=>en=.returned (putV 7 W d a b n)∧Below w.heap.size w w':=by
 have k19:∀ w:World,Calls Tryz.prog 47 #[.agg #[.int .u8 ((q:Int)+1),.string ⟨rn.toArray⟩,.int .i64 7,.int .u32 (rc:Int),.int .u32 (r3:Int),.int .u32 (rx:Int)],.agg #[.int .u8 ((q:Int)+1),.int .u8 (d:Int),.int .u8 (a:Int),.int .u8 (b:Int),.int .i32 n]] w fun en w'=>en=.returned (.bool (okF 7 d a b n))∧Below w.heap.size w w':=fun w=>by
  have:=fields7 (q+1) rc r3 rx d a b ⟨rn.toArray⟩ n hd ha hb hn w
  rw [Int.natCast_add] at this
  exact this
 have hV:putV 7 W d a b n=if okF 7 d a b n=true then .tuple #[.int .u32 (wordF 7 W d a b n:Int),.int .i64 0] else .tuple #[.int .u32 0,.int .i64 2]:=rfl
 rw [hV]
 clear hV
 have hu:=u32_cast n
 have hul:=u32_lt n
 have ho:okF 7 d a b n=true→∃ (V0 V1 V2 V3 V4:Nat),bits .or .u32 (rc:Int) ((r3:Int)*4096)=(V0:Int)∧bits .or .u32 (V0:Int) ((d:Int)*128)=(V1:Int)∧bits .or .u32 (V1:Int) ((a:Int)*32768)=(V2:Int)∧bits .or .u32 (V2:Int) ((b:Int)*1048576)=(V3:Int)∧bits .or .u32 (V3:Int) ((rx:Int)*33554432)=(V4:Int)∧V4=wordF 7 W d a b n∧d<16∧a<16∧b<16:=by
  intro hk
  simp only [okF,Bool.and_eq_true] at hk
  obtain ⟨kd,ka,kb,km⟩:=hk
  have ld:=regOk_lt _ _ kd
  have la:=regOk_lt _ _ ka
  have lb:=regOk_lt _ _ kb
  simp only [mayF,decide_eq_true_eq] at km
  obtain ⟨hc,h3,hx,hW⟩:=hT
  obtain ⟨V0,s0,e0⟩:=or32' rc r3 12 3 4096 8 (r3*4096) rfl rfl rfl (by rw [Nat.div_eq_of_lt (by omega)]) (by omega) (by omega)
  obtain ⟨V1,s1,e1⟩:=or32' V0 d 7 5 128 32 (d*128) rfl rfl rfl (by omega) (by omega) (by omega)
  obtain ⟨V2,s2,e2⟩:=or32' V1 a 15 5 32768 32 (a*32768) rfl rfl rfl (by omega) (by omega) (by omega)
  obtain ⟨V3,s3,e3⟩:=or32' V2 b 20 5 1048576 32 (b*1048576) rfl rfl rfl (by omega) (by omega) (by omega)
  obtain ⟨V4,s4,e4⟩:=or32' V3 rx 25 7 33554432 128 (rx*33554432) rfl rfl rfl (by omega) (by omega) (by omega)
  refine ⟨V0,V1,V2,V3,V4,e0,e1,e2,e3,e4,?_,by omega,by omega,by omega⟩
  show _=W+d*128+a*32768+b*1048576+putF 7 n
  simp only [putF]
  omega
 have hr3:r3<8:=by omega
 have hrx:rx<128:=by omega
 have HO:=Lib.hid ho
 clear ho hT
 generalize wordF 7 W d a b n=V at *
 generalize okF 7 d a b n=O at *
 generalize u32 n=u at *
 have K19:=Lib.hid k19
 clear k19
 go_enter Tryz.func15,Tryz.ntmps15
 go_wp2_with fail
 refine (K18.out _).mono ?_
 rintro _ w1 ⟨rfl,b1⟩
 have q1:=b1.size
 simp at q1
 have l1:w.heap.size<w1.heap.size:=by omega
 have l0:w.heap.size<w.heap.size+1:=by omega
 have f1:Below w.heap.size w w1:=((Below.refl _ _).alloc (Nat.le_refl _) _).trans (b1.mono (by simp))
 obtain ⟨hc1,hf1⟩:=bcell b1
 clear b1
 go_wp2_with fail
 refine (K19.out _).mono ?_
 rintro _ w2 ⟨rfl,b2⟩
 have q2:=b2.size
 simp at q2
 have l2:w.heap.size<w2.heap.size:=by omega
 have l3:w1.heap.size<w2.heap.size:=by omega
 have l4:w.heap.size<w1.heap.size+1:=by omega
 have f2:Below w.heap.size w w2:=(f1.alloc (by omega) _).trans (b2.mono (by simp;omega))
 obtain ⟨hc2,hf2⟩:=bcell b2
 clear b2
 cases O
 ·go_wp2_with fail
  go_ret2
  exact ⟨rfl,f2⟩
 obtain ⟨V0,V1,V2,V3,V4,e0,e1,e2,e3,e4,eV,ld,la,lb⟩:=HO.out rfl
 have EV:=Lib.hid eV
 clear eV HO
 have x3:IntKind.u32.wrap (d:Int)=d:=by rw [IntKind.wrap_u32'];omega
 have x4:IntKind.u32.wrap (a:Int)=a:=by rw [IntKind.wrap_u32'];omega
 have x5:IntKind.u32.wrap (b:Int)=b:=by rw [IntKind.wrap_u32'];omega
 have x6:IntKind.u32.wrap ((d:Int)*128)=d*128:=by rw [IntKind.wrap_u32'];omega
 have x7:IntKind.u32.wrap ((a:Int)*32768)=a*32768:=by rw [IntKind.wrap_u32'];omega
 have x8:IntKind.u32.wrap ((b:Int)*1048576)=b*1048576:=by rw [IntKind.wrap_u32'];omega
 have y0:(r3:Int)*4096%4294967296=r3*4096:=by omega
 have y4:(rx:Int)*33554432%4294967296=rx*33554432:=by omega
 go_wp2_with fail
 go_quiet (fail)
 go_wp2_with fail
 go_ret2
 refine ⟨?_,below_drewN f2 _⟩
 rw [←EV.out]
 rfl
set_option maxRecDepth 100000 in
set_option maxHeartbeats 4000000 in
theorem refPut8 (q W d a b rc r3 rx:Nat) (rn:List UInt8) (n:Int) (hq:q≤67) (hd:d<256) (ha:a<256) (hb:b<256) (hn:i32 n) (hT:rc<128∧r3<8∧rx<4096∧W=rc+r3*4096+rx*1048576)
  (K18:Hid (∀ w:World,Calls Tryz.prog 46 #[.int .u8 ((q:Int)+1)] w fun en w'=>en=.returned (.tuple #[.agg #[.int .u8 ((q:Int)+1),.string ⟨rn.toArray⟩,.int .i64 8,.int .u32 (rc:Int),.int .u32 (r3:Int),.int .u32 (rx:Int)],.bool true])∧Below w.heap.size w w')) (w:World) :
  Calls Tryz.prog 15 #[.agg #[.int .u8 ((q:Int)+1),.int .u8 (d:Int),.int .u8 (a:Int),.int .u8 (b:Int),.int .i32 n]] w fun en w'=>en=.returned (putV 8 W d a b n)∧Below w.heap.size w w':=by
 have k19:∀ w:World,Calls Tryz.prog 47 #[.agg #[.int .u8 ((q:Int)+1),.string ⟨rn.toArray⟩,.int .i64 8,.int .u32 (rc:Int),.int .u32 (r3:Int),.int .u32 (rx:Int)],.agg #[.int .u8 ((q:Int)+1),.int .u8 (d:Int),.int .u8 (a:Int),.int .u8 (b:Int),.int .i32 n]] w fun en w'=>en=.returned (.bool (okF 8 d a b n))∧Below w.heap.size w w':=fun w=>by
  have:=fields8 (q+1) rc r3 rx d a b ⟨rn.toArray⟩ n hd ha hb hn w
  rw [Int.natCast_add] at this
  exact this
 have hV:putV 8 W d a b n=if okF 8 d a b n=true then .tuple #[.int .u32 (wordF 8 W d a b n:Int),.int .i64 0] else .tuple #[.int .u32 0,.int .i64 2]:=rfl
 rw [hV]
 clear hV
 have hu:=u32_cast n
 have hul:=u32_lt n
 have ho:okF 8 d a b n=true→∃ (V0 V1 V2 V3:Nat),bits .or .u32 (rc:Int) ((r3:Int)*4096)=(V0:Int)∧bits .or .u32 (V0:Int) ((d:Int)*128)=(V1:Int)∧bits .or .u32 (V1:Int) ((a:Int)*32768)=(V2:Int)∧bits .or .u32 (V2:Int) ((rx:Int)*1048576)=(V3:Int)∧V3=wordF 8 W d a b n∧d<16∧a<16∧b<16:=by
  intro hk
  simp only [okF,Bool.and_eq_true] at hk
  obtain ⟨kd,ka,kb,km⟩:=hk
  have ld:=regOk_lt _ _ kd
  have la:=regOk_lt _ _ ka
  have lb:=regOk_lt _ _ kb
  have b0:=regOk_no _ kb
  simp only [mayF,decide_eq_true_eq] at km
  obtain ⟨hc,h3,hx,hW⟩:=hT
  obtain ⟨V0,s0,e0⟩:=or32' rc r3 12 3 4096 8 (r3*4096) rfl rfl rfl (by rw [Nat.div_eq_of_lt (by omega)]) (by omega) (by omega)
  obtain ⟨V1,s1,e1⟩:=or32' V0 d 7 5 128 32 (d*128) rfl rfl rfl (by omega) (by omega) (by omega)
  obtain ⟨V2,s2,e2⟩:=or32' V1 a 15 5 32768 32 (a*32768) rfl rfl rfl (by omega) (by omega) (by omega)
  obtain ⟨V3,s3,e3⟩:=or32' V2 rx 20 12 1048576 4096 (rx*1048576) rfl rfl rfl (by omega) (by omega) (by omega)
  refine ⟨V0,V1,V2,V3,e0,e1,e2,e3,?_,by omega,by omega,by omega⟩
  show _=W+d*128+a*32768+b*1048576+putF 8 n
  simp only [putF]
  omega
 have hr3:r3<8:=by omega
 have hrx:rx<4096:=by omega
 have HO:=Lib.hid ho
 clear ho hT
 generalize wordF 8 W d a b n=V at *
 generalize okF 8 d a b n=O at *
 generalize u32 n=u at *
 have K19:=Lib.hid k19
 clear k19
 go_enter Tryz.func15,Tryz.ntmps15
 go_wp2_with fail
 refine (K18.out _).mono ?_
 rintro _ w1 ⟨rfl,b1⟩
 have q1:=b1.size
 simp at q1
 have l1:w.heap.size<w1.heap.size:=by omega
 have l0:w.heap.size<w.heap.size+1:=by omega
 have f1:Below w.heap.size w w1:=((Below.refl _ _).alloc (Nat.le_refl _) _).trans (b1.mono (by simp))
 obtain ⟨hc1,hf1⟩:=bcell b1
 clear b1
 go_wp2_with fail
 refine (K19.out _).mono ?_
 rintro _ w2 ⟨rfl,b2⟩
 have q2:=b2.size
 simp at q2
 have l2:w.heap.size<w2.heap.size:=by omega
 have l3:w1.heap.size<w2.heap.size:=by omega
 have l4:w.heap.size<w1.heap.size+1:=by omega
 have f2:Below w.heap.size w w2:=(f1.alloc (by omega) _).trans (b2.mono (by simp;omega))
 obtain ⟨hc2,hf2⟩:=bcell b2
 clear b2
 cases O
 ·go_wp2_with fail
  go_ret2
  exact ⟨rfl,f2⟩
 obtain ⟨V0,V1,V2,V3,e0,e1,e2,e3,eV,ld,la,lb⟩:=HO.out rfl
 have EV:=Lib.hid eV
 clear eV HO
 have x3:IntKind.u32.wrap (d:Int)=d:=by rw [IntKind.wrap_u32'];omega
 have x4:IntKind.u32.wrap (a:Int)=a:=by rw [IntKind.wrap_u32'];omega
 have x5:IntKind.u32.wrap (b:Int)=b:=by rw [IntKind.wrap_u32'];omega
 have x6:IntKind.u32.wrap ((d:Int)*128)=d*128:=by rw [IntKind.wrap_u32'];omega
 have x7:IntKind.u32.wrap ((a:Int)*32768)=a*32768:=by rw [IntKind.wrap_u32'];omega
 have x8:IntKind.u32.wrap ((b:Int)*1048576)=b*1048576:=by rw [IntKind.wrap_u32'];omega
 have y0:(r3:Int)*4096%4294967296=r3*4096:=by omega
 have y3:(rx:Int)*1048576%4294967296=rx*1048576:=by omega
 go_wp2_with fail
 go_quiet (fail)
 go_wp2_with fail
 go_ret2
 refine ⟨?_,below_drewN f2 _⟩
 rw [←EV.out]
 rfl
set_option maxRecDepth 100000 in
set_option maxHeartbeats 4000000 in
theorem refPut9 (q W d a b rc r3 rx:Nat) (rn:List UInt8) (n:Int) (hq:q≤67) (hd:d<256) (ha:a<256) (hb:b<256) (hn:i32 n) (hT:rc<128∧r3<8∧rx<128∧W=rc+r3*4096+rx*33554432)
  (K18:Hid (∀ w:World,Calls Tryz.prog 46 #[.int .u8 ((q:Int)+1)] w fun en w'=>en=.returned (.tuple #[.agg #[.int .u8 ((q:Int)+1),.string ⟨rn.toArray⟩,.int .i64 9,.int .u32 (rc:Int),.int .u32 (r3:Int),.int .u32 (rx:Int)],.bool true])∧Below w.heap.size w w')) (w:World) :
  Calls Tryz.prog 15 #[.agg #[.int .u8 ((q:Int)+1),.int .u8 (d:Int),.int .u8 (a:Int),.int .u8 (b:Int),.int .i32 n]] w fun en w'=>en=.returned (putV 9 W d a b n)∧Below w.heap.size w w':=by
 have k19:∀ w:World,Calls Tryz.prog 47 #[.agg #[.int .u8 ((q:Int)+1),.string ⟨rn.toArray⟩,.int .i64 9,.int .u32 (rc:Int),.int .u32 (r3:Int),.int .u32 (rx:Int)],.agg #[.int .u8 ((q:Int)+1),.int .u8 (d:Int),.int .u8 (a:Int),.int .u8 (b:Int),.int .i32 n]] w fun en w'=>en=.returned (.bool (okF 9 d a b n))∧Below w.heap.size w w':=fun w=>by
  have:=fields9 (q+1) rc r3 rx d a b ⟨rn.toArray⟩ n hd ha hb hn w
  rw [Int.natCast_add] at this
  exact this
 have hV:putV 9 W d a b n=if okF 9 d a b n=true then .tuple #[.int .u32 (wordF 9 W d a b n:Int),.int .i64 0] else .tuple #[.int .u32 0,.int .i64 2]:=rfl
 rw [hV]
 clear hV
 have hu:=u32_cast n
 have hul:=u32_lt n
 have ho:okF 9 d a b n=true→∃ (V0 V1 V2 V3 V4:Nat),bits .or .u32 (rc:Int) ((r3:Int)*4096)=(V0:Int)∧bits .or .u32 (V0:Int) ((d:Int)*128)=(V1:Int)∧bits .or .u32 (V1:Int) ((a:Int)*32768)=(V2:Int)∧bits .or .u32 (V2:Int) (((u32 n:Nat):Int)*1048576)=(V3:Int)∧bits .or .u32 (V3:Int) ((rx:Int)*33554432)=(V4:Int)∧V4=wordF 9 W d a b n∧d<16∧a<16∧b<16∧u32 n<32:=by
  intro hk
  simp only [okF,Bool.and_eq_true] at hk
  obtain ⟨kd,ka,kb,km⟩:=hk
  have ld:=regOk_lt _ _ kd
  have la:=regOk_lt _ _ ka
  have lb:=regOk_lt _ _ kb
  have b0:=regOk_no _ kb
  simp only [mayF,decide_eq_true_eq] at km
  obtain ⟨hc,h3,hx,hW⟩:=hT
  obtain ⟨V0,s0,e0⟩:=or32' rc r3 12 3 4096 8 (r3*4096) rfl rfl rfl (by rw [Nat.div_eq_of_lt (by omega)]) (by omega) (by omega)
  obtain ⟨V1,s1,e1⟩:=or32' V0 d 7 5 128 32 (d*128) rfl rfl rfl (by omega) (by omega) (by omega)
  obtain ⟨V2,s2,e2⟩:=or32' V1 a 15 5 32768 32 (a*32768) rfl rfl rfl (by omega) (by omega) (by omega)
  have hu5:u32 n<32:=by omega
  obtain ⟨V3,s3,e3⟩:=or32' V2 (u32 n) 20 5 1048576 32 (u32 n*1048576) rfl rfl rfl (by omega) (by omega) (by omega)
  obtain ⟨V4,s4,e4⟩:=or32' V3 rx 25 7 33554432 128 (rx*33554432) rfl rfl rfl (by omega) (by omega) (by omega)
  refine ⟨V0,V1,V2,V3,V4,e0,e1,e2,e3,e4,?_,by omega,by omega,by omega,hu5⟩
  show _=W+d*128+a*32768+b*1048576+putF 9 n
  simp only [putF]
  omega
 have hr3:r3<8:=by omega
 have hrx:rx<128:=by omega
 have HO:=Lib.hid ho
 clear ho hT
 generalize wordF 9 W d a b n=V at *
 generalize okF 9 d a b n=O at *
 generalize u32 n=u at *
 have K19:=Lib.hid k19
 clear k19
 go_enter Tryz.func15,Tryz.ntmps15
 go_wp2_with fail
 refine (K18.out _).mono ?_
 rintro _ w1 ⟨rfl,b1⟩
 have q1:=b1.size
 simp at q1
 have l1:w.heap.size<w1.heap.size:=by omega
 have l0:w.heap.size<w.heap.size+1:=by omega
 have f1:Below w.heap.size w w1:=((Below.refl _ _).alloc (Nat.le_refl _) _).trans (b1.mono (by simp))
 obtain ⟨hc1,hf1⟩:=bcell b1
 clear b1
 go_wp2_with fail
 refine (K19.out _).mono ?_
 rintro _ w2 ⟨rfl,b2⟩
 have q2:=b2.size
 simp at q2
 have l2:w.heap.size<w2.heap.size:=by omega
 have l3:w1.heap.size<w2.heap.size:=by omega
 have l4:w.heap.size<w1.heap.size+1:=by omega
 have f2:Below w.heap.size w w2:=(f1.alloc (by omega) _).trans (b2.mono (by simp;omega))
 obtain ⟨hc2,hf2⟩:=bcell b2
 clear b2
 cases O
 ·go_wp2_with fail
  go_ret2
  exact ⟨rfl,f2⟩
 obtain ⟨V0,V1,V2,V3,V4,e0,e1,e2,e3,e4,eV,ld,la,lb,hu5⟩:=HO.out rfl
 have EV:=Lib.hid eV
 clear eV HO
 have x3:IntKind.u32.wrap (d:Int)=d:=by rw [IntKind.wrap_u32'];omega
 have x4:IntKind.u32.wrap (a:Int)=a:=by rw [IntKind.wrap_u32'];omega
 have x5:IntKind.u32.wrap (b:Int)=b:=by rw [IntKind.wrap_u32'];omega
 have x6:IntKind.u32.wrap ((d:Int)*128)=d*128:=by rw [IntKind.wrap_u32'];omega
 have x7:IntKind.u32.wrap ((a:Int)*32768)=a*32768:=by rw [IntKind.wrap_u32'];omega
 have x8:IntKind.u32.wrap ((b:Int)*1048576)=b*1048576:=by rw [IntKind.wrap_u32'];omega
 have y0:(r3:Int)*4096%4294967296=r3*4096:=by omega
 have y3:(u:Int)*1048576%4294967296=u*1048576:=by omega
 have y4:(rx:Int)*33554432%4294967296=rx*33554432:=by omega
 go_wp2_with fail
 go_quiet (fail)
 go_wp2_with fail
 go_ret2
 refine ⟨?_,below_drewN f2 _⟩
 rw [←EV.out]
 rfl
set_option maxRecDepth 100000 in
set_option maxHeartbeats 4000000 in
theorem refPut10 (q W d a b rc r3 rx:Nat) (rn:List UInt8) (n:Int) (hq:q≤67) (hd:d<256) (ha:a<256) (hb:b<256) (hn:i32 n) (hT:r3=0∧W=rc∧rc<4294967296)
  (K18:Hid (∀ w:World,Calls Tryz.prog 46 #[.int .u8 ((q:Int)+1)] w fun en w'=>en=.returned (.tuple #[.agg #[.int .u8 ((q:Int)+1),.string ⟨rn.toArray⟩,.int .i64 10,.int .u32 (rc:Int),.int .u32 (r3:Int),.int .u32 (rx:Int)],.bool true])∧Below w.heap.size w w')) (w:World) :
  Calls Tryz.prog 15 #[.agg #[.int .u8 ((q:Int)+1),.int .u8 (d:Int),.int .u8 (a:Int),.int .u8 (b:Int),.int .i32 n]] w fun en w'=>en=.returned (putV 10 W d a b n)∧Below w.heap.size w w':=by
 have k19:∀ w:World,Calls Tryz.prog 47 #[.agg #[.int .u8 ((q:Int)+1),.string ⟨rn.toArray⟩,.int .i64 10,.int .u32 (rc:Int),.int .u32 (r3:Int),.int .u32 (rx:Int)],.agg #[.int .u8 ((q:Int)+1),.int .u8 (d:Int),.int .u8 (a:Int),.int .u8 (b:Int),.int .i32 n]] w fun en w'=>en=.returned (.bool (okF 10 d a b n))∧Below w.heap.size w w':=fun w=>by
  have:=fields10 (q+1) rc r3 rx d a b ⟨rn.toArray⟩ n hd ha hb hn w
  rw [Int.natCast_add] at this
  exact this
 have hV:putV 10 W d a b n=if okF 10 d a b n=true then .tuple #[.int .u32 (wordF 10 W d a b n:Int),.int .i64 0] else .tuple #[.int .u32 0,.int .i64 2]:=rfl
 rw [hV]
 clear hV
 have hu:=u32_cast n
 have hul:=u32_lt n
 have ho:okF 10 d a b n=true→∃ (V0:Nat),bits .or .u32 (rc:Int) ((r3:Int)*4096)=(V0:Int)∧V0=wordF 10 W d a b n∧d<16∧a<16∧b<16:=by
  intro hk
  simp only [okF,Bool.and_eq_true] at hk
  obtain ⟨kd,ka,kb,km⟩:=hk
  have ld:=regOk_lt _ _ kd
  have la:=regOk_lt _ _ ka
  have lb:=regOk_lt _ _ kb
  have d0:=regOk_no _ kd
  have a0:=regOk_no _ ka
  have b0:=regOk_no _ kb
  simp only [mayF,decide_eq_true_eq] at km
  obtain ⟨h3,hW,hc⟩:=hT
  obtain ⟨V0,s0,e0⟩:∃ S:Nat,S=rc∧bits .or .u32 (rc:Int) ((r3:Int)*4096)=(S:Int):=⟨rc,rfl,by rw [h3,show ((0:Nat):Int)*4096=((0:Nat):Int) from rfl,u32_or_nat _ _ hc (by omega),Nat.or_zero]⟩
  refine ⟨V0,e0,?_,by omega,by omega,by omega⟩
  show _=W+d*128+a*32768+b*1048576+putF 10 n
  simp only [putF]
  omega
 have hr3:r3<8:=by omega
 have HO:=Lib.hid ho
 clear ho hT
 generalize wordF 10 W d a b n=V at *
 generalize okF 10 d a b n=O at *
 generalize u32 n=u at *
 have K19:=Lib.hid k19
 clear k19
 go_enter Tryz.func15,Tryz.ntmps15
 go_wp2_with fail
 refine (K18.out _).mono ?_
 rintro _ w1 ⟨rfl,b1⟩
 have q1:=b1.size
 simp at q1
 have l1:w.heap.size<w1.heap.size:=by omega
 have l0:w.heap.size<w.heap.size+1:=by omega
 have f1:Below w.heap.size w w1:=((Below.refl _ _).alloc (Nat.le_refl _) _).trans (b1.mono (by simp))
 obtain ⟨hc1,hf1⟩:=bcell b1
 clear b1
 go_wp2_with fail
 refine (K19.out _).mono ?_
 rintro _ w2 ⟨rfl,b2⟩
 have q2:=b2.size
 simp at q2
 have l2:w.heap.size<w2.heap.size:=by omega
 have l3:w1.heap.size<w2.heap.size:=by omega
 have l4:w.heap.size<w1.heap.size+1:=by omega
 have f2:Below w.heap.size w w2:=(f1.alloc (by omega) _).trans (b2.mono (by simp;omega))
 obtain ⟨hc2,hf2⟩:=bcell b2
 clear b2
 cases O
 ·go_wp2_with fail
  go_ret2
  exact ⟨rfl,f2⟩
 obtain ⟨V0,e0,eV,ld,la,lb⟩:=HO.out rfl
 have EV:=Lib.hid eV
 clear eV HO
 have x3:IntKind.u32.wrap (d:Int)=d:=by rw [IntKind.wrap_u32'];omega
 have x4:IntKind.u32.wrap (a:Int)=a:=by rw [IntKind.wrap_u32'];omega
 have x5:IntKind.u32.wrap (b:Int)=b:=by rw [IntKind.wrap_u32'];omega
 have x6:IntKind.u32.wrap ((d:Int)*128)=d*128:=by rw [IntKind.wrap_u32'];omega
 have x7:IntKind.u32.wrap ((a:Int)*32768)=a*32768:=by rw [IntKind.wrap_u32'];omega
 have x8:IntKind.u32.wrap ((b:Int)*1048576)=b*1048576:=by rw [IntKind.wrap_u32'];omega
 have y0:(r3:Int)*4096%4294967296=r3*4096:=by omega
 go_wp2_with fail
 go_quiet (fail)
 go_wp2_with fail
 go_ret2
 refine ⟨?_,below_drewN f2 _⟩
 rw [←EV.out]
 rfl
def refT (f W rc r3 rx:Nat):Bool :=
 match f with
 | 10=>decide (r3=0∧W=rc∧rc<4294967296)
 | 0=>decide (rc<128∧r3=0∧W=rc)
 | 1=>decide (rc<128∧r3=0∧W=rc)
 | 2=>decide (rc<128∧r3<8∧W=rc+r3*4096)
 | 3=>decide (rc<128∧r3<8∧W=rc+r3*4096)
 | 5=>decide (rc<128∧r3<8∧W=rc+r3*4096)
 | 6=>decide (rc<128∧r3<8∧W=rc+r3*4096)
 | 8=>decide (rc<128∧r3<8∧rx<4096∧W=rc+r3*4096+rx*1048576)
 | _=>decide (rc<128∧r3<8∧rx<128∧W=rc+r3*4096+rx*33554432)
theorem RQ_ok:∀ q:Fin 68,(RQ q.val).2.1=FL q.val∧refT (FL q.val) (WL q.val) (RQ q.val).2.2.1 (RQ q.val).2.2.2.1 (RQ q.val).2.2.2.2=true:=by decide +kernel
set_option maxHeartbeats 1000000 in
set_option maxRecDepth 100000 in
theorem refNo (o d a b:Nat) (n:Int) (ho:o=0∨68<o) (ho2:o<256) (w:World):Calls Tryz.prog 15 #[insV o d a b n] w fun en w'=>en=.returned (weV (0,2))∧Below w.heap.size w w':=by
 have k:=fun w=>c18 o ho2 w
 have e:row18 o=.tuple #[.agg #[.int .u8 0,.string ⟨#[]⟩,.int .i64 0,.int .u32 0,.int .u32 0,.int .u32 0],.bool false]:=by unfold row18;rw [if_pos ho]
 rw [e] at k
 have K:=Lib.hid k
 clear k e ho
 unfold insV
 go_enter Tryz.func15,Tryz.ntmps15
 go_wp2_with fail
 refine (K.out _).mono ?_
 rintro _ w1 ⟨rfl,b1⟩
 have q1:=b1.size
 simp at q1
 have f1:Below w.heap.size w w1:=((Below.refl _ _).alloc (Nat.le_refl _) _).trans (b1.mono (by simp))
 clear b1
 go_wp2_with fail
 go_ret2
 exact ⟨rfl,f1.alloc (by omega) _⟩
theorem c8 (o d a b:Nat) (n:Int) (ho:o<256) (hd:d<256) (ha:a<256) (hb:b<256) (hn:i32 n) (w:World) :
  Calls Tryz.prog 15 #[insV o d a b n] w fun en w'=>en=.returned (weV (put o d a b n))∧Below w.heap.size w w':=by
 by_cases h0:o=0∨68<o
 ·have e:put o d a b n=(0,2):=by unfold put;rw [if_pos h0]
  rw [e]
  exact refNo o d a b n h0 ho w
 obtain ⟨q,rfl⟩:∃ q,o=q+1:=⟨o-1,by omega⟩
 rw [weV_put q d a b n (by omega)]
 obtain ⟨h1,h2⟩:=RQ_ok ⟨q,by omega⟩
 have hle:=(FL_free ⟨q,by omega⟩).2
 simp only at h1 h2 hle
 obtain ⟨rn,rf,rc,r3,rx,hRQ⟩:∃ (rn:List UInt8) (rf rc r3 rx:Nat),RQ q=(rn,rf,rc,r3,rx):=⟨_,_,_,_,_,rfl⟩
 rw [hRQ] at h1 h2
 simp only at h1 h2
 have k:∀ w:World,Calls Tryz.prog 46 #[.int .u8 ((q:Int)+1)] w fun en w'=>en=.returned (.tuple #[.agg #[.int .u8 ((q:Int)+1),.string ⟨rn.toArray⟩,.int .i64 (FL q:Int),.int .u32 (rc:Int),.int .u32 (r3:Int),.int .u32 (rx:Int)],.bool true])∧Below w.heap.size w w':=fun w=>by
  have:=c18 (q+1) (by omega) w
  unfold row18 rowV at this
  rw [if_neg (by omega),Nat.add_sub_cancel,hRQ,h1,Int.natCast_add] at this
  exact this
 unfold insV
 rw [Int.natCast_add]
 clear hRQ h1
 generalize FL q=f at *
 generalize WL q=W at *
 have hf:f=0∨f=1∨f=2∨f=3∨f=4∨f=5∨f=6∨f=7∨f=8∨f=9∨f=10:=by omega
 rcases hf with rfl | rfl | rfl | rfl | rfl | rfl | rfl | rfl | rfl | rfl | rfl
 ·exact refPut0 q W d a b rc r3 rx rn n (by omega) hd ha hb hn (of_decide_eq_true h2) (Lib.hid k) w
 ·exact refPut1 q W d a b rc r3 rx rn n (by omega) hd ha hb hn (of_decide_eq_true h2) (Lib.hid k) w
 ·exact refPut2 q W d a b rc r3 rx rn n (by omega) hd ha hb hn (of_decide_eq_true h2) (Lib.hid k) w
 ·exact refPut3 q W d a b rc r3 rx rn n (by omega) hd ha hb hn (of_decide_eq_true h2) (Lib.hid k) w
 ·exact refPut4 q W d a b rc r3 rx rn n (by omega) hd ha hb hn (of_decide_eq_true h2) (Lib.hid k) w
 ·exact refPut5 q W d a b rc r3 rx rn n (by omega) hd ha hb hn (of_decide_eq_true h2) (Lib.hid k) w
 ·exact refPut6 q W d a b rc r3 rx rn n (by omega) hd ha hb hn (of_decide_eq_true h2) (Lib.hid k) w
 ·exact refPut7 q W d a b rc r3 rx rn n (by omega) hd ha hb hn (of_decide_eq_true h2) (Lib.hid k) w
 ·exact refPut8 q W d a b rc r3 rx rn n (by omega) hd ha hb hn (of_decide_eq_true h2) (Lib.hid k) w
 ·exact refPut9 q W d a b rc r3 rx rn n (by omega) hd ha hb hn (of_decide_eq_true h2) (Lib.hid k) w
 ·exact refPut10 q W d a b rc r3 rx rn n (by omega) hd ha hb hn (of_decide_eq_true h2) (Lib.hid k) w
end Go.Proofs.YtnkoknfihhdelaaGreatDoor.In
