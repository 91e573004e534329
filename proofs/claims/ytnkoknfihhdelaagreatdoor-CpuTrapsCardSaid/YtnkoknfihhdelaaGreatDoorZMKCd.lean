import Derived.Test.YtnkoknfihhdelaaGreatDoorZMKCb
import Derived.ChangeKeysEq
namespace Go.Proofs.YtnkoknfihhdelaaGreatDoor.Cp
open Go.ChangeShapes Go.WideShapes Go.ChangeAt Go.RowKit
set_option linter.unusedVariables false
set_option maxRecDepth 100000
theorem info5a:∃ i,Tryz.prog.info? 5=some i:=by
 obtain ⟨i0,hi,_⟩:=info_parts En.info5
 exact ⟨i0,hi⟩
theorem cells5a:Tryz.prog.cellsOf 5=1:=by kernel_rfl
theorem eqArr (x0 x1 x2 x3 x4 x5 x6 x7 y0 y1 y2 y3 y4 y5 y6 y7:Nat) (w:World) :
  (Op.equalIn 10000 109 (arr x0 x1 x2 x3 x4 x5 x6 x7) (arr y0 y1 y2 y3 y4 y5 y6 y7)).run Tryz.prog w=.ok (decide (x0=y0∧x1=y1∧x2=y2∧x3=y3∧x4=y4∧x5=y5∧x6=y6∧x7=y7)) w:=by
 obtain ⟨i,hi⟩:=info5a
 rw [run_equalIn_array w 9999 _ _ Tryz.underlying109 hi,cells5a]
 have hr:List.range 8=[0,1,2,3,4,5,6,7]:=rfl
 rw [hr]
 simp only [Op.eqItems,Nat.mul_one]
 go_simp
 simp only [Int.natCast_inj]
 by_cases c0:x0=y0 <;> by_cases c1:x1=y1 <;> by_cases c2:x2=y2 <;> by_cases c3:x3=y3 <;> by_cases c4:x4=y4 <;> by_cases c5:x5=y5 <;> by_cases c6:x6=y6 <;> by_cases c7:x7=y7 <;> simp [c0,c1,c2,c3,c4,c5,c6,c7]
def num4 (a b c d:Nat):Nat:=a+256*(b+256*(c+256*d))
def up (a b c d:Nat):Nat→Nat
 | 0=>0
 | 1=>d
 | 2=>c+256*d
 | 3=>b+256*(c+256*d)
 | _=>num4 a b c d
theorem num4_lt {a b c d:Nat} (h0:a<256) (h1:b<256) (h2:c<256) (h3:d<256):num4 a b c d<4294967296:=by unfold num4;omega
def B2 (w w':World) (X:Array Value):Prop:=Below w.heap.size w w'∧Blk w' w.heap.size 109 X∧Blk w' (w.heap.size+1) 29 #[.bool false,.int .u32 0,.int .u8 0,.int .u8 0,.int .u8 0,.int .u16 0,.int .u16 0]
theorem B2.start (w:World) (X:Array Value):B2 w ((w.alloc (.cells X 109)).alloc (.cells #[.bool false,.int .u32 0,.int .u8 0,.int .u8 0,.int .u8 0,.int .u16 0,.int .u16 0] 29)) X:=by
 refine ⟨((Below.refl _ _).alloc (Nat.le_refl _) _).alloc (by simp) _,(Blk.new _ _ _).alloc _,?_⟩
 have:=Blk.new (w.alloc (.cells X 109)) 29 #[.bool false,.int .u32 0,.int .u8 0,.int .u8 0,.int .u8 0,.int .u16 0,.int .u16 0]
 simpa using this
def f8 (x0 x1 x2 x3 x4 x5 x6 x7 j:Nat):Nat:=if j=0 then x0 else if j=1 then x1 else if j=2 then x2 else if j=3 then x3 else if j=4 then x4 else if j=5 then x5 else if j=6 then x6 else x7
theorem f8_rd {w:World} {g x0 x1 x2 x3 x4 x5 x6 x7:Nat} (h:Blk w g 109 #[.int .u8 (x0:Int),.int .u8 (x1:Int),.int .u8 (x2:Int),.int .u8 (x3:Int),.int .u8 (x4:Int),.int .u8 (x5:Int),.int .u8 (x6:Int),.int .u8 (x7:Int)]) :
  En.Rd w (some ⟨g,0,none⟩) 8 (f8 x0 x1 x2 x3 x4 x5 x6 x7):=fun _=>by
 refine ⟨g,0,rfl,h.lt,fun j hj=>?_⟩
 have:j=0∨j=1∨j=2∨j=3∨j=4∨j=5∨j=6∨j=7:=by omega
 rw [Nat.zero_add]
 rcases this with rfl | rfl | rfl | rfl | rfl | rfl | rfl | rfl
 ·exact h.cell 0
 ·exact h.cell 1
 ·exact h.cell 2
 ·exact h.cell 3
 ·exact h.cell 4
 ·exact h.cell 5
 ·exact h.cell 6
 ·exact h.cell 7
theorem f8_lt {x0 x1 x2 x3 x4 x5 x6 x7:Nat} (h0:x0<256) (h1:x1<256) (h2:x2<256) (h3:x3<256) (h4:x4<256) (h5:x5<256) (h6:x6<256) (h7:x7<256) (j:Nat):f8 x0 x1 x2 x3 x4 x5 x6 x7 j<256:=by
 unfold f8
 repeat' split
 all_goals omega
theorem nm_lo (x0 x1 x2 x3 x4 x5 x6 x7:Nat):En.nm (fun j=>f8 x0 x1 x2 x3 x4 x5 x6 x7 (0+j)) 4=num4 x0 x1 x2 x3:=by
 simp only [En.nm,f8,num4]
 simp
 omega
theorem nm_hi (x0 x1 x2 x3 x4 x5 x6 x7:Nat):En.nm (fun j=>f8 x0 x1 x2 x3 x4 x5 x6 x7 (4+j)) 4=num4 x4 x5 x6 x7:=by
 simp only [En.nm,f8,num4]
 simp
 omega
theorem k45 (x0 x1 x2 x3 x4 x5 x6 x7 g:Nat) (h0:x0<256) (h1:x1<256) (h2:x2<256) (h3:x3<256) (h4:x4<256) (h5:x5<256) (h6:x6<256) (h7:x7<256) (w:World)
  (h:Blk w g 109 #[.int .u8 (x0:Int),.int .u8 (x1:Int),.int .u8 (x2:Int),.int .u8 (x3:Int),.int .u8 (x4:Int),.int .u8 (x5:Int),.int .u8 (x6:Int),.int .u8 (x7:Int)]) :
  Calls Tryz.prog 82 #[.slice (some ⟨g,0,none⟩) 8 8,.int .i64 0,.int .i64 4] w (fun e w'=>e=.returned (.tuple #[.int .u64 (num4 x0 x1 x2 x3:Int),.int .i64 0])∧w=w') ∧
  Calls Tryz.prog 82 #[.slice (some ⟨g,0,none⟩) 8 8,.int .i64 4,.int .i64 4] w (fun e w'=>e=.returned (.tuple #[.int .u64 (num4 x4 x5 x6 x7:Int),.int .i64 0])∧w=w'):=by
 have a:=En.c14 (some ⟨g,0,none⟩) 8 8 0 4 _ w (f8_lt h0 h1 h2 h3 h4 h5 h6 h7) (by omega) (by omega) (f8_rd h) (fun h=>by cases h) (by omega) (by omega)
 have b:=En.c14 (some ⟨g,0,none⟩) 8 8 4 4 _ w (f8_lt h0 h1 h2 h3 h4 h5 h6 h7) (by omega) (by omega) (f8_rd h) (fun h=>by cases h) (by omega) (by omega)
 rw [nm_lo] at a
 rw [nm_hi] at b
 exact ⟨a,b⟩
theorem bd (a k:Nat) (ha:a<18446744073709551616) (hk:2 ^ k-1<18446744073709551616) (P:Int) (hP:P=((2 ^ k-1:Nat):Int)):bits .and .u64 (a:Int) P=((a%2 ^ k:Nat):Int):=by
 subst hP
 rw [u64_and_nat a _ ha hk,Nat.and_two_pow_sub_one_eq_mod]
set_option maxHeartbeats 8000000 in
theorem cb13w (x0 x1 x2 x3 x4 x5 x6 x7 NA NM P D1 Y D2 E D3 B D4 T:Nat) (tag z:Bool) (w:World) (hA:NA<4294967296) (hM:NM<4294967296)
  (HQ:∀ w:World,(Op.equalIn 10000 109 (arr x0 x1 x2 x3 x4 x5 x6 x7) (.agg #[.int .u8 0,.int .u8 0,.int .u8 0,.int .u8 0,.int .u8 0,.int .u8 0,.int .u8 0,.int .u8 0])).run Tryz.prog w=.ok z w)
  (hz:z=true→NA=0∧P=0∧Y=0∧E=0∧B=0∧T=0)
  (K45:∀ (w:World) (g:Nat),Blk w g 109 #[.int .u8 (x0:Int),.int .u8 (x1:Int),.int .u8 (x2:Int),.int .u8 (x3:Int),.int .u8 (x4:Int),.int .u8 (x5:Int),.int .u8 (x6:Int),.int .u8 (x7:Int)] →
   Calls Tryz.prog 82 #[.slice (some ⟨g,0,none⟩) 8 8,.int .i64 0,.int .i64 4] w (fun e w'=>e=.returned (.tuple #[.int .u64 (NA:Int),.int .i64 0])∧w=w') ∧
   Calls Tryz.prog 82 #[.slice (some ⟨g,0,none⟩) 8 8,.int .i64 4,.int .i64 4] w (fun e w'=>e=.returned (.tuple #[.int .u64 (NM:Int),.int .i64 0])∧w=w'))
  (l1:P<128) (l2:Y<8) (l3:E<16) (l4:B<512) (l5:T<512)
  (f1:bits .and .u64 (NM:Int) 127=(P:Int)) (f2:(NM:Int)/128=(D1:Int)) (f3:bits .and .u64 (D1:Int) 7=(Y:Int)) (f4:(NM:Int)/1024=(D2:Int)) (f5:bits .and .u64 (D2:Int) 15=(E:Int)) (f6:(NM:Int)/16384=(D3:Int)) (f7:bits .and .u64 (D3:Int) 511=(B:Int)) (f8:(NM:Int)/8388608=(D4:Int)) (f9:bits .and .u64 (D4:Int) 511=(T:Int)) :
  Calls Tryz.prog 52 #[arr x0 x1 x2 x3 x4 x5 x6 x7,.bool tag] w fun en w'=>en=.returned (cp tag NA P Y E B T)∧Below w.heap.size w w':=by
 have hst:=B2.start w #[.int .u8 (x0:Int),.int .u8 (x1:Int),.int .u8 (x2:Int),.int .u8 (x3:Int),.int .u8 (x4:Int),.int .u8 (x5:Int),.int .u8 (x6:Int),.int .u8 (x7:Int)]
 have HS:=Lib.hid hst
 have HZ:=Lib.hid hz
 have HK:=Lib.hid K45
 clear hst hz K45
 cases z with
 | true =>
  obtain ⟨rfl,rfl,rfl,rfl,rfl,rfl⟩:=HZ.out rfl
  clear f1 f2 f3 f4 f5 f6 f7 f8 f9 HZ HK
  go_enter Tryz.func52,Tryz.ntmps52
  go_wp2_with fail
  exact bodyPost_ret (v:=cp tag 0 0 0 0 0 0) (by simp [results,Tryz.results52,go_sem]) rfl ⟨rfl,((Below.refl _ _).alloc (Nat.le_refl _) _).alloc (by simp) _⟩
 | false =>
  clear HZ
  go_enter Tryz.func52,Tryz.ntmps52
  go_wp2_with fail
  refine (HK.out _ _ HS.out.2.1).1.mono ?_
  rintro _ _ ⟨rfl,rfl⟩
  go_wp2_with fail
  refine (HK.out _ _ HS.out.2.1).2.mono ?_
  rintro _ _ ⟨rfl,rfl⟩
  clear HK HQ
  go_wp2_with fail
  exact bodyPost_ret (v:=cp tag NA P Y E B T) (by simp [results,Tryz.results52,go_sem]) rfl ⟨rfl,((Below.refl _ _).alloc (Nat.le_refl _) _).alloc (by simp) _⟩
theorem cb13 (x0 x1 x2 x3 x4 x5 x6 x7:Nat) (tag:Bool) (h0:x0<256) (h1:x1<256) (h2:x2<256) (h3:x3<256) (h4:x4<256) (h5:x5<256) (h6:x6<256) (h7:x7<256) (w:World) :
  Calls Tryz.prog 52 #[arr x0 x1 x2 x3 x4 x5 x6 x7,.bool tag] w fun en w'=>en=.returned (cp tag (num4 x0 x1 x2 x3) (num4 x4 x5 x6 x7%128) (num4 x4 x5 x6 x7/128%8) (num4 x4 x5 x6 x7/1024%16) (num4 x4 x5 x6 x7/16384%512) (num4 x4 x5 x6 x7/8388608%512))∧Below w.heap.size w w':=by
 have hA:=num4_lt h0 h1 h2 h3
 have hM:=num4_lt h4 h5 h6 h7
 refine cb13w x0 x1 x2 x3 x4 x5 x6 x7 _ (num4 x4 x5 x6 x7) _ (num4 x4 x5 x6 x7/128) _ (num4 x4 x5 x6 x7/1024) _ (num4 x4 x5 x6 x7/16384) _ (num4 x4 x5 x6 x7/8388608) _ tag _ w hA hM (eqArr x0 x1 x2 x3 x4 x5 x6 x7 0 0 0 0 0 0 0 0) ?_ (fun w g h=>k45 x0 x1 x2 x3 x4 x5 x6 x7 g h0 h1 h2 h3 h4 h5 h6 h7 w h) (by omega) (by omega) (by omega) (by omega) (by omega)
  (bd _ 7 (by omega) (by omega) 127 rfl) rfl (bd _ 3 (by omega) (by omega) 7 rfl) rfl (bd _ 4 (by omega) (by omega) 15 rfl) rfl (bd _ 9 (by omega) (by omega) 511 rfl) rfl (bd _ 9 (by omega) (by omega) 511 rfl)
 intro h
 simp only [decide_eq_true_eq] at h
 obtain ⟨rfl,rfl,rfl,rfl,rfl,rfl,rfl,rfl⟩:=h
 simp [num4]
end Go.Proofs.YtnkoknfihhdelaaGreatDoor.Cp
