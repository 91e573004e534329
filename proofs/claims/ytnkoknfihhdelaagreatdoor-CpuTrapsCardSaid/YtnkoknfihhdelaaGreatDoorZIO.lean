import Derived.Test.YtnkoknfihhdelaaGreatDoorZIFc
import Derived.Laws.Rows
import Derived.Deep.Cut
import Derived.Deep.CutRange
import Derived.Laws.EntriesVeiled
namespace Go.Proofs.YtnkoknfihhdelaaGreatDoor.In
open Go.ChangeShapes Go.WideShapes Go.ChangeAt Go.RowKit
set_option linter.unusedVariables false
set_option maxRecDepth 100000
def hit (w q:Nat):Nat:=(w ^^^ WL q) &&& XL (FL q)
def opL (w:Nat):Nat→Nat
 | 0=>0
 | j+1=>if hit w (67-j)=0 then 68-j else opL w j
theorem opL_step (w k:Nat) (hk:k<68):opL w (68-k)=if hit w k=0 then k+1 else opL w (68-(k+1)):=by
 rw [show 68-k=(67-k)+1 by omega,opL,show 67-(67-k)=k by omega,show 68-(67-k)=k+1 by omega,show 68-(k+1)=67-k by omega]
theorem tabs:∀ q:Fin 68,WL q.val<4294967296∧XL (FL q.val)<4294967296∧FL q.val<11:=by decide +kernel
theorem u47:Tryz.prog.underlying 169=some (.array 68 25):=by kernel_rfl
theorem ix (k:Nat) (hk:k<68) (w:World):(Instr.index 169 (.agg WA) (.int .i64 (k:Int))).run Tryz.prog w=.ok (.int .u32 (WL k:Int)) w:=by
 have e:=WA_at k hk
 simp [Instr.index,asIntOf,run_underlying u47,part,e]
 omega
set_option maxHeartbeats 1000000 in
theorem c21 (n:Nat) (hn:n<4294967296) (w:World) (hg:Glob w):Calls Tryz.prog 126 #[.int .u32 (n:Int)] w fun en w'=>en=.returned (.int .u8 (opL n 68:Int))∧w=w':=by
 obtain ⟨t,fr,hw⟩:=hg.2.1
 go_enter Tryz.func126,Tryz.ntmps126
 go_wp2_with (refine wpList_load_row rfl _ _ rfl 1 rfl t WA fr (.array 68 25) hw u47 rfl (by kernel_rfl) ?_)
 go_loop [3,4,6] (fun _ _ i=>∃ k:Nat,k≤68∧i=.int .i64 (k:Int)∧Hid (opL n (68-k)=opL n 68)) (fun _ _ i=>68-(intOf i).toNat)
 case atStart=>exact ⟨0,by omega,rfl,rfl⟩
 case round =>
  obtain ⟨k,hk,rfl,hx⟩:=hrel
  by_cases hlt:k<68
  ·rw [opL_step n k hlt] at hx
   obtain ⟨l1,l2,l3⟩:=tabs ⟨k,hlt⟩
   simp only at l1 l2 l3
   have hix:=ix k hlt
   have c0:=hg.f k hlt
   have c2:=hg.x (FL k) l3
   have e1:=u32_xor_nat n (WL k) hn l1
   have hxl:n ^^^ WL k<4294967296:=Nat.xor_lt_two_pow (n:=32) hn l1
   have e2:=u32_and_nat (n ^^^ WL k) (XL (FL k)) hxl l2
   have hh:hit n k=(n ^^^ WL k) &&& XL (FL k):=rfl
   rw [←hh] at e2
   clear hh
   generalize hit n k=M at *
   generalize n ^^^ WL k=Y at *
   generalize XL (FL k)=X at *
   generalize WL k=V at *
   generalize FL k=f at *
   by_cases hM:M=0
   ·subst hM
    rw [if_pos rfl] at hx
    go_wp2_with fail
    go_ret
    exact ⟨ret1 (by rw [←hx.out];omega),rfl⟩
   ·rw [if_neg hM] at hx
    have hM2:((M:Int)==0)=false:=by simp;omega
    go_wp2_with fail
    go_round
    case rel=>exact ⟨k+1,by omega,by go_num,hx⟩
    case measure=>simp [intOf];omega
  ·obtain rfl:k=68:=by omega
   go_wp2_with fail
   go_ret
   exact ⟨ret1 (by rw [←hx.out];rfl),rfl⟩
def hasN (f:Nat):Int:=[9,9,11,11,11,14,14,7,3,11,0].getD f 0
theorem hasN_bits:∀ f:Fin 11,(bits .and .i64 (hasN f.val) 1 != 0)=hasD f.val∧(bits .and .i64 (hasN f.val) 2 != 0)=hasA f.val∧(bits .and .i64 (hasN f.val) 4 != 0)=hasB f.val:=by decide +kernel
def Gets (f:Nat) (g:FuncId) (caps:Array Value) (w1:World):Prop :=
 (∀ (args:Array Value) (w:World),(callFunc g args).run Tryz.prog w=.ok (.enter g args) w)∧∀ (n:Nat) (w':World),n<4294967296→Below w1.heap.size w1 w'→Calls Tryz.prog g (#[.int .u32 (n:Int)]++caps) w' fun en w''=>en=.returned (.int .i32 (getF f n))∧w'=w''
def FormG (f:Nat):Prop:=∀ (N:Nat) (w:World),w.heap.size=N→Calls Tryz.prog 127 #[.int .u8 (f:Int)] w fun en w'=>∃ (g:FuncId) (caps:Array Value) (gm:FuncId) (cm:Array Value) (gp:FuncId) (cp:Array Value),
 en=.returned (.agg #[.int .i64 (hasN f),.func (Fn.func gm) #[] cm,.func (Fn.func gp) #[] cp,.func (Fn.func g) #[] caps])∧Below N w w'∧N+1≤w'.heap.size∧Gets f g caps w'
theorem cf29 (args:Array Value) (w:World):(callFunc 155 args).run Tryz.prog w=.ok (.enter 155 args) w:=by kernel_rfl
theorem cf32 (args:Array Value) (w:World):(callFunc 158 args).run Tryz.prog w=.ok (.enter 158 args) w:=by kernel_rfl
theorem cf33 (args:Array Value) (w:World):(callFunc 159 args).run Tryz.prog w=.ok (.enter 159 args) w:=by kernel_rfl
theorem cf37 (args:Array Value) (w:World):(callFunc 163 args).run Tryz.prog w=.ok (.enter 163 args) w:=by kernel_rfl
theorem cf39 (args:Array Value) (w:World):(callFunc 165 args).run Tryz.prog w=.ok (.enter 165 args) w:=by kernel_rfl
theorem cf50 (args:Array Value) (w:World):(callFunc 180 args).run Tryz.prog w=.ok (.enter 180 args) w:=by kernel_rfl
theorem formG0:FormG 0:=fun N w hN=>by
 refine (form0 N w hN).mono ?_
 rintro _ w1 ⟨rfl,hb,hs,h0,h1⟩
 exact ⟨155,#[],_,_,_,_,rfl,hb,by omega,cf29,fun n w2 hn hb2=>get0 n hn w2⟩
theorem formG1:FormG 1:=fun N w hN=>by
 refine (form1 N w hN).mono ?_
 rintro _ w1 ⟨rfl,hb,hs,h0,h1⟩
 exact ⟨158,#[],_,_,_,_,rfl,hb,by omega,cf32,fun n w2 hn hb2=>get1 n hn w2⟩
theorem formG2:FormG 2:=fun N w hN=>by
 refine (form2 N w hN).mono ?_
 rintro _ w1 ⟨rfl,hb,hs,h0,h1,h2⟩
 exact ⟨159,#[],_,_,_,_,rfl,hb,by omega,cf33,fun n w2 hn hb2=>get2 n hn w2⟩
theorem formG3:FormG 3:=fun N w hN=>by
 refine (form3 N w hN).mono ?_
 rintro _ w1 ⟨rfl,hb,hs,h0,h1,h2,h3,h4⟩
 exact ⟨180,#[.pointer (some ⟨N+4,0,none⟩),.pointer (some ⟨N+5,0,none⟩)],_,_,_,_,rfl,hb,by omega,cf50,fun n w2 hn hb2=>get3 n (N+4) (N+5) hn w2 (by rw [hb2.cell (p:=⟨N+4,0,none⟩) (show N+4<w1.heap.size by omega)];exact h3) (by rw [hb2.cell (p:=⟨N+5,0,none⟩) (show N+5<w1.heap.size by omega)];exact h4)⟩
theorem formG4:FormG 4:=fun N w hN=>by
 refine (form4 N w hN).mono ?_
 rintro _ w1 ⟨rfl,hb,hs,h0,h1,h2,h3,h4⟩
 exact ⟨180,#[.pointer (some ⟨N+4,0,none⟩),.pointer (some ⟨N+5,0,none⟩)],_,_,_,_,rfl,hb,by omega,cf50,fun n w2 hn hb2=>get4 n (N+4) (N+5) hn w2 (by rw [hb2.cell (p:=⟨N+4,0,none⟩) (show N+4<w1.heap.size by omega)];exact h3) (by rw [hb2.cell (p:=⟨N+5,0,none⟩) (show N+5<w1.heap.size by omega)];exact h4)⟩
theorem formG5:FormG 5:=fun N w hN=>by
 refine (form5 N w hN).mono ?_
 rintro _ w1 ⟨rfl,hb,hs,h0,h1⟩
 exact ⟨163,#[],_,_,_,_,rfl,hb,by omega,cf37,fun n w2 hn hb2=>get5 n hn w2⟩
theorem formG6:FormG 6:=fun N w hN=>by
 refine (form6 N w hN).mono ?_
 rintro _ w1 ⟨rfl,hb,hs,h0,h1⟩
 exact ⟨165,#[],_,_,_,_,rfl,hb,by omega,cf39,fun n w2 hn hb2=>get6 n hn w2⟩
theorem formG7:FormG 7:=fun N w hN=>by
 refine (form7 N w hN).mono ?_
 rintro _ w1 ⟨rfl,hb,hs,h0,h1,h2,h3,h4⟩
 exact ⟨180,#[.pointer (some ⟨N+4,0,none⟩),.pointer (some ⟨N+5,0,none⟩)],_,_,_,_,rfl,hb,by omega,cf50,fun n w2 hn hb2=>get7 n (N+4) (N+5) hn w2 (by rw [hb2.cell (p:=⟨N+4,0,none⟩) (show N+4<w1.heap.size by omega)];exact h3) (by rw [hb2.cell (p:=⟨N+5,0,none⟩) (show N+5<w1.heap.size by omega)];exact h4)⟩
theorem formG8:FormG 8:=fun N w hN=>by
 refine (form8 N w hN).mono ?_
 rintro _ w1 ⟨rfl,hb,hs,h0,h1,h2,h3,h4⟩
 exact ⟨180,#[.pointer (some ⟨N+4,0,none⟩),.pointer (some ⟨N+5,0,none⟩)],_,_,_,_,rfl,hb,by omega,cf50,fun n w2 hn hb2=>get7 n (N+4) (N+5) hn w2 (by rw [hb2.cell (p:=⟨N+4,0,none⟩) (show N+4<w1.heap.size by omega)];exact h3) (by rw [hb2.cell (p:=⟨N+5,0,none⟩) (show N+5<w1.heap.size by omega)];exact h4)⟩
theorem formG9:FormG 9:=fun N w hN=>by
 refine (form9 N w hN).mono ?_
 rintro _ w1 ⟨rfl,hb,hs,h0,h1,h2,h3,h4⟩
 exact ⟨180,#[.pointer (some ⟨N+4,0,none⟩),.pointer (some ⟨N+5,0,none⟩)],_,_,_,_,rfl,hb,by omega,cf50,fun n w2 hn hb2=>get4 n (N+4) (N+5) hn w2 (by rw [hb2.cell (p:=⟨N+4,0,none⟩) (show N+4<w1.heap.size by omega)];exact h3) (by rw [hb2.cell (p:=⟨N+5,0,none⟩) (show N+5<w1.heap.size by omega)];exact h4)⟩
theorem formG10:FormG 10:=fun N w hN=>by
 refine (form10 N w hN).mono ?_
 rintro _ w1 ⟨rfl,hb,hs,h0,h1,h2,h3,h4⟩
 exact ⟨180,#[.pointer (some ⟨N+4,0,none⟩),.pointer (some ⟨N+5,0,none⟩)],_,_,_,_,rfl,hb,by omega,cf50,fun n w2 hn hb2=>get7 n (N+4) (N+5) hn w2 (by rw [hb2.cell (p:=⟨N+4,0,none⟩) (show N+4<w1.heap.size by omega)];exact h3) (by rw [hb2.cell (p:=⟨N+5,0,none⟩) (show N+5<w1.heap.size by omega)];exact h4)⟩
theorem formG (f:Nat) (hf:f≤10):FormG f:=by
 have h:f=0∨f=1∨f=2∨f=3∨f=4∨f=5∨f=6∨f=7∨f=8∨f=9∨f=10:=by omega
 rcases h with rfl | rfl | rfl | rfl | rfl | rfl | rfl | rfl | rfl | rfl | rfl
 ·exact formG0
 ·exact formG1
 ·exact formG2
 ·exact formG3
 ·exact formG4
 ·exact formG5
 ·exact formG6
 ·exact formG7
 ·exact formG8
 ·exact formG9
 ·exact formG10
theorem keepG {B b0:Nat} {W1 w w':World} {v0 v3:Value} (h:Below B W1 w∧w.cell? ⟨b0,0,none⟩=some v0∧w.cell? ⟨b0,3,none⟩=some v3∧b0<B∧B≤w.heap.size)
  (hb:Below B w w'):Below B W1 w'∧w'.cell? ⟨b0,0,none⟩=some v0∧w'.cell? ⟨b0,3,none⟩=some v3∧b0<B∧B≤w'.heap.size:=by
 obtain ⟨k,e0,e3,l0,l⟩:=h
 exact ⟨k.trans hb,by rw [hb.cell l0];exact e0,by rw [hb.cell l0];exact e3,l0,Nat.le_trans l hb.size⟩
def regN (h:Bool) (n s:Nat):Nat:=if h then n/2 ^ s%32 else 0
theorem regN_lt (h:Bool) (n s:Nat):regN h n s<256:=by
 unfold regN
 split
 ·have:=Nat.mod_lt (n/2 ^ s) (show 0<32 by omega);omega
 ·omega
theorem getF_b (f n:Nat) (hn:n<4294967296):i32 (getF f n):=by
 unfold getF i32
 split <;> first | (unfold sgn;split <;> omega) | omega
structure Ins where
 o:Nat
 d:Nat
 a:Nat
 b:Nat
 m:Int
def Ins.zero:Ins:=⟨0,0,0,0,0⟩
def Ins.put (i:Ins):Nat × Nat:=YtnkoknfihhdelaaGreatDoor.In.put i.o i.d i.a i.b i.m
def Ins.val (i:Ins):Value:=insV i.o i.d i.a i.b i.m
def dec (q n:Nat):Ins:=⟨q+1,regN (hasD (FL q)) n 7,regN (hasA (FL q)) n 15,regN (hasB (FL q)) n 20,getF (FL q) n⟩
def get (n:Nat):Ins × Nat :=
 if opL n 68=0 then (Ins.zero,5) else if (dec (opL n 68-1) n).put=(n,0) then (dec (opL n 68-1) n,0) else (Ins.zero,5)
def ieV (r:Ins × Nat):Value:=.tuple #[r.1.val,.int .i64 (r.2:Int)]
theorem opL_b (n:Nat):∀ j,j≤68→opL n j≤68
 | 0,_=>by unfold opL;omega
 | j+1,h=>by
  unfold opL
  split
  ·omega
  ·exact opL_b n j (by omega)
set_option maxHeartbeats 4000000 in
theorem getGen (n q f d a b W E:Nat) (M:Int) (D A B:Bool) (hn:n<4294967296) (hq:q≤67) (hd:d<256) (ha:a<256) (hb:b<256) (w:World) (hg:Glob w)
  (hD:(bits .and .i64 (hasN f) 1 != 0)=D) (hA:(bits .and .i64 (hasN f) 2 != 0)=A) (hB:(bits .and .i64 (hasN f) 4 != 0)=B)
  (c0:w.cell? ⟨0,q,none⟩=some (.int .u8 (f:Int))) (KF:Hid (FormG f)) (HM:Hid (getF f n=M))
  (KO:Hid (∀ w,Glob w→Calls Tryz.prog 126 #[.int .u32 (n:Int)] w fun en w'=>en=.returned (.int .u8 ((q:Int)+1))∧w=w'))
  (KD:Hid (∀ w,Calls Tryz.prog 128 #[.int .u32 (n:Int),.int .u64 7,.bool D] w fun en w'=>en=.returned (.int .u8 (d:Int))∧w=w'))
  (KA:Hid (∀ w,Calls Tryz.prog 128 #[.int .u32 (n:Int),.int .u64 15,.bool A] w fun en w'=>en=.returned (.int .u8 (a:Int))∧w=w'))
  (KB:Hid (∀ w,Calls Tryz.prog 128 #[.int .u32 (n:Int),.int .u64 20,.bool B] w fun en w'=>en=.returned (.int .u8 (b:Int))∧w=w'))
  (KP:Hid (∀ w,Glob w→Calls Tryz.prog 129 #[.agg #[.int .u8 ((q:Int)+1),.int .u8 (d:Int),.int .u8 (a:Int),.int .u8 (b:Int),.int .i32 M]] w fun en w'=>en=.returned (.tuple #[.int .u32 (W:Int),.int .i64 (E:Int)])∧Below w.heap.size w w')) :
  Calls Tryz.prog 90 #[.int .u32 (n:Int)] w fun en w'=>en=.returned (if W=n∧E=0 then .tuple #[.agg #[.int .u8 ((q:Int)+1),.int .u8 (d:Int),.int .u8 (a:Int),.int .u8 (b:Int),.int .i32 M],.int .i64 0] else ieV (Ins.zero,5))∧Below w.heap.size w w':=by
 have t1:((q:Int)+1==0)=false:=by simp;omega
 have hs:=hg.size
 have z0:0<w.heap.size:=by omega
 have z1:1<w.heap.size:=by omega
 have hgh:=Lib.hid hg
 clear hg
 go_enter Tryz.func90,Tryz.ntmps90
 go_wp2_with fail
 refine (KO.out _ ?_).mono ?_
 ·exact hgh.out.below ((Below.refl _ _).alloc (Nat.le_refl _) _) hs
 rintro _ _ ⟨rfl,rfl⟩
 go_wp2_with fail
 refine (KF.out (w.heap.size+1) _ ?_).mono ?_
 ·simp
 rintro _ w1 ⟨g,caps,gm,cm,gp,cp,rfl,hb1,hs1,hcf,hG⟩
 generalize hasN f=H at *
 obtain ⟨hc1,hf1⟩:=bcell hb1
 have zz:w.heap.size<w1.heap.size:=by omega
 have zz0:w.heap.size<w.heap.size+1:=by omega
 have HG:=Lib.hid hG
 clear hG
 go_upto_region 5 with fail
 have hS:Below (w1.heap.size+1) (w1.alloc (.cells #[.int .i64 H,.func (Fn.func gm) #[] cm,.func (Fn.func gp) #[] cp,.func (Fn.func g) #[] caps] 160)) (w1.alloc (.cells #[.int .i64 H,.func (Fn.func gm) #[] cm,.func (Fn.func gp) #[] cp,.func (Fn.func g) #[] caps] 160)):=Below.refl _ _
 have g1:(w1.alloc (.cells #[.int .i64 H,.func (Fn.func gm) #[] cm,.func (Fn.func gp) #[] cp,.func (Fn.func g) #[] caps] 160)).cell? ⟨w1.heap.size,0,none⟩=some (.int .i64 H):=by go_simp
 have g2:(w1.alloc (.cells #[.int .i64 H,.func (Fn.func gm) #[] cm,.func (Fn.func gp) #[] cp,.func (Fn.func g) #[] caps] 160)).cell? ⟨w1.heap.size,3,none⟩=some (.func (Fn.func g) #[] caps):=by go_simp
 have g5:w1.heap.size+1≤(w1.alloc (.cells #[.int .i64 H,.func (Fn.func gm) #[] cm,.func (Fn.func gp) #[] cp,.func (Fn.func g) #[] caps] 160)).heap.size:=by simp
 have hBW:Below w.heap.size w (w1.alloc (.cells #[.int .i64 H,.func (Fn.func gm) #[] cm,.func (Fn.func gp) #[] cp,.func (Fn.func g) #[] caps] 160)):=(((Below.refl _ _).alloc (Nat.le_refl _) _).trans (hb1.mono (by omega))).alloc (by omega) _
 have hBR:Below (w.heap.size+1) (w.alloc (.cells #[.int .u8 0,.int .u8 0,.int .u8 0,.int .u8 0,.int .i32 0] 53)) (w1.alloc (.cells #[.int .i64 H,.func (Fn.func gm) #[] cm,.func (Fn.func gp) #[] cp,.func (Fn.func g) #[] caps] 160)):=hb1.alloc (by omega) _
 have hB1:Below w1.heap.size w1 (w1.alloc (.cells #[.int .i64 H,.func (Fn.func gm) #[] cm,.func (Fn.func gp) #[] cp,.func (Fn.func g) #[] caps] 160)):=(Below.refl _ _).alloc (Nat.le_refl _) _
 generalize w1.alloc (.cells #[.int .i64 H,.func (Fn.func gm) #[] cm,.func (Fn.func gp) #[] cp,.func (Fn.func g) #[] caps] 160)=W1 at *
 have kg:∀ w',Below (w1.heap.size+1) W1 w'→Calls Tryz.prog g (#[.int .u32 (n:Int)]++caps) w' fun en w''=>en=.returned (.int .i32 M)∧w'=w'':=fun w' h=>by
  have:=HG.out n w' hn (hB1.trans (h.mono (by omega)))
  rw [HM.out] at this
  exact this
 clear HG hB1 hc1 hf1 hb1
 generalize w1.heap.size=b0 at *
 have HT:_∧_∧_∧_∧_:=⟨hS,g1,g2,(by omega:b0<b0+1),g5⟩
 clear hS g1 g2
 have KG:=Lib.hid kg
 clear kg
 obtain ⟨hc3,hf3⟩:=bcell hBR
 go_cut [6] from 19 to 42 (fun v wx=>v=.pointer (some ⟨W1.heap.size,0,none⟩)∧wx=(W1.alloc (.cells #[.int .u8 ((q:Int)+1),.int .u8 (d:Int),.int .u8 (a:Int),.int .u8 (b:Int),.int .i32 M] 53)).drew)
 case first =>
  go_region_held3 (fun w'=>Below (b0+1) W1 w'∧w'.cell? ⟨b0,0,none⟩=some (.int .i64 H)∧w'.cell? ⟨b0,3,none⟩=some (.func (Fn.func g) #[] caps)∧b0<b0+1∧b0+1≤w'.heap.size)
  (first | assumption | exact keepG (by assumption) ((Below.refl _ _).drew) | (refine keepG (by assumption) ((Below.refl _ _).alloc ?_ _);omega) | (refine keepG (by assumption) (((Below.refl _ _).alloc ?_ _).drew);omega))
  (first | (go_at_call 128;(with_reducible refine (KD.out _).mono ?_);rintro _ _ ⟨rfl,rfl⟩) | (go_at_call 128;(with_reducible refine (KA.out _).mono ?_);rintro _ _ ⟨rfl,rfl⟩) | (go_at_call 128;(with_reducible refine (KB.out _).mono ?_);rintro _ _ ⟨rfl,rfl⟩) | ((with_reducible refine (KG.out _ ?_).mono ?_);exact And.left (by assumption);rintro _ _ ⟨rfl,rfl⟩))
  all_goals
   go_wp2_with fail
   go_meet
   case rel=>exact ⟨rfl,rfl⟩
 case rest =>
  obtain ⟨rfl,rfl⟩:=hcut
  clear KO KF KD KA KB KG HT
  have hsz:w.heap.size<W1.heap.size:=by have:=hBR.size;simp at this;omega
  have hsz0:w.heap.size<W1.heap.size+1:=by omega
  go_wp2_with fail
  refine (KP.out _ ?_).mono ?_
  ·exact hgh.out.below ((hBW.alloc (by omega) _).drew) hs
  rintro _ w2 ⟨rfl,hb2⟩
  obtain ⟨hc4,hf4⟩:=bcell hb2
  have hsz2:W1.heap.size+1≤w2.heap.size:=by have:=hb2.size;simpa using this
  have hsz3:w.heap.size<w2.heap.size:=by omega
  have hsz4:W1.heap.size<w2.heap.size:=by omega
  have hB2:Below w.heap.size w w2:=((hBW.alloc (by omega) _).drew).trans (hb2.mono (by simp;omega))
  by_cases hE:E=0
  ·subst hE
   by_cases hWn:W=n
   ·subst hWn
    go_wp2_with fail
    exact bodyPost_ret (v:=.tuple #[.agg #[.int .u8 ((q:Int)+1),.int .u8 (d:Int),.int .u8 (a:Int),.int .u8 (b:Int),.int .i32 M],.int .i64 0]) (by simp [results,Tryz.results90,go_sem,hc4,hc3,hsz,hsz0]) rfl ⟨rfl,((((hB2.setCell (Nat.le_refl _) _).setCell (Nat.le_refl _) _).setCell (Nat.le_refl _) _).setCell (Nat.le_refl _) _).setCell (Nat.le_refl _) _⟩
   ·have hne:((W:Int) != (n:Int))=true:=by simp;omega
    go_wp2_with fail
    exact bodyPost_ret (v:=ieV (Ins.zero,5)) (by simp [ieV,Ins.val,insV,Ins.zero,results,Tryz.results90,go_sem,hc4,hc3,hsz,hsz0]) rfl ⟨rfl,((((hB2.setCell (Nat.le_refl _) _).setCell (Nat.le_refl _) _).setCell (Nat.le_refl _) _).setCell (Nat.le_refl _) _).setCell (Nat.le_refl _) _⟩
  ·have hne:((E:Int) != 0)=true:=by simp;omega
   go_wp2_with fail
   exact bodyPost_ret (v:=ieV (Ins.zero,5)) (by simp [ieV,Ins.val,insV,Ins.zero,results,Tryz.results90,go_sem,hc4,hc3,hsz,hsz0]) rfl ⟨rfl,((((hB2.setCell (Nat.le_refl _) _).setCell (Nat.le_refl _) _).setCell (Nat.le_refl _) _).setCell (Nat.le_refl _) _).setCell (Nat.le_refl _) _⟩
theorem getNone (n:Nat) (hn:n<4294967296) (w:World) (hg:Glob w)
  (KO:Hid (∀ w,Glob w→Calls Tryz.prog 126 #[.int .u32 (n:Int)] w fun en w'=>en=.returned (.int .u8 0)∧w=w')) :
  Calls Tryz.prog 90 #[.int .u32 (n:Int)] w fun en w'=>en=.returned (ieV (Ins.zero,5))∧Below w.heap.size w w':=by
 have hgh:=Lib.hid hg
 have hs:=hg.size
 clear hg
 go_enter Tryz.func90,Tryz.ntmps90
 go_wp2_with fail
 refine (KO.out _ ?_).mono ?_
 ·exact hgh.out.below ((Below.refl _ _).alloc (Nat.le_refl _) _) hs
 rintro _ _ ⟨rfl,rfl⟩
 go_wp2_with fail
 exact bodyPost_ret (v:=ieV (Ins.zero,5)) (by simp [ieV,Ins.val,insV,Ins.zero,results,Tryz.results90,go_sem]) rfl ⟨rfl,(Below.refl _ _).alloc (Nat.le_refl _) _⟩
theorem c9 (n:Nat) (hn:n<4294967296) (w:World) (hg:Glob w) :
  Calls Tryz.prog 90 #[.int .u32 (n:Int)] w fun en w'=>en=.returned (ieV (get n))∧Below w.heap.size w w':=by
 have hob:=opL_b n 68 (by omega)
 by_cases ho:opL n 68=0
 ·have e:get n=(Ins.zero,5):=by unfold get;rw [if_pos ho]
  rw [e]
  exact getNone n hn w hg (Lib.hid fun w h=>by have:=c21 n hn w h;rw [ho] at this;exact this)
 obtain ⟨q,hq⟩:∃ q,opL n 68=q+1:=⟨opL n 68-1,by omega⟩
 have hf:=(FL_free ⟨q,by omega⟩).2
 simp only at hf
 obtain ⟨b1,b2,b3⟩:=hasN_bits ⟨FL q,by omega⟩
 simp only at b1 b2 b3
 have hE:get n=if (dec q n).put=(n,0) then (dec q n,0) else (Ins.zero,5):=by
  unfold get
  rw [if_neg ho,hq,Nat.add_sub_cancel]
 have h:=getGen n q (FL q) (regN (hasD (FL q)) n 7) (regN (hasA (FL q)) n 15) (regN (hasB (FL q)) n 20) (dec q n).put.1 (dec q n).put.2 (getF (FL q) n) _ _ _ hn (by omega) (regN_lt _ _ _) (regN_lt _ _ _) (regN_lt _ _ _) w hg b1 b2 b3 (hg.f q (by omega)) (Lib.hid (formG (FL q) hf)) (Lib.hid rfl)
  (Lib.hid fun w h=>by have:=c21 n hn w h;rw [hq,Int.natCast_add] at this;exact this)
  (Lib.hid fun w=>reg n 7 hn (by omega) _ w) (Lib.hid fun w=>reg n 15 hn (by omega) _ w) (Lib.hid fun w=>reg n 20 hn (by omega) _ w)
  (Lib.hid fun w h=>by
   have:=c7 (q+1) _ _ _ (getF (FL q) n) (by omega) (regN_lt (hasD (FL q)) n 7) (regN_lt (hasA (FL q)) n 15) (regN_lt (hasB (FL q)) n 20) (getF_b _ n hn) w h
   unfold insV at this
   rw [Int.natCast_add] at this
   exact this)
 refine h.mono ?_
 rintro _ w1 ⟨rfl,hb⟩
 refine ⟨?_,hb⟩
 rw [hE]
 by_cases hp:(dec q n).put=(n,0)
 ·rw [if_pos hp,if_pos ⟨by rw [hp],by rw [hp]⟩]
  rfl
 ·rw [if_neg hp,if_neg (fun h=>hp (Prod.ext h.1 h.2))]
theorem regN_t (n s:Nat):regN true n s=n/2 ^ s%32:=by unfold regN;exact if_pos rfl
theorem regN_f (n s:Nat):regN false n s=0:=by unfold regN;exact if_neg (by decide)
def keyF (f w:Nat):Nat :=
 match f with
 | 0=>w%128
 | 1=>w%128
 | 2=>w%128+w/4096%8*4096
 | 3=>w%128+w/4096%8*4096
 | 5=>w%128+w/4096%8*4096
 | 6=>w%128+w/4096%8*4096
 | 4=>w%128+w/4096%8*4096+w/33554432*33554432
 | 7=>w%128+w/4096%8*4096+w/33554432*33554432
 | 9=>w%128+w/4096%8*4096+w/33554432*33554432
 | 8=>w%128+w/4096%8*4096+w/1048576*1048576
 | _=>w
theorem back0 (W d a b:Nat) (n:Int) (hn:i32 n) (hW:freeF 0 W=true) (hk:okF 0 d a b n=true):wordF 0 W d a b n<4294967296∧keyF 0 (wordF 0 W d a b n)=keyF 0 W∧regN (hasD 0) (wordF 0 W d a b n) 7=d∧regN (hasA 0) (wordF 0 W d a b n) 15=a∧regN (hasB 0) (wordF 0 W d a b n) 20=b∧getF 0 (wordF 0 W d a b n)=n:=by
 obtain ⟨hn1,hn2⟩:=hn
 simp only [okF,Bool.and_eq_true] at hk
 obtain ⟨kd,ka,kb,km⟩:=hk
 have ld:=regOk_lt _ _ kd
 have la:=regOk_lt _ _ ka
 have lb:=regOk_lt _ _ kb
 obtain rfl:=regOk_no _ ka
 obtain rfl:=regOk_no _ kb
 have hW2:=hW
 simp [freeF,hasD,hasA,hasB] at hW2
 have hu:=u32_cast n
 have hl:=u32_lt n
 simp only [mayF,decide_eq_true_eq] at km
 have hx:regN (hasD 0)=regN true∧regN (hasA 0)=regN false∧regN (hasB 0)=regN false:=⟨rfl,rfl,rfl⟩
 rw [hx.1,hx.2.1,hx.2.2]
 unfold wordF
 simp only [putF,keyF,getF]
 obtain ⟨w0,w1,w2,w3,w4,w5,e0,l0,l1,l2,l3,l4,l5,e1,e2,e3,e4,e5⟩:=digits W (by omega)
 generalize u32 n=u at *
 clear hW kd ka kb hx
 have z1:w1=0:=by omega
 have z2:w2=0:=by omega
 have z3:w3=0:=by omega
 have z4:w4=0:=by omega
 have z5:w5=0:=by omega
 clear hW2 e1 e2 e3 e4 e5
 subst z1 z2 z3 z4 z5
 subst e0
 refine ⟨?_,?_,?_,?_,?_,?_⟩
 ·omega
 ·omega
 ·rw [regN_t]
  omega
 ·exact regN_f _ _
 ·exact regN_f _ _
 ·unfold sgn
  split <;> omega
theorem back1 (W d a b:Nat) (n:Int) (hn:i32 n) (hW:freeF 1 W=true) (hk:okF 1 d a b n=true):wordF 1 W d a b n<4294967296∧keyF 1 (wordF 1 W d a b n)=keyF 1 W∧regN (hasD 1) (wordF 1 W d a b n) 7=d∧regN (hasA 1) (wordF 1 W d a b n) 15=a∧regN (hasB 1) (wordF 1 W d a b n) 20=b∧getF 1 (wordF 1 W d a b n)=n:=by
 obtain ⟨hn1,hn2⟩:=hn
 simp only [okF,Bool.and_eq_true] at hk
 obtain ⟨kd,ka,kb,km⟩:=hk
 have ld:=regOk_lt _ _ kd
 have la:=regOk_lt _ _ ka
 have lb:=regOk_lt _ _ kb
 obtain rfl:=regOk_no _ ka
 obtain rfl:=regOk_no _ kb
 have hW2:=hW
 simp [freeF,hasD,hasA,hasB] at hW2
 have hu:=u32_cast n
 have hl:=u32_lt n
 simp only [mayF,decide_eq_true_eq] at km
 have hx:regN (hasD 1)=regN true∧regN (hasA 1)=regN false∧regN (hasB 1)=regN false:=⟨rfl,rfl,rfl⟩
 rw [hx.1,hx.2.1,hx.2.2]
 unfold wordF
 simp only [putF,keyF,getF]
 obtain ⟨w0,w1,w2,w3,w4,w5,e0,l0,l1,l2,l3,l4,l5,e1,e2,e3,e4,e5⟩:=digits W (by omega)
 generalize u32 n=u at *
 clear hW kd ka kb hx
 obtain ⟨s1,x1,y1,z1,hs,hx,hy,hz,b1,b2,b3,b4⟩:∃ s1 x1 y1 z1:Nat,s1=u/1048576%2∧x1=u/2%1024∧y1=u/2048%2∧z1=u/4096%256∧s1<2∧x1<1024∧y1<2∧z1<256:=⟨_,_,_,_,rfl,rfl,rfl,rfl,by omega,by omega,by omega,by omega⟩
 rw [←hs,←hx,←hy,←hz]
 have hc:n=if s1=0 then ((x1*2+y1*2048+z1*4096:Nat):Int) else ((x1*2+y1*2048+z1*4096:Nat):Int)-1048576:=by split <;> omega
 clear hs hx hy hz hu hl km hn1 hn2
 have z1:w1=0:=by omega
 have z2:w2=0:=by omega
 have z3:w3=0:=by omega
 have z4:w4=0:=by omega
 have z5:w5=0:=by omega
 clear hW2 e1 e2 e3 e4 e5
 subst z1 z2 z3 z4 z5
 subst e0
 refine ⟨?_,?_,?_,?_,?_,?_⟩
 ·omega
 ·omega
 ·rw [regN_t]
  omega
 ·exact regN_f _ _
 ·exact regN_f _ _
 ·generalize hw:_+d*128+0*32768+0*1048576+(s1*2147483648+x1*2097152+y1*1048576+z1*4096)=w
  have p1:w/2147483648=s1:=by omega
  have p2:w/4096%256=z1:=by omega
  have p3:w/1048576%2=y1:=by omega
  have p4:w/2097152%1024=x1:=by omega
  rw [p1,p2,p3,p4,hc]
  clear hw p1 p2 p3 p4
  unfold sgn
  split <;> split <;> omega
theorem back2 (W d a b:Nat) (n:Int) (hn:i32 n) (hW:freeF 2 W=true) (hk:okF 2 d a b n=true):wordF 2 W d a b n<4294967296∧keyF 2 (wordF 2 W d a b n)=keyF 2 W∧regN (hasD 2) (wordF 2 W d a b n) 7=d∧regN (hasA 2) (wordF 2 W d a b n) 15=a∧regN (hasB 2) (wordF 2 W d a b n) 20=b∧getF 2 (wordF 2 W d a b n)=n:=by
 obtain ⟨hn1,hn2⟩:=hn
 simp only [okF,Bool.and_eq_true] at hk
 obtain ⟨kd,ka,kb,km⟩:=hk
 have ld:=regOk_lt _ _ kd
 have la:=regOk_lt _ _ ka
 have lb:=regOk_lt _ _ kb
 obtain rfl:=regOk_no _ kb
 have hW2:=hW
 simp [freeF,hasD,hasA,hasB] at hW2
 have hu:=u32_cast n
 have hl:=u32_lt n
 simp only [mayF,decide_eq_true_eq] at km
 have hx:regN (hasD 2)=regN true∧regN (hasA 2)=regN true∧regN (hasB 2)=regN false:=⟨rfl,rfl,rfl⟩
 rw [hx.1,hx.2.1,hx.2.2]
 unfold wordF
 simp only [putF,keyF,getF]
 obtain ⟨w0,w1,w2,w3,w4,w5,e0,l0,l1,l2,l3,l4,l5,e1,e2,e3,e4,e5⟩:=digits W (by omega)
 generalize u32 n=u at *
 clear hW kd ka kb hx
 have z1:w1=0:=by omega
 have z3:w3=0:=by omega
 have z4:w4=0:=by omega
 have z5:w5=0:=by omega
 clear hW2 e1 e2 e3 e4 e5
 subst z1 z3 z4 z5
 subst e0
 refine ⟨?_,?_,?_,?_,?_,?_⟩
 ·omega
 ·omega
 ·rw [regN_t]
  omega
 ·rw [regN_t]
  omega
 ·exact regN_f _ _
 ·unfold sgn
  split <;> omega
theorem back3 (W d a b:Nat) (n:Int) (hn:i32 n) (hW:freeF 3 W=true) (hk:okF 3 d a b n=true):wordF 3 W d a b n<4294967296∧keyF 3 (wordF 3 W d a b n)=keyF 3 W∧regN (hasD 3) (wordF 3 W d a b n) 7=d∧regN (hasA 3) (wordF 3 W d a b n) 15=a∧regN (hasB 3) (wordF 3 W d a b n) 20=b∧getF 3 (wordF 3 W d a b n)=n:=by
 obtain ⟨hn1,hn2⟩:=hn
 simp only [okF,Bool.and_eq_true] at hk
 obtain ⟨kd,ka,kb,km⟩:=hk
 have ld:=regOk_lt _ _ kd
 have la:=regOk_lt _ _ ka
 have lb:=regOk_lt _ _ kb
 obtain rfl:=regOk_no _ kb
 have hW2:=hW
 simp [freeF,hasD,hasA,hasB] at hW2
 have hu:=u32_cast n
 have hl:=u32_lt n
 simp only [mayF,decide_eq_true_eq] at km
 have hx:regN (hasD 3)=regN true∧regN (hasA 3)=regN true∧regN (hasB 3)=regN false:=⟨rfl,rfl,rfl⟩
 rw [hx.1,hx.2.1,hx.2.2]
 unfold wordF
 simp only [putF,keyF,getF]
 obtain ⟨w0,w1,w2,w3,w4,w5,e0,l0,l1,l2,l3,l4,l5,e1,e2,e3,e4,e5⟩:=digits W (by omega)
 generalize u32 n=u at *
 clear hW kd ka kb hx
 have z1:w1=0:=by omega
 have z3:w3=0:=by omega
 have z4:w4=0:=by omega
 have z5:w5=0:=by omega
 clear hW2 e1 e2 e3 e4 e5
 subst z1 z3 z4 z5
 subst e0
 refine ⟨?_,?_,?_,?_,?_,?_⟩
 ·omega
 ·omega
 ·rw [regN_t]
  omega
 ·rw [regN_t]
  omega
 ·exact regN_f _ _
 ·omega
theorem back4 (W d a b:Nat) (n:Int) (hn:i32 n) (hW:freeF 4 W=true) (hk:okF 4 d a b n=true):wordF 4 W d a b n<4294967296∧keyF 4 (wordF 4 W d a b n)=keyF 4 W∧regN (hasD 4) (wordF 4 W d a b n) 7=d∧regN (hasA 4) (wordF 4 W d a b n) 15=a∧regN (hasB 4) (wordF 4 W d a b n) 20=b∧getF 4 (wordF 4 W d a b n)=n:=by
 obtain ⟨hn1,hn2⟩:=hn
 simp only [okF,Bool.and_eq_true] at hk
 obtain ⟨kd,ka,kb,km⟩:=hk
 have ld:=regOk_lt _ _ kd
 have la:=regOk_lt _ _ ka
 have lb:=regOk_lt _ _ kb
 obtain rfl:=regOk_no _ kb
 have hW2:=hW
 simp [freeF,hasD,hasA,hasB] at hW2
 have hu:=u32_cast n
 have hl:=u32_lt n
 simp only [mayF,decide_eq_true_eq] at km
 have hx:regN (hasD 4)=regN true∧regN (hasA 4)=regN true∧regN (hasB 4)=regN false:=⟨rfl,rfl,rfl⟩
 rw [hx.1,hx.2.1,hx.2.2]
 unfold wordF
 simp only [putF,keyF,getF]
 obtain ⟨w0,w1,w2,w3,w4,w5,e0,l0,l1,l2,l3,l4,l5,e1,e2,e3,e4,e5⟩:=digits W (by omega)
 generalize u32 n=u at *
 clear hW kd ka kb hx
 have z1:w1=0:=by omega
 have z3:w3=0:=by omega
 have z4:w4=0:=by omega
 clear hW2 e1 e2 e3 e4 e5
 subst z1 z3 z4
 subst e0
 refine ⟨?_,?_,?_,?_,?_,?_⟩
 ·omega
 ·omega
 ·rw [regN_t]
  omega
 ·rw [regN_t]
  omega
 ·exact regN_f _ _
 ·omega
theorem back5 (W d a b:Nat) (n:Int) (hn:i32 n) (hW:freeF 5 W=true) (hk:okF 5 d a b n=true):wordF 5 W d a b n<4294967296∧keyF 5 (wordF 5 W d a b n)=keyF 5 W∧regN (hasD 5) (wordF 5 W d a b n) 7=d∧regN (hasA 5) (wordF 5 W d a b n) 15=a∧regN (hasB 5) (wordF 5 W d a b n) 20=b∧getF 5 (wordF 5 W d a b n)=n:=by
 obtain ⟨hn1,hn2⟩:=hn
 simp only [okF,Bool.and_eq_true] at hk
 obtain ⟨kd,ka,kb,km⟩:=hk
 have ld:=regOk_lt _ _ kd
 have la:=regOk_lt _ _ ka
 have lb:=regOk_lt _ _ kb
 obtain rfl:=regOk_no _ kd
 have hW2:=hW
 simp [freeF,hasD,hasA,hasB] at hW2
 have hu:=u32_cast n
 have hl:=u32_lt n
 simp only [mayF,decide_eq_true_eq] at km
 have hx:regN (hasD 5)=regN false∧regN (hasA 5)=regN true∧regN (hasB 5)=regN true:=⟨rfl,rfl,rfl⟩
 rw [hx.1,hx.2.1,hx.2.2]
 unfold wordF
 simp only [putF,keyF,getF]
 obtain ⟨w0,w1,w2,w3,w4,w5,e0,l0,l1,l2,l3,l4,l5,e1,e2,e3,e4,e5⟩:=digits W (by omega)
 generalize u32 n=u at *
 clear hW kd ka kb hx
 obtain ⟨p1,q1,hp,hq,b1,b2⟩:∃ p1 q1:Nat,p1=u/32%128∧q1=u%32∧p1<128∧q1<32:=⟨_,_,rfl,rfl,by omega,by omega⟩
 rw [←hp,←hq]
 have hc:n=if p1<64 then ((p1*32+q1:Nat):Int) else ((p1*32+q1:Nat):Int)-4096:=by split <;> omega
 clear hp hq hu hl km hn1 hn2
 have z1:w1=0:=by omega
 have z3:w3=0:=by omega
 have z4:w4=0:=by omega
 have z5:w5=0:=by omega
 clear hW2 e1 e2 e3 e4 e5
 subst z1 z3 z4 z5
 subst e0
 refine ⟨?_,?_,?_,?_,?_,?_⟩
 ·omega
 ·omega
 ·exact regN_f _ _
 ·rw [regN_t]
  omega
 ·rw [regN_t]
  omega
 ·generalize hw:_+0*128+a*32768+b*1048576+(p1*33554432+q1*128)=w
  have g1:w/33554432=p1:=by omega
  have g2:w/128%32=q1:=by omega
  rw [g1,g2,hc]
  clear hw g1 g2
  unfold sgn
  split <;> split <;> omega
set_option maxRecDepth 100000 in
theorem back6 (W d a b:Nat) (n:Int) (hn:i32 n) (hW:freeF 6 W=true) (hk:okF 6 d a b n=true):wordF 6 W d a b n<4294967296∧keyF 6 (wordF 6 W d a b n)=keyF 6 W∧regN (hasD 6) (wordF 6 W d a b n) 7=d∧regN (hasA 6) (wordF 6 W d a b n) 15=a∧regN (hasB 6) (wordF 6 W d a b n) 20=b∧getF 6 (wordF 6 W d a b n)=n:=by
 obtain ⟨hn1,hn2⟩:=hn
 simp only [okF,Bool.and_eq_true] at hk
 obtain ⟨kd,ka,kb,km⟩:=hk
 have ld:=regOk_lt _ _ kd
 have la:=regOk_lt _ _ ka
 have lb:=regOk_lt _ _ kb
 obtain rfl:=regOk_no _ kd
 have hW2:=hW
 simp [freeF,hasD,hasA,hasB] at hW2
 have hu:=u32_cast n
 have hl:=u32_lt n
 simp only [mayF,decide_eq_true_eq] at km
 have hx:regN (hasD 6)=regN false∧regN (hasA 6)=regN true∧regN (hasB 6)=regN true:=⟨rfl,rfl,rfl⟩
 rw [hx.1,hx.2.1,hx.2.2]
 unfold wordF
 simp only [putF,keyF,getF]
 obtain ⟨w0,w1,w2,w3,w4,w5,e0,l0,l1,l2,l3,l4,l5,e1,e2,e3,e4,e5⟩:=digits W (by omega)
 generalize u32 n=u at *
 clear hW kd ka kb hx
 obtain ⟨s1,p1,q1,t1,hs,hp,hq,ht,b1,b2,b3,b4⟩:∃ s1 p1 q1 t1:Nat,s1=u/4096%2∧p1=u/32%64∧q1=u/2%16∧t1=u/2048%2∧s1<2∧p1<64∧q1<16∧t1<2:=⟨_,_,_,_,rfl,rfl,rfl,rfl,by omega,by omega,by omega,by omega⟩
 rw [←hs,←hp,←hq,←ht]
 have hc:n=if s1=0 then ((p1*32+q1*2+t1*2048:Nat):Int) else ((p1*32+q1*2+t1*2048:Nat):Int)-4096:=by split <;> omega
 clear hs hp hq ht hu hl km hn1 hn2
 have z1:w1=0:=by omega
 have z3:w3=0:=by omega
 have z4:w4=0:=by omega
 have z5:w5=0:=by omega
 clear hW2 e1 e2 e3 e4 e5
 subst z1 z3 z4 z5
 subst e0
 refine ⟨?_,?_,?_,?_,?_,?_⟩
 ·omega
 ·omega
 ·exact regN_f _ _
 ·rw [regN_t]
  omega
 ·rw [regN_t]
  omega
 ·generalize hw:_+0*128+a*32768+b*1048576+(s1*2147483648+p1*33554432+q1*256+t1*128)=w
  have g1:w/2147483648=s1:=by omega
  have g2:w/128%2=t1:=by omega
  have g3:w/33554432%64=p1:=by omega
  have g4:w/256%16=q1:=by omega
  rw [g1,g2,g3,g4,hc]
  clear hw g1 g2 g3 g4
  unfold sgn
  split <;> split <;> omega
theorem back7 (W d a b:Nat) (n:Int) (hn:i32 n) (hW:freeF 7 W=true) (hk:okF 7 d a b n=true):wordF 7 W d a b n<4294967296∧keyF 7 (wordF 7 W d a b n)=keyF 7 W∧regN (hasD 7) (wordF 7 W d a b n) 7=d∧regN (hasA 7) (wordF 7 W d a b n) 15=a∧regN (hasB 7) (wordF 7 W d a b n) 20=b∧getF 7 (wordF 7 W d a b n)=n:=by
 obtain ⟨hn1,hn2⟩:=hn
 simp only [okF,Bool.and_eq_true] at hk
 obtain ⟨kd,ka,kb,km⟩:=hk
 have ld:=regOk_lt _ _ kd
 have la:=regOk_lt _ _ ka
 have lb:=regOk_lt _ _ kb
 have hW2:=hW
 simp [freeF,hasD,hasA,hasB] at hW2
 have hu:=u32_cast n
 have hl:=u32_lt n
 simp only [mayF,decide_eq_true_eq] at km
 have hx:regN (hasD 7)=regN true∧regN (hasA 7)=regN true∧regN (hasB 7)=regN true:=⟨rfl,rfl,rfl⟩
 rw [hx.1,hx.2.1,hx.2.2]
 unfold wordF
 simp only [putF,keyF,getF]
 obtain ⟨w0,w1,w2,w3,w4,w5,e0,l0,l1,l2,l3,l4,l5,e1,e2,e3,e4,e5⟩:=digits W (by omega)
 generalize u32 n=u at *
 clear hW kd ka kb hx
 have z1:w1=0:=by omega
 have z3:w3=0:=by omega
 have z4:w4=0:=by omega
 clear hW2 e1 e2 e3 e4 e5
 subst z1 z3 z4
 subst e0
 refine ⟨?_,?_,?_,?_,?_,?_⟩
 ·omega
 ·omega
 ·rw [regN_t]
  omega
 ·rw [regN_t]
  omega
 ·rw [regN_t]
  omega
 ·omega
theorem back8 (W d a b:Nat) (n:Int) (hn:i32 n) (hW:freeF 8 W=true) (hk:okF 8 d a b n=true):wordF 8 W d a b n<4294967296∧keyF 8 (wordF 8 W d a b n)=keyF 8 W∧regN (hasD 8) (wordF 8 W d a b n) 7=d∧regN (hasA 8) (wordF 8 W d a b n) 15=a∧regN (hasB 8) (wordF 8 W d a b n) 20=b∧getF 8 (wordF 8 W d a b n)=n:=by
 obtain ⟨hn1,hn2⟩:=hn
 simp only [okF,Bool.and_eq_true] at hk
 obtain ⟨kd,ka,kb,km⟩:=hk
 have ld:=regOk_lt _ _ kd
 have la:=regOk_lt _ _ ka
 have lb:=regOk_lt _ _ kb
 obtain rfl:=regOk_no _ kb
 have hW2:=hW
 simp [freeF,hasD,hasA,hasB] at hW2
 have hu:=u32_cast n
 have hl:=u32_lt n
 simp only [mayF,decide_eq_true_eq] at km
 have hx:regN (hasD 8)=regN true∧regN (hasA 8)=regN true∧regN (hasB 8)=regN false:=⟨rfl,rfl,rfl⟩
 rw [hx.1,hx.2.1,hx.2.2]
 unfold wordF
 simp only [putF,keyF,getF]
 obtain ⟨w0,w1,w2,w3,w4,w5,e0,l0,l1,l2,l3,l4,l5,e1,e2,e3,e4,e5⟩:=digits W (by omega)
 generalize u32 n=u at *
 clear hW kd ka kb hx
 have z1:w1=0:=by omega
 have z3:w3=0:=by omega
 clear hW2 e1 e2 e3 e4 e5
 subst z1 z3
 subst e0
 refine ⟨?_,?_,?_,?_,?_,?_⟩
 ·omega
 ·omega
 ·rw [regN_t]
  omega
 ·rw [regN_t]
  omega
 ·exact regN_f _ _
 ·omega
theorem back9 (W d a b:Nat) (n:Int) (hn:i32 n) (hW:freeF 9 W=true) (hk:okF 9 d a b n=true):wordF 9 W d a b n<4294967296∧keyF 9 (wordF 9 W d a b n)=keyF 9 W∧regN (hasD 9) (wordF 9 W d a b n) 7=d∧regN (hasA 9) (wordF 9 W d a b n) 15=a∧regN (hasB 9) (wordF 9 W d a b n) 20=b∧getF 9 (wordF 9 W d a b n)=n:=by
 obtain ⟨hn1,hn2⟩:=hn
 simp only [okF,Bool.and_eq_true] at hk
 obtain ⟨kd,ka,kb,km⟩:=hk
 have ld:=regOk_lt _ _ kd
 have la:=regOk_lt _ _ ka
 have lb:=regOk_lt _ _ kb
 obtain rfl:=regOk_no _ kb
 have hW2:=hW
 simp [freeF,hasD,hasA,hasB] at hW2
 have hu:=u32_cast n
 have hl:=u32_lt n
 simp only [mayF,decide_eq_true_eq] at km
 have hx:regN (hasD 9)=regN true∧regN (hasA 9)=regN true∧regN (hasB 9)=regN false:=⟨rfl,rfl,rfl⟩
 rw [hx.1,hx.2.1,hx.2.2]
 unfold wordF
 simp only [putF,keyF,getF]
 obtain ⟨w0,w1,w2,w3,w4,w5,e0,l0,l1,l2,l3,l4,l5,e1,e2,e3,e4,e5⟩:=digits W (by omega)
 generalize u32 n=u at *
 clear hW kd ka kb hx
 have z1:w1=0:=by omega
 have z3:w3=0:=by omega
 have z4:w4=0:=by omega
 clear hW2 e1 e2 e3 e4 e5
 subst z1 z3 z4
 subst e0
 refine ⟨?_,?_,?_,?_,?_,?_⟩
 ·omega
 ·omega
 ·rw [regN_t]
  omega
 ·rw [regN_t]
  omega
 ·exact regN_f _ _
 ·omega
theorem back10 (W d a b:Nat) (n:Int) (hn:i32 n) (hW:freeF 10 W=true) (hk:okF 10 d a b n=true):wordF 10 W d a b n<4294967296∧keyF 10 (wordF 10 W d a b n)=keyF 10 W∧regN (hasD 10) (wordF 10 W d a b n) 7=d∧regN (hasA 10) (wordF 10 W d a b n) 15=a∧regN (hasB 10) (wordF 10 W d a b n) 20=b∧getF 10 (wordF 10 W d a b n)=n:=by
 obtain ⟨hn1,hn2⟩:=hn
 simp only [okF,Bool.and_eq_true] at hk
 obtain ⟨kd,ka,kb,km⟩:=hk
 have ld:=regOk_lt _ _ kd
 have la:=regOk_lt _ _ ka
 have lb:=regOk_lt _ _ kb
 obtain rfl:=regOk_no _ kd
 obtain rfl:=regOk_no _ ka
 obtain rfl:=regOk_no _ kb
 have hW2:=hW
 simp [freeF,hasD,hasA,hasB] at hW2
 have hu:=u32_cast n
 have hl:=u32_lt n
 simp only [mayF,decide_eq_true_eq] at km
 have hx:regN (hasD 10)=regN false∧regN (hasA 10)=regN false∧regN (hasB 10)=regN false:=⟨rfl,rfl,rfl⟩
 rw [hx.1,hx.2.1,hx.2.2]
 unfold wordF
 simp only [putF,keyF,getF]
 obtain ⟨w0,w1,w2,w3,w4,w5,e0,l0,l1,l2,l3,l4,l5,e1,e2,e3,e4,e5⟩:=digits W (by omega)
 generalize u32 n=u at *
 clear hW kd ka kb hx
 clear hW2 e1 e2 e3 e4 e5
 subst e0
 refine ⟨?_,?_,?_,?_,?_,?_⟩
 ·omega
 ·omega
 ·exact regN_f _ _
 ·exact regN_f _ _
 ·exact regN_f _ _
 ·omega
def runPlain (P:Program):List Oper→Act→World→Option (Act × World)
 | [],a,w=>some (a,w)
 | o :: rest,a,w =>
  match o.guard,(execOp a.eval o).run P w with
  | none,.ok (.value v) w'=>runPlain P rest (a.put o.dst v) w'
  | _,_=>none
theorem wpList_runPlain {P:Program} {ops:Array Oper} {Q:Exit→Act→World→Prop}:∀ (l:List Oper) (a a':Act) (w w':World),runPlain P l a w=some (a',w')→Q .normal a' w'→wpList P ops Q l a w
 | [],a,a',w,w',h,q=>by
  simp only [runPlain,Option.some.injEq,Prod.mk.injEq] at h
  obtain ⟨rfl,rfl⟩:=h
  exact q
 | o :: rest,a,a',w,w',h,q=>by
  unfold runPlain at h
  split at h
  ·rename_i v w2 hg hr
   refine wpList_plain hg fun K hK=>?_
   unfold Oper.wp
   rw [hr]
   exact hK _ _ (wpList_runPlain rest _ _ _ _ h q)
  ·cases h
def RT:List (List UInt8 × Nat × Nat × Nat × Nat):=[
 ([108,117,105],0,55,0,0),
 ([97,117,105,112,99,99],0,23,0,0),
 ([99,106,97,108],1,111,0,0),
 ([99,106,97,108,114],2,103,0,0),
 ([98,101,113],6,99,0,0),
 ([98,110,101],6,99,1,0),
 ([98,108,116],6,99,4,0),
 ([98,103,101],6,99,5,0),
 ([98,108,116,117],6,99,6,0),
 ([98,103,101,117],6,99,7,0),
 ([108,98],2,3,0,0),
 ([108,104],2,3,1,0),
 ([108,119],2,3,2,0),
 ([99,108,99],2,3,3,0),
 ([108,98,117],2,3,4,0),
 ([108,104,117],2,3,5,0),
 ([115,98],5,35,0,0),
 ([115,104],5,35,1,0),
 ([115,119],5,35,2,0),
 ([99,115,99],5,35,3,0),
 ([97,100,100,105],2,19,0,0),
 ([115,108,116,105],2,19,2,0),
 ([115,108,116,105,117],2,19,3,0),
 ([120,111,114,105],2,19,4,0),
 ([111,114,105],2,19,6,0),
 ([97,110,100,105],2,19,7,0),
 ([115,108,108,105],4,19,1,0),
 ([115,114,108,105],4,19,5,0),
 ([115,114,97,105],4,19,5,32),
 ([97,100,100],7,51,0,0),
 ([115,117,98],7,51,0,32),
 ([115,108,108],7,51,1,0),
 ([115,108,116],7,51,2,0),
 ([115,108,116,117],7,51,3,0),
 ([120,111,114],7,51,4,0),
 ([115,114,108],7,51,5,0),
 ([115,114,97],7,51,5,32),
 ([111,114],7,51,6,0),
 ([97,110,100],7,51,7,0),
 ([109,117,108],7,51,0,1),
 ([109,117,108,104],7,51,1,1),
 ([109,117,108,104,115,117],7,51,2,1),
 ([109,117,108,104,117],7,51,3,1),
 ([100,105,118],7,51,4,1),
 ([100,105,118,117],7,51,5,1),
 ([114,101,109],7,51,6,1),
 ([114,101,109,117],7,51,7,1),
 ([99,46,105,110,99,97,100,100,114,105,109,109],2,91,1,0),
 ([99,46,115,101,116,98,111,117,110,100,115,105,109,109],3,91,2,0),
 ([99,46,115,101,116,98,111,117,110,100,115],7,91,0,8),
 ([99,46,115,101,97,108],7,91,0,11),
 ([99,46,117,110,115,101,97,108],8,91,0,384),
 ([99,46,97,110,100,112,101,114,109],7,91,0,13),
 ([99,46,115,101,116,97,100,100,114],7,91,0,16),
 ([99,46,105,110,99,97,100,100,114],7,91,0,17),
 ([99,46,116,101,115,116,115,117,98,115,101,116],7,91,0,32),
 ([99,46,103,101,116,112,101,114,109],8,91,0,4064),
 ([99,46,103,101,116,116,121,112,101],8,91,0,4065),
 ([99,46,103,101,116,98,97,115,101],8,91,0,4066),
 ([99,46,103,101,116,108,101,110],8,91,0,4067),
 ([99,46,103,101,116,116,97,103],8,91,0,4068),
 ([99,46,109,111,118,101],8,91,0,4074),
 ([99,46,99,108,101,97,114,116,97,103],8,91,0,4075),
 ([99,46,103,101,116,97,100,100,114],8,91,0,4079),
 ([99,46,115,101,110,116,114,121],8,91,0,4081),
 ([99,46,115,112,101,99,105,97,108,114,119],9,91,0,1),
 ([101,99,97,108,108],10,115,0,0),
 ([109,114,101,116],10,807403635,0,0)]
def rowL (o:Nat) (r:List UInt8 × Nat × Nat × Nat × Nat):List Value:=[.int .u8 (o:Int),.string ⟨r.1.toArray⟩,.int .i64 (r.2.1:Int),.int .u32 (r.2.2.1:Int),.int .u32 (r.2.2.2.1:Int),.int .u32 (r.2.2.2.2:Int)]
def tableL:Nat→List (List UInt8 × Nat × Nat × Nat × Nat)→List Value
 | _,[]=>[]
 | o,r :: l=>rowL o r++tableL (o+1) l
def TA:Array Value:=(tableL 1 RT).toArray
set_option maxRecDepth 100000 in
theorem c23 (w:World):Calls Tryz.prog 64 #[] w fun en w'=>en=.returned (.slice (some ⟨w.heap.size,0,none⟩) 68 68)∧w'=w.alloc (.cells TA 101):=by
 go_enter Tryz.func64,Tryz.ntmps64
 iterate 11 go_step
 refine wpList_runPlain _ _ ⟨#[.slice (some ⟨w.heap.size,0,none⟩) 68 68,.agg (rowL 1 ([108,117,105],0,55,0,0)).toArray,.agg (rowL 2 ([97,117,105,112,99,99],0,23,0,0)).toArray,.agg (rowL 3 ([99,106,97,108],1,111,0,0)).toArray,.agg (rowL 4 ([99,106,97,108,114],2,103,0,0)).toArray,.agg (rowL 5 ([98,101,113],6,99,0,0)).toArray,.agg (rowL 6 ([98,110,101],6,99,1,0)).toArray,.agg (rowL 7 ([98,108,116],6,99,4,0)).toArray,.agg (rowL 8 ([98,103,101],6,99,5,0)).toArray,.agg (rowL 9 ([98,108,116,117],6,99,6,0)).toArray,.agg (rowL 10 ([98,103,101,117],6,99,7,0)).toArray,.agg (rowL 11 ([108,98],2,3,0,0)).toArray,.agg (rowL 12 ([108,104],2,3,1,0)).toArray,.agg (rowL 13 ([108,119],2,3,2,0)).toArray,.agg (rowL 14 ([99,108,99],2,3,3,0)).toArray,.agg (rowL 15 ([108,98,117],2,3,4,0)).toArray,.agg (rowL 16 ([108,104,117],2,3,5,0)).toArray,.agg (rowL 17 ([115,98],5,35,0,0)).toArray,.agg (rowL 18 ([115,104],5,35,1,0)).toArray,.agg (rowL 19 ([115,119],5,35,2,0)).toArray,.agg (rowL 20 ([99,115,99],5,35,3,0)).toArray,.agg (rowL 21 ([97,100,100,105],2,19,0,0)).toArray,.agg (rowL 22 ([115,108,116,105],2,19,2,0)).toArray,.agg (rowL 23 ([115,108,116,105,117],2,19,3,0)).toArray,.agg (rowL 24 ([120,111,114,105],2,19,4,0)).toArray,.agg (rowL 25 ([111,114,105],2,19,6,0)).toArray,.agg (rowL 26 ([97,110,100,105],2,19,7,0)).toArray,.agg (rowL 27 ([115,108,108,105],4,19,1,0)).toArray,.agg (rowL 28 ([115,114,108,105],4,19,5,0)).toArray,.agg (rowL 29 ([115,114,97,105],4,19,5,32)).toArray,.agg (rowL 30 ([97,100,100],7,51,0,0)).toArray,.agg (rowL 31 ([115,117,98],7,51,0,32)).toArray,.agg (rowL 32 ([115,108,108],7,51,1,0)).toArray,.agg (rowL 33 ([115,108,116],7,51,2,0)).toArray,.agg (rowL 34 ([115,108,116,117],7,51,3,0)).toArray,.agg (rowL 35 ([120,111,114],7,51,4,0)).toArray,.agg (rowL 36 ([115,114,108],7,51,5,0)).toArray,.agg (rowL 37 ([115,114,97],7,51,5,32)).toArray,.agg (rowL 38 ([111,114],7,51,6,0)).toArray,.agg (rowL 39 ([97,110,100],7,51,7,0)).toArray,.agg (rowL 40 ([109,117,108],7,51,0,1)).toArray,.agg (rowL 41 ([109,117,108,104],7,51,1,1)).toArray,.agg (rowL 42 ([109,117,108,104,115,117],7,51,2,1)).toArray,.agg (rowL 43 ([109,117,108,104,117],7,51,3,1)).toArray,.agg (rowL 44 ([100,105,118],7,51,4,1)).toArray,.agg (rowL 45 ([100,105,118,117],7,51,5,1)).toArray,.agg (rowL 46 ([114,101,109],7,51,6,1)).toArray,.agg (rowL 47 ([114,101,109,117],7,51,7,1)).toArray,.agg (rowL 48 ([99,46,105,110,99,97,100,100,114,105,109,109],2,91,1,0)).toArray,.agg (rowL 49 ([99,46,115,101,116,98,111,117,110,100,115,105,109,109],3,91,2,0)).toArray,.agg (rowL 50 ([99,46,115,101,116,98,111,117,110,100,115],7,91,0,8)).toArray,.agg (rowL 51 ([99,46,115,101,97,108],7,91,0,11)).toArray,.agg (rowL 52 ([99,46,117,110,115,101,97,108],8,91,0,384)).toArray,.agg (rowL 53 ([99,46,97,110,100,112,101,114,109],7,91,0,13)).toArray,.agg (rowL 54 ([99,46,115,101,116,97,100,100,114],7,91,0,16)).toArray,.agg (rowL 55 ([99,46,105,110,99,97,100,100,114],7,91,0,17)).toArray,.agg (rowL 56 ([99,46,116,101,115,116,115,117,98,115,101,116],7,91,0,32)).toArray,.agg (rowL 57 ([99,46,103,101,116,112,101,114,109],8,91,0,4064)).toArray,.agg (rowL 58 ([99,46,103,101,116,116,121,112,101],8,91,0,4065)).toArray,.agg (rowL 59 ([99,46,103,101,116,98,97,115,101],8,91,0,4066)).toArray,.agg (rowL 60 ([99,46,103,101,116,108,101,110],8,91,0,4067)).toArray,.agg (rowL 61 ([99,46,103,101,116,116,97,103],8,91,0,4068)).toArray,.agg (rowL 62 ([99,46,109,111,118,101],8,91,0,4074)).toArray,.agg (rowL 63 ([99,46,99,108,101,97,114,116,97,103],8,91,0,4075)).toArray,.agg (rowL 64 ([99,46,103,101,116,97,100,100,114],8,91,0,4079)).toArray,.agg (rowL 65 ([99,46,115,101,110,116,114,121],8,91,0,4081)).toArray,.agg (rowL 66 ([99,46,115,112,101,99,105,97,108,114,119],9,91,0,1)).toArray,.agg (rowL 67 ([101,99,97,108,108],10,115,0,0)).toArray,.agg (rowL 68 ([109,114,101,116],10,807403635,0,0)).toArray,.slice (some ⟨w.heap.size,0,none⟩) 68 68],[]⟩ _ (w.alloc (.cells TA 101)) (by kernel_rfl) ?_
 go_wp2_with fail
 go_ret
 exact ⟨rfl,rfl⟩
def RTd:List UInt8 × Nat × Nat × Nat × Nat:=([],0,0,0,0)
def RQ (q:Nat):List UInt8 × Nat × Nat × Nat × Nat:=RT.getD q RTd
theorem tableL_at:∀ (l:List (List UInt8 × Nat × Nat × Nat × Nat)) (o k j:Nat),k<l.length→j<6→(tableL o l)[k*6+j]?=(rowL (o+k) (l.getD k RTd))[j]?
 | r :: l,o,0,j,_,hj=>by
  unfold tableL
  rw [List.getElem?_append_left (by simp [rowL];omega)]
  simp
 | r :: l,o,k+1,j,hk,hj=>by
  unfold tableL
  rw [List.getElem?_append_right (by simp [rowL];omega)]
  have:=tableL_at l (o+1) k j (by simpa using hk) hj
  rw [show (k+1)*6+j-(rowL o r).length=k*6+j by simp [rowL];omega,this]
  rw [show o+1+k=o+(k+1) by omega]
  simp
theorem TA_at (k j:Nat) (hk:k<68) (hj:j<6):TA[k*6+j]?=(rowL (k+1) (RQ k))[j]?:=by
 have h:=tableL_at RT 1 k j hk hj
 rw [show 1+k=k+1 by omega] at h
 unfold TA RQ
 simpa using h
def rowV (q:Nat):Value:=.agg (rowL (q+1) (RQ q)).toArray
def row18 (o:Nat):Value:=if o=0∨68<o then .tuple #[.agg #[.int .u8 0,.string ⟨#[]⟩,.int .i64 0,.int .u32 0,.int .u32 0,.int .u32 0],.bool false] else .tuple #[rowV (o-1),.bool true]
set_option maxHeartbeats 1000000 in
theorem c18 (o:Nat) (ho:o<256) (w:World):Calls Tryz.prog 46 #[.int .u8 (o:Int)] w fun en w'=>en=.returned (row18 o)∧Below w.heap.size w w':=by
 go_enter Tryz.func46,Tryz.ntmps46
 go_wp2_with fail
 refine (c23 _).mono ?_
 rintro _ w1 ⟨rfl,hw1⟩
 have hcell:∀ k j v,k<68→j<6→(rowL (k+1) (RQ k))[j]?=some v→w1.cell? ⟨w.heap.size+1,k*6+j,none⟩=some v:=by
  intro k j v hk hj hv
  rw [hw1,←hv,←TA_at k j hk hj]
  simp
 have hB:Below w.heap.size w w1:=by
  rw [hw1]
  exact ((Below.refl _ _).alloc (Nat.le_refl _) _).alloc (by simp) _
 have hR:Below (w.heap.size+1) (w.alloc (.cells #[.int .u8 0,.string ⟨#[]⟩,.int .i64 0,.int .u32 0,.int .u32 0,.int .u32 0] 101)) w1:=by
  rw [hw1]
  exact (Below.refl _ _).alloc (by simp) _
 have hz:w.heap.size+1<w1.heap.size:=by rw [hw1];simp
 obtain ⟨hc1,hf1⟩:=bcell hR
 have hz0:w.heap.size<w.heap.size+1:=by omega
 have hz1:w.heap.size<w1.heap.size:=by omega
 clear hw1 hR
 have HC:=Lib.hid hcell
 clear hcell
 go_wp2_with fail
 go_loop [5] (fun i=>∃ k:Nat,k≤68∧i=.int .i64 (k:Int)∧(o=0∨k<o)) (fun i=>68-(intOf i).toNat)
 case atStart=>exact ⟨0,by omega,rfl,by omega⟩
 case round =>
  obtain ⟨k,hk,rfl,hko⟩:=hrel
  by_cases hlt:k<68
  ·obtain ⟨rn,rf,rc,r3,rx,hRQ⟩:∃ (rn:List UInt8) (rf rc r3 rx:Nat),RQ k=(rn,rf,rc,r3,rx):=⟨_,_,_,_,_,rfl⟩
   have d0:w1.cell? ⟨w.heap.size+1,k*6,none⟩=some (.int .u8 ((k:Int)+1)):=HC.out k 0 _ hlt (by omega) (by rw [hRQ];rfl)
   have d1:w1.cell? ⟨w.heap.size+1,k*6+1,none⟩=some (.string ⟨rn.toArray⟩):=HC.out k 1 _ hlt (by omega) (by rw [hRQ];rfl)
   have d2:w1.cell? ⟨w.heap.size+1,k*6+2,none⟩=some (.int .i64 (rf:Int)):=HC.out k 2 _ hlt (by omega) (by rw [hRQ];rfl)
   have d3:w1.cell? ⟨w.heap.size+1,k*6+3,none⟩=some (.int .u32 (rc:Int)):=HC.out k 3 _ hlt (by omega) (by rw [hRQ];rfl)
   have d4:w1.cell? ⟨w.heap.size+1,k*6+4,none⟩=some (.int .u32 (r3:Int)):=HC.out k 4 _ hlt (by omega) (by rw [hRQ];rfl)
   have d5:w1.cell? ⟨w.heap.size+1,k*6+5,none⟩=some (.int .u32 (rx:Int)):=HC.out k 5 _ hlt (by omega) (by rw [hRQ];rfl)
   have HRQ:=Lib.hid hRQ
   clear hRQ
   by_cases he:o=k+1
   ·subst he
    have heq:(((k:Int)+1)==((k+1:Nat):Int))=true:=by simp
    go_wp2_with fail
    refine bodyPost_ret (v:=.tuple #[.agg #[.int .u8 ((k:Int)+1),.string ⟨rn.toArray⟩,.int .i64 (rf:Int),.int .u32 (rc:Int),.int .u32 (r3:Int),.int .u32 (rx:Int)],.bool true]) (by simp [results,Tryz.results46,go_sem,hc1,hz0]) rfl ⟨?_,(((((hB.setCell (Nat.le_refl _) _).setCell (Nat.le_refl _) _).setCell (Nat.le_refl _) _).setCell (Nat.le_refl _) _).setCell (Nat.le_refl _) _).setCell (Nat.le_refl _) _⟩
    unfold row18 rowV
    rw [if_neg (by omega),Nat.add_sub_cancel,HRQ.out]
    rfl
   ·have hne:(((k:Int)+1)==(o:Int))=false:=by simp;omega
    go_wp2_with fail
    go_round
    case rel=>exact ⟨k+1,by omega,by go_num,by omega⟩
    case measure=>simp [intOf];omega
  ·obtain rfl:k=68:=by omega
   go_wp2_with fail
   refine bodyPost_ret (v:=.tuple #[.agg #[.int .u8 0,.string ⟨#[]⟩,.int .i64 0,.int .u32 0,.int .u32 0,.int .u32 0],.bool false]) (by simp [results,Tryz.results46,go_sem,hc1,hz0]) rfl ⟨?_,(((((hB.setCell (Nat.le_refl _) _).setCell (Nat.le_refl _) _).setCell (Nat.le_refl _) _).setCell (Nat.le_refl _) _).setCell (Nat.le_refl _) _).setCell (Nat.le_refl _) _⟩
   unfold row18
   rw [if_pos (by omega)]
theorem bs_0_5 (n:Nat) (hn:n<4294967296) (w:World):Calls Tryz.prog 48 #[.int .u32 (n:Int),.int .u64 0,.int .u64 5] w fun en w'=>en=.returned (.int .u32 ((n/1%32:Nat):Int))∧w=w':=by
 have e:=and32 (n/1) 5 (by omega) (by omega) 31 rfl
 rw [show (2:Nat) ^ 5=32 from rfl,Nat.div_one] at e
 have l:n/1%32<32:=Nat.mod_lt _ (by omega)
 have E:=Lib.hid e
 clear e
 go_enter Tryz.func48,Tryz.ntmps48
 go_wp2
 all_goals
  go_ret
  refine ⟨ret1 ?_,rfl⟩
  have e:=E.out
  simp only [Nat.div_one] at e l ⊢
  rw [e]
theorem bs_0_12 (n:Nat) (hn:n<4294967296) (w:World):Calls Tryz.prog 48 #[.int .u32 (n:Int),.int .u64 0,.int .u64 12] w fun en w'=>en=.returned (.int .u32 ((n/1%4096:Nat):Int))∧w=w':=by
 have e:=and32 (n/1) 12 (by omega) (by omega) 4095 rfl
 rw [show (2:Nat) ^ 12=4096 from rfl,Nat.div_one] at e
 have l:n/1%4096<4096:=Nat.mod_lt _ (by omega)
 have E:=Lib.hid e
 clear e
 go_enter Tryz.func48,Tryz.ntmps48
 go_wp2
 all_goals
  go_ret
  refine ⟨ret1 ?_,rfl⟩
  have e:=E.out
  simp only [Nat.div_one] at e l ⊢
  rw [e]
theorem bs_1_4 (n:Nat) (hn:n<4294967296) (w:World):Calls Tryz.prog 48 #[.int .u32 (n:Int),.int .u64 1,.int .u64 4] w fun en w'=>en=.returned (.int .u32 ((n/2%16:Nat):Int))∧w=w':=by
 have e:=and32 (n/2) 4 (by omega) (by omega) 15 rfl
 rw [show (2:Nat) ^ 4=16 from rfl] at e
 have l:n/2%16<16:=Nat.mod_lt _ (by omega)
 have E:=Lib.hid e
 clear e
 go_enter Tryz.func48,Tryz.ntmps48
 go_wp2
 all_goals
  go_ret
  refine ⟨ret1 ?_,rfl⟩
  have e:=E.out
  rw [show ((n/2:Nat):Int)=(n:Int)/2 from rfl] at e
  rw [e]
theorem bs_1_10 (n:Nat) (hn:n<4294967296) (w:World):Calls Tryz.prog 48 #[.int .u32 (n:Int),.int .u64 1,.int .u64 10] w fun en w'=>en=.returned (.int .u32 ((n/2%1024:Nat):Int))∧w=w':=by
 have e:=and32 (n/2) 10 (by omega) (by omega) 1023 rfl
 rw [show (2:Nat) ^ 10=1024 from rfl] at e
 have l:n/2%1024<1024:=Nat.mod_lt _ (by omega)
 have E:=Lib.hid e
 clear e
 go_enter Tryz.func48,Tryz.ntmps48
 go_wp2
 all_goals
  go_ret
  refine ⟨ret1 ?_,rfl⟩
  have e:=E.out
  rw [show ((n/2:Nat):Int)=(n:Int)/2 from rfl] at e
  rw [e]
theorem bs_5_6 (n:Nat) (hn:n<4294967296) (w:World):Calls Tryz.prog 48 #[.int .u32 (n:Int),.int .u64 5,.int .u64 6] w fun en w'=>en=.returned (.int .u32 ((n/32%64:Nat):Int))∧w=w':=by
 have e:=and32 (n/32) 6 (by omega) (by omega) 63 rfl
 rw [show (2:Nat) ^ 6=64 from rfl] at e
 have l:n/32%64<64:=Nat.mod_lt _ (by omega)
 have E:=Lib.hid e
 clear e
 go_enter Tryz.func48,Tryz.ntmps48
 go_wp2
 all_goals
  go_ret
  refine ⟨ret1 ?_,rfl⟩
  have e:=E.out
  rw [show ((n/32:Nat):Int)=(n:Int)/32 from rfl] at e
  rw [e]
theorem bs_5_7 (n:Nat) (hn:n<4294967296) (w:World):Calls Tryz.prog 48 #[.int .u32 (n:Int),.int .u64 5,.int .u64 7] w fun en w'=>en=.returned (.int .u32 ((n/32%128:Nat):Int))∧w=w':=by
 have e:=and32 (n/32) 7 (by omega) (by omega) 127 rfl
 rw [show (2:Nat) ^ 7=128 from rfl] at e
 have l:n/32%128<128:=Nat.mod_lt _ (by omega)
 have E:=Lib.hid e
 clear e
 go_enter Tryz.func48,Tryz.ntmps48
 go_wp2
 all_goals
  go_ret
  refine ⟨ret1 ?_,rfl⟩
  have e:=E.out
  rw [show ((n/32:Nat):Int)=(n:Int)/32 from rfl] at e
  rw [e]
theorem bs_11_1 (n:Nat) (hn:n<4294967296) (w:World):Calls Tryz.prog 48 #[.int .u32 (n:Int),.int .u64 11,.int .u64 1] w fun en w'=>en=.returned (.int .u32 ((n/2048%2:Nat):Int))∧w=w':=by
 have e:=and32 (n/2048) 1 (by omega) (by omega) 1 rfl
 rw [show (2:Nat) ^ 1=2 from rfl] at e
 have l:n/2048%2<2:=Nat.mod_lt _ (by omega)
 have E:=Lib.hid e
 clear e
 go_enter Tryz.func48,Tryz.ntmps48
 go_wp2
 all_goals
  go_ret
  refine ⟨ret1 ?_,rfl⟩
  have e:=E.out
  rw [show ((n/2048:Nat):Int)=(n:Int)/2048 from rfl] at e
  rw [e]
theorem bs_12_1 (n:Nat) (hn:n<4294967296) (w:World):Calls Tryz.prog 48 #[.int .u32 (n:Int),.int .u64 12,.int .u64 1] w fun en w'=>en=.returned (.int .u32 ((n/4096%2:Nat):Int))∧w=w':=by
 have e:=and32 (n/4096) 1 (by omega) (by omega) 1 rfl
 rw [show (2:Nat) ^ 1=2 from rfl] at e
 have l:n/4096%2<2:=Nat.mod_lt _ (by omega)
 have E:=Lib.hid e
 clear e
 go_enter Tryz.func48,Tryz.ntmps48
 go_wp2
 all_goals
  go_ret
  refine ⟨ret1 ?_,rfl⟩
  have e:=E.out
  rw [show ((n/4096:Nat):Int)=(n:Int)/4096 from rfl] at e
  rw [e]
theorem bs_12_8 (n:Nat) (hn:n<4294967296) (w:World):Calls Tryz.prog 48 #[.int .u32 (n:Int),.int .u64 12,.int .u64 8] w fun en w'=>en=.returned (.int .u32 ((n/4096%256:Nat):Int))∧w=w':=by
 have e:=and32 (n/4096) 8 (by omega) (by omega) 255 rfl
 rw [show (2:Nat) ^ 8=256 from rfl] at e
 have l:n/4096%256<256:=Nat.mod_lt _ (by omega)
 have E:=Lib.hid e
 clear e
 go_enter Tryz.func48,Tryz.ntmps48
 go_wp2
 all_goals
  go_ret
  refine ⟨ret1 ?_,rfl⟩
  have e:=E.out
  rw [show ((n/4096:Nat):Int)=(n:Int)/4096 from rfl] at e
  rw [e]
theorem bs_20_1 (n:Nat) (hn:n<4294967296) (w:World):Calls Tryz.prog 48 #[.int .u32 (n:Int),.int .u64 20,.int .u64 1] w fun en w'=>en=.returned (.int .u32 ((n/1048576%2:Nat):Int))∧w=w':=by
 have e:=and32 (n/1048576) 1 (by omega) (by omega) 1 rfl
 rw [show (2:Nat) ^ 1=2 from rfl] at e
 have l:n/1048576%2<2:=Nat.mod_lt _ (by omega)
 have E:=Lib.hid e
 clear e
 go_enter Tryz.func48,Tryz.ntmps48
 go_wp2
 all_goals
  go_ret
  refine ⟨ret1 ?_,rfl⟩
  have e:=E.out
  rw [show ((n/1048576:Nat):Int)=(n:Int)/1048576 from rfl] at e
  rw [e]
theorem imm0 (n:Int) (hn:i32 n) (w:World):Calls Tryz.prog 80 #[.int .i64 0,.int .i32 n] w fun en w'=>en=.returned (.bool (mayF 0 n))∧w=w':=by
 obtain ⟨hn1,hn2⟩:=hn
 go_enter Tryz.func80,Tryz.ntmps80
 go_wp2
 all_goals
  go_ret
  refine ⟨retb ?_,rfl⟩
  rw [Bool.eq_iff_iff]
  simp only [mayF,tm0,decide_eq_true_eq]
  try simp
  try omega
theorem imm1 (n:Int) (hn:i32 n) (w:World):Calls Tryz.prog 80 #[.int .i64 1,.int .i32 n] w fun en w'=>en=.returned (.bool (mayF 1 n))∧w=w':=by
 obtain ⟨hn1,hn2⟩:=hn
 go_enter Tryz.func80,Tryz.ntmps80
 go_wp2
 all_goals
  go_ret
  refine ⟨retb ?_,rfl⟩
  rw [Bool.eq_iff_iff]
  simp only [mayF,tm0,decide_eq_true_eq]
  try simp
  try omega
theorem imm2 (n:Int) (hn:i32 n) (w:World):Calls Tryz.prog 80 #[.int .i64 2,.int .i32 n] w fun en w'=>en=.returned (.bool (mayF 2 n))∧w=w':=by
 obtain ⟨hn1,hn2⟩:=hn
 go_enter Tryz.func80,Tryz.ntmps80
 go_wp2
 all_goals
  go_ret
  refine ⟨retb ?_,rfl⟩
  rw [Bool.eq_iff_iff]
  simp only [mayF,decide_eq_true_eq]
  try simp
  try omega
theorem imm3 (n:Int) (hn:i32 n) (w:World):Calls Tryz.prog 80 #[.int .i64 3,.int .i32 n] w fun en w'=>en=.returned (.bool (mayF 3 n))∧w=w':=by
 obtain ⟨hn1,hn2⟩:=hn
 go_enter Tryz.func80,Tryz.ntmps80
 go_wp2
 all_goals
  go_ret
  refine ⟨retb ?_,rfl⟩
  rw [Bool.eq_iff_iff]
  simp only [mayF,decide_eq_true_eq]
  try simp
  try omega
theorem imm4 (n:Int) (hn:i32 n) (w:World):Calls Tryz.prog 80 #[.int .i64 4,.int .i32 n] w fun en w'=>en=.returned (.bool (mayF 4 n))∧w=w':=by
 obtain ⟨hn1,hn2⟩:=hn
 go_enter Tryz.func80,Tryz.ntmps80
 go_wp2
 all_goals
  go_ret
  refine ⟨retb ?_,rfl⟩
  rw [Bool.eq_iff_iff]
  simp only [mayF,decide_eq_true_eq]
  try simp
  try omega
theorem imm5 (n:Int) (hn:i32 n) (w:World):Calls Tryz.prog 80 #[.int .i64 5,.int .i32 n] w fun en w'=>en=.returned (.bool (mayF 5 n))∧w=w':=by
 obtain ⟨hn1,hn2⟩:=hn
 go_enter Tryz.func80,Tryz.ntmps80
 go_wp2
 all_goals
  go_ret
  refine ⟨retb ?_,rfl⟩
  rw [Bool.eq_iff_iff]
  simp only [mayF,decide_eq_true_eq]
  try simp
  try omega
theorem imm6 (n:Int) (hn:i32 n) (w:World):Calls Tryz.prog 80 #[.int .i64 6,.int .i32 n] w fun en w'=>en=.returned (.bool (mayF 6 n))∧w=w':=by
 obtain ⟨hn1,hn2⟩:=hn
 go_enter Tryz.func80,Tryz.ntmps80
 go_wp2
 all_goals
  go_ret
  refine ⟨retb ?_,rfl⟩
  rw [Bool.eq_iff_iff]
  simp only [mayF,tm0,decide_eq_true_eq]
  try simp
  try omega
theorem imm7 (n:Int) (hn:i32 n) (w:World):Calls Tryz.prog 80 #[.int .i64 7,.int .i32 n] w fun en w'=>en=.returned (.bool (mayF 7 n))∧w=w':=by
 obtain ⟨hn1,hn2⟩:=hn
 go_enter Tryz.func80,Tryz.ntmps80
 go_wp2
 all_goals
  go_ret
  refine ⟨retb ?_,rfl⟩
  rw [Bool.eq_iff_iff]
  simp only [mayF,decide_eq_true_eq]
  try simp
  try omega
theorem imm8 (n:Int) (hn:i32 n) (w:World):Calls Tryz.prog 80 #[.int .i64 8,.int .i32 n] w fun en w'=>en=.returned (.bool (mayF 8 n))∧w=w':=by
 obtain ⟨hn1,hn2⟩:=hn
 go_enter Tryz.func80,Tryz.ntmps80
 go_wp2
 all_goals
  go_ret
  refine ⟨retb ?_,rfl⟩
  rw [Bool.eq_iff_iff]
  simp only [mayF,decide_eq_true_eq]
  try simp
  try omega
theorem imm9 (n:Int) (hn:i32 n) (w:World):Calls Tryz.prog 80 #[.int .i64 9,.int .i32 n] w fun en w'=>en=.returned (.bool (mayF 9 n))∧w=w':=by
 obtain ⟨hn1,hn2⟩:=hn
 go_enter Tryz.func80,Tryz.ntmps80
 go_wp2
 all_goals
  go_ret
  refine ⟨retb ?_,rfl⟩
  rw [Bool.eq_iff_iff]
  simp only [mayF,decide_eq_true_eq]
  try simp
  try omega
theorem imm10 (n:Int) (hn:i32 n) (w:World):Calls Tryz.prog 80 #[.int .i64 10,.int .i32 n] w fun en w'=>en=.returned (.bool (mayF 10 n))∧w=w':=by
 obtain ⟨hn1,hn2⟩:=hn
 go_enter Tryz.func80,Tryz.ntmps80
 go_wp2
 all_goals
  go_ret
  refine ⟨retb ?_,rfl⟩
  rw [Bool.eq_iff_iff]
  simp only [mayF,decide_eq_true_eq]
  try simp
  try omega
end Go.Proofs.YtnkoknfihhdelaaGreatDoor.In
