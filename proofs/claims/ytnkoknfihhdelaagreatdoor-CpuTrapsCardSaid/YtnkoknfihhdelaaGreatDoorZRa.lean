import Derived.Test.YtnkoknfihhdelaaGreatDoorZA
import Derived.Test.YtnkoknfihhdelaaGreatDoorZKA
import Derived.Test.YtnkoknfihhdelaaGreatDoorZKQ
import Derived.Test.YtnkoknfihhdelaaGreatDoorZN
namespace Go.Proofs.YtnkoknfihhdelaaGreatDoor
open Go.ChangeShapes Go.WideShapes Go.ChangeAt Go.RowKit
set_option linter.unusedVariables false
set_option maxRecDepth 100000
def Cq.ct (q:Cq):Cq:=⟨false,q.a,q.p,q.y,q.e,q.b,q.t⟩
def Cq.ap (q:Cq) (s:Nat):Cq:=⟨q.g&&decide (q.y=0),q.a,q.p &&& (s%256),q.y,q.e,q.b,q.t⟩
def Cq.sy (q:Cq):Cq:=⟨q.g&&(decide (q.y=0)&&decide (q.p/8%2=1)),q.a,q.p,1,q.e,q.b,q.t⟩
def Cq.se (q:Cq) (s:Nat):Cq:=⟨q.g&&(decide (q.y=0)&&!decide (s%8=0)),q.a,q.p,s%8,q.e,q.b,q.t⟩
def Cq.us (q:Cq):Cq:=⟨q.g&&!decide (q.y=0),q.a,q.p,0,q.e,q.b,q.t⟩
def Cq.sb (q:Cq) (n:Nat):Cq:=if (decide (q.y=0)&&Ca.wi (q.e%16) (q.b%512) (q.t%512) q.a q.a n&&decide ((Ca.ex q.a (q.a+n)).2.2.2=0))=true then ⟨q.g,q.a,q.p,q.y,(Ca.ex q.a (q.a+n)).1,(Ca.ex q.a (q.a+n)).2.1,(Ca.ex q.a (q.a+n)).2.2.1⟩ else q.ct
def Cq.bs (q:Cq):Nat:=Ca.bs (q.e%16) (q.b%512) q.a
def Cq.ln (q:Cq):Nat:=Ca.ln (q.e%16) (q.b%512) (q.t%512)
def Cq.may (q:Cq) (p x n:Nat):Bool:=Ca.may q.g q.a q.p q.y q.e q.b q.t p x n
def Cq.subs (q r:Cq):Bool:=Ca.subs q.g q.a q.p q.e q.b q.t r.g r.a r.p r.e r.b r.t
theorem ct_call (q:Cq) (w:World):Calls Tryz.prog 143 #[q.v] w fun e w'=>e=.returned q.ct.v∧Below w.heap.size w w' :=
 Ca.c24 q.g q.a q.p q.y q.e q.b q.t w
theorem ap_call (q:Cq) (hq:q.fit) (n:Nat) (hn:n<4294967296) (w:World):Calls Tryz.prog 145 #[q.v,.int .u32 (n:Int)] w fun e w'=>e=.returned (q.ap n).v∧Below w.heap.size w w' :=
 Ca.c22 q.g q.a q.p q.y q.e q.b q.t n hq.2.1 hq.2.2.1 hn w
theorem sy_call (q:Cq) (hq:q.fit) (w:World):Calls Tryz.prog 144 #[q.v] w fun e w'=>e=.returned q.sy.v∧Below w.heap.size w w' :=
 Ca.c26 q.g q.a q.p q.y q.e q.b q.t hq.2.1 hq.2.2.1 w
theorem se_call (q:Cq) (hq:q.fit) (n:Nat) (hn:n<4294967296) (w:World):Calls Tryz.prog 140 #[q.v,.int .u32 (n:Int)] w fun e w'=>e=.returned (q.se n).v∧Below w.heap.size w w' :=
 Ca.c28 q.g q.a q.p q.y q.e q.b q.t n hq.2.2.1 hn w
theorem us_call (q:Cq) (hq:q.fit) (w:World):Calls Tryz.prog 141 #[q.v] w fun e w'=>e=.returned q.us.v∧Below w.heap.size w w' :=
 Ca.c30 q.g q.a q.p q.y q.e q.b q.t hq.2.2.1 w
theorem sb_v (q:Cq) (n:Nat):Ca.sbV q.g q.a q.p q.y q.e q.b q.t n=(q.sb n).v:=by
 unfold Ca.sbV Cq.sb
 split <;> rfl
theorem sb_call (q:Cq) (hq:q.fit) (n:Nat) (hn:n<4294967296) (w:World):Calls Tryz.prog 146 #[q.v,.int .u32 (n:Int)] w fun e w'=>e=.returned (q.sb n).v∧Below w.heap.size w w':=by
 rw [←sb_v]
 exact Ca.c20s q.g q.a q.p q.y q.e q.b q.t n hq.1 hq.2.2.1 hq.2.2.2.1 hq.2.2.2.2.1 hq.2.2.2.2.2 hn w
theorem int_call (n:Nat) (w:World):Calls Tryz.prog 132 #[.int .u32 (n:Int)] w fun e w'=>e=.returned (⟨false,n,0,0,0,0,0⟩:Cq).v∧Below w.heap.size w w':=Ca.c15n n w
theorem bs_call (q:Cq) (hq:q.fit) (w:World):Calls Tryz.prog 171 #[q.v] w fun e w'=>e=.returned (.int .u64 (q.bs:Int))∧Below w.heap.size w w' :=
 Ca.c38 q.g q.a q.p q.y q.e q.b q.t hq.1 hq.2.2.2.1 hq.2.2.2.2.1 hq.2.2.2.2.2 w
theorem tp_call (q:Cq) (hq:q.fit) (w:World):Calls Tryz.prog 172 #[q.v] w fun e w'=>e=.returned (.int .u64 ((q.bs+q.ln:Nat):Int))∧Below w.heap.size w w' :=
 Ca.c40 q.g q.a q.p q.y q.e q.b q.t hq.1 hq.2.2.2.1 hq.2.2.2.2.1 hq.2.2.2.2.2 w
theorem may_call (q:Cq) (hq:q.fit) (p x n:Nat) (hp:p<256) (hx:x<18446744073709551616) (hn:n<18446744073709551616) (w:World):Calls Tryz.prog 87 #[q.v,.int .u8 (p:Int),.int .u64 (x:Int),.int .u64 (n:Int)] w fun e w'=>e=.returned (.bool (q.may p x n))∧Below w.heap.size w w' :=
 Ca.c36 q.g q.a q.p q.y q.e q.b q.t p x n hq.1 hq.2.1 hq.2.2.1 hq.2.2.2.1 hq.2.2.2.2.1 hq.2.2.2.2.2 hp hx hn w
theorem subs_call (q r:Cq) (hq:q.fit) (hr:r.fit) (w:World):Calls Tryz.prog 148 #[q.v,r.v] w fun e w'=>e=.returned (.bool (q.subs r))∧Below w.heap.size w w' :=
 Ca.c34 q.g q.a q.p q.y q.e q.b q.t r.g r.a r.p r.y r.e r.b r.t hq.1 hq.2.1 hq.2.2.2.1 hq.2.2.2.2.1 hq.2.2.2.2.2 hr.1 hr.2.1 hr.2.2.2.1 hr.2.2.2.2.1 hr.2.2.2.2.2 w
abbrev HX (T:World→Prop) (g o:Nat) (q:Cq) (W:World):Prop:=T W∧W.cell? ⟨g,o,none⟩=some (.bool q.g)∧W.cell? ⟨g,o+1,none⟩=some (.int .u32 (q.a:Int))∧W.cell? ⟨g,o+2,none⟩=some (.int .u8 (q.p:Int))∧W.cell? ⟨g,o+3,none⟩=some (.int .u8 (q.y:Int))∧W.cell? ⟨g,o+4,none⟩=some (.int .u8 (q.e:Int))∧W.cell? ⟨g,o+5,none⟩=some (.int .u16 (q.b:Int))∧W.cell? ⟨g,o+6,none⟩=some (.int .u16 (q.t:Int))
theorem Sv.refl (g B:Nat) (w:World):Sv g B w w:=⟨rfl,rfl,rfl,Nat.le_refl _,fun _ _ _=>rfl⟩
def Tk (w0:World) (g:Nat) (k k2:WK) (W:World):Prop:=Sv g w0.heap.size w0 W∧(Wk W g k∨Wk W g k2)
theorem Tk.lt {w0 W:World} {g:Nat} {k k2:WK} (h:Tk w0 g k k2 W):g<W.heap.size:=by rcases h.2 with h | h <;> exact Blk.lt h
theorem Tk.below {w0 W w1:World} {g:Nat} {k k2:WK} (h:Tk w0 g k k2 W) (hb:Below W.heap.size W w1):Tk w0 g k k2 w1 :=
 ⟨h.1.trans (Below.sv hb h.1.size),h.2.imp (fun x=>Blk.below x hb h.lt) (fun x=>Blk.below x hb h.lt)⟩
structure Keeps (T:World→Prop) (g o:Nat) (q:Cq):Prop where
 below:∀ W w1,T W→Below W.heap.size W w1→T w1
 cells:∀ W,T W→HX T g o q W
theorem Keeps.held {T:World→Prop} {g o:Nat} {q:Cq} (k:Keeps T g o q) {W w1:World} (h:HX T g o q W) (hb:Below W.heap.size W w1):HX T g o q w1:=k.cells _ (k.below _ _ h.1 hb)
theorem Tk.keeps (w0:World) (g:Nat) (k k2:WK) (r o:Nat) (hr:r<21) (ho:o=1+7*r) (q:Cq) (hq:k.A.c r=q) (hq2:k2.A.c r=q):Keeps (Tk w0 g k k2) g o q where
 below W w1 h hb:=h.below hb
 cells W h:=by
  refine ⟨h,?_⟩
  rcases h.2 with h | h
  ·have:=h.sevenP r o hr ho
   rw [hq] at this
   exact this
  ·have:=h.sevenP r o hr ho
   rw [hq2] at this
   exact this
theorem upd_upd (c:Nat→Cq) (r:Nat) (x y:Cq):upd (upd c r x) r y=upd c r y:=by
 funext i
 unfold upd
 split <;> rfl
theorem WK.putN_putN (k:WK) (r:Nat) (x y:Cq):(k.putN r x).putN r y=k.putN r y:=by
 unfold WK.putN St.put
 simp only [upd_upd]
theorem set2 (g:Nat) (k:WK) (q2:Cq) (w0 W:World) (rd:Nat) (hd:k.i.rd=rd) (hd16:rd<16) (h:Tk w0 g k (k.putN rd q2) W):Calls Tryz.prog 95 #[.pointer (some ⟨g,0,none⟩),q2.v] W fun e w'=>e=.returned (.tuple #[])∧Wk w' g (k.putN rd q2)∧Sv g w0.heap.size w0 w'∧Tk w0 g k (k.putN rd q2) w':=by
 have hB:=h.1
 rcases h.2 with h | h
 ·refine (c95 g k q2 W h rd hd hd16).mono ?_
  rintro e w' ⟨h1,h2,h3⟩
  exact ⟨h1,h2,hB.trans (h3.sv hB.size),hB.trans (h3.sv hB.size),Or.inr h2⟩
 ·refine (c95 g (k.putN rd q2) q2 W h rd hd hd16).mono ?_
  rintro e w' ⟨h1,h2,h3⟩
  rw [WK.putN_putN] at h2
  exact ⟨h1,h2,hB.trans (h3.sv hB.size),hB.trans (h3.sv hB.size),Or.inr h2⟩
theorem at2 (g:Nat) (k:WK) (q2 q:Cq) (rd:Nat) (w0 W:World) (hq:k.A.c 16=q) (h:Tk w0 g k (k.putN rd q2) W):Calls Tryz.prog 60 #[.pointer (some ⟨g,0,none⟩)] W fun e w'=>e=.returned (.int .u32 (q.a:Int))∧W=w':=by
 subst hq
 rcases h.2 with h | h
 ·exact c60 g k W h
 ·exact c60 g (k.putN rd q2) W h
theorem imm2 (g:Nat) (k:WK) (q2:Cq) (rd n:Nat) (w0 W:World) (hn:k.i.im%4294967296=(n:Int)) (h:Tk w0 g k (k.putN rd q2) W):Calls Tryz.prog 97 #[.pointer (some ⟨g,0,none⟩)] W fun e w'=>e=.returned (.int .u32 (n:Int))∧W=w':=by
 rw [←hn]
 rcases h.2 with h | h
 ·exact c97 g k W h
 ·exact c97 g (k.putN rd q2) W h
set_option maxHeartbeats 2000000 in
theorem c92_auipcc (g:Nat) (k:WK) (rd n:Nat) (q:Cq) (w:World) (h:Wk w g k) (ho:k.i.o=2) (hd:k.i.rd=rd) (hd16:rd<16) (hq:k.A.c 16=q) (hf:q.fit) (hn:k.i.im%4294967296=(n:Int)) :
  Calls Tryz.prog 92 #[.pointer (some ⟨g,0,none⟩)] w fun e w'=>e=.returned (.tuple #[])∧Wk w' g (k.putN rd (q.sa ((q.a+n)%4294967296)))∧Sv g w.heap.size w w':=by
 have xo:w.cell? ⟨g,303,none⟩=some (.int .u8 2):=by have:=h.cellT 0 303 rfl;rw [this];show some (Value.int .u8 (k.i.o:Int))=_;rw [ho];rfl
 have hl:=Blk.lt h
 obtain ⟨m,hm⟩:∃ m,(q.a+n)%4294967296=m:=⟨_,rfl⟩
 have hw:IntKind.u32.wrap ((q.a:Int)+(n:Int))=(m:Int):=by rw [IntKind.wrap_u32];omega
 have hm2:m<4294967296:=by omega
 rw [hm]
 obtain ⟨q2,hq2⟩:∃ q2,q.sa m=q2:=⟨_,rfl⟩
 have K91:=Lib.hid (sa_call q hf m hm2)
 rw [hq2] at K91 ⊢
 have hT0:Tk w g k (k.putN rd q2) w:=⟨Sv.refl _ _ _,Or.inl h⟩
 have K97:Hid (∀ W,Tk w g k (k.putN rd q2) W→Calls Tryz.prog 97 #[.pointer (some ⟨g,0,none⟩)] W fun e w'=>e=.returned (.int .u32 (n:Int))∧W=w'):=Lib.hid (fun W=>imm2 g k q2 rd n w W hn)
 have K60:Hid (∀ W,Tk w g k (k.putN rd q2) W→Calls Tryz.prog 60 #[.pointer (some ⟨g,0,none⟩)] W fun e w'=>e=.returned (.int .u32 (q.a:Int))∧W=w'):=Lib.hid (fun W=>at2 g k q2 q rd w W hq)
 have K95:Hid (∀ W,Tk w g k (k.putN rd q2) W→Calls Tryz.prog 95 #[.pointer (some ⟨g,0,none⟩),.agg #[.bool q2.g,.int .u32 (q2.a:Int),.int .u8 (q2.p:Int),.int .u8 (q2.y:Int),.int .u8 (q2.e:Int),.int .u16 (q2.b:Int),.int .u16 (q2.t:Int)]] W fun e w'=>e=.returned (.tuple #[])∧Wk w' g (k.putN rd q2)∧Sv g w.heap.size w w'∧Tk w g k (k.putN rd q2) w'):=Lib.hid (fun W hk=>set2 g k q2 w W rd hd hd16 hk)
 have KK:=Lib.hid (Tk.keeps w g k (k.putN rd q2) 16 113 (by decide) rfl q hq hq)
 obtain ⟨k3,hk3⟩:∃ k3,k.putN rd q2=k3:=⟨_,rfl⟩
 rw [hk3] at hT0 K97 K60 K95 KK ⊢
 obtain ⟨T,hT⟩:∃ T,Tk w g k k3=T:=⟨_,rfl⟩
 rw [hT] at hT0 K97 K60 K95 KK
 have HS:=Lib.hid (KK.out.cells _ hT0)
 clear h ho hd hq hf hn hm hq2 hk3 hT hT0
 go_enter Tryz.func92,Tryz.ntmps92
 go_upto_region 7 with fail
 have hs:=HS.out
 unfold HX at hs
 go_region_held3 (fun W=>T W∧W.cell? ⟨g,113,none⟩=some (.bool q.g)∧W.cell? ⟨g,113+1,none⟩=some (.int .u32 (q.a:Int))∧W.cell? ⟨g,113+2,none⟩=some (.int .u8 (q.p:Int))∧W.cell? ⟨g,113+3,none⟩=some (.int .u8 (q.y:Int))∧W.cell? ⟨g,113+4,none⟩=some (.int .u8 (q.e:Int))∧W.cell? ⟨g,113+5,none⟩=some (.int .u16 (q.b:Int))∧W.cell? ⟨g,113+6,none⟩=some (.int .u16 (q.t:Int)))
  (first | exact KK.out.held (by assumption) ((Below.refl _ _).drew) | exact KK.out.held (by assumption) hbx | exact KK.out.cells _ hty)
  (first | (go_at_call 60;(with_reducible refine (K60.out _ (And.left (by assumption))).mono ?_);rintro _ _ ⟨rfl,rfl⟩) | (go_at_call 97;(with_reducible refine (K97.out _ (And.left (by assumption))).mono ?_);rintro _ _ ⟨rfl,rfl⟩) | (go_at_call 91;(with_reducible refine (K91.out _).mono ?_);rintro _ wx ⟨rfl,hbx⟩) | (go_at_call 95;(with_reducible refine (K95.out _ (And.left (by assumption))).mono ?_);rintro _ wy ⟨rfl,hky,hoy,hty⟩))
 all_goals
  go_wp2_with fail
  go_end0
  exact ⟨rfl,hky,hoy⟩
set_option maxHeartbeats 2000000 in
theorem c92_lui (g:Nat) (k:WK) (rd n:Nat) (w:World) (h:Wk w g k) (ho:k.i.o=1) (hd:k.i.rd=rd) (hd16:rd<16) (hn:k.i.im%4294967296=(n:Int)) :
  Calls Tryz.prog 92 #[.pointer (some ⟨g,0,none⟩)] w fun e w'=>e=.returned (.tuple #[])∧Wk w' g (k.putN rd (numQ n))∧Sv g w.heap.size w w':=by
 have xo:w.cell? ⟨g,303,none⟩=some (.int .u8 1):=by have:=h.cellT 0 303 rfl;rw [this];show some (Value.int .u8 (k.i.o:Int))=_;rw [ho];rfl
 have hl:=Blk.lt h
 have K97:=Lib.hid (c97 g k w h)
 rw [hn] at K97
 have K132:=Lib.hid (int_call n w)
 have K95:Hid (∀ W,Below w.heap.size w W→Calls Tryz.prog 95 #[.pointer (some ⟨g,0,none⟩),(numQ n).v] W fun e w'=>e=.returned (.tuple #[])∧Wk w' g (k.putN rd (numQ n))∧Sv g w.heap.size w w'):=Lib.hid (fun W hb=>(c95 g k (numQ n) W (Blk.below h hb hl) rd hd hd16).mono fun e w' ⟨h1,h2,h3⟩=>⟨h1,h2,(Below.sv hb (Nat.le_refl _)).trans (h3.sv hb.size)⟩)
 clear h ho hd hn
 go_enter Tryz.func92,Tryz.ntmps92
 go_wp2_with fail
 refine K97.out.mono ?_
 rintro _ _ ⟨rfl,rfl⟩
 go_wp2_with fail
 refine K132.out.mono ?_
 rintro _ w1 ⟨rfl,hb⟩
 have K:=Lib.hid (K95.out w1 hb)
 clear hb xo
 go_wp2_with fail
 refine K.out.mono ?_
 rintro _ w2 ⟨rfl,hk2,hs2⟩
 go_wp2_with fail
 go_end0
 exact ⟨rfl,hk2,hs2⟩
end Go.Proofs.YtnkoknfihhdelaaGreatDoor
namespace Go.Proofs.YtnkoknfihhdelaaGreatDoor
open Go.ChangeShapes Go.WideShapes Go.ChangeAt Go.RowKit
set_option linter.unusedVariables false
set_option linter.unusedSimpArgs false
abbrev Ex:=List (Nat × Nat × Value)
def tmA (T0:Array Value) (ex:Ex) (l:Array Bool):Array Value :=
 Array.ofFn (n:=T0.size) fun k=>match ex.find? (fun p=>p.2.1==k.1&&l.getD p.1 false) with | some p=>p.2.2 | none=>T0[k]
theorem tmA_size (T0:Array Value) (ex:Ex) (l:Array Bool):(tmA T0 ex l).size=T0.size:=by unfold tmA;simp
theorem tmA_getD (T0:Array Value) (ex:Ex) (l:Array Bool) (k:Nat) (hk:k<T0.size):(tmA T0 ex l).getD k undef=match ex.find? (fun p=>p.2.1==k&&l.getD p.1 false) with | some p=>p.2.2 | none=>T0.getD k undef:=by
 unfold tmA
 rw [Array.getD_eq_getD_getElem?,Array.getElem?_ofFn,dif_pos hk]
 simp only [Option.getD_some]
 split <;> simp_all
theorem tmA_none (T0:Array Value) (ex:Ex) (l:Array Bool) (k:Nat) (h:(ex.all fun p=>!(p.2.1==k))=true):(tmA T0 ex l).getD k undef=T0.getD k undef:=by
 by_cases hk:k<T0.size
 ·rw [tmA_getD T0 ex l k hk]
  have:ex.find? (fun p=>p.2.1==k&&l.getD p.1 false)=none:=by
   rw [List.find?_eq_none]
   intro p hp
   have:=List.all_eq_true.1 h p hp
   simp at this
   simp [this]
  rw [this]
 ·have h1:T0.size≤k:=Nat.le_of_not_lt hk
  simp [Array.getD_eq_getD_getElem?,Array.getElem?_eq_none,tmA_size,h1]
def apartB (ex:Ex):Bool:=decide ((ex.map (·.2.1)).Nodup)&&decide ((ex.map (·.1)).Nodup)
theorem nodup_inj {α:Type} (f:α→Nat) {x y:α}:∀ {l:List α},(l.map f).Nodup→x∈l→y∈l→f x=f y→x=y
 | [],_,hx,_,_=>by cases hx
 | z :: l,hn,hx,hy,h=>by
  rw [List.map_cons,List.nodup_cons] at hn
  rcases List.mem_cons.1 hx with e1 | m1
  ·rcases List.mem_cons.1 hy with e2 | m2
   ·rw [e1,e2]
   ·rw [e1] at h
    exact absurd (h ▸ List.mem_map_of_mem (f:=f) m2) hn.1
  ·rcases List.mem_cons.1 hy with e2 | m2
   ·rw [e2] at h
    exact absurd (h ▸ List.mem_map_of_mem (f:=f) m1) hn.1
   ·exact nodup_inj f hn.2 m1 m2 h
theorem getD_lt (A:Array Value) (k:Nat) (h:k<A.size):A[k]=A.getD k undef:=by
 simp [Array.getD,h]
theorem uniq {ex:Ex} (hn:apartB ex=true) {p q:Nat × Nat × Value} (hp:p∈ex) (hq:q∈ex) (h:p.2.1=q.2.1∨p.1=q.1):p=q:=by
 unfold apartB at hn
 simp only [Bool.and_eq_true,decide_eq_true_eq] at hn
 obtain ⟨h1,h2⟩:=hn
 rcases h with h | h
 ·exact nodup_inj _ h1 hp hq h
 ·exact nodup_inj _ h2 hp hq h
theorem tmA_some (T0:Array Value) (ex:Ex) (l:Array Bool) (hn:apartB ex=true) (i s:Nat) (v:Value) (h:(i,s,v)∈ex) (hl:l.getD i false=true) (hs:s<T0.size):(tmA T0 ex l).getD s undef=v:=by
 rw [tmA_getD T0 ex l s hs]
 cases hf:ex.find? (fun p=>p.2.1==s&&l.getD p.1 false) with
 | none =>
  have:=List.find?_eq_none.1 hf _ h
  simp at this
  rw [Array.getD_eq_getD_getElem?] at hl
  simp_all
 | some p =>
  have h1:=List.mem_of_find?_eq_some hf
  have h2:=List.find?_some hf
  simp only [Bool.and_eq_true,beq_iff_eq] at h2
  rw [uniq hn h1 h (Or.inl h2.1)]
theorem set_at2 (l:Array Bool) (i k:Nat):(l.setIfInBounds i true).getD k false=if i=k∧i<l.size then true else l.getD k false:=by
 simp only [Array.getD_eq_getD_getElem?,Array.getElem?_setIfInBounds]
 by_cases h:i=k
 ·subst h
  by_cases h2:i<l.size
  ·simp [h2]
  ·simp [h2]
 ·simp [h]
theorem find_congr {α:Type} {p q:α→Bool}:∀ {l:List α},(∀ x∈l,p x=q x)→l.find? p=l.find? q
 | [],_=>rfl
 | x :: l,h=>by
  rw [List.find?_cons,List.find?_cons,h x (by simp),find_congr (fun y hy=>h y (by simp [hy]))]
theorem tmA_put (T0:Array Value) (ex:Ex) (l:Array Bool) (hn:apartB ex=true) (i s:Nat) (v:Value) (h:(i,s,v)∈ex) (hl:i<l.size) (hs:s<T0.size):(tmA T0 ex l).setIfInBounds s v=tmA T0 ex (l.setIfInBounds i true):=by
 apply Array.ext
 ·simp [tmA_size]
 ·intro k h1 h2
  have hk:k<T0.size:=by simpa [tmA_size] using h1
  have e1:=getD_lt ((tmA T0 ex l).setIfInBounds s v) k h1
  have e2:=getD_lt (tmA T0 ex (l.setIfInBounds i true)) k h2
  rw [e1,e2]
  by_cases hks:s=k
  ·subst hks
   rw [tmA_some T0 ex _ hn i s v h (by rw [set_at2,if_pos ⟨rfl,hl⟩]) hs]
   simp [Array.getD_eq_getD_getElem?,tmA_size,hs]
  ·have e3:((tmA T0 ex l).setIfInBounds s v).getD k undef=(tmA T0 ex l).getD k undef:=by simp [Array.getD_eq_getD_getElem?,Array.getElem?_setIfInBounds,hks]
   rw [e3,tmA_getD T0 ex l k hk,tmA_getD T0 ex _ k hk]
   have:ex.find? (fun p=>p.2.1==k&&l.getD p.1 false)=ex.find? (fun p=>p.2.1==k&&(l.setIfInBounds i true).getD p.1 false):=find_congr fun p hp=>by
    by_cases hpk:p.2.1=k
    ·have hpi:i≠p.1:=fun e=>by
      have:=uniq hn hp h (Or.inr e.symm)
      rw [this] at hpk
      exact hks hpk
     rw [set_at2,if_neg (fun q=>hpi q.1)]
    ·have h9:(p.2.1==k)=false:=by simp [hpk]
     rw [h9]
     rfl
   rw [this]
theorem tmA_skip (T0:Array Value) (ex:Ex) (l:Array Bool) (i:Nat) (h:(ex.all fun p=>!(p.1==i))=true):tmA T0 ex l=tmA T0 ex (l.setIfInBounds i true):=by
 unfold tmA
 congr 1
 funext k
 have:ex.find? (fun p=>p.2.1==k.1&&l.getD p.1 false)=ex.find? (fun p=>p.2.1==k.1&&(l.setIfInBounds i true).getD p.1 false):=find_congr fun p hp=>by
  have:=List.all_eq_true.1 h p hp
  simp at this
  rw [set_at2,if_neg (fun q=>this q.1.symm)]
 rw [this]
theorem tmA_begin (T0:Array Value) (ex:Ex) (n:Nat):tmA T0 ex (Array.replicate n false)=T0:=by
 apply Array.ext
 ·rw [tmA_size]
 ·intro k h1 h2
  have e1:(tmA T0 ex (Array.replicate n false))[k]=(tmA T0 ex (Array.replicate n false)).getD k undef:=by simp [Array.getD_eq_getD_getElem?,h1]
  rw [e1,tmA_getD T0 ex _ k h2]
  have:ex.find? (fun p=>p.2.1==k&&(Array.replicate n false).getD p.1 false)=none:=by
   rw [List.find?_eq_none]
   intro p hp
   have:(Array.replicate n false).getD p.1 false=false:=by
    rw [Array.getD_eq_getD_getElem?,Array.getElem?_replicate]
    split <;> rfl
   rw [this]
   simp
  rw [this]
  simp [Array.getD_eq_getD_getElem?,h2]
def putAll (T0:Array Value):Ex→Array Value
 | []=>T0
 | p :: ps=>(putAll T0 ps).setIfInBounds p.2.1 p.2.2
theorem putAll_size (T0:Array Value):∀ ex,(putAll T0 ex).size=T0.size
 | []=>rfl
 | p :: ps=>by unfold putAll;rw [Array.size_setIfInBounds,putAll_size T0 ps]
theorem putAll_getD (T0:Array Value) (k:Nat) (hk:k<T0.size):∀ ex:Ex,(putAll T0 ex).getD k undef=match ex.find? (fun p=>p.2.1==k) with | some p=>p.2.2 | none=>T0.getD k undef
 | []=>rfl
 | p :: ps=>by
  have ih:=putAll_getD T0 k hk ps
  rw [List.find?_cons]
  by_cases h:p.2.1=k
  ·have h2:(p.2.1==k)=true:=by simp [h]
   rw [h2]
   unfold putAll
   rw [h]
   simp [Array.getD_eq_getD_getElem?,putAll_size,hk]
  ·have h2:(p.2.1==k)=false:=by simp [h]
   rw [h2]
   unfold putAll
   rw [←ih]
   simp [Array.getD_eq_getD_getElem?,Array.getElem?_setIfInBounds,h]
theorem tmA_end (T0:Array Value) (ex:Ex) (l:Array Bool) (h:∀ p∈ex,l.getD p.1 false=true):tmA T0 ex l=putAll T0 ex:=by
 apply Array.ext
 ·rw [tmA_size,putAll_size]
 ·intro k h1 h2
  have hk:k<T0.size:=by simpa [tmA_size] using h1
  have e1:(tmA T0 ex l)[k]=(tmA T0 ex l).getD k undef:=by simp [Array.getD_eq_getD_getElem?,h1]
  have e2:(putAll T0 ex)[k]=(putAll T0 ex).getD k undef:=by simp [Array.getD_eq_getD_getElem?,h2]
  rw [e1,e2,tmA_getD T0 ex l k hk,putAll_getD T0 k hk ex]
  have:ex.find? (fun p=>p.2.1==k&&l.getD p.1 false)=ex.find? (fun p=>p.2.1==k):=find_congr fun p hp=>by rw [h p hp,Bool.and_true]
  rw [this]
section
variable {P:Program} {ops:Array Oper} {Q:Exit→Act→World→Prop}
def depsB (ops:Array Oper):Bool:=(List.range ops.size).all fun i=>match ops[i]? with | some o=>o.after.toList.all fun e=>!Region.binds .any e||decide (e.on<i) | none=>true
theorem all_listed (hd:depsB ops=true) (l:Array Bool) (hs:l.size=ops.size) (h:Region.ready .any ops l=[]):∀ i,i<ops.size→l.getD i false=true:=by
 intro i
 induction i using Nat.strongRecOn with
 | _ i ih =>
  intro hi
  cases hl:l.getD i false with
  | true=>rfl
  | false =>
   exfalso
   have hm:i∈Region.ready .any ops l:=by
    rw [mem_ready]
    refine ⟨?_,ops[i],by simp [hi],fun e he hb=>?_⟩
    ·have:i<l.size:=by omega
     simp [Array.getD_eq_getD_getElem?,this] at hl ⊢
     exact hl
    ·have h1:=List.all_eq_true.1 hd i (List.mem_range.2 hi)
     rw [show ops[i]?=some ops[i] by simp [hi]] at h1
     have h2:=List.all_eq_true.1 h1 e (by simpa using he)
     rw [hb] at h2
     simp at h2
     exact ih e.on h2 (by omega)
   rw [h] at hm
   cases hm
theorem getD_un {l:Array Bool} {i:Nat} (h:l.getD i true=false):l.getD i false=false:=by
 rw [Array.getD_eq_getD_getElem?] at h ⊢
 cases hq:l[i]? with
 | none=>rw [hq] at h;cases h
 | some b=>rw [hq] at h;exact h
theorem wp_region_tm {id:Nat} {T0:Array Value} {w:World} (hm:P.follows .mixedOrders=true) (hd:depsB ops=true) (ex:Nat→Ex) (J:Nat→Array Bool→World→Prop) (p0:Nat)
  (h0:J p0 (Array.replicate ops.size false) w.drew)
  (hstep:∀ p l w i o,l.size=ops.size→ops[i]?=some o→l.getD i true=false→(∀ e∈o.after,Region.binds .any e=true→l.getD e.on false=true)→J p l w →
   wpOp P ops Q i (fun a' w'=>∃ p',a'=⟨tmA T0 (ex p') (l.setIfInBounds i true),[]⟩∧J p' (l.setIfInBounds i true) w') ⟨tmA T0 (ex p) l,[]⟩ w)
  (hex:∀ p,((ex p).all fun x=>decide (x.1<ops.size))=true)
  (hend:∀ p l w,(∀ i,i<ops.size→l.getD i false=true)→J p l w→Q .normal ⟨putAll T0 (ex p),[]⟩ w):(Code.region id ops true).wp P Q ⟨T0,[]⟩ w:=by
 refine wp_region_inv hm (fun l a w=>∃ p,a=⟨tmA T0 (ex p) l,[]⟩∧J p l w) ⟨p0,by rw [tmA_begin],h0⟩ ?_ ?_
 ·rintro l a w i hs hi ⟨p,rfl,hj⟩
  obtain ⟨hun,o,hop,hpre⟩:=mem_ready.1 hi
  exact hstep p l w i o hs hop hun hpre hj
 ·rintro l a w hs hr ⟨p,rfl,hj⟩
  have ha:=all_listed hd l hs hr
  rw [tmA_end T0 (ex p) l (fun x hx=>ha x.1 (by simpa using List.all_eq_true.1 (hex p) x hx))]
  exact hend p l w ha hj
theorem step_val {i s:Nat} {T0:Array Value} {ex:Nat→Ex} {J:Nat→Array Bool→World→Prop} {p p':Nat} {l:Array Bool} {w':World} (v:Value) (hn:apartB (ex p')=true) (hmem:(i,s,v)∈ex p') (hl:i<l.size) (hs:s<T0.size)
  (he:tmA T0 (ex p') l=tmA T0 (ex p) l) (hJ:J p' (l.setIfInBounds i true) w') :
  (fun a' w'=>∃ p',a'=(⟨tmA T0 (ex p') (l.setIfInBounds i true),[]⟩:Act)∧J p' (l.setIfInBounds i true) w') ((⟨tmA T0 (ex p) l,[]⟩:Act).put (some s) v) w':=by
 refine ⟨p',?_,hJ⟩
 show (⟨(tmA T0 (ex p) l).setIfInBounds s v,[]⟩:Act)=_
 rw [←he,tmA_put T0 (ex p') l hn i s v hmem hl hs]
theorem step_none {i:Nat} {T0:Array Value} {ex:Nat→Ex} {J:Nat→Array Bool→World→Prop} {p:Nat} {l:Array Bool} {w':World} (h:((ex p).all fun x=>!(x.1==i))=true) (v:Value) (hJ:J p (l.setIfInBounds i true) w') :
  (fun a' w'=>∃ p',a'=(⟨tmA T0 (ex p') (l.setIfInBounds i true),[]⟩:Act)∧J p' (l.setIfInBounds i true) w') ((⟨tmA T0 (ex p) l,[]⟩:Act).put none v) w' :=
 ⟨p,by rw [←tmA_skip T0 (ex p) l i h];rfl,hJ⟩
end
end Go.Proofs.YtnkoknfihhdelaaGreatDoor
namespace Go.Proofs.YtnkoknfihhdelaaGreatDoor
open Go.ChangeShapes Go.WideShapes Go.ChangeAt Go.RowKit
set_option linter.unusedVariables false
set_option linter.unusedSimpArgs false
set_option maxRecDepth 100000
section
variable {P:Program} {o:Oper} {a:Act} {w:World} {K:Act→World→Prop} {Q:Exit→Act→World→Prop}
theorem wp_value (v:Value) (h:(execOp a.eval o).run P w=.ok (.value v) w) (hk:K (a.put o.dst v) w):o.wp P a w K Q:=by
 unfold Oper.wp
 rw [h]
 exact hk
theorem wp_move (x:Operand) (ho:o.op=.move x) (v:Value) (hx:a.eval x=v) (hk:K (a.put o.dst v) w):o.wp P a w K Q :=
 wp_value v (by subst hx;unfold execOp;simp only [ho];rfl) hk
theorem wp_assign (x:Operand) (ho:o.op=.assign x) (v:Value) (hx:a.eval x=v) (hk:K (a.put o.dst v) w):o.wp P a w K Q :=
 wp_value v (by subst hx;unfold execOp;simp only [ho];rfl) hk
theorem wp_nil (x:Operand) (ho:o.op=.nilCheck x) (p:Addr) (hx:a.eval x=.pointer (some p)) (hk:K (a.put o.dst (.pointer (some p))) w):o.wp P a w K Q :=
 wp_value _ (by unfold execOp;simp only [ho,hx];rfl) hk
theorem wp_ld (t:TypeId) (x:Operand) (ho:o.op=.load t x) (p:Addr) (v:Value) (hx:a.eval x=.pointer (some p)) (ht:∀ W,(isAgg t).run P W=.ok false W) (hc:w.cell? p=some v) (hk:K (a.put o.dst v) w):o.wp P a w K Q :=
 wp_value v (by
  unfold execOp
  simp [ho,hx,Instr.loadAt,Instr.sureAddr,loadVar,Sem.run_bind,ht,run_load,hc]) hk
theorem wp_call1 (f:FuncId) (x:Operand) (ty:TypeId) (ho:o.op=.call { callee:=.value (.func f),args:=#[x],argTypes:=#[ty] }) (v1:Value) (h1:a.eval x=v1)
  (hcf:∀ W,(callFunc f #[v1]).run P W=.ok (.enter f #[v1]) W)
  (h:Calls P f #[v1] w fun
   | .returned v,w''=>K (a.put o.dst v) w''
   | .panicked chain,w''=>Q (.panic chain) a w''
   | .outgrown,_=>LetsOut Q):o.wp P a w K Q:=by
 have e:(execOp a.eval o).run P w=.ok (.enter f #[v1]) w:=by
  obtain ⟨ev,hev⟩:∃ ev,a.eval=ev:=⟨_,rfl⟩
  have hfn:a.eval (.func f)=.func (.func f) #[] #[]:=rfl
  rw [hev] at h1 hfn ⊢
  unfold execOp
  simp only [ho]
  simp [resolve,invoke,go_sem,h1,hfn,hcf]
 unfold Oper.wp
 rw [e]
 exact h
theorem wp_call2 (f:FuncId) (x y:Operand) (tx ty:TypeId) (ho:o.op=.call { callee:=.value (.func f),args:=#[x,y],argTypes:=#[tx,ty] }) (v1 v2:Value) (h1:a.eval x=v1) (h2:a.eval y=v2)
  (hcf:∀ W,(callFunc f #[v1,v2]).run P W=.ok (.enter f #[v1,v2]) W)
  (h:Calls P f #[v1,v2] w fun
   | .returned v,w''=>K (a.put o.dst v) w''
   | .panicked chain,w''=>Q (.panic chain) a w''
   | .outgrown,_=>LetsOut Q):o.wp P a w K Q:=by
 have e:(execOp a.eval o).run P w=.ok (.enter f #[v1,v2]) w:=by
  obtain ⟨ev,hev⟩:∃ ev,a.eval=ev:=⟨_,rfl⟩
  have hfn:a.eval (.func f)=.func (.func f) #[] #[]:=rfl
  rw [hev] at h1 h2 hfn ⊢
  unfold execOp
  simp only [ho]
  simp [resolve,invoke,go_sem,h1,h2,hfn,hcf]
 unfold Oper.wp
 rw [e]
 exact h
theorem wp_call3 (f:FuncId) (x y z:Operand) (tx ty tz:TypeId) (ho:o.op=.call { callee:=.value (.func f),args:=#[x,y,z],argTypes:=#[tx,ty,tz] }) (v1 v2 v3:Value) (h1:a.eval x=v1) (h2:a.eval y=v2) (h3:a.eval z=v3)
  (hcf:∀ W,(callFunc f #[v1,v2,v3]).run P W=.ok (.enter f #[v1,v2,v3]) W)
  (h:Calls P f #[v1,v2,v3] w fun
   | .returned v,w''=>K (a.put o.dst v) w''
   | .panicked chain,w''=>Q (.panic chain) a w''
   | .outgrown,_=>LetsOut Q):o.wp P a w K Q:=by
 have e:(execOp a.eval o).run P w=.ok (.enter f #[v1,v2,v3]) w:=by
  obtain ⟨ev,hev⟩:∃ ev,a.eval=ev:=⟨_,rfl⟩
  have hfn:a.eval (.func f)=.func (.func f) #[] #[]:=rfl
  rw [hev] at h1 h2 h3 hfn ⊢
  unfold execOp
  simp only [ho]
  simp [resolve,invoke,go_sem,h1,h2,h3,hfn,hcf]
 unfold Oper.wp
 rw [e]
 exact h
theorem wp_call4 (f:FuncId) (x y z u:Operand) (tx ty tz tu:TypeId) (ho:o.op=.call { callee:=.value (.func f),args:=#[x,y,z,u],argTypes:=#[tx,ty,tz,tu] }) (v1 v2 v3 v4:Value) (h1:a.eval x=v1) (h2:a.eval y=v2) (h3:a.eval z=v3) (h4:a.eval u=v4)
  (hcf:∀ W,(callFunc f #[v1,v2,v3,v4]).run P W=.ok (.enter f #[v1,v2,v3,v4]) W)
  (h:Calls P f #[v1,v2,v3,v4] w fun
   | .returned v,w''=>K (a.put o.dst v) w''
   | .panicked chain,w''=>Q (.panic chain) a w''
   | .outgrown,_=>LetsOut Q):o.wp P a w K Q:=by
 have e:(execOp a.eval o).run P w=.ok (.enter f #[v1,v2,v3,v4]) w:=by
  obtain ⟨ev,hev⟩:∃ ev,a.eval=ev:=⟨_,rfl⟩
  have hfn:a.eval (.func f)=.func (.func f) #[] #[]:=rfl
  rw [hev] at h1 h2 h3 h4 hfn ⊢
  unfold execOp
  simp only [ho]
  simp [resolve,invoke,go_sem,h1,h2,h3,h4,hfn,hcf]
 unfold Oper.wp
 rw [e]
 exact h
end
section
variable {o:Oper} {a:Act} {w:World} {K:Act→World→Prop} {Q:Exit→Act→World→Prop}
theorem wp_fa (t:TypeId) (x:Operand) (k d:Nat) (ho:o.op=.fieldAddr t x k) (g off off':Nat) (hx:a.eval x=.pointer (some ⟨g,off,none⟩))
  (hf:∀ W:World,(execOp (fun _=>.pointer (some ⟨g,off,none⟩)) { dst:=none,op:=.fieldAddr t (.tmp 0) k,type:=0,pos:="",after:=#[],guard:=none }).run Tryz.prog W=.ok (.value (.pointer (some ⟨g,off',none⟩))) W)
  (hk:K (a.put o.dst (.pointer (some ⟨g,off',none⟩))) w):o.wp Tryz.prog a w K Q:=by
 refine wp_value _ ?_ hk
 have:=hf w
 unfold execOp at this ⊢
 simp only [ho,hx] at this ⊢
 exact this
theorem wp_add (x y:Operand) (ho:o.op=.binOp .add 25 x y 25) (m n r:Int) (hx:a.eval x=.int .u32 m) (hy:a.eval y=.int .u32 n) (hr:IntKind.u32.wrap (m+n)=r) (hk:K (a.put o.dst (.int .u32 r)) w):o.wp Tryz.prog a w K Q:=by
 refine wp_value _ ?_ hk
 obtain ⟨ev,hev⟩:∃ ev,a.eval=ev:=⟨_,rfl⟩
 rw [hev] at hx hy ⊢
 unfold execOp
 subst hr
 simp [ho,hx,hy,go_sem,run_underlying Tryz.underlying25]
theorem wp_fieldcap (x:Operand) (k:Nat) (ho:o.op=.field 29 x k) (cs:Array Value) (v:Value) (hx:a.eval x=.agg cs) (hf:∀ W,(Instr.field 29 (.agg cs) k).run Tryz.prog W=.ok v W) (hk:K (a.put o.dst v) w):o.wp Tryz.prog a w K Q:=by
 refine wp_value v ?_ hk
 obtain ⟨ev,hev⟩:∃ ev,a.eval=ev:=⟨_,rfl⟩
 rw [hev] at hx ⊢
 unfold execOp
 simp [ho,hx,go_sem,hf]
end
theorem agg25 (W:World):(isAgg 25).run Tryz.prog W=.ok false W:=by kernel_rfl
theorem agg51 (W:World):(isAgg 51).run Tryz.prog W=.ok false W:=by kernel_rfl
theorem agg34 (W:World):(isAgg 34).run Tryz.prog W=.ok false W:=by kernel_rfl
theorem agg4 (W:World):(isAgg 4).run Tryz.prog W=.ok false W:=by kernel_rfl
theorem fa81_1 (g:Nat) (W:World):(execOp (fun _=>.pointer (some ⟨g,0,none⟩)) { dst:=none,op:=.fieldAddr 81 (.tmp 0) 1,type:=0,pos:="",after:=#[],guard:=none }).run Tryz.prog W=.ok (.value (.pointer (some ⟨g,1,none⟩))) W:=by kernel_rfl
def Cq.ty (q:Cq) (n:Nat):Cq:=⟨q.g,q.a,q.p,n,q.e,q.b,q.t⟩
theorem Wk.under {w W:World} {g N:Nat} {k:WK} (h:Wk w g k) (hb:Below N w W) (hl:g<N):Wk W g k:=Blk.below h hb hl
theorem Wk.onA {w:World} {g:Nat} {k:WK} (h:Wk w g k):w.cell? ⟨g,149,none⟩=some (.bool k.A.on):=by
 rw [Blk.cell h,List.getElem?_toArray,show 149=1+(147+1) by omega,k.atA _ (by omega),k.A.tl 1]
 rfl
theorem fa32_1 (g:Nat) (W:World):(execOp (fun _=>.pointer (some ⟨g,1,none⟩)) { dst:=none,op:=.fieldAddr 32 (.tmp 0) 1,type:=0,pos:="",after:=#[],guard:=none }).run Tryz.prog W=.ok (.value (.pointer (some ⟨g,113,none⟩))) W:=by kernel_rfl
theorem cf60 (v:Value) (W:World):(callFunc 60 #[v]).run Tryz.prog W=.ok (.enter 60 #[v]) W:=by kernel_rfl
theorem cf91 (u v:Value) (W:World):(callFunc 91 #[u,v]).run Tryz.prog W=.ok (.enter 91 #[u,v]) W:=by kernel_rfl
section
variable {o:Oper} {a:Act} {w:World} {K:Act→World→Prop} {Q:Exit→Act→World→Prop}
theorem wp_alloc29 (ho:o.op=.alloc 29) (hk:K (a.put o.dst (.pointer (some ⟨w.heap.size,0,none⟩))) (w.alloc (.cells nCap 29))):o.wp Tryz.prog a w K Q:=by
 unfold Oper.wp
 have e:(execOp a.eval o).run Tryz.prog w=.ok (.value (.pointer (some ⟨w.heap.size,0,none⟩))) (w.alloc (.cells nCap 29)):=by
  unfold execOp
  simp only [ho]
  kernel_rfl
 rw [e]
 exact hk
end
def J29 (N:Nat) (w:World) (ia ib:Nat) (row:Array Value) (p:Nat) (l:Array Bool) (W:World):Prop:=Below N w W∧N≤W.heap.size∧(l.getD ia false=true→N≤p∧Blk W p 29 (if l.getD ib false=true then row else nCap))∧(l.getD ib false=true→l.getD ia false=true)
theorem J29.other {N:Nat} {w W W':World} {ia ib:Nat} {row:Array Value} {p:Nat} {l:Array Bool} (h:J29 N w ia ib row p l W) (i:Nat) (h1:i≠ia) (h2:i≠ib) (hb:Below W.heap.size W W'):J29 N w ia ib row p (l.setIfInBounds i true) W':=by
 obtain ⟨b,hN,h,h9⟩:=h
 have ea:(l.setIfInBounds i true).getD ia false=l.getD ia false:=by rw [set_at2,if_neg (fun e=>h1 e.1)]
 have eb:(l.setIfInBounds i true).getD ib false=l.getD ib false:=by rw [set_at2,if_neg (fun e=>h2 e.1)]
 refine ⟨b.trans (hb.mono hN),Nat.le_trans hN hb.size,fun q=>?_,fun q=>by rw [ea];rw [eb] at q;exact h9 q⟩
 rw [ea] at q
 obtain ⟨x,y⟩:=h q
 rw [eb]
 exact ⟨x,y.below hb y.lt⟩
theorem J29.made {N:Nat} {w W:World} {ia ib:Nat} {row:Array Value} {p:Nat} {l:Array Bool} (h:J29 N w ia ib row p l W) (hab:ia≠ib) (hl:ia<l.size) (hia:l.getD ia false=false):J29 N w ia ib row W.heap.size (l.setIfInBounds ia true) (W.alloc (.cells nCap 29)):=by
 obtain ⟨b,hN,h,h9⟩:=h
 have hib:l.getD ib false=false:=by
  cases hq:l.getD ib false with
  | false=>rfl
  | true=>have:=h9 hq;rw [hia] at this;cases this
 have eb:(l.setIfInBounds ia true).getD ib false=false:=by rw [set_at2,if_neg (fun e=>hab e.1)];exact hib
 refine ⟨b.alloc hN _,by simp;omega,fun _=>⟨hN,?_⟩,fun q=>by rw [eb] at q;cases q⟩
 rw [eb]
 exact Blk.new W 29 nCap
theorem J29.stored {N:Nat} {w W:World} {ia ib:Nat} {row:Array Value} {p:Nat} {l:Array Bool} (h:J29 N w ia ib row p l W) (hab:ia≠ib) (hl:ib<l.size) (hia:l.getD ia false=true):J29 N w ia ib row p (l.setIfInBounds ib true) (W.setRow p row):=by
 obtain ⟨b,hN,h,h9⟩:=h
 obtain ⟨x,y⟩:=h hia
 have eb:(l.setIfInBounds ib true).getD ib false=true:=by rw [set_at2,if_pos ⟨rfl,hl⟩]
 have ea:(l.setIfInBounds ib true).getD ia false=true:=by rw [set_at2,if_neg (fun e=>hab e.1.symm)];exact hia
 refine ⟨below_setRow b x _,by simpa [World.setRow] using hN,fun _=>⟨x,?_⟩,fun _=>ea⟩
 rw [eb]
 exact blk_row y row
theorem J29.old {N:Nat} {w W:World} {ia ib:Nat} {row:Array Value} {p:Nat} {l:Array Bool} (h:J29 N w ia ib row p l W) (hia:l.getD ia false=true) (hib:l.getD ib false=false):Blk W p 29 nCap:=by
 have:=(h.2.2.1 hia).2
 rw [hib] at this
 exact this
theorem J29.last {N:Nat} {w W:World} {ia ib:Nat} {row:Array Value} {p:Nat} {l:Array Bool} (h:J29 N w ia ib row p l W) (hia:l.getD ia false=true) (hib:l.getD ib false=true):Below N w W∧N≤W.heap.size∧N≤p∧Blk W p 29 row:=by
 have:=h.2.2.1 hia
 rw [hib] at this
 exact ⟨h.1,h.2.1,this⟩
theorem set7N {w w1:World} {N k:Nat} (h:Below N w w1) (hk:N≤k) (v0 v1 v2 v3 v4 v5 v6:Value) :
  Below N w (((((((w1.setCell ⟨k,0,none⟩ v0).setCell ⟨k,1,none⟩ v1).setCell ⟨k,2,none⟩ v2).setCell ⟨k,3,none⟩ v3).setCell ⟨k,4,none⟩ v4).setCell ⟨k,5,none⟩ v5).setCell ⟨k,6,none⟩ v6) :=
 ((((((h.setCell (p:=⟨k,0,none⟩) hk _).setCell (p:=⟨k,1,none⟩) hk _).setCell (p:=⟨k,2,none⟩) hk _).setCell (p:=⟨k,3,none⟩) hk _).setCell (p:=⟨k,4,none⟩) hk _).setCell (p:=⟨k,5,none⟩) hk _).setCell (p:=⟨k,6,none⟩) hk _
theorem at_eq {P:Program} {C:Code} {Q:Exit→Act→World→Prop} {T0:Array Value} {w:World} (h:∀ T,T=T0→Code.wp P C Q ⟨T,[]⟩ w):Code.wp P C Q ⟨T0,[]⟩ w:=h T0 rfl
theorem tmA_swap (T0:Array Value) (e1 e2:Ex) (l:Array Bool) (i s:Nat) (u v:Value) (pre post:Ex) (h1:e1=pre++(i,s,u) :: post) (h2:e2=pre++(i,s,v) :: post) (hl:l.getD i false=false):tmA T0 e1 l=tmA T0 e2 l:=by
 subst h1 h2
 unfold tmA
 congr 1
 funext k
 have hl':(l[i]?.getD false)=false:=by rw [←Array.getD_eq_getD_getElem?];exact hl
 simp only [List.find?_append,List.find?_cons,Array.getD_eq_getD_getElem?,hl',Bool.and_false]
set_option maxHeartbeats 2000000 in
theorem c134_on (g:Nat) (k:WK) (q:Cq) (w:World) (h:Wk w g k) (hq:k.A.c 16=q) (hf:q.fit) (hon:k.A.on=true) :
  Calls Tryz.prog 134 #[.pointer (some ⟨g,0,none⟩)] w fun e w'=>e=.returned ((q.sa ((q.a+4)%4294967296)).ty 3).v∧Below w.heap.size w w':=by
 obtain ⟨m,hm⟩:∃ m,(q.a+4)%4294967296=m:=⟨_,rfl⟩
 have hw:IntKind.u32.wrap ((q.a:Int)+4)=(m:Int):=by rw [IntKind.wrap_u32];omega
 have hm2:m<4294967296:=by omega
 rw [hm]
 obtain ⟨q2,hq2⟩:∃ q2,q.sa m=q2:=⟨_,rfl⟩
 have K91:=Lib.hid (sa_call q hf m hm2)
 rw [hq2] at K91 ⊢
 have hl0:=Blk.lt h
 obtain ⟨N,hN⟩:∃ N,w.heap.size=N:=⟨_,rfl⟩
 have hl:g<N:=by omega
 have HW:=Lib.hid h
 have K60:Hid (∀ W,Below N w W→Calls Tryz.prog 60 #[.pointer (some ⟨g,0,none⟩)] W fun e w'=>e=.returned (.int .u32 (q.a:Int))∧W=w'):=Lib.hid (fun W hb=>by rw [←hq];exact c60 g k W (h.under hb hl))
 have HC:Hid (∀ j v,q.L[j]?=some v→k.L.toArray[113+j]?=some v):=Lib.hid (by rw [←hq];exact h.sevenA 16 (by decide))
 have HON:Hid (∀ W,Below N w W→W.cell? ⟨g,149,none⟩=some (.bool true)):=Lib.hid (fun W hb=>by rw [←hon];exact (h.under hb hl).onA)
 have HT0:Hid (Below N w (w.alloc (.cells nCap 29))):=Lib.hid ((Below.refl _ _).alloc (by omega) _)
 have hz0:N≤(w.alloc (.cells nCap 29)).heap.size:=by simp;omega
 have HR:Hid (Blk (w.alloc (.cells nCap 29)) N 29 nCap):=Lib.hid (by rw [←hN];exact Blk.new w 29 nCap)
 clear h hq hf hon hm hq2
 go_enter Tryz.func134,Tryz.ntmps134
 go_upto_region 1 with fail
 generalize w.alloc (.cells nCap 29)=W0 at *
 obtain ⟨M,hM⟩:∃ M,W0.heap.size=M:=⟨_,rfl⟩
 have hlM:N<M:=by have:=HR.out.lt;omega
 have HBN:Hid (∀ W,Below M W0 W→Below N w W):=Lib.hid (fun W hb=>HT0.out.trans (hb.mono (by omega)))
 refine at_eq fun T0 hT=>?_
 have hts:T0.size=21:=by rw [hT];rfl
 have fx0:T0.getD 0 undef=.pointer (some ⟨g,0,none⟩):=by rw [hT];rfl
 have HT:=Lib.hid hT
 clear hT
 obtain ⟨ex,hex⟩:∃ ex:Nat→Ex,ex=fun p=>[(0,4,.pointer (some ⟨g,0,none⟩)),(1,5,.pointer (some ⟨g,0,none⟩)),(2,6,.pointer (some ⟨g,1,none⟩)),(3,7,.pointer (some ⟨g,113,none⟩)),(4,8,q.v),(5,9,.pointer (some ⟨g,0,none⟩)),(6,10,.int .u32 (q.a:Int)),(7,11,.int .u32 (m:Int)),(8,12,q2.v),(9,3,.pointer (some ⟨p,0,none⟩))]:=⟨_,rfl⟩
 have HN:∀ p,apartB (ex p)=true:=by rw [hex];intro p;kernel_rfl
 have M0:∀ p,(0,4,.pointer (some ⟨g,0,none⟩))∈ex p:=by rw [hex];intro p;simp
 have M1:∀ p,(1,5,.pointer (some ⟨g,0,none⟩))∈ex p:=by rw [hex];intro p;simp
 have M2:∀ p,(2,6,.pointer (some ⟨g,1,none⟩))∈ex p:=by rw [hex];intro p;simp
 have M3:∀ p,(3,7,.pointer (some ⟨g,113,none⟩))∈ex p:=by rw [hex];intro p;simp
 have M4:∀ p,(4,8,q.v)∈ex p:=by rw [hex];intro p;simp
 have M5:∀ p,(5,9,.pointer (some ⟨g,0,none⟩))∈ex p:=by rw [hex];intro p;simp
 have M6:∀ p,(6,10,.int .u32 (q.a:Int))∈ex p:=by rw [hex];intro p;simp
 have M7:∀ p,(7,11,.int .u32 (m:Int))∈ex p:=by rw [hex];intro p;simp
 have M8:∀ p,(8,12,q2.v)∈ex p:=by rw [hex];intro p;simp
 have M9:∀ p,(9,3,.pointer (some ⟨p,0,none⟩))∈ex p:=by rw [hex];intro p;simp
 refine wp_region_tm (by kernel_rfl) (by kernel_rfl) ex (J29 M W0 9 10 #[.bool q2.g,.int .u32 (q2.a:Int),.int .u8 (q2.p:Int),.int .u8 (q2.y:Int),.int .u8 (q2.e:Int),.int .u16 (q2.b:Int),.int .u16 (q2.t:Int)]) 0 ⟨(Below.refl _ _).drew,by rw [←hM];exact Nat.le_refl _,fun q=>absurd q (by decide),fun q=>absurd q (by decide)⟩ ?_ (by rw [hex];intro p;kernel_rfl) ?_
 ·intro p l W i o hls hop hun hdep hj
  have hi:i<11:=(Array.getElem?_eq_some_iff.1 hop).1
  have hil:i<l.size:=by rw [hls];exact hi
  rcases (by omega:i=0∨i=1∨i=2∨i=3∨i=4∨i=5∨i=6∨i=7∨i=8∨i=9∨i=10) with rfl | rfl | rfl | rfl | rfl | rfl | rfl | rfl | rfl | rfl | rfl
  ·cases hop
   have r0:=(tmA_none T0 (ex p) l 0 (by rw [hex];kernel_rfl)).trans fx0
   refine wpOp_of rfl rfl ?_
   refine wp_move (.tmp 0) rfl _ r0 ?_
   exact step_val (p':=p) _ (HN _) (M0 _) hil (by rw [hts];decide) rfl (hj.other 0 (by decide) (by decide) (Below.refl _ _))
  ·cases hop
   have r4:=tmA_some T0 _ _ (HN p) 0 4 _ (M0 p) (hdep ⟨0,.data⟩ (by simp) rfl) (by rw [hts];decide)
   refine wpOp_of rfl rfl ?_
   refine wp_nil (.tmp 4) rfl _ r4 ?_
   exact step_val (p':=p) _ (HN _) (M1 _) hil (by rw [hts];decide) rfl (hj.other 1 (by decide) (by decide) (Below.refl _ _))
  ·cases hop
   have r5:=tmA_some T0 _ _ (HN p) 1 5 _ (M1 p) (hdep ⟨1,.data⟩ (by simp) rfl) (by rw [hts];decide)
   refine wpOp_of rfl rfl ?_
   refine wp_fa 81 (.tmp 5) 1 0 rfl g 0 1 r5 (fa81_1 g) ?_
   exact step_val (p':=p) _ (HN _) (M2 _) hil (by rw [hts];decide) rfl (hj.other 2 (by decide) (by decide) (Below.refl _ _))
  ·cases hop
   have r6:=tmA_some T0 _ _ (HN p) 2 6 _ (M2 p) (hdep ⟨2,.data⟩ (by simp) rfl) (by rw [hts];decide)
   refine wpOp_of rfl rfl ?_
   refine wp_fa 32 (.tmp 6) 1 0 rfl g 1 113 r6 (fa32_1 g) ?_
   exact step_val (p':=p) _ (HN _) (M3 _) hil (by rw [hts];decide) rfl (hj.other 3 (by decide) (by decide) (Below.refl _ _))
  ·cases hop
   have r7:=tmA_some T0 _ _ (HN p) 3 7 _ (M3 p) (hdep ⟨3,.data⟩ (by simp) rfl) (by rw [hts];decide)
   refine wpOp_of rfl rfl ?_
   refine wp_load_sub 29 (.tmp 7) rfl g 113 r7 81 k.L.toArray q.L (0,0) _ (HW.out.under (HBN.out _ hj.1) hl) HC.out Tryz.underlying29 rfl info29s ?_
   exact step_val (p':=p) _ (HN _) (M4 _) hil (by rw [hts];decide) rfl (hj.other 4 (by decide) (by decide) (Below.refl _ _))
  ·cases hop
   have r0:=(tmA_none T0 (ex p) l 0 (by rw [hex];kernel_rfl)).trans fx0
   refine wpOp_of rfl rfl ?_
   refine wp_move (.tmp 0) rfl _ r0 ?_
   exact step_val (p':=p) _ (HN _) (M5 _) hil (by rw [hts];decide) rfl (hj.other 5 (by decide) (by decide) (Below.refl _ _))
  ·cases hop
   have r9:=tmA_some T0 _ _ (HN p) 5 9 _ (M5 p) (hdep ⟨5,.data⟩ (by simp) rfl) (by rw [hts];decide)
   refine wpOp_of rfl rfl ?_
   refine wp_call1 60 (.tmp 9) 116 rfl _ r9 (cf60 _) ?_
   refine (K60.out W (HBN.out _ hj.1)).mono ?_
   rintro _ _ ⟨rfl,rfl⟩
   exact step_val (p':=p) _ (HN _) (M6 _) hil (by rw [hts];decide) rfl (hj.other 6 (by decide) (by decide) (Below.refl _ _))
  ·cases hop
   have r10:=tmA_some T0 _ _ (HN p) 6 10 _ (M6 p) (hdep ⟨6,.data⟩ (by simp) rfl) (by rw [hts];decide)
   refine wpOp_of rfl rfl ?_
   refine wp_add (.tmp 10) (.const (.int .u32 4)) rfl _ _ _ r10 rfl hw ?_
   exact step_val (p':=p) _ (HN _) (M7 _) hil (by rw [hts];decide) rfl (hj.other 7 (by decide) (by decide) (Below.refl _ _))
  ·cases hop
   have r8:=tmA_some T0 _ _ (HN p) 4 8 _ (M4 p) (hdep ⟨4,.data⟩ (by simp) rfl) (by rw [hts];decide)
   have r11:=tmA_some T0 _ _ (HN p) 7 11 _ (M7 p) (hdep ⟨7,.data⟩ (by simp) rfl) (by rw [hts];decide)
   refine wpOp_of rfl rfl ?_
   refine wp_call2 91 (.tmp 8) (.tmp 11) 29 25 rfl _ _ r8 r11 (cf91 _ _) ?_
   refine (K91.out W).mono ?_
   rintro _ W' ⟨rfl,hb⟩
   exact step_val (p':=p) _ (HN _) (M8 _) hil (by rw [hts];decide) rfl (hj.other 8 (by decide) (by decide) hb)
  ·cases hop
   have hun':=getD_un hun
   refine wpOp_of rfl rfl ?_
   refine wp_alloc29 rfl ?_
   exact step_val (p':=W.heap.size) _ (HN _) (M9 _) hil (by rw [hts];decide) (by rw [hex];exact tmA_swap T0 _ _ l 9 3 _ _ [(0,4,.pointer (some ⟨g,0,none⟩)),(1,5,.pointer (some ⟨g,0,none⟩)),(2,6,.pointer (some ⟨g,1,none⟩)),(3,7,.pointer (some ⟨g,113,none⟩)),(4,8,q.v),(5,9,.pointer (some ⟨g,0,none⟩)),(6,10,.int .u32 (q.a:Int)),(7,11,.int .u32 (m:Int)),(8,12,q2.v)] [] rfl rfl hun') (hj.made (by decide) hil hun')
  ·cases hop
   have hun':=getD_un hun
   have r3:=tmA_some T0 _ _ (HN p) 9 3 _ (M9 p) (hdep ⟨9,.data⟩ (by simp) rfl) (by rw [hts];decide)
   have r12:=tmA_some T0 _ _ (HN p) 8 12 _ (M8 p) (hdep ⟨8,.data⟩ (by simp) rfl) (by rw [hts];decide)
   refine wpOp_of rfl rfl ?_
   refine wp_store_row 29 (.tmp 3) (.tmp 12) rfl p #[.bool q2.g,.int .u32 (q2.a:Int),.int .u8 (q2.p:Int),.int .u8 (q2.y:Int),.int .u8 (q2.e:Int),.int .u16 (q2.b:Int),.int .u16 (q2.t:Int)] r3 r12 29 nCap (hj.old (hdep ⟨9,.data⟩ (by simp) rfl) hun') info29s rfl (arr_all q2) ?_
   exact step_none (by rw [hex];kernel_rfl) _ (hj.stored (by decide) hil (hdep ⟨9,.data⟩ (by simp) rfl))
 ·intro p l W hall hj
  obtain ⟨hB,hN1,hp,hb⟩:=hj.last (hall 9 (by show 9<11;omega)) (hall 10 (by show 10<11;omega))
  subst hex
  rw [HT.out]
  simp only [putAll]
  have hRb:=HR.out.below hB hlM
  have y0:=hb.cell 0
  have y1:=hb.cell 1
  have y2:=hb.cell 2
  have y3:=hb.cell 3
  have y4:=hb.cell 4
  have y5:=hb.cell 5
  have y6:=hb.cell 6
  have z0:=hRb.cell 0
  have z1:=hRb.cell 1
  have z2:=hRb.cell 2
  have z3:=hRb.cell 3
  have z4:=hRb.cell 4
  have z5:=hRb.cell 5
  have z6:=hRb.cell 6
  simp only [nCap,List.getElem?_toArray,List.getElem?_cons_zero,List.getElem?_cons_succ] at y0 y1 y2 y3 y4 y5 y6 z0 z1 z2 z3 z4 z5 z6
  have f3:=hb.frozen 3
  have g0:=hRb.frozen 0
  have g1:=hRb.frozen 1
  have g2:=hRb.frozen 2
  have g3:=hRb.frozen 3
  have g4:=hRb.frozen 4
  have g5:=hRb.frozen 5
  have g6:=hRb.frozen 6
  have hon:=HON.out W (HBN.out _ hB)
  have hne:p≠N:=by omega
  have hne2:p≠g:=by omega
  have hlp:=hb.lt
  have hlr:=hRb.lt
  have hlg:g<W.heap.size:=by omega
  have HBW:=Lib.hid (HBN.out _ hB)
  clear hb hRb hj hall hB
  go_wp2_with fail
  refine bodyPost_ret (v:=(q2.ty 3).v) (by simp [results,Tryz.results134,go_sem,Cq.ty,z0,z1,z2,z3,z4,z5,z6]) rfl ⟨rfl,?_⟩
  have hNp:N≤p:=by omega
  exact set7N ((HBW.out.setCell (p:=⟨p,3,none⟩) hNp _).setCell (p:=⟨p,3,none⟩) hNp _) (by omega) _ _ _ _ _ _ _
set_option maxHeartbeats 2000000 in
theorem c134_off (g:Nat) (k:WK) (q:Cq) (w:World) (h:Wk w g k) (hq:k.A.c 16=q) (hf:q.fit) (hon:k.A.on=false) :
  Calls Tryz.prog 134 #[.pointer (some ⟨g,0,none⟩)] w fun e w'=>e=.returned ((q.sa ((q.a+4)%4294967296)).ty 2).v∧Below w.heap.size w w':=by
 obtain ⟨m,hm⟩:∃ m,(q.a+4)%4294967296=m:=⟨_,rfl⟩
 have hw:IntKind.u32.wrap ((q.a:Int)+4)=(m:Int):=by rw [IntKind.wrap_u32];omega
 have hm2:m<4294967296:=by omega
 rw [hm]
 obtain ⟨q2,hq2⟩:∃ q2,q.sa m=q2:=⟨_,rfl⟩
 have K91:=Lib.hid (sa_call q hf m hm2)
 rw [hq2] at K91 ⊢
 have hl0:=Blk.lt h
 obtain ⟨N,hN⟩:∃ N,w.heap.size=N:=⟨_,rfl⟩
 have hl:g<N:=by omega
 have HW:=Lib.hid h
 have K60:Hid (∀ W,Below N w W→Calls Tryz.prog 60 #[.pointer (some ⟨g,0,none⟩)] W fun e w'=>e=.returned (.int .u32 (q.a:Int))∧W=w'):=Lib.hid (fun W hb=>by rw [←hq];exact c60 g k W (h.under hb hl))
 have HC:Hid (∀ j v,q.L[j]?=some v→k.L.toArray[113+j]?=some v):=Lib.hid (by rw [←hq];exact h.sevenA 16 (by decide))
 have HON:Hid (∀ W,Below N w W→W.cell? ⟨g,149,none⟩=some (.bool false)):=Lib.hid (fun W hb=>by rw [←hon];exact (h.under hb hl).onA)
 have HT0:Hid (Below N w (w.alloc (.cells nCap 29))):=Lib.hid ((Below.refl _ _).alloc (by omega) _)
 have hz0:N≤(w.alloc (.cells nCap 29)).heap.size:=by simp;omega
 have HR:Hid (Blk (w.alloc (.cells nCap 29)) N 29 nCap):=Lib.hid (by rw [←hN];exact Blk.new w 29 nCap)
 clear h hq hf hon hm hq2
 go_enter Tryz.func134,Tryz.ntmps134
 go_upto_region 1 with fail
 generalize w.alloc (.cells nCap 29)=W0 at *
 obtain ⟨M,hM⟩:∃ M,W0.heap.size=M:=⟨_,rfl⟩
 have hlM:N<M:=by have:=HR.out.lt;omega
 have HBN:Hid (∀ W,Below M W0 W→Below N w W):=Lib.hid (fun W hb=>HT0.out.trans (hb.mono (by omega)))
 refine at_eq fun T0 hT=>?_
 have hts:T0.size=21:=by rw [hT];rfl
 have fx0:T0.getD 0 undef=.pointer (some ⟨g,0,none⟩):=by rw [hT];rfl
 have HT:=Lib.hid hT
 clear hT
 obtain ⟨ex,hex⟩:∃ ex:Nat→Ex,ex=fun p=>[(0,4,.pointer (some ⟨g,0,none⟩)),(1,5,.pointer (some ⟨g,0,none⟩)),(2,6,.pointer (some ⟨g,1,none⟩)),(3,7,.pointer (some ⟨g,113,none⟩)),(4,8,q.v),(5,9,.pointer (some ⟨g,0,none⟩)),(6,10,.int .u32 (q.a:Int)),(7,11,.int .u32 (m:Int)),(8,12,q2.v),(9,3,.pointer (some ⟨p,0,none⟩))]:=⟨_,rfl⟩
 have HN:∀ p,apartB (ex p)=true:=by rw [hex];intro p;kernel_rfl
 have M0:∀ p,(0,4,.pointer (some ⟨g,0,none⟩))∈ex p:=by rw [hex];intro p;simp
 have M1:∀ p,(1,5,.pointer (some ⟨g,0,none⟩))∈ex p:=by rw [hex];intro p;simp
 have M2:∀ p,(2,6,.pointer (some ⟨g,1,none⟩))∈ex p:=by rw [hex];intro p;simp
 have M3:∀ p,(3,7,.pointer (some ⟨g,113,none⟩))∈ex p:=by rw [hex];intro p;simp
 have M4:∀ p,(4,8,q.v)∈ex p:=by rw [hex];intro p;simp
 have M5:∀ p,(5,9,.pointer (some ⟨g,0,none⟩))∈ex p:=by rw [hex];intro p;simp
 have M6:∀ p,(6,10,.int .u32 (q.a:Int))∈ex p:=by rw [hex];intro p;simp
 have M7:∀ p,(7,11,.int .u32 (m:Int))∈ex p:=by rw [hex];intro p;simp
 have M8:∀ p,(8,12,q2.v)∈ex p:=by rw [hex];intro p;simp
 have M9:∀ p,(9,3,.pointer (some ⟨p,0,none⟩))∈ex p:=by rw [hex];intro p;simp
 refine wp_region_tm (by kernel_rfl) (by kernel_rfl) ex (J29 M W0 9 10 #[.bool q2.g,.int .u32 (q2.a:Int),.int .u8 (q2.p:Int),.int .u8 (q2.y:Int),.int .u8 (q2.e:Int),.int .u16 (q2.b:Int),.int .u16 (q2.t:Int)]) 0 ⟨(Below.refl _ _).drew,by rw [←hM];exact Nat.le_refl _,fun q=>absurd q (by decide),fun q=>absurd q (by decide)⟩ ?_ (by rw [hex];intro p;kernel_rfl) ?_
 ·intro p l W i o hls hop hun hdep hj
  have hi:i<11:=(Array.getElem?_eq_some_iff.1 hop).1
  have hil:i<l.size:=by rw [hls];exact hi
  rcases (by omega:i=0∨i=1∨i=2∨i=3∨i=4∨i=5∨i=6∨i=7∨i=8∨i=9∨i=10) with rfl | rfl | rfl | rfl | rfl | rfl | rfl | rfl | rfl | rfl | rfl
  ·cases hop
   have r0:=(tmA_none T0 (ex p) l 0 (by rw [hex];kernel_rfl)).trans fx0
   refine wpOp_of rfl rfl ?_
   refine wp_move (.tmp 0) rfl _ r0 ?_
   exact step_val (p':=p) _ (HN _) (M0 _) hil (by rw [hts];decide) rfl (hj.other 0 (by decide) (by decide) (Below.refl _ _))
  ·cases hop
   have r4:=tmA_some T0 _ _ (HN p) 0 4 _ (M0 p) (hdep ⟨0,.data⟩ (by simp) rfl) (by rw [hts];decide)
   refine wpOp_of rfl rfl ?_
   refine wp_nil (.tmp 4) rfl _ r4 ?_
   exact step_val (p':=p) _ (HN _) (M1 _) hil (by rw [hts];decide) rfl (hj.other 1 (by decide) (by decide) (Below.refl _ _))
  ·cases hop
   have r5:=tmA_some T0 _ _ (HN p) 1 5 _ (M1 p) (hdep ⟨1,.data⟩ (by simp) rfl) (by rw [hts];decide)
   refine wpOp_of rfl rfl ?_
   refine wp_fa 81 (.tmp 5) 1 0 rfl g 0 1 r5 (fa81_1 g) ?_
   exact step_val (p':=p) _ (HN _) (M2 _) hil (by rw [hts];decide) rfl (hj.other 2 (by decide) (by decide) (Below.refl _ _))
  ·cases hop
   have r6:=tmA_some T0 _ _ (HN p) 2 6 _ (M2 p) (hdep ⟨2,.data⟩ (by simp) rfl) (by rw [hts];decide)
   refine wpOp_of rfl rfl ?_
   refine wp_fa 32 (.tmp 6) 1 0 rfl g 1 113 r6 (fa32_1 g) ?_
   exact step_val (p':=p) _ (HN _) (M3 _) hil (by rw [hts];decide) rfl (hj.other 3 (by decide) (by decide) (Below.refl _ _))
  ·cases hop
   have r7:=tmA_some T0 _ _ (HN p) 3 7 _ (M3 p) (hdep ⟨3,.data⟩ (by simp) rfl) (by rw [hts];decide)
   refine wpOp_of rfl rfl ?_
   refine wp_load_sub 29 (.tmp 7) rfl g 113 r7 81 k.L.toArray q.L (0,0) _ (HW.out.under (HBN.out _ hj.1) hl) HC.out Tryz.underlying29 rfl info29s ?_
   exact step_val (p':=p) _ (HN _) (M4 _) hil (by rw [hts];decide) rfl (hj.other 4 (by decide) (by decide) (Below.refl _ _))
  ·cases hop
   have r0:=(tmA_none T0 (ex p) l 0 (by rw [hex];kernel_rfl)).trans fx0
   refine wpOp_of rfl rfl ?_
   refine wp_move (.tmp 0) rfl _ r0 ?_
   exact step_val (p':=p) _ (HN _) (M5 _) hil (by rw [hts];decide) rfl (hj.other 5 (by decide) (by decide) (Below.refl _ _))
  ·cases hop
   have r9:=tmA_some T0 _ _ (HN p) 5 9 _ (M5 p) (hdep ⟨5,.data⟩ (by simp) rfl) (by rw [hts];decide)
   refine wpOp_of rfl rfl ?_
   refine wp_call1 60 (.tmp 9) 116 rfl _ r9 (cf60 _) ?_
   refine (K60.out W (HBN.out _ hj.1)).mono ?_
   rintro _ _ ⟨rfl,rfl⟩
   exact step_val (p':=p) _ (HN _) (M6 _) hil (by rw [hts];decide) rfl (hj.other 6 (by decide) (by decide) (Below.refl _ _))
  ·cases hop
   have r10:=tmA_some T0 _ _ (HN p) 6 10 _ (M6 p) (hdep ⟨6,.data⟩ (by simp) rfl) (by rw [hts];decide)
   refine wpOp_of rfl rfl ?_
   refine wp_add (.tmp 10) (.const (.int .u32 4)) rfl _ _ _ r10 rfl hw ?_
   exact step_val (p':=p) _ (HN _) (M7 _) hil (by rw [hts];decide) rfl (hj.other 7 (by decide) (by decide) (Below.refl _ _))
  ·cases hop
   have r8:=tmA_some T0 _ _ (HN p) 4 8 _ (M4 p) (hdep ⟨4,.data⟩ (by simp) rfl) (by rw [hts];decide)
   have r11:=tmA_some T0 _ _ (HN p) 7 11 _ (M7 p) (hdep ⟨7,.data⟩ (by simp) rfl) (by rw [hts];decide)
   refine wpOp_of rfl rfl ?_
   refine wp_call2 91 (.tmp 8) (.tmp 11) 29 25 rfl _ _ r8 r11 (cf91 _ _) ?_
   refine (K91.out W).mono ?_
   rintro _ W' ⟨rfl,hb⟩
   exact step_val (p':=p) _ (HN _) (M8 _) hil (by rw [hts];decide) rfl (hj.other 8 (by decide) (by decide) hb)
  ·cases hop
   have hun':=getD_un hun
   refine wpOp_of rfl rfl ?_
   refine wp_alloc29 rfl ?_
   exact step_val (p':=W.heap.size) _ (HN _) (M9 _) hil (by rw [hts];decide) (by rw [hex];exact tmA_swap T0 _ _ l 9 3 _ _ [(0,4,.pointer (some ⟨g,0,none⟩)),(1,5,.pointer (some ⟨g,0,none⟩)),(2,6,.pointer (some ⟨g,1,none⟩)),(3,7,.pointer (some ⟨g,113,none⟩)),(4,8,q.v),(5,9,.pointer (some ⟨g,0,none⟩)),(6,10,.int .u32 (q.a:Int)),(7,11,.int .u32 (m:Int)),(8,12,q2.v)] [] rfl rfl hun') (hj.made (by decide) hil hun')
  ·cases hop
   have hun':=getD_un hun
   have r3:=tmA_some T0 _ _ (HN p) 9 3 _ (M9 p) (hdep ⟨9,.data⟩ (by simp) rfl) (by rw [hts];decide)
   have r12:=tmA_some T0 _ _ (HN p) 8 12 _ (M8 p) (hdep ⟨8,.data⟩ (by simp) rfl) (by rw [hts];decide)
   refine wpOp_of rfl rfl ?_
   refine wp_store_row 29 (.tmp 3) (.tmp 12) rfl p #[.bool q2.g,.int .u32 (q2.a:Int),.int .u8 (q2.p:Int),.int .u8 (q2.y:Int),.int .u8 (q2.e:Int),.int .u16 (q2.b:Int),.int .u16 (q2.t:Int)] r3 r12 29 nCap (hj.old (hdep ⟨9,.data⟩ (by simp) rfl) hun') info29s rfl (arr_all q2) ?_
   exact step_none (by rw [hex];kernel_rfl) _ (hj.stored (by decide) hil (hdep ⟨9,.data⟩ (by simp) rfl))
 ·intro p l W hall hj
  obtain ⟨hB,hN1,hp,hb⟩:=hj.last (hall 9 (by show 9<11;omega)) (hall 10 (by show 10<11;omega))
  subst hex
  rw [HT.out]
  simp only [putAll]
  have hRb:=HR.out.below hB hlM
  have y0:=hb.cell 0
  have y1:=hb.cell 1
  have y2:=hb.cell 2
  have y3:=hb.cell 3
  have y4:=hb.cell 4
  have y5:=hb.cell 5
  have y6:=hb.cell 6
  have z0:=hRb.cell 0
  have z1:=hRb.cell 1
  have z2:=hRb.cell 2
  have z3:=hRb.cell 3
  have z4:=hRb.cell 4
  have z5:=hRb.cell 5
  have z6:=hRb.cell 6
  simp only [nCap,List.getElem?_toArray,List.getElem?_cons_zero,List.getElem?_cons_succ] at y0 y1 y2 y3 y4 y5 y6 z0 z1 z2 z3 z4 z5 z6
  have f3:=hb.frozen 3
  have g0:=hRb.frozen 0
  have g1:=hRb.frozen 1
  have g2:=hRb.frozen 2
  have g3:=hRb.frozen 3
  have g4:=hRb.frozen 4
  have g5:=hRb.frozen 5
  have g6:=hRb.frozen 6
  have hon:=HON.out W (HBN.out _ hB)
  have hne:p≠N:=by omega
  have hne2:p≠g:=by omega
  have hlp:=hb.lt
  have hlr:=hRb.lt
  have hlg:g<W.heap.size:=by omega
  have HBW:=Lib.hid (HBN.out _ hB)
  clear hb hRb hj hall hB
  go_wp2_with fail
  refine bodyPost_ret (v:=(q2.ty 2).v) (by simp [results,Tryz.results134,go_sem,Cq.ty,z0,z1,z2,z3,z4,z5,z6]) rfl ⟨rfl,?_⟩
  have hNp:N≤p:=by omega
  exact set7N (HBW.out.setCell (p:=⟨p,3,none⟩) hNp _) (by omega) _ _ _ _ _ _ _
def St.link (s:St):Cq:=((s.c 16).sa (((s.c 16).a+4)%4294967296)).ty (if s.on=true then 3 else 2)
theorem c134 (g:Nat) (k:WK) (w:World) (h:Wk w g k) (hf:(k.A.c 16).fit):Calls Tryz.prog 134 #[.pointer (some ⟨g,0,none⟩)] w fun e w'=>e=.returned k.A.link.v∧Below w.heap.size w w':=by
 unfold St.link
 cases hon:k.A.on with
 | true=>exact c134_on g k _ w h rfl hf hon
 | false=>exact c134_off g k _ w h rfl hf hon
end Go.Proofs.YtnkoknfihhdelaaGreatDoor
namespace Go.Proofs.YtnkoknfihhdelaaGreatDoor
open Go.ChangeShapes Go.WideShapes Go.ChangeAt Go.RowKit
set_option linter.unusedVariables false
set_option maxRecDepth 100000
structure JG (g B:Nat) (w0:World) (k1 k2:WK) (X:World→Prop) (is:Nat) (_p:Nat) (l:Array Bool) (W:World):Prop where
 sv:Sv g B w0 W
 sz:B≤W.heap.size
 x:X W
 wk:Wk W g (if l.getD is false=true then k2 else k1)
structure Stays (g:Nat) (X:World→Prop):Prop where
 below:∀ W W',X W→Below W.heap.size W W'→X W'
 only:∀ W W',X W→Only g W W'→X W'
theorem Stays.blk (g p:Nat) (t:TypeId) (row:Array Value) (h:p≠g):Stays g (fun W=>Blk W p t row) :=
 ⟨fun W W' x hb=>x.below hb x.lt,fun W W' x ho=>ho.blk h x⟩
theorem Stays.none (g:Nat):Stays g (fun _=>True):=⟨fun _ _ _ _=>trivial,fun _ _ _ _=>trivial⟩
section
variable {g B:Nat} {w0:World} {k1 k2:WK} {X:World→Prop} {is p:Nat} {l:Array Bool} {W W':World}
theorem JG.begin (hs:Stays g X) (h:Wk w0 g k1) (hX:X w0) (hB:B≤w0.heap.size) (n:Nat) (k2:WK):JG g B w0 k1 k2 X is p (Array.replicate n false) w0.drew:=by
 have e:(Array.replicate n false).getD is false=false:=by
  rw [Array.getD_eq_getD_getElem?,Array.getElem?_replicate]
  split <;> rfl
 exact ⟨⟨rfl,rfl,rfl,Nat.le_refl _,fun _ _ _=>rfl⟩,hB,hs.below _ _ hX (Below.refl _ _).drew,by rw [e];exact Blk.drew h⟩
theorem JG.other (hs:Stays g X) (h:JG g B w0 k1 k2 X is p l W) (i:Nat) (hi:i≠is) (hb:Below W.heap.size W W'):JG g B w0 k1 k2 X is p (l.setIfInBounds i true) W':=by
 have e:(l.setIfInBounds i true).getD is false=l.getD is false:=by rw [set_at2,if_neg (fun e=>hi e.1)]
 exact ⟨h.sv.trans (Below.sv hb h.sz),Nat.le_trans h.sz hb.size,hs.below _ _ h.x hb,by rw [e];exact Blk.below h.wk hb h.wk.lt⟩
theorem JG.stored (hs:Stays g X) (h:JG g B w0 k1 k2 X is p l W) (hl:is<l.size) (hk:Wk W' g k2) (ho:Only g W W'):JG g B w0 k1 k2 X is p (l.setIfInBounds is true) W':=by
 have e:(l.setIfInBounds is true).getD is false=true:=by rw [set_at2,if_pos ⟨rfl,hl⟩]
 exact ⟨h.sv.trans (ho.sv h.sz),Nat.le_trans h.sz ho.size,hs.only _ _ h.x ho,by rw [e];exact hk⟩
theorem JG.first (h:JG g B w0 k1 k2 X is p l W) (hl:l.getD is false=false):Wk W g k1:=by
 have:=h.wk
 rw [hl] at this
 exact this
theorem JG.last (h:JG g B w0 k1 k2 X is p l W) (hl:l.getD is false=true):Wk W g k2:=by
 have:=h.wk
 rw [hl] at this
 exact this
theorem JG.any (h:JG g B w0 k1 k2 X is p l W) (hA:k2.A=k1.A) (hI:k2.i=k1.i):∃ k,Wk W g k∧k.A=k1.A∧k.i=k1.i:=by
 have:=h.wk
 by_cases e:l.getD is false=true
 ·rw [if_pos e] at this
  exact ⟨k2,this,hA,hI⟩
 ·rw [if_neg e] at this
  exact ⟨k1,this,rfl,rfl⟩
theorem JG.imm (h:JG g B w0 k1 k2 X is p l W) (hA:k2.A=k1.A) (hI:k2.i=k1.i) (n:Nat) (hn:k1.i.im%4294967296=(n:Int)):Calls Tryz.prog 97 #[.pointer (some ⟨g,0,none⟩)] W fun e w'=>e=.returned (.int .u32 (n:Int))∧W=w':=by
 obtain ⟨k,hk,ha,hi⟩:=h.any hA hI
 have:=c97 g k W hk
 rw [hi,hn] at this
 exact this
theorem JG.at_ (h:JG g B w0 k1 k2 X is p l W) (hA:k2.A=k1.A) (hI:k2.i=k1.i) (q:Cq) (hq:k1.A.c 16=q):Calls Tryz.prog 60 #[.pointer (some ⟨g,0,none⟩)] W fun e w'=>e=.returned (.int .u32 (q.a:Int))∧W=w':=by
 obtain ⟨k,hk,ha,hi⟩:=h.any hA hI
 have:=c60 g k W hk
 rw [ha,hq] at this
 exact this
theorem JG.rs2 (h:JG g B w0 k1 k2 X is p l W) (hA:k2.A=k1.A) (hI:k2.i=k1.i) (r:Nat) (q:Cq) (hr:k1.i.r2=r) (hq:k1.A.c r=q) (hr16:r<16):Calls Tryz.prog 98 #[.pointer (some ⟨g,0,none⟩)] W fun e w'=>e=.returned q.v∧Below W.heap.size W w':=by
 obtain ⟨k,hk,ha,hi⟩:=h.any hA hI
 exact c98 g k W hk r q (by rw [hi];exact hr) (by rw [ha];exact hq) hr16
theorem JG.set (rd:Nat) (q:Cq) (hs:Stays g X) (h:JG g B w0 k1 (k1.putN rd q) X is p l W) (hl:is<l.size) (hun:l.getD is false=false) (hd:k1.i.rd=rd) (hd16:rd<16):Calls Tryz.prog 95 #[.pointer (some ⟨g,0,none⟩),q.v] W fun e w'=>e=.returned (.tuple #[])∧JG g B w0 k1 (k1.putN rd q) X is p (l.setIfInBounds is true) w':=by
 refine (c95 g k1 q W (h.first hun) rd hd hd16).mono ?_
 rintro e w' ⟨h1,h2,h3⟩
 exact ⟨h1,h.stored hs hl h2 h3⟩
end
theorem fa81_2 (g:Nat) (W:World):(execOp (fun _=>.pointer (some ⟨g,0,none⟩)) { dst:=none,op:=.fieldAddr 81 (.tmp 0) 2,type:=0,pos:="",after:=#[],guard:=none }).run Tryz.prog W=.ok (.value (.pointer (some ⟨g,152,none⟩))) W:=by kernel_rfl
theorem fa81_3 (g:Nat) (W:World):(execOp (fun _=>.pointer (some ⟨g,0,none⟩)) { dst:=none,op:=.fieldAddr 81 (.tmp 0) 3,type:=0,pos:="",after:=#[],guard:=none }).run Tryz.prog W=.ok (.value (.pointer (some ⟨g,303,none⟩))) W:=by kernel_rfl
theorem fa53_0 (g:Nat) (W:World):(execOp (fun _=>.pointer (some ⟨g,303,none⟩)) { dst:=none,op:=.fieldAddr 53 (.tmp 0) 0,type:=0,pos:="",after:=#[],guard:=none }).run Tryz.prog W=.ok (.value (.pointer (some ⟨g,303,none⟩))) W:=by kernel_rfl
theorem fa32N_1 (g:Nat) (W:World):(execOp (fun _=>.pointer (some ⟨g,152,none⟩)) { dst:=none,op:=.fieldAddr 32 (.tmp 0) 1,type:=0,pos:="",after:=#[],guard:=none }).run Tryz.prog W=.ok (.value (.pointer (some ⟨g,264,none⟩))) W:=by kernel_rfl
theorem fa29_1 (g:Nat) (W:World):(execOp (fun _=>.pointer (some ⟨g,0,none⟩)) { dst:=none,op:=.fieldAddr 29 (.tmp 0) 1,type:=0,pos:="",after:=#[],guard:=none }).run Tryz.prog W=.ok (.value (.pointer (some ⟨g,1,none⟩))) W:=by kernel_rfl
theorem cf95 (u v:Value) (W:World):(callFunc 95 #[u,v]).run Tryz.prog W=.ok (.enter 95 #[u,v]) W:=by kernel_rfl
theorem cf97 (v:Value) (W:World):(callFunc 97 #[v]).run Tryz.prog W=.ok (.enter 97 #[v]) W:=by kernel_rfl
theorem cf98 (v:Value) (W:World):(callFunc 98 #[v]).run Tryz.prog W=.ok (.enter 98 #[v]) W:=by kernel_rfl
theorem cf136 (v:Value) (W:World):(callFunc 136 #[v]).run Tryz.prog W=.ok (.enter 136 #[v]) W:=by kernel_rfl
theorem cf132 (v:Value) (W:World):(callFunc 132 #[v]).run Tryz.prog W=.ok (.enter 132 #[v]) W:=by kernel_rfl
theorem cf135 (u v x:Value) (W:World):(callFunc 135 #[u,v,x]).run Tryz.prog W=.ok (.enter 135 #[u,v,x]) W:=by kernel_rfl
theorem cf147 (v:Value) (W:World):(callFunc 147 #[v]).run Tryz.prog W=.ok (.enter 147 #[v]) W:=by kernel_rfl
theorem cf148 (u v:Value) (W:World):(callFunc 148 #[u,v]).run Tryz.prog W=.ok (.enter 148 #[u,v]) W:=by kernel_rfl
theorem cf149 (u v:Value) (W:World):(callFunc 149 #[u,v]).run Tryz.prog W=.ok (.enter 149 #[u,v]) W:=by kernel_rfl
theorem cf167 (v:Value) (W:World):(callFunc 167 #[v]).run Tryz.prog W=.ok (.enter 167 #[v]) W:=by kernel_rfl
end Go.Proofs.YtnkoknfihhdelaaGreatDoor
