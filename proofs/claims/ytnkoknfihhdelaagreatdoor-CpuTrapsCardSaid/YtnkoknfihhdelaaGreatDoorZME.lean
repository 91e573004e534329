import Derived.Test.YtnkoknfihhdelaaGreatDoorZMC
import Derived.Test.YtnkoknfihhdelaaGreatDoorZMKCd
import Derived.Test.YtnkoknfihhdelaaGreatDoorZMB
import Derived.Test.YtnkoknfihhdelaaGreatDoorZMKI
import Derived.Test.YtnkoknfihhdelaaGreatDoorZMKA
import Derived.StillTailTactics
namespace Go.Proofs.YtnkoknfihhdelaaGreatDoor
open Go.ChangeShapes Go.WideShapes Go.ChangeAt Go.RowKit
open Cp (cp arr mt)
set_option linter.unusedVariables false
set_option maxRecDepth 100000
theorem slice8 (b at_ q:Nat) (hq:q=at_+8) (i3:q≤65536) (w:World) :
  (Instr.sliceAt 66 (.pointer (some ⟨b,1,none⟩)) (some (.int .u32 (at_:Int))) (some (.int .u32 (q:Int))) (some (.int .u32 (q:Int)))).run Tryz.prog w=.ok (.slice (some ⟨b,1+at_,none⟩) 8 8) w:=by
 have e:Tryz.prog.arrayLen 66=65536:=by kernel_rfl
 rw [run_sliceAt_array_lhm w 66 ⟨b,1,none⟩ (by kernel_rfl) .u32 .u32 .u32 _ _ _ (by omega) (by omega) (by omega) (by rw [e];omega)]
 rw [show (sizeOf (Tryz.prog.elem 66)).run Tryz.prog w=.ok 1 w by kernel_rfl]
 subst hq
 simp [Result.andThen,slicedAt,Addr.add]
 rw [if_neg (by omega)]
 refine ⟨?_,by omega⟩
 split
 ·rename_i h;subst h;rfl
 ·rfl
theorem sliceArr (b:Nat) (w:World) :
  (Instr.sliceAt 109 (.pointer (some ⟨b,0,none⟩)) none none none).run Tryz.prog w=.ok (.slice (some ⟨b,0,none⟩) 8 8) w:=by
 go_simp
def putA (C:Array Value) (off:Nat) (cs:List Value):Array Value:=(C.toList.take off++(cs++C.toList.drop (off+cs.length))).toArray
theorem putA_size (C:Array Value) (off:Nat) (cs:List Value) (h:off+cs.length≤C.size):(putA C off cs).size=C.size:=by
 unfold putA
 simp
 omega
theorem putA_in (C:Array Value) (off:Nat) (cs:List Value) (h:off+cs.length≤C.size) (j:Nat) (hj:j<cs.length):(putA C off cs)[off+j]?=cs[j]?:=by
 unfold putA
 rw [List.getElem?_toArray,List.getElem?_append_right (by simp;omega)]
 have e:off+j-(C.toList.take off).length=j:=by simp;omega
 rw [e,List.getElem?_append_left hj]
theorem putA_out (C:Array Value) (off:Nat) (cs:List Value) (h:off+cs.length≤C.size) (i:Nat) (hi:i<off∨off+cs.length≤i):(putA C off cs)[i]?=C[i]?:=by
 unfold putA
 rw [List.getElem?_toArray]
 rcases hi with hi | hi
 ·rw [List.getElem?_append_left (by simp;omega),List.getElem?_take_of_lt hi]
  simp
 ·rw [List.getElem?_append_right (by simp;omega),List.getElem?_append_right (by simp;omega),List.getElem?_drop]
  have e:off+cs.length+(i-(C.toList.take off).length-cs.length)=i:=by simp;omega
  rw [e]
  simp
theorem size5:(Tryz.prog.info? 5).map (·.size)=some 1:=by kernel_rfl
theorem cp8 {w:World} {ops:Array Oper} {rest:List Oper} {o:Oper} {a:Act} {Q:Exit→Act→World→Prop} (hgd:o.guard=none) (d s:Operand)
  (ho:o.op=.call { callee:=.builtin .copy,args:=#[d,s],argTypes:=#[93,93] }) (g off dCap g2 off2 sCap:Nat) (hd:a.eval d=.slice (some ⟨g,off,none⟩) 8 dCap) (hs:a.eval s=.slice (some ⟨g2,off2,none⟩) 8 sCap)
  (t:TypeId) (cur:Array Value) (hg:Blk w g t cur) (cs:List Value) (hl:cs.length=8) (hsrc:∀ j v,cs[j]?=some v→w.cell? ⟨g2,off2+j,none⟩=some v) (hfit:off+8≤cur.size)
  (h1:∀ v∈cs,v.oneCell'=true)
  (h:∀ w',Blk w' g t (putA cur off cs)→w.grownBy w' (some g)→wpList Tryz.prog ops Q rest (a.put o.dst (goInt 8)) w'):wpList Tryz.prog ops Q (o :: rest) a w:=by
 refine wpList_copy_own hgd d s 93 93 ho 5 Tryz.underlying93 size5 g off 8 dCap ⟨g2,off2,none⟩ 8 sCap hd hs cur t hg cs (by rw [hl];rfl) ?_ (by omega) h1 ?_
 ·intro j v hj
  have h2:=hsrc j v hj
  simp only [Addr.add]
  split
  ·rename_i h3
   rw [h3,Nat.add_zero] at h2
   exact h2
  ·exact h2
 ·rw [hl]
  refine h _ ?_ ⟨rfl,rfl,rfl,by simp [World.setRow],fun k _ hne=>setRow_other w g k _ (fun e=>hne (by rw [e]))⟩
  have:=setRow_heap w g cur (cur.toList.take off++(cs++cur.toList.drop (off+8))).toArray t (0,0) hg
  unfold Blk putA
  rw [hl]
  exact this
def bytes8 (x0 x1 x2 x3 x4 x5 x6 x7:Nat):List Value:=[.int .u8 (x0:Int),.int .u8 (x1:Int),.int .u8 (x2:Int),.int .u8 (x3:Int),.int .u8 (x4:Int),.int .u8 (x5:Int),.int .u8 (x6:Int),.int .u8 (x7:Int)]
def scC (C:Array Value) (at_:Nat) (l:List Value) (g:Bool):Array Value:=(putA C (1+at_) l).setIfInBounds (65537+at_/8) (.bool g)
theorem Me.putA_ {w w':World} {b:Nat} {C:Array Value} (h:Me w b C) {off:Nat} {l:List Value} (hl:off+l.length≤73729) (h1:1≤off) (hb:Blk w' b 69 (putA C off l)):Me w' b (putA C off l) :=
 ⟨hb,by rw [putA_size _ _ _ (by rw [h.2.1];exact hl)];exact h.2.1,by rw [putA_out _ _ _ (by rw [h.2.1];exact hl) 0 (Or.inl (by omega))];exact h.2.2⟩
set_option maxHeartbeats 1000000 in
theorem storeCap (b at_:Nat) (C:Array Value) (g:Bool) (a p y e bb t:Nat) (x0 x1 x2 x3 x4 x5 x6 x7:Nat) (w:World) (hm:Me w b C) (ha:at_+8≤65536) (hw:granB at_=true)
  (KB:Hid (∀ w:World,Calls Tryz.prog 54 #[cp g a p y e bb t] w fun en w'=>en=.returned (arr x0 x1 x2 x3 x4 x5 x6 x7)∧Below w.heap.size w w')) :
  Calls Tryz.prog 24 #[.pointer (some ⟨b,0,none⟩),.int .u32 (at_:Int),cp g a p y e bb t] w fun e w'=>e=.returned (.int .i64 0)∧Only b w w'∧Me w' b (scC C at_ (bytes8 x0 x1 x2 x3 x4 x5 x6 x7) g):=by
 have K:=Lib.hid (c31 at_)
 rw [hw] at K
 have z0:=hm.1.lt
 have HM:=Lib.hid hm
 have z1:w.heap.size<w.heap.size+1:=by omega
 clear hw hm
 go_enter Tryz.func24,Tryz.ntmps24
 go_wp2_with fail
 refine (Me.there (C:=C) (w:=w.alloc _) ⟨HM.out.1.alloc _,HM.out.2⟩).mono ?_
 rintro _ _ ⟨rfl,rfl⟩
 go_wp2_with fail
 refine (K.out _).mono ?_
 rintro _ _ ⟨rfl,rfl⟩
 go_wp2_with fail
 refine (KB.out _).mono ?_
 rintro _ w1 ⟨rfl,q1⟩
 have z2:=q1.size
 simp at z2
 have hO:Only b w (w1.alloc (.cells #[.int .u8 (x0:Int),.int .u8 (x1:Int),.int .u8 (x2:Int),.int .u8 (x3:Int),.int .u8 (x4:Int),.int .u8 (x5:Int),.int .u8 (x6:Int),.int .u8 (x7:Int)] 109)):=(((Only.refl b w).alloc _).below q1).alloc _
 obtain ⟨hc1,hf1⟩:=bcell q1
 have hM1:Me (w1.alloc (.cells #[.int .u8 (x0:Int),.int .u8 (x1:Int),.int .u8 (x2:Int),.int .u8 (x3:Int),.int .u8 (x4:Int),.int .u8 (x5:Int),.int .u8 (x6:Int),.int .u8 (x7:Int)] 109)) b C:=⟨(((HM.out.1.alloc _).below q1 (by simp;omega)).alloc _),HM.out.2⟩
 have hX:Blk (w1.alloc (.cells #[.int .u8 (x0:Int),.int .u8 (x1:Int),.int .u8 (x2:Int),.int .u8 (x3:Int),.int .u8 (x4:Int),.int .u8 (x5:Int),.int .u8 (x6:Int),.int .u8 (x7:Int)] 109)) w1.heap.size 109 #[.int .u8 (x0:Int),.int .u8 (x1:Int),.int .u8 (x2:Int),.int .u8 (x3:Int),.int .u8 (x4:Int),.int .u8 (x5:Int),.int .u8 (x6:Int),.int .u8 (x7:Int)]:=Blk.new _ _ _
 have hc:(w1.alloc (.cells #[.int .u8 (x0:Int),.int .u8 (x1:Int),.int .u8 (x2:Int),.int .u8 (x3:Int),.int .u8 (x4:Int),.int .u8 (x5:Int),.int .u8 (x6:Int),.int .u8 (x7:Int)] 109)).cell? ⟨w.heap.size,0,none⟩=some (.bool g):=by
  rw [((Below.refl _ _).alloc (Nat.le_refl _) _).cell (p:=⟨w.heap.size,0,none⟩) (show w.heap.size<w1.heap.size by omega),hc1 _ _ (by simp)]
  exact (Blk.new _ _ _).cell 0
 have Q1:=Lib.hid q1;have HO:=Lib.hid hO;have HM1:=Lib.hid hM1;have HX:=Lib.hid hX;have HC:=Lib.hid hc
 clear q1 hO hM1 hX hc
 go_wp2_with fail
 obtain ⟨q,hq⟩:∃ q,q=at_+8:=⟨_,rfl⟩
 have i1:(at_:Int)+8=(q:Int):=by omega
 have i3:q≤65536:=by omega
 have i5:IntKind.u32.wrap (q:Int)=(q:Int):=by show (q:Int)%4294967296=_;omega
 have hsl:=slice8 b at_ q hq i3
 have hsa:=sliceArr w1.heap.size
 have HQ:=Lib.hid hq;have HA:=Lib.hid ha
 clear ha hq i3
 generalize hW:w1.alloc _=W at *
 have hne:w.heap.size≠b:=by omega
 have hWs:w.heap.size<W.heap.size:=by have:=HX.out.lt;omega
 clear hc1 hf1 hW
 go_still_tail 10,(by kernel_rfl)
 change wpList _ _ _ _ _ (World.drew _)
 refine cp8 rfl (.tmp 24) (.tmp 25) rfl b (1+at_) 8 w1.heap.size 0 8 rfl rfl 69 C HM1.out.1.drew (bytes8 x0 x1 x2 x3 x4 x5 x6 x7) rfl ?_ (by rw [HM1.out.2.1];have:=HA.out;omega) ?_ ?_
 ·intro j v hj
  rw [Nat.zero_add,HX.out.drew.cell]
  rw [←hj]
  exact List.getElem?_toArray
 ·intro v hv
  simp only [bytes8,List.mem_cons,List.not_mem_nil,or_false] at hv
  rcases hv with rfl | rfl | rfl | rfl | rfl | rfl | rfl | rfl <;> rfl
 intro w2 hb2 hg2
 have hM2:=HM1.out.putA_ (by have:=HA.out;simp [bytes8];omega) (by omega) hb2
 have hO2:Only b w w2:=HO.out.drew.grown hg2
 have hc2:w2.cell? ⟨w.heap.size,0,none⟩=some (.bool g):=by
  rw [World.cell?_of_block (w:=W) (hg2.block w.heap.size (by show w.heap.size<W.heap.size;omega) (fun e=>hne (Option.some.inj e)))]
  exact HC.out
 obtain ⟨r,hr⟩:∃ r,r=at_/8:=⟨_,rfl⟩
 have hrl:r<8192:=by have:=HA.out;omega
 obtain ⟨v,hv⟩:=hM2.at_ (65537+r) (by omega)
 have hf:=hM2.1.frozen (65537+r)
 have hi:(r:Int)<8192:=by omega
 have i7:(at_:Int)/8=(r:Int):=by omega
 have i8:IntKind.u32.wrap (r:Int)=(r:Int):=by show (r:Int)%4294967296=_;omega
 have HR:=Lib.hid hr
 clear hr
 have HM2:=Lib.hid hM2;have HO2:=Lib.hid hO2
 clear hM2 hO2 hb2 hg2 hsl hsa
 go_wp2_with fail
 go_region
 go_wp2_with fail
 go_ret
 refine ⟨rfl,(HO2.out.set_ _ _).drew,?_⟩
 unfold scC
 rw [←HR.out]
 exact HM2.out.tag_ (by omega) _
end Go.Proofs.YtnkoknfihhdelaaGreatDoor
namespace Go.Proofs.YtnkoknfihhdelaaGreatDoor
open Go.ChangeShapes Go.WideShapes Go.ChangeAt Go.RowKit
set_option linter.unusedVariables false
def Nope (w:World) (a:Option Addr):Prop:=Calls Tryz.prog 49 #[.pointer a] w fun e w'=>e=.returned (.bool false)∧w=w'
theorem Nope.nil (w:World):Nope w none:=there0 w
theorem Nope.zero {w:World} {b:Nat} {C:Array Value} (h:Blk w b 69 C) (h0:C[0]?=some (.bool false)):Nope w (some ⟨b,0,none⟩) :=
 there1 b false w (by rw [h.cell];exact h0)
section
variable (a:Option Addr) (w:World) (h:Nope w a)
end
theorem Nope.keep {w w1:World} {a:Option Addr} (h:Nope w a) (h1:a=none∨∃ b C,a=some ⟨b,0,none⟩∧Blk w1 b 69 C∧C[0]?=some (.bool false)):Nope w1 a:=by
 rcases h1 with rfl | ⟨b,C,rfl,hb,hc⟩
 ·exact Nope.nil w1
 ·exact Nope.zero hb hc
end Go.Proofs.YtnkoknfihhdelaaGreatDoor
namespace Go.Proofs.YtnkoknfihhdelaaGreatDoor.Cp
open Go.ChangeShapes Go.WideShapes Go.ChangeAt Go.RowKit
set_option linter.unusedVariables false
set_option maxHeartbeats 2000000 in
theorem c33 (b t m:Nat) (hb:b<18446744073709551616) (ht:t<18446744073709551616) (hm:m<256) (w:World) :
  Calls Tryz.prog 44 #[.int .u64 (b:Int),.int .u64 (t:Int),.int .u8 (m:Int)] w fun en w'=>en=.returned (rootV b t m)∧Below w.heap.size w w':=by
 have k1:=c19 b t hb ht
 unfold exV at k1
 unfold rootV
 rcases ex_err b t with ⟨h0,h1,h2,h3,h4,h5⟩ | ⟨h1,h2,h3,h4⟩
 ·rw [if_pos h0]
  rw [h0] at k1
  generalize (ex b t).1=E at *
  generalize (ex b t).2.1=B at *
  generalize (ex b t).2.2.1=T at *
  have rb:(b:Int)%4294967296=(b:Int):=by omega
  have RB:=Lib.hid rb
  have K1:=Lib.hid k1
  clear k1 h0 rb
  go_enter Tryz.func44,Tryz.ntmps44
  go_wp2_with fail
  refine (K1.out _).mono ?_
  rintro en w1 ⟨rfl,hb1⟩
  obtain ⟨hc,hf⟩:=bcell hb1
  have hz:w.heap.size<w1.heap.size:=by have:=hb1.size;simp at this;omega
  have hB:Below w.heap.size w w1:=((Below.refl _ _).alloc (Nat.le_refl _) _).trans (hb1.mono (by simp))
  clear hb1
  go_wp2_with fail
  exact bodyPost_ret (v:=.tuple #[cp true b m 0 E B T,.int .i64 0]) (by simp [results,Tryz.results44,go_sem,cellAlloc,hz,hc]) rfl ⟨rfl,set7a hB (by omega) _ _ _ _ _ _ _ _⟩
 ·rw [if_neg (by omega)]
  rw [h1,h2,h3] at k1
  have h5:(ex b t).2.2.2≠0:=by omega
  generalize (ex b t).2.2.2=R at *
  have h6:((R:Int) != 0)=true:=by simp;omega
  have K1:=Lib.hid k1
  clear k1 h1 h2 h3
  go_enter Tryz.func44,Tryz.ntmps44
  go_wp2_with fail
  refine (K1.out _).mono ?_
  rintro en w1 ⟨rfl,hb1⟩
  obtain ⟨hc,hf⟩:=bcell hb1
  have hz:w.heap.size<w1.heap.size:=by have:=hb1.size;simp at this;omega
  have hB:Below w.heap.size w w1:=((Below.refl _ _).alloc (Nat.le_refl _) _).trans (hb1.mono (by simp))
  clear hb1
  go_wp2_with fail
  exact bodyPost_ret (v:=.tuple #[cp false 0 0 0 0 0 0,.int .i64 (R:Int)]) (by simp [results,Tryz.results44,go_sem,cellAlloc,hz,hc]) rfl ⟨rfl,set7a hB (by omega) _ _ _ _ _ _ _ _⟩
end Go.Proofs.YtnkoknfihhdelaaGreatDoor.Cp
