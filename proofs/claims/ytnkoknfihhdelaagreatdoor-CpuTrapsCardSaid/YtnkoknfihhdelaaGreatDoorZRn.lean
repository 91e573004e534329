import Derived.Test.YtnkoknfihhdelaaGreatDoorZRg
import Derived.Test.YtnkoknfihhdelaaGreatDoorZRe
namespace Go.Proofs.YtnkoknfihhdelaaGreatDoor
open Go.ChangeShapes Go.WideShapes Go.ChangeAt Go.RowKit
set_option linter.unusedVariables false
set_option linter.unusedSimpArgs false
set_option maxRecDepth 100000
theorem wrapI8 (n:Int):IntKind.i8.wrap n=(n+128)%256-128:=by
 simp only [IntKind.wrap,IntKind.signed,IntKind.bits,Bool.true_and]
 split <;> simp_all <;> omega
theorem wrapI16 (n:Int):IntKind.i16.wrap n=(n+32768)%65536-32768:=by
 simp only [IntKind.wrap,IntKind.signed,IntKind.bits,Bool.true_and]
 split <;> simp_all <;> omega
def szO (o:Nat):Nat:=if o=11∨o=15∨o=17 then 1 else if o=12∨o=16∨o=18 then 2 else if o=14∨o=20 then 8 else 4
theorem c167 (o:Nat) (h1:11≤o) (h2:o≤20) (w:World):Calls Tryz.prog 167 #[.int .u8 (o:Int)] w fun e w'=>e=.returned (.int .i64 (szO o:Int))∧w=w':=by
 have:o=11∨o=12∨o=13∨o=14∨o=15∨o=16∨o=17∨o=18∨o=19∨o=20:=by omega
 rcases this with rfl | rfl | rfl | rfl | rfl | rfl | rfl | rfl | rfl | rfl <;> (go_enter Tryz.func167,Tryz.ntmps167;go_wp2_with fail;go_ret;exact ⟨rfl,rfl⟩)
def sgO (o n:Nat):Nat:=if o=11 then (if n%256<128 then n%256 else 4294967296+n%256-256) else if o=12 then (if n%65536<32768 then n%65536 else 4294967296+n%65536-65536) else n
theorem c138 (o n:Nat) (hn:n<4294967296) (w:World):Calls Tryz.prog 138 #[.int .u8 (o:Int),.int .u32 (n:Int)] w fun e w'=>e=.returned (.int .u32 (sgO o n:Int))∧w=w':=by
 by_cases h1:o=11
 ·subst h1
  have hs:sgO 11 n=if n%256<128 then n%256 else 4294967296+n%256-256:=rfl
  have hw:IntKind.u32.wrap (IntKind.i8.wrap (n:Int))=(sgO 11 n:Int):=by
   rw [hs,IntKind.wrap_u32,wrapI8]
   split <;> omega
  generalize sgO 11 n=x at *
  clear hs
  go_enter Tryz.func138,Tryz.ntmps138
  go_wp2_with fail
  go_ret
  exact ⟨rfl,rfl⟩
 ·by_cases h2:o=12
  ·subst h2
   have hs:sgO 12 n=if n%65536<32768 then n%65536 else 4294967296+n%65536-65536:=rfl
   have hw:IntKind.u32.wrap (IntKind.i16.wrap (n:Int))=(sgO 12 n:Int):=by
    rw [hs,IntKind.wrap_u32,wrapI16]
    split <;> omega
   generalize sgO 12 n=x at *
   clear hs
   go_enter Tryz.func138,Tryz.ntmps138
   go_wp2_with fail
   go_ret
   exact ⟨rfl,rfl⟩
  ·have hs:sgO o n=n:=by unfold sgO;rw [if_neg h1,if_neg h2]
   rw [hs]
   have b1:((o:Int)==11)=false:=by rw [beq_eq_false_iff_ne];omega
   have b2:((o:Int)==12)=false:=by rw [beq_eq_false_iff_ne];omega
   clear h1 h2 hs
   go_enter Tryz.func138,Tryz.ntmps138
   go_wp2_with fail
   go_ret
   exact ⟨rfl,rfl⟩
theorem JB.begin' {N:Nat} {w:World} (hN:w.heap.size=N) (p n:Nat):JB N w p (Array.replicate n false) w.drew:=⟨(Below.refl _ _).drew,by rw [←hN];exact Nat.le_refl _⟩
def plB (q1:Cq) (pm o m:Nat):Bool:=q1.may (if szO o=8 then pm ||| 4 else pm) m (szO o)&&(decide (m%szO o=0)&&(decide (m<65536)&&!(devB m&&decide (szO o≠4))))
theorem szO_is (o:Nat):szO o=1∨szO o=2∨szO o=4∨szO o=8:=by
 unfold szO
 split
 ·exact Or.inl rfl
 ·split
  ·exact Or.inr (Or.inl rfl)
  ·split
   ·exact Or.inr (Or.inr (Or.inr rfl))
   ·exact Or.inr (Or.inr (Or.inl rfl))
def PlE (N:Nat) (w:World) (ok:Bool) (m sz cs:Nat) (e:Ending) (w':World):Prop :=
 e=(if ok=true then .returned (.tuple #[.int .u32 (m:Int),.int .i64 (sz:Int)]) else .panicked [{ v:=.iface 118 (.agg #[.int .u32 (cs:Int)]),recovered:=false }])∧Below N w w'
set_option maxHeartbeats 40000000 in
theorem c137_all (pm cs:Nat) (hpm:pm=1∨pm=2) (g:Nat) (k:WK) (o1 r1 n:Nat) (q1:Cq) (w:World) (h:Wk w g k) (ho:k.i.o=o1) (ho1:11≤o1) (ho2:o1≤20) (hr1:k.i.r1=r1) (h116:r1<16) (hq1:k.A.c r1=q1) (hf1:q1.fit) (hn:k.i.im%4294967296=(n:Int)) :
  Calls Tryz.prog 137 #[.pointer (some ⟨g,0,none⟩),.int .u8 (pm:Int),.int .u32 (cs:Int)] w (PlE w.heap.size w (plB q1 pm o1 ((q1.a+n)%4294967296)) ((q1.a+n)%4294967296) (szO o1) cs):=by
 have hl:=Blk.lt h
 have HW:=Lib.hid h
 obtain ⟨N,hN⟩:∃ N,w.heap.size=N:=⟨_,rfl⟩
 have hlN:g<N:=by omega
 have K136:Hid (∀ W,Below N w W→Calls Tryz.prog 136 #[.pointer (some ⟨g,0,none⟩)] W fun e w'=>e=.returned (.agg #[.bool q1.g,.int .u32 (q1.a:Int),.int .u8 (q1.p:Int),.int .u8 (q1.y:Int),.int .u8 (q1.e:Int),.int .u16 (q1.b:Int),.int .u16 (q1.t:Int)])∧Below W.heap.size W w'):=Lib.hid (fun W hb=>c136 g k W (h.under hb hlN) r1 q1 hr1 hq1 h116)
 have K97:Hid (∀ W,Below N w W→Calls Tryz.prog 97 #[.pointer (some ⟨g,0,none⟩)] W fun e w'=>e=.returned (.int .u32 (n:Int))∧W=w'):=Lib.hid (fun W hb=>by rw [←hn];exact c97 g k W (h.under hb hlN))
 have HO:Hid (∀ W,Below N w W→W.cell? ⟨g,303,none⟩=some (.int .u8 (o1:Int))):=Lib.hid (fun W hb=>by rw [←ho];exact (h.under hb hlN).cellT 0 303 rfl)
 have hsz:=szO_is o1
 have k167:=fun W=>c167 o1 ho1 ho2 W
 have hn2:n<4294967296:=by omega
 obtain ⟨m,hm⟩:∃ m,(q1.a+n)%4294967296=m:=⟨_,rfl⟩
 have hw:IntKind.u32.wrap ((q1.a:Int)+(n:Int))=(m:Int):=by rw [IntKind.wrap_u32];omega
 have hm2:m<4294967296:=by omega
 have KM:Hid (∀ sz pp:Nat,sz≤8→pp<256→∀ w,Calls Tryz.prog 87 #[.agg #[.bool q1.g,.int .u32 (q1.a:Int),.int .u8 (q1.p:Int),.int .u8 (q1.y:Int),.int .u8 (q1.e:Int),.int .u16 (q1.b:Int),.int .u16 (q1.t:Int)],.int .u8 (pp:Int),.int .u64 (m:Int),.int .u64 (sz:Int)] w fun e w'=>e=.returned (.bool (q1.may pp m sz))∧Below w.heap.size w w'):=Lib.hid (fun sz pp h1 h2=>may_call q1 hf1 pp m sz h2 (by omega) (by omega))
 have K88:=Lib.hid (c88 m)
 have hcv:IntKind.u64.wrap (m:Int)=(m:Int):=by rw [IntKind.wrap_u64];omega
 rw [hm]
 have hP:plB q1 pm o1 m=(q1.may (if szO o1=8 then pm ||| 4 else pm) m (szO o1)&&(decide (m%szO o1=0)&&(decide (m<65536)&&!(devB m&&decide (szO o1≠4))))):=rfl
 generalize plB q1 pm o1 m=ok at *
 generalize szO o1=sz at *
 generalize devB m=dv at *
 have HP:=Lib.hid hP
 have K167:=Lib.hid k167
 have HPM:=Lib.hid hpm
 have HSZ:=Lib.hid hsz
 have hor1:bits .or .u8 (1:Int) 4=5:=by kernel_rfl
 have hor2:bits .or .u8 (2:Int) 4=6:=by kernel_rfl
 clear h ho ho1 ho2 hr1 hq1 hf1 hn hm k167 hP hpm hsz
 obtain ⟨z,hz⟩:∃ z,(sz:Int)=z:=⟨_,rfl⟩
 rw [hz] at K167
 obtain ⟨zp,hzp⟩:∃ z,(pm:Int)=z:=⟨_,rfl⟩
 rw [hN,hzp]
 have HZZ:=Lib.hid hz
 have HZP:=Lib.hid hzp
 clear hz hzp
 go_enter Tryz.func137,Tryz.ntmps137
 go_upto_region 1 with fail
 refine at_eq fun T0 hT=>?_
 have hts:T0.size=59:=by rw [hT];rfl
 have fx0:T0.getD 0 undef=.pointer (some ⟨g,0,none⟩):=by rw [hT];rfl
 have HT:=Lib.hid hT
 clear hT
 obtain ⟨ex,hex⟩:∃ ex:Nat→Ex,ex=fun p=>[(0,9,.pointer (some ⟨g,0,none⟩)),(1,10,.agg #[.bool q1.g,.int .u32 (q1.a:Int),.int .u8 (q1.p:Int),.int .u8 (q1.y:Int),.int .u8 (q1.e:Int),.int .u16 (q1.b:Int),.int .u16 (q1.t:Int)]),(2,11,.int .u32 (q1.a:Int)),(3,12,.pointer (some ⟨g,0,none⟩)),(4,13,.int .u32 (n:Int)),(5,14,.int .u32 (m:Int)),(6,15,.pointer (some ⟨g,0,none⟩)),(7,16,.pointer (some ⟨g,0,none⟩)),(8,17,.pointer (some ⟨g,303,none⟩)),(9,18,.pointer (some ⟨g,303,none⟩)),(10,19,.int .u8 (o1:Int)),(11,20,.int .i64 z),(12,6,.int .u32 (m:Int)),(13,7,.int .i64 z)]:=⟨_,rfl⟩
 have HN:∀ p,apartB (ex p)=true:=by rw [hex];intro p;kernel_rfl
 have M0:∀ p,(0,9,.pointer (some ⟨g,0,none⟩))∈ex p:=by rw [hex];intro p;simp
 have M1:∀ p,(1,10,.agg #[.bool q1.g,.int .u32 (q1.a:Int),.int .u8 (q1.p:Int),.int .u8 (q1.y:Int),.int .u8 (q1.e:Int),.int .u16 (q1.b:Int),.int .u16 (q1.t:Int)])∈ex p:=by rw [hex];intro p;simp
 have M2:∀ p,(2,11,.int .u32 (q1.a:Int))∈ex p:=by rw [hex];intro p;simp
 have M3:∀ p,(3,12,.pointer (some ⟨g,0,none⟩))∈ex p:=by rw [hex];intro p;simp
 have M4:∀ p,(4,13,.int .u32 (n:Int))∈ex p:=by rw [hex];intro p;simp
 have M5:∀ p,(5,14,.int .u32 (m:Int))∈ex p:=by rw [hex];intro p;simp
 have M6:∀ p,(6,15,.pointer (some ⟨g,0,none⟩))∈ex p:=by rw [hex];intro p;simp
 have M7:∀ p,(7,16,.pointer (some ⟨g,0,none⟩))∈ex p:=by rw [hex];intro p;simp
 have M8:∀ p,(8,17,.pointer (some ⟨g,303,none⟩))∈ex p:=by rw [hex];intro p;simp
 have M9:∀ p,(9,18,.pointer (some ⟨g,303,none⟩))∈ex p:=by rw [hex];intro p;simp
 have M10:∀ p,(10,19,.int .u8 (o1:Int))∈ex p:=by rw [hex];intro p;simp
 have M11:∀ p,(11,20,.int .i64 z)∈ex p:=by rw [hex];intro p;simp
 have M12:∀ p,(12,6,.int .u32 (m:Int))∈ex p:=by rw [hex];intro p;simp
 have M13:∀ p,(13,7,.int .i64 z)∈ex p:=by rw [hex];intro p;simp
 refine wp_region_tm (by kernel_rfl) (by kernel_rfl) ex (JB N w) 0 (JB.begin' hN _ _) ?_ (by rw [hex];intro p;kernel_rfl) ?_
 ·intro p l W i o hls hop hun hdep hj
  have hi:i<14:=(Array.getElem?_eq_some_iff.1 hop).1
  have hil:i<l.size:=by rw [hls];exact hi
  rcases (by omega:i=0∨i=1∨i=2∨i=3∨i=4∨i=5∨i=6∨i=7∨i=8∨i=9∨i=10∨i=11∨i=12∨i=13) with rfl | rfl | rfl | rfl | rfl | rfl | rfl | rfl | rfl | rfl | rfl | rfl | rfl | rfl
  ·cases hop
   have r0:=(tmA_none T0 (ex p) l 0 (by rw [hex];kernel_rfl)).trans fx0
   refine wpOp_of rfl rfl ?_
   refine wp_move (.tmp 0) rfl _ r0 ?_
   exact step_val (p':=p) _ (HN _) (M0 _) hil (by rw [hts];decide) rfl (hj.other (Below.refl _ _))
  ·cases hop
   have r9:=tmA_some T0 _ _ (HN p) 0 9 _ (M0 p) (hdep ⟨0,.data⟩ (by simp) rfl) (by rw [hts];decide)
   refine wpOp_of rfl rfl ?_
   refine wp_call1 136 (.tmp 9) 116 rfl _ r9 (cf136 _) ?_
   refine (K136.out W hj.1).mono ?_
   rintro _ W' ⟨rfl,hb⟩
   exact step_val (p':=p) _ (HN _) (M1 _) hil (by rw [hts];decide) rfl (hj.other hb)
  ·cases hop
   have r10:=tmA_some T0 _ _ (HN p) 1 10 _ (M1 p) (hdep ⟨1,.data⟩ (by simp) rfl) (by rw [hts];decide)
   refine wpOp_of rfl rfl ?_
   refine wp_fieldcap (.tmp 10) 1 rfl _ _ r10 (fld2 _ _ _ _ _ _ _) ?_
   exact step_val (p':=p) _ (HN _) (M2 _) hil (by rw [hts];decide) rfl (hj.other (Below.refl _ _))
  ·cases hop
   have r0:=(tmA_none T0 (ex p) l 0 (by rw [hex];kernel_rfl)).trans fx0
   refine wpOp_of rfl rfl ?_
   refine wp_move (.tmp 0) rfl _ r0 ?_
   exact step_val (p':=p) _ (HN _) (M3 _) hil (by rw [hts];decide) rfl (hj.other (Below.refl _ _))
  ·cases hop
   have r12:=tmA_some T0 _ _ (HN p) 3 12 _ (M3 p) (hdep ⟨3,.data⟩ (by simp) rfl) (by rw [hts];decide)
   refine wpOp_of rfl rfl ?_
   refine wp_call1 97 (.tmp 12) 116 rfl _ r12 (cf97 _) ?_
   refine (K97.out W hj.1).mono ?_
   rintro _ _ ⟨rfl,rfl⟩
   exact step_val (p':=p) _ (HN _) (M4 _) hil (by rw [hts];decide) rfl (hj.other (Below.refl _ _))
  ·cases hop
   have r11:=tmA_some T0 _ _ (HN p) 2 11 _ (M2 p) (hdep ⟨2,.data⟩ (by simp) rfl) (by rw [hts];decide)
   have r13:=tmA_some T0 _ _ (HN p) 4 13 _ (M4 p) (hdep ⟨4,.data⟩ (by simp) rfl) (by rw [hts];decide)
   refine wpOp_of rfl rfl ?_
   refine wp_add (.tmp 11) (.tmp 13) rfl _ _ _ r11 r13 hw ?_
   exact step_val (p':=p) _ (HN _) (M5 _) hil (by rw [hts];decide) rfl (hj.other (Below.refl _ _))
  ·cases hop
   have r0:=(tmA_none T0 (ex p) l 0 (by rw [hex];kernel_rfl)).trans fx0
   refine wpOp_of rfl rfl ?_
   refine wp_move (.tmp 0) rfl _ r0 ?_
   exact step_val (p':=p) _ (HN _) (M6 _) hil (by rw [hts];decide) rfl (hj.other (Below.refl _ _))
  ·cases hop
   have r15:=tmA_some T0 _ _ (HN p) 6 15 _ (M6 p) (hdep ⟨6,.data⟩ (by simp) rfl) (by rw [hts];decide)
   refine wpOp_of rfl rfl ?_
   refine wp_nil (.tmp 15) rfl _ r15 ?_
   exact step_val (p':=p) _ (HN _) (M7 _) hil (by rw [hts];decide) rfl (hj.other (Below.refl _ _))
  ·cases hop
   have r16:=tmA_some T0 _ _ (HN p) 7 16 _ (M7 p) (hdep ⟨7,.data⟩ (by simp) rfl) (by rw [hts];decide)
   refine wpOp_of rfl rfl ?_
   refine wp_fa 81 (.tmp 16) 3 0 rfl g 0 303 r16 (fa81_3 g) ?_
   exact step_val (p':=p) _ (HN _) (M8 _) hil (by rw [hts];decide) rfl (hj.other (Below.refl _ _))
  ·cases hop
   have r17:=tmA_some T0 _ _ (HN p) 8 17 _ (M8 p) (hdep ⟨8,.data⟩ (by simp) rfl) (by rw [hts];decide)
   refine wpOp_of rfl rfl ?_
   refine wp_fa 53 (.tmp 17) 0 0 rfl g 303 303 r17 (fa53_0 g) ?_
   exact step_val (p':=p) _ (HN _) (M9 _) hil (by rw [hts];decide) rfl (hj.other (Below.refl _ _))
  ·cases hop
   have r18:=tmA_some T0 _ _ (HN p) 9 18 _ (M9 p) (hdep ⟨9,.data⟩ (by simp) rfl) (by rw [hts];decide)
   refine wpOp_of rfl rfl ?_
   refine wp_ld 51 (.tmp 18) rfl ⟨g,303,none⟩ _ r18 agg51 (HO.out W hj.1) ?_
   exact step_val (p':=p) _ (HN _) (M10 _) hil (by rw [hts];decide) rfl (hj.other (Below.refl _ _))
  ·cases hop
   have r19:=tmA_some T0 _ _ (HN p) 10 19 _ (M10 p) (hdep ⟨10,.data⟩ (by simp) rfl) (by rw [hts];decide)
   refine wpOp_of rfl rfl ?_
   refine wp_call1 167 (.tmp 19) 51 rfl _ r19 (cf167 _) ?_
   refine (K167.out W).mono ?_
   rintro _ _ ⟨rfl,rfl⟩
   exact step_val (p':=p) _ (HN _) (M11 _) hil (by rw [hts];decide) rfl (hj.other (Below.refl _ _))
  ·cases hop
   have r14:=tmA_some T0 _ _ (HN p) 5 14 _ (M5 p) (hdep ⟨5,.data⟩ (by simp) rfl) (by rw [hts];decide)
   refine wpOp_of rfl rfl ?_
   refine wp_assign (.tmp 14) rfl _ r14 ?_
   exact step_val (p':=p) _ (HN _) (M12 _) hil (by rw [hts];decide) rfl (hj.other (Below.refl _ _))
  ·cases hop
   have r20:=tmA_some T0 _ _ (HN p) 11 20 _ (M11 p) (hdep ⟨11,.data⟩ (by simp) rfl) (by rw [hts];decide)
   refine wpOp_of rfl rfl ?_
   refine wp_assign (.tmp 20) rfl _ r20 ?_
   exact step_val (p':=p) _ (HN _) (M13 _) hil (by rw [hts];decide) rfl (hj.other (Below.refl _ _))
 ·intro p l W hall hj
  obtain ⟨hB,hz⟩:=hj
  have HB:Hid (Below N w W):=Lib.hid hB
  have HZ:Hid (N≤W.heap.size):=Lib.hid hz
  subst hex
  rw [HT.out]
  simp only [putAll]
  clear hall hB hz M0 M1 M2 M3 M4 M5 M6 M7 M8 M9 M10 M11 M12 M13 HN hts fx0 HT T0 hw K97 HO K167
  rcases HSZ.out with hs | hs | hs | hs
  ·subst hs
   have hP:=HP.out
   obtain rfl:z=1:=by rw [←HZZ.out];rfl
   rcases HPM.out with rfl | rfl
   ·rw [if_neg (by decide)] at hP
    obtain rfl:zp=1:=by rw [←HZP.out];rfl
    obtain ⟨mb,hmb⟩:∃ mb,q1.may 1 m 1=mb:=⟨_,rfl⟩
    have KM1:=Lib.hid (KM.out 1 1 (by decide) (by decide))
    rw [hmb] at KM1 hP
    go_wp2_with fail
    refine (K136.out W HB.out).mono ?_
    rintro _ w1 ⟨rfl,hb1⟩
    have HB1:Hid (Below N w w1):=Lib.hid (HB.out.trans (hb1.mono HZ.out))
    have HZ1:Hid (N≤w1.heap.size):=Lib.hid (Nat.le_trans HZ.out hb1.size)
    clear hb1
    go_wp2_with fail
    refine (KM1.out _).mono ?_
    rintro _ w2 ⟨rfl,hb2⟩
    have HB2:Hid (Below N w w2):=Lib.hid (HB1.out.trans (hb2.mono HZ1.out))
    have HOK:=Lib.hid hP
    clear hb2 hmb hP
    cases mb with
    | false =>
     have HQ:Hid (ok=false):=Lib.hid (by rw [HOK.out];rfl)
     go_wp2_with fail
     all_goals exact ⟨rfl,by rw [HQ.out];rfl,HB2.out⟩
    | true =>
     by_cases h6:m<65536
     ·have hge:decide ((65536:Int)≤(m:Int))=false:=decide_eq_false (by omega)
      have HQ:Hid (ok=!dv):=Lib.hid (by rw [HOK.out];simp [h6,Nat.mod_one])
      go_wp2_with fail
      refine (K88.out _).mono ?_
      rintro _ _ ⟨rfl,rfl⟩
      cases dv
      ·go_wp2_with fail
       go_ret2
       exact ⟨by rw [HQ.out];rfl,HB2.out⟩
      ·go_wp2_with fail
       all_goals exact ⟨rfl,by rw [HQ.out];rfl,HB2.out⟩
     ·have hge:decide ((65536:Int)≤(m:Int))=true:=decide_eq_true (by omega)
      have HQ:Hid (ok=false):=Lib.hid (by rw [HOK.out];simp [h6,Nat.mod_one])
      go_wp2_with fail
      all_goals exact ⟨rfl,by rw [HQ.out];rfl,HB2.out⟩
   ·rw [if_neg (by decide)] at hP
    obtain rfl:zp=2:=by rw [←HZP.out];rfl
    obtain ⟨mb,hmb⟩:∃ mb,q1.may 2 m 1=mb:=⟨_,rfl⟩
    have KM1:=Lib.hid (KM.out 1 2 (by decide) (by decide))
    rw [hmb] at KM1 hP
    go_wp2_with fail
    refine (K136.out W HB.out).mono ?_
    rintro _ w1 ⟨rfl,hb1⟩
    have HB1:Hid (Below N w w1):=Lib.hid (HB.out.trans (hb1.mono HZ.out))
    have HZ1:Hid (N≤w1.heap.size):=Lib.hid (Nat.le_trans HZ.out hb1.size)
    clear hb1
    go_wp2_with fail
    refine (KM1.out _).mono ?_
    rintro _ w2 ⟨rfl,hb2⟩
    have HB2:Hid (Below N w w2):=Lib.hid (HB1.out.trans (hb2.mono HZ1.out))
    have HOK:=Lib.hid hP
    clear hb2 hmb hP
    cases mb with
    | false =>
     have HQ:Hid (ok=false):=Lib.hid (by rw [HOK.out];rfl)
     go_wp2_with fail
     all_goals exact ⟨rfl,by rw [HQ.out];rfl,HB2.out⟩
    | true =>
     by_cases h6:m<65536
     ·have hge:decide ((65536:Int)≤(m:Int))=false:=decide_eq_false (by omega)
      have HQ:Hid (ok=!dv):=Lib.hid (by rw [HOK.out];simp [h6,Nat.mod_one])
      go_wp2_with fail
      refine (K88.out _).mono ?_
      rintro _ _ ⟨rfl,rfl⟩
      cases dv
      ·go_wp2_with fail
       go_ret2
       exact ⟨by rw [HQ.out];rfl,HB2.out⟩
      ·go_wp2_with fail
       all_goals exact ⟨rfl,by rw [HQ.out];rfl,HB2.out⟩
     ·have hge:decide ((65536:Int)≤(m:Int))=true:=decide_eq_true (by omega)
      have HQ:Hid (ok=false):=Lib.hid (by rw [HOK.out];simp [h6,Nat.mod_one])
      go_wp2_with fail
      all_goals exact ⟨rfl,by rw [HQ.out];rfl,HB2.out⟩
  ·subst hs
   have hP:=HP.out
   obtain rfl:z=2:=by rw [←HZZ.out];rfl
   rcases HPM.out with rfl | rfl
   ·rw [if_neg (by decide)] at hP
    obtain rfl:zp=1:=by rw [←HZP.out];rfl
    obtain ⟨mb,hmb⟩:∃ mb,q1.may 1 m 2=mb:=⟨_,rfl⟩
    have KM1:=Lib.hid (KM.out 2 1 (by decide) (by decide))
    rw [hmb] at KM1 hP
    go_wp2_with fail
    refine (K136.out W HB.out).mono ?_
    rintro _ w1 ⟨rfl,hb1⟩
    have HB1:Hid (Below N w w1):=Lib.hid (HB.out.trans (hb1.mono HZ.out))
    have HZ1:Hid (N≤w1.heap.size):=Lib.hid (Nat.le_trans HZ.out hb1.size)
    clear hb1
    go_wp2_with fail
    refine (KM1.out _).mono ?_
    rintro _ w2 ⟨rfl,hb2⟩
    have HB2:Hid (Below N w w2):=Lib.hid (HB1.out.trans (hb2.mono HZ1.out))
    have HOK:=Lib.hid hP
    clear hb2 hmb hP
    cases mb with
    | false =>
     have HQ:Hid (ok=false):=Lib.hid (by rw [HOK.out];rfl)
     go_wp2_with fail
     all_goals exact ⟨rfl,by rw [HQ.out];rfl,HB2.out⟩
    | true =>
     by_cases hr:m%2=0
     ·have hrm:(m:Int)%2=0:=by omega
      by_cases h6:m<65536
      ·have hge:decide ((65536:Int)≤(m:Int))=false:=decide_eq_false (by omega)
       have HQ:Hid (ok=!dv):=Lib.hid (by rw [HOK.out];simp [hr,h6])
       go_wp2_with fail
       refine (K88.out _).mono ?_
       rintro _ _ ⟨rfl,rfl⟩
       cases dv
       ·go_wp2_with fail
        go_ret2
        exact ⟨by rw [HQ.out];rfl,HB2.out⟩
       ·go_wp2_with fail
        all_goals exact ⟨rfl,by rw [HQ.out];rfl,HB2.out⟩
      ·have hge:decide ((65536:Int)≤(m:Int))=true:=decide_eq_true (by omega)
       have HQ:Hid (ok=false):=Lib.hid (by rw [HOK.out];simp [h6])
       go_wp2_with fail
       all_goals exact ⟨rfl,by rw [HQ.out];rfl,HB2.out⟩
     ·have hrm:¬ (m:Int)%2=0:=by omega
      have HQ:Hid (ok=false):=Lib.hid (by rw [HOK.out];simp [hr])
      go_wp2_with fail
      all_goals exact ⟨rfl,by rw [HQ.out];rfl,HB2.out⟩
   ·rw [if_neg (by decide)] at hP
    obtain rfl:zp=2:=by rw [←HZP.out];rfl
    obtain ⟨mb,hmb⟩:∃ mb,q1.may 2 m 2=mb:=⟨_,rfl⟩
    have KM1:=Lib.hid (KM.out 2 2 (by decide) (by decide))
    rw [hmb] at KM1 hP
    go_wp2_with fail
    refine (K136.out W HB.out).mono ?_
    rintro _ w1 ⟨rfl,hb1⟩
    have HB1:Hid (Below N w w1):=Lib.hid (HB.out.trans (hb1.mono HZ.out))
    have HZ1:Hid (N≤w1.heap.size):=Lib.hid (Nat.le_trans HZ.out hb1.size)
    clear hb1
    go_wp2_with fail
    refine (KM1.out _).mono ?_
    rintro _ w2 ⟨rfl,hb2⟩
    have HB2:Hid (Below N w w2):=Lib.hid (HB1.out.trans (hb2.mono HZ1.out))
    have HOK:=Lib.hid hP
    clear hb2 hmb hP
    cases mb with
    | false =>
     have HQ:Hid (ok=false):=Lib.hid (by rw [HOK.out];rfl)
     go_wp2_with fail
     all_goals exact ⟨rfl,by rw [HQ.out];rfl,HB2.out⟩
    | true =>
     by_cases hr:m%2=0
     ·have hrm:(m:Int)%2=0:=by omega
      by_cases h6:m<65536
      ·have hge:decide ((65536:Int)≤(m:Int))=false:=decide_eq_false (by omega)
       have HQ:Hid (ok=!dv):=Lib.hid (by rw [HOK.out];simp [hr,h6])
       go_wp2_with fail
       refine (K88.out _).mono ?_
       rintro _ _ ⟨rfl,rfl⟩
       cases dv
       ·go_wp2_with fail
        go_ret2
        exact ⟨by rw [HQ.out];rfl,HB2.out⟩
       ·go_wp2_with fail
        all_goals exact ⟨rfl,by rw [HQ.out];rfl,HB2.out⟩
      ·have hge:decide ((65536:Int)≤(m:Int))=true:=decide_eq_true (by omega)
       have HQ:Hid (ok=false):=Lib.hid (by rw [HOK.out];simp [h6])
       go_wp2_with fail
       all_goals exact ⟨rfl,by rw [HQ.out];rfl,HB2.out⟩
     ·have hrm:¬ (m:Int)%2=0:=by omega
      have HQ:Hid (ok=false):=Lib.hid (by rw [HOK.out];simp [hr])
      go_wp2_with fail
      all_goals exact ⟨rfl,by rw [HQ.out];rfl,HB2.out⟩
  ·subst hs
   have hP:=HP.out
   obtain rfl:z=4:=by rw [←HZZ.out];rfl
   rcases HPM.out with rfl | rfl
   ·rw [if_neg (by decide)] at hP
    obtain rfl:zp=1:=by rw [←HZP.out];rfl
    obtain ⟨mb,hmb⟩:∃ mb,q1.may 1 m 4=mb:=⟨_,rfl⟩
    have KM1:=Lib.hid (KM.out 4 1 (by decide) (by decide))
    rw [hmb] at KM1 hP
    go_wp2_with fail
    refine (K136.out W HB.out).mono ?_
    rintro _ w1 ⟨rfl,hb1⟩
    have HB1:Hid (Below N w w1):=Lib.hid (HB.out.trans (hb1.mono HZ.out))
    have HZ1:Hid (N≤w1.heap.size):=Lib.hid (Nat.le_trans HZ.out hb1.size)
    clear hb1
    go_wp2_with fail
    refine (KM1.out _).mono ?_
    rintro _ w2 ⟨rfl,hb2⟩
    have HB2:Hid (Below N w w2):=Lib.hid (HB1.out.trans (hb2.mono HZ1.out))
    have HOK:=Lib.hid hP
    clear hb2 hmb hP
    cases mb with
    | false =>
     have HQ:Hid (ok=false):=Lib.hid (by rw [HOK.out];rfl)
     go_wp2_with fail
     all_goals exact ⟨rfl,by rw [HQ.out];rfl,HB2.out⟩
    | true =>
     by_cases hr:m%4=0
     ·have hrm:(m:Int)%4=0:=by omega
      by_cases h6:m<65536
      ·have hge:decide ((65536:Int)≤(m:Int))=false:=decide_eq_false (by omega)
       have HQ:Hid (ok=true):=Lib.hid (by rw [HOK.out];simp [hr,h6])
       go_wp2_with fail
       refine (K88.out _).mono ?_
       rintro _ _ ⟨rfl,rfl⟩
       cases dv
       all_goals
        go_wp2_with fail
        go_ret2
        exact ⟨by rw [HQ.out];rfl,HB2.out⟩
      ·have hge:decide ((65536:Int)≤(m:Int))=true:=decide_eq_true (by omega)
       have HQ:Hid (ok=false):=Lib.hid (by rw [HOK.out];simp [h6])
       go_wp2_with fail
       all_goals exact ⟨rfl,by rw [HQ.out];rfl,HB2.out⟩
     ·have hrm:¬ (m:Int)%4=0:=by omega
      have HQ:Hid (ok=false):=Lib.hid (by rw [HOK.out];simp [hr])
      go_wp2_with fail
      all_goals exact ⟨rfl,by rw [HQ.out];rfl,HB2.out⟩
   ·rw [if_neg (by decide)] at hP
    obtain rfl:zp=2:=by rw [←HZP.out];rfl
    obtain ⟨mb,hmb⟩:∃ mb,q1.may 2 m 4=mb:=⟨_,rfl⟩
    have KM1:=Lib.hid (KM.out 4 2 (by decide) (by decide))
    rw [hmb] at KM1 hP
    go_wp2_with fail
    refine (K136.out W HB.out).mono ?_
    rintro _ w1 ⟨rfl,hb1⟩
    have HB1:Hid (Below N w w1):=Lib.hid (HB.out.trans (hb1.mono HZ.out))
    have HZ1:Hid (N≤w1.heap.size):=Lib.hid (Nat.le_trans HZ.out hb1.size)
    clear hb1
    go_wp2_with fail
    refine (KM1.out _).mono ?_
    rintro _ w2 ⟨rfl,hb2⟩
    have HB2:Hid (Below N w w2):=Lib.hid (HB1.out.trans (hb2.mono HZ1.out))
    have HOK:=Lib.hid hP
    clear hb2 hmb hP
    cases mb with
    | false =>
     have HQ:Hid (ok=false):=Lib.hid (by rw [HOK.out];rfl)
     go_wp2_with fail
     all_goals exact ⟨rfl,by rw [HQ.out];rfl,HB2.out⟩
    | true =>
     by_cases hr:m%4=0
     ·have hrm:(m:Int)%4=0:=by omega
      by_cases h6:m<65536
      ·have hge:decide ((65536:Int)≤(m:Int))=false:=decide_eq_false (by omega)
       have HQ:Hid (ok=true):=Lib.hid (by rw [HOK.out];simp [hr,h6])
       go_wp2_with fail
       refine (K88.out _).mono ?_
       rintro _ _ ⟨rfl,rfl⟩
       cases dv
       all_goals
        go_wp2_with fail
        go_ret2
        exact ⟨by rw [HQ.out];rfl,HB2.out⟩
      ·have hge:decide ((65536:Int)≤(m:Int))=true:=decide_eq_true (by omega)
       have HQ:Hid (ok=false):=Lib.hid (by rw [HOK.out];simp [h6])
       go_wp2_with fail
       all_goals exact ⟨rfl,by rw [HQ.out];rfl,HB2.out⟩
     ·have hrm:¬ (m:Int)%4=0:=by omega
      have HQ:Hid (ok=false):=Lib.hid (by rw [HOK.out];simp [hr])
      go_wp2_with fail
      all_goals exact ⟨rfl,by rw [HQ.out];rfl,HB2.out⟩
  ·subst hs
   have hP:=HP.out
   obtain rfl:z=8:=by rw [←HZZ.out];rfl
   rcases HPM.out with rfl | rfl
   ·rw [if_pos rfl,show 1 ||| 4=5 from rfl] at hP
    obtain rfl:zp=1:=by rw [←HZP.out];rfl
    obtain ⟨mb,hmb⟩:∃ mb,q1.may 5 m 8=mb:=⟨_,rfl⟩
    have KM1:=Lib.hid (KM.out 8 5 (by decide) (by decide))
    rw [hmb] at KM1 hP
    go_wp2_with fail
    refine (K136.out W HB.out).mono ?_
    rintro _ w1 ⟨rfl,hb1⟩
    have HB1:Hid (Below N w w1):=Lib.hid (HB.out.trans (hb1.mono HZ.out))
    have HZ1:Hid (N≤w1.heap.size):=Lib.hid (Nat.le_trans HZ.out hb1.size)
    clear hb1
    go_wp2_with fail
    refine (KM1.out _).mono ?_
    rintro _ w2 ⟨rfl,hb2⟩
    have HB2:Hid (Below N w w2):=Lib.hid (HB1.out.trans (hb2.mono HZ1.out))
    have HOK:=Lib.hid hP
    clear hb2 hmb hP
    cases mb with
    | false =>
     have HQ:Hid (ok=false):=Lib.hid (by rw [HOK.out];rfl)
     go_wp2_with fail
     all_goals exact ⟨rfl,by rw [HQ.out];rfl,HB2.out⟩
    | true =>
     by_cases hr:m%8=0
     ·have hrm:(m:Int)%8=0:=by omega
      by_cases h6:m<65536
      ·have hge:decide ((65536:Int)≤(m:Int))=false:=decide_eq_false (by omega)
       have HQ:Hid (ok=!dv):=Lib.hid (by rw [HOK.out];simp [hr,h6])
       go_wp2_with fail
       refine (K88.out _).mono ?_
       rintro _ _ ⟨rfl,rfl⟩
       cases dv
       ·go_wp2_with fail
        go_ret2
        exact ⟨by rw [HQ.out];rfl,HB2.out⟩
       ·go_wp2_with fail
        all_goals exact ⟨rfl,by rw [HQ.out];rfl,HB2.out⟩
      ·have hge:decide ((65536:Int)≤(m:Int))=true:=decide_eq_true (by omega)
       have HQ:Hid (ok=false):=Lib.hid (by rw [HOK.out];simp [h6])
       go_wp2_with fail
       all_goals exact ⟨rfl,by rw [HQ.out];rfl,HB2.out⟩
     ·have hrm:¬ (m:Int)%8=0:=by omega
      have HQ:Hid (ok=false):=Lib.hid (by rw [HOK.out];simp [hr])
      go_wp2_with fail
      all_goals exact ⟨rfl,by rw [HQ.out];rfl,HB2.out⟩
   ·rw [if_pos rfl,show 2 ||| 4=6 from rfl] at hP
    obtain rfl:zp=2:=by rw [←HZP.out];rfl
    obtain ⟨mb,hmb⟩:∃ mb,q1.may 6 m 8=mb:=⟨_,rfl⟩
    have KM1:=Lib.hid (KM.out 8 6 (by decide) (by decide))
    rw [hmb] at KM1 hP
    go_wp2_with fail
    refine (K136.out W HB.out).mono ?_
    rintro _ w1 ⟨rfl,hb1⟩
    have HB1:Hid (Below N w w1):=Lib.hid (HB.out.trans (hb1.mono HZ.out))
    have HZ1:Hid (N≤w1.heap.size):=Lib.hid (Nat.le_trans HZ.out hb1.size)
    clear hb1
    go_wp2_with fail
    refine (KM1.out _).mono ?_
    rintro _ w2 ⟨rfl,hb2⟩
    have HB2:Hid (Below N w w2):=Lib.hid (HB1.out.trans (hb2.mono HZ1.out))
    have HOK:=Lib.hid hP
    clear hb2 hmb hP
    cases mb with
    | false =>
     have HQ:Hid (ok=false):=Lib.hid (by rw [HOK.out];rfl)
     go_wp2_with fail
     all_goals exact ⟨rfl,by rw [HQ.out];rfl,HB2.out⟩
    | true =>
     by_cases hr:m%8=0
     ·have hrm:(m:Int)%8=0:=by omega
      by_cases h6:m<65536
      ·have hge:decide ((65536:Int)≤(m:Int))=false:=decide_eq_false (by omega)
       have HQ:Hid (ok=!dv):=Lib.hid (by rw [HOK.out];simp [hr,h6])
       go_wp2_with fail
       refine (K88.out _).mono ?_
       rintro _ _ ⟨rfl,rfl⟩
       cases dv
       ·go_wp2_with fail
        go_ret2
        exact ⟨by rw [HQ.out];rfl,HB2.out⟩
       ·go_wp2_with fail
        all_goals exact ⟨rfl,by rw [HQ.out];rfl,HB2.out⟩
      ·have hge:decide ((65536:Int)≤(m:Int))=true:=decide_eq_true (by omega)
       have HQ:Hid (ok=false):=Lib.hid (by rw [HOK.out];simp [h6])
       go_wp2_with fail
       all_goals exact ⟨rfl,by rw [HQ.out];rfl,HB2.out⟩
     ·have hrm:¬ (m:Int)%8=0:=by omega
      have HQ:Hid (ok=false):=Lib.hid (by rw [HOK.out];simp [hr])
      go_wp2_with fail
      all_goals exact ⟨rfl,by rw [HQ.out];rfl,HB2.out⟩
theorem c137_okP (pm cs:Nat) (hpm:pm=1∨pm=2) (g:Nat) (k:WK) (o1 r1 n:Nat) (q1:Cq) (w:World) (h:Wk w g k) (ho:k.i.o=o1) (ho1:11≤o1) (ho2:o1≤20) (hr1:k.i.r1=r1) (h116:r1<16) (hq1:k.A.c r1=q1) (hf1:q1.fit) (hn:k.i.im%4294967296=(n:Int)) (hp:plB q1 pm o1 ((q1.a+n)%4294967296)=true) :
  Calls Tryz.prog 137 #[.pointer (some ⟨g,0,none⟩),.int .u8 (pm:Int),.int .u32 (cs:Int)] w fun e w'=>e=.returned (.tuple #[.int .u32 ((((q1.a+n)%4294967296):Nat):Int),.int .i64 (szO o1:Int)])∧Below w.heap.size w w':=by
 refine (c137_all pm cs hpm g k o1 r1 n q1 w h ho ho1 ho2 hr1 h116 hq1 hf1 hn).mono ?_
 rintro e w' ⟨rfl,hb⟩
 rw [hp]
 exact ⟨rfl,hb⟩
theorem c137_trP (pm cs:Nat) (hpm:pm=1∨pm=2) (g:Nat) (k:WK) (o1 r1 n:Nat) (q1:Cq) (w:World) (h:Wk w g k) (ho:k.i.o=o1) (ho1:11≤o1) (ho2:o1≤20) (hr1:k.i.r1=r1) (h116:r1<16) (hq1:k.A.c r1=q1) (hf1:q1.fit) (hn:k.i.im%4294967296=(n:Int)) (hp:plB q1 pm o1 ((q1.a+n)%4294967296)=false) :
  Calls Tryz.prog 137 #[.pointer (some ⟨g,0,none⟩),.int .u8 (pm:Int),.int .u32 (cs:Int)] w fun e w'=>e=.panicked [{ v:=.iface 118 (.agg #[.int .u32 (cs:Int)]),recovered:=false }]∧Below w.heap.size w w':=by
 refine (c137_all pm cs hpm g k o1 r1 n q1 w h ho ho1 ho2 hr1 h116 hq1 hf1 hn).mono ?_
 rintro e w' ⟨rfl,hb⟩
 rw [hp]
 exact ⟨rfl,hb⟩
theorem c137_1_ok (g:Nat) (k:WK) (o1 r1 n:Nat) (q1:Cq) (w:World) (h:Wk w g k) (ho:k.i.o=o1) (ho1:11≤o1) (ho2:o1≤20) (hr1:k.i.r1=r1) (h116:r1<16) (hq1:k.A.c r1=q1) (hf1:q1.fit) (hn:k.i.im%4294967296=(n:Int)) (hp:plB q1 1 o1 ((q1.a+n)%4294967296)=true) :
  Calls Tryz.prog 137 #[.pointer (some ⟨g,0,none⟩),.int .u8 1,.int .u32 3] w fun e w'=>e=.returned (.tuple #[.int .u32 ((((q1.a+n)%4294967296):Nat):Int),.int .i64 (szO o1:Int)])∧Below w.heap.size w w' :=
 c137_okP 1 3 (by decide) g k o1 r1 n q1 w h ho ho1 ho2 hr1 h116 hq1 hf1 hn hp
theorem c137_1_tr (g:Nat) (k:WK) (o1 r1 n:Nat) (q1:Cq) (w:World) (h:Wk w g k) (ho:k.i.o=o1) (ho1:11≤o1) (ho2:o1≤20) (hr1:k.i.r1=r1) (h116:r1<16) (hq1:k.A.c r1=q1) (hf1:q1.fit) (hn:k.i.im%4294967296=(n:Int)) (hp:plB q1 1 o1 ((q1.a+n)%4294967296)=false) :
  Calls Tryz.prog 137 #[.pointer (some ⟨g,0,none⟩),.int .u8 1,.int .u32 3] w fun e w'=>e=.panicked [{ v:=.iface 118 (.agg #[.int .u32 3]),recovered:=false }]∧Below w.heap.size w w' :=
 c137_trP 1 3 (by decide) g k o1 r1 n q1 w h ho ho1 ho2 hr1 h116 hq1 hf1 hn hp
theorem c137_2_ok (g:Nat) (k:WK) (o1 r1 n:Nat) (q1:Cq) (w:World) (h:Wk w g k) (ho:k.i.o=o1) (ho1:11≤o1) (ho2:o1≤20) (hr1:k.i.r1=r1) (h116:r1<16) (hq1:k.A.c r1=q1) (hf1:q1.fit) (hn:k.i.im%4294967296=(n:Int)) (hp:plB q1 2 o1 ((q1.a+n)%4294967296)=true) :
  Calls Tryz.prog 137 #[.pointer (some ⟨g,0,none⟩),.int .u8 2,.int .u32 4] w fun e w'=>e=.returned (.tuple #[.int .u32 ((((q1.a+n)%4294967296):Nat):Int),.int .i64 (szO o1:Int)])∧Below w.heap.size w w' :=
 c137_okP 2 4 (by decide) g k o1 r1 n q1 w h ho ho1 ho2 hr1 h116 hq1 hf1 hn hp
theorem c137_2_tr (g:Nat) (k:WK) (o1 r1 n:Nat) (q1:Cq) (w:World) (h:Wk w g k) (ho:k.i.o=o1) (ho1:11≤o1) (ho2:o1≤20) (hr1:k.i.r1=r1) (h116:r1<16) (hq1:k.A.c r1=q1) (hf1:q1.fit) (hn:k.i.im%4294967296=(n:Int)) (hp:plB q1 2 o1 ((q1.a+n)%4294967296)=false) :
  Calls Tryz.prog 137 #[.pointer (some ⟨g,0,none⟩),.int .u8 2,.int .u32 4] w fun e w'=>e=.panicked [{ v:=.iface 118 (.agg #[.int .u32 4]),recovered:=false }]∧Below w.heap.size w w' :=
 c137_trP 2 4 (by decide) g k o1 r1 n q1 w h ho ho1 ho2 hr1 h116 hq1 hf1 hn hp
end Go.Proofs.YtnkoknfihhdelaaGreatDoor
namespace Go.Proofs.YtnkoknfihhdelaaGreatDoor
open Go.ChangeShapes Go.WideShapes Go.ChangeAt Go.RowKit
set_option linter.unusedVariables false
set_option maxRecDepth 100000
theorem Wk.ansc {w:World} {g:Nat} {k:WK} (h:Wk w g k):w.cell? ⟨g,308,none⟩=some (.int .u32 (k.ans:Int)):=h.cellT 5 308 rfl
theorem Wk.mpc {w:World} {g:Nat} {k:WK} (h:Wk w g k):w.cell? ⟨g,0,none⟩=some k.mp:=Blk.cell h 0
set_option maxHeartbeats 2000000 in
theorem c93_cap (g b B:Nat) (M:Nat→Nat) (T:Nat→Bool) (tv:Value) (m:Nat) (xs:List Value) (w0 w:World) (k:WK) (o1 rd r1 n:Nat) (q1:Cq) (h:Stp g b B M T tv m xs w0 w k) (hmp:k.mp=.pointer (some ⟨b,0,none⟩)) (hm6:m≤65536) (ho:k.i.o=o1) (ho1:11≤o1) (ho2:o1≤16) (hd:k.i.rd=rd) (hd16:rd<16) (hr1:k.i.r1=r1) (h116:r1<16) (hq1:k.A.c r1=q1) (hf1:q1.fit) (hn:k.i.im%4294967296=(n:Int)) (hp:plB q1 1 o1 ((q1.a+n)%4294967296)=true) (hz:szO o1=8) :
  Calls Tryz.prog 93 #[.pointer (some ⟨g,0,none⟩)] w fun e w'=>e=.returned (.tuple #[])∧∃ v,Stp g b B M T v (m+1) (xs++[.int .i64 2,.int .u32 ((((q1.a+n)%4294967296):Nat):Int),.int .i64 8]) w0 w' ((k.tc v).putN rd (capAt M T ((q1.a+n)%4294967296))):=by
 have hpp:=hp
 unfold plB at hpp
 rw [hz] at hpp
 simp only [Bool.and_eq_true,decide_eq_true_eq] at hpp
 obtain ⟨-,h8,h6,-⟩:=hpp
 have K137:=c137_1_ok g k o1 r1 n q1 w h.wk ho ho1 (by omega) hr1 h116 hq1 hf1 hn hp
 rw [hz] at K137
 have hn2:n<4294967296:=by omega
 obtain ⟨a,ha⟩:∃ a,((q1.a+n)%4294967296)=a:=⟨_,rfl⟩
 rw [ha] at K137 h8 h6 ⊢
 have K1:=Lib.hid K137
 have KT:Hid (∀ W,Below w.heap.size w W→Calls Tryz.prog 89 #[.pointer (some ⟨g,0,none⟩),.int .i64 2,.int .u32 (a:Int),.int .i64 8] W fun e w'=>e=.returned (.tuple #[])∧∃ v,Stp g b B M T v (m+1) (xs++[.int .i64 2,.int .u32 (a:Int),.int .i64 8]) w0 w' (k.tc v)):=Lib.hid (fun W hb=>(h.below hb).touch 2 8 a hm6)
 have HMP:Hid (∀ W v,Wk W g (k.tc v)→W.cell? ⟨g,0,none⟩=some (.pointer (some ⟨b,0,none⟩))):=Lib.hid (fun W v hk=>by rw [←hmp];exact hk.mpc)
 have KL:Hid (∀ W,Mem W b M T→Calls Tryz.prog 19 #[.pointer (some ⟨b,0,none⟩),.int .u32 (a:Int)] W fun en w'=>en=.returned (.tuple #[.agg #[.bool (capAt M T a).g,.int .u32 ((capAt M T a).a:Int),.int .u8 ((capAt M T a).p:Int),.int .u8 ((capAt M T a).y:Int),.int .u8 ((capAt M T a).e:Int),.int .u16 ((capAt M T a).b:Int),.int .u16 ((capAt M T a).t:Int)],.int .i64 0])∧Below W.heap.size W w'):=Lib.hid (fun W hm=>lcap_call b a M T W hm h6 h8)
 obtain ⟨q3,hq3⟩:∃ q3,capAt M T a=q3:=⟨_,rfl⟩
 rw [hq3] at KL ⊢
 have K95:Hid (∀ W v,Stp g b B M T v (m+1) (xs++[.int .i64 2,.int .u32 (a:Int),.int .i64 8]) w0 W (k.tc v)→Calls Tryz.prog 95 #[.pointer (some ⟨g,0,none⟩),.agg #[.bool q3.g,.int .u32 (q3.a:Int),.int .u8 (q3.p:Int),.int .u8 (q3.y:Int),.int .u8 (q3.e:Int),.int .u16 (q3.b:Int),.int .u16 (q3.t:Int)]] W fun e w'=>e=.returned (.tuple #[])∧Stp g b B M T v (m+1) (xs++[.int .i64 2,.int .u32 (a:Int),.int .i64 8]) w0 w' ((k.tc v).putN rd q3)):=Lib.hid (fun W v hs=>(c95 g (k.tc v) q3 W hs.wk rd hd hd16).mono fun e w' ⟨h1,h2,h3⟩=>⟨h1,hs.only (h3.sv (Nat.le_refl _)) h2 rfl⟩)
 obtain ⟨XS,hXS⟩:∃ XS,xs++[.int .i64 2,.int .u32 (a:Int),.int .i64 8]=XS:=⟨_,rfl⟩
 rw [hXS] at KT K95 ⊢
 clear h hmp ho hd hr1 hq1 hf1 hn hp hz K137 ha hq3 hXS h8
 go_enter Tryz.func93,Tryz.ntmps93
 go_wp2_with fail
 refine K1.out.mono ?_
 rintro _ w1 ⟨rfl,hb1⟩
 have HB1:=Lib.hid hb1
 clear hb1
 go_wp2_with fail
 refine (KT.out w1 HB1.out).mono ?_
 rintro _ w2 ⟨rfl,v,hs2⟩
 have HS2:=Lib.hid hs2
 have x0:=HMP.out w2 v hs2.wk
 have hlg:=hs2.wk.lt
 clear hs2
 go_wp2_with fail
 refine (KL.out w2 HS2.out.mem).mono ?_
 rintro _ w3 ⟨rfl,hb3⟩
 have HS3:=Lib.hid ((HS2.out.below hb3).below ((Below.refl _ _).alloc (Nat.le_refl _) (.cells #[.bool q3.g,.int .u32 (q3.a:Int),.int .u8 (q3.p:Int),.int .u8 (q3.y:Int),.int .u8 (q3.e:Int),.int .u16 (q3.b:Int),.int .u16 (q3.t:Int)] 29)))
 clear hb3 x0
 go_wp2_with fail
 refine (K95.out _ v HS3.out).mono ?_
 rintro _ w4 ⟨rfl,hs4⟩
 go_wp2_with fail
 go_end0
 exact ⟨rfl,v,hs4⟩
set_option maxHeartbeats 2000000 in
theorem c93_dev (g b B:Nat) (M:Nat→Nat) (T:Nat→Bool) (tv:Value) (m:Nat) (xs:List Value) (w0 w:World) (k:WK) (o1 rd r1 n:Nat) (q1:Cq) (h:Stp g b B M T tv m xs w0 w k) (hmp:k.mp=.pointer (some ⟨b,0,none⟩)) (hm6:m≤65536) (ho:k.i.o=o1) (ho1:11≤o1) (ho2:o1≤16) (hd:k.i.rd=rd) (hd16:rd<16) (hr1:k.i.r1=r1) (h116:r1<16) (hq1:k.A.c r1=q1) (hf1:q1.fit) (hn:k.i.im%4294967296=(n:Int)) (hp:plB q1 1 o1 ((q1.a+n)%4294967296)=true) (hz:szO o1=4) (hdv:devB ((q1.a+n)%4294967296)=true) :
  Calls Tryz.prog 93 #[.pointer (some ⟨g,0,none⟩)] w fun e w'=>e=.returned (.tuple #[])∧∃ v,Stp g b B M T v (m+1) (xs++[.int .i64 2,.int .u32 ((((q1.a+n)%4294967296):Nat):Int),.int .i64 4]) w0 w' ((k.tc v).putN rd (numQ k.ans)):=by
 have hpp:=hp
 unfold plB at hpp
 rw [hz] at hpp
 simp only [Bool.and_eq_true,decide_eq_true_eq] at hpp
 obtain ⟨-,h8,h6,-⟩:=hpp
 have K137:=c137_1_ok g k o1 r1 n q1 w h.wk ho ho1 (by omega) hr1 h116 hq1 hf1 hn hp
 rw [hz] at K137
 have hn2:n<4294967296:=by omega
 obtain ⟨a,ha⟩:∃ a,((q1.a+n)%4294967296)=a:=⟨_,rfl⟩
 rw [ha] at K137 h8 h6 hdv ⊢
 have K1:=Lib.hid K137
 have KT:Hid (∀ W,Below w.heap.size w W→Calls Tryz.prog 89 #[.pointer (some ⟨g,0,none⟩),.int .i64 2,.int .u32 (a:Int),.int .i64 4] W fun e w'=>e=.returned (.tuple #[])∧∃ v,Stp g b B M T v (m+1) (xs++[.int .i64 2,.int .u32 (a:Int),.int .i64 4]) w0 w' (k.tc v)):=Lib.hid (fun W hb=>(h.below hb).touch 2 4 a hm6)
 have HMP:Hid (∀ W v,Wk W g (k.tc v)→W.cell? ⟨g,0,none⟩=some (.pointer (some ⟨b,0,none⟩))):=Lib.hid (fun W v hk=>by rw [←hmp];exact hk.mpc)
 have K88:=Lib.hid (c88 a)
 rw [hdv] at K88
 have HAN:Hid (∀ W v,Wk W g (k.tc v)→W.cell? ⟨g,308,none⟩=some (.int .u32 (k.ans:Int))):=Lib.hid (fun W v hk=>hk.ansc)
 have KI:=Lib.hid (int_call k.ans)
 obtain ⟨q3,hq3⟩:∃ q3,numQ k.ans=q3:=⟨_,rfl⟩
 rw [show (⟨false,k.ans,0,0,0,0,0⟩:Cq)=q3 from hq3] at KI
 rw [hq3]
 obtain ⟨an,han⟩:∃ an,k.ans=an:=⟨_,rfl⟩
 rw [han] at HAN KI
 have K95:Hid (∀ W v,Stp g b B M T v (m+1) (xs++[.int .i64 2,.int .u32 (a:Int),.int .i64 4]) w0 W (k.tc v)→Calls Tryz.prog 95 #[.pointer (some ⟨g,0,none⟩),.agg #[.bool q3.g,.int .u32 (q3.a:Int),.int .u8 (q3.p:Int),.int .u8 (q3.y:Int),.int .u8 (q3.e:Int),.int .u16 (q3.b:Int),.int .u16 (q3.t:Int)]] W fun e w'=>e=.returned (.tuple #[])∧Stp g b B M T v (m+1) (xs++[.int .i64 2,.int .u32 (a:Int),.int .i64 4]) w0 w' ((k.tc v).putN rd q3)):=Lib.hid (fun W v hs=>(c95 g (k.tc v) q3 W hs.wk rd hd hd16).mono fun e w' ⟨h1,h2,h3⟩=>⟨h1,hs.only (h3.sv (Nat.le_refl _)) h2 rfl⟩)
 obtain ⟨XS,hXS⟩:∃ XS,xs++[.int .i64 2,.int .u32 (a:Int),.int .i64 4]=XS:=⟨_,rfl⟩
 rw [hXS] at KT K95 ⊢
 clear h hmp ho hd hr1 hq1 hf1 hn hp hz K137 ha hq3 hXS h8 hdv han
 go_enter Tryz.func93,Tryz.ntmps93
 go_wp2_with fail
 refine K1.out.mono ?_
 rintro _ w1 ⟨rfl,hb1⟩
 have HB1:=Lib.hid hb1
 clear hb1
 go_wp2_with fail
 refine (KT.out w1 HB1.out).mono ?_
 rintro _ w2 ⟨rfl,v,hs2⟩
 have HS2:=Lib.hid hs2
 have x0:=HMP.out w2 v hs2.wk
 have hlg:=hs2.wk.lt
 have x308:=HAN.out w2 v hs2.wk
 clear hs2
 go_wp2_with fail
 refine (K88.out w2).mono ?_
 rintro _ _ ⟨rfl,rfl⟩
 go_wp2_with fail
 refine (KI.out w2).mono ?_
 rintro _ w3 ⟨rfl,hb3⟩
 have HS3:=Lib.hid (HS2.out.below hb3)
 clear hb3 x0 x308
 go_wp2_with fail
 refine (K95.out _ v HS3.out).mono ?_
 rintro _ w4 ⟨rfl,hs4⟩
 go_wp2_with fail
 go_end0
 exact ⟨rfl,v,hs4⟩
set_option maxHeartbeats 2000000 in
theorem c93_n1 (g b B:Nat) (M:Nat→Nat) (T:Nat→Bool) (tv:Value) (m:Nat) (xs:List Value) (w0 w:World) (k:WK) (o1 rd r1 n:Nat) (q1:Cq) (h:Stp g b B M T tv m xs w0 w k) (hmp:k.mp=.pointer (some ⟨b,0,none⟩)) (hm6:m≤65536) (ho:k.i.o=o1) (ho1:11≤o1) (ho2:o1≤16) (hd:k.i.rd=rd) (hd16:rd<16) (hr1:k.i.r1=r1) (h116:r1<16) (hq1:k.A.c r1=q1) (hf1:q1.fit) (hn:k.i.im%4294967296=(n:Int)) (hp:plB q1 1 o1 ((q1.a+n)%4294967296)=true) (hz:szO o1=1) (hdv:devB ((q1.a+n)%4294967296)=false) (hM:numL M ((q1.a+n)%4294967296) 1<4294967296) :
  Calls Tryz.prog 93 #[.pointer (some ⟨g,0,none⟩)] w fun e w'=>e=.returned (.tuple #[])∧∃ v,Stp g b B M T v (m+1) (xs++[.int .i64 2,.int .u32 ((((q1.a+n)%4294967296):Nat):Int),.int .i64 1]) w0 w' ((k.tc v).putN rd (numQ (sgO o1 (numL M ((q1.a+n)%4294967296) 1)))):=by
 have hpp:=hp
 unfold plB at hpp
 rw [hz] at hpp
 simp only [Bool.and_eq_true,decide_eq_true_eq] at hpp
 obtain ⟨-,h8,h6,-⟩:=hpp
 have K137:=c137_1_ok g k o1 r1 n q1 w h.wk ho ho1 (by omega) hr1 h116 hq1 hf1 hn hp
 rw [hz] at K137
 have hn2:n<4294967296:=by omega
 obtain ⟨a,ha⟩:∃ a,((q1.a+n)%4294967296)=a:=⟨_,rfl⟩
 rw [ha] at K137 h8 h6 hdv hM ⊢
 have K1:=Lib.hid K137
 have KT:Hid (∀ W,Below w.heap.size w W→Calls Tryz.prog 89 #[.pointer (some ⟨g,0,none⟩),.int .i64 2,.int .u32 (a:Int),.int .i64 1] W fun e w'=>e=.returned (.tuple #[])∧∃ v,Stp g b B M T v (m+1) (xs++[.int .i64 2,.int .u32 (a:Int),.int .i64 1]) w0 w' (k.tc v)):=Lib.hid (fun W hb=>(h.below hb).touch 2 1 a hm6)
 have HMP:Hid (∀ W v,Wk W g (k.tc v)→W.cell? ⟨g,0,none⟩=some (.pointer (some ⟨b,0,none⟩))):=Lib.hid (fun W v hk=>by rw [←hmp];exact hk.mpc)
 have K88:=Lib.hid (c88 a)
 rw [hdv] at K88
 have KL:Hid (∀ W,Mem W b M T→Calls Tryz.prog 27 #[.pointer (some ⟨b,0,none⟩),.int .u32 (a:Int),.int .i64 1] W fun e w'=>e=.returned (.tuple #[.int .u32 (numL M a 1:Int),.int .i64 0])∧W=w'):=Lib.hid (fun W hm=>mLoad b a 1 M T W hm (by unfold wordB;exact decide_eq_true ⟨by omega,h6,by omega⟩))
 have KS:=Lib.hid (c138 o1 (numL M a 1) hM)
 obtain ⟨x,hx⟩:∃ x,numL M a 1=x:=⟨_,rfl⟩
 rw [hx] at KL KS hM ⊢
 have HO:Hid (∀ W v,Wk W g (k.tc v)→W.cell? ⟨g,303,none⟩=some (.int .u8 (o1:Int))):=Lib.hid (fun W v hk=>by rw [←ho];exact hk.cellT 0 303 rfl)
 obtain ⟨y,hy⟩:∃ y,sgO o1 x=y:=⟨_,rfl⟩
 rw [hy] at KS ⊢
 have KI:=Lib.hid (int_call y)
 obtain ⟨q3,hq3⟩:∃ q3,numQ y=q3:=⟨_,rfl⟩
 rw [show (⟨false,y,0,0,0,0,0⟩:Cq)=q3 from hq3] at KI
 rw [hq3]
 have K95:Hid (∀ W v,Stp g b B M T v (m+1) (xs++[.int .i64 2,.int .u32 (a:Int),.int .i64 1]) w0 W (k.tc v)→Calls Tryz.prog 95 #[.pointer (some ⟨g,0,none⟩),.agg #[.bool q3.g,.int .u32 (q3.a:Int),.int .u8 (q3.p:Int),.int .u8 (q3.y:Int),.int .u8 (q3.e:Int),.int .u16 (q3.b:Int),.int .u16 (q3.t:Int)]] W fun e w'=>e=.returned (.tuple #[])∧Stp g b B M T v (m+1) (xs++[.int .i64 2,.int .u32 (a:Int),.int .i64 1]) w0 w' ((k.tc v).putN rd q3)):=Lib.hid (fun W v hs=>(c95 g (k.tc v) q3 W hs.wk rd hd hd16).mono fun e w' ⟨h1,h2,h3⟩=>⟨h1,hs.only (h3.sv (Nat.le_refl _)) h2 rfl⟩)
 obtain ⟨XS,hXS⟩:∃ XS,xs++[.int .i64 2,.int .u32 (a:Int),.int .i64 1]=XS:=⟨_,rfl⟩
 rw [hXS] at KT K95 ⊢
 clear h hmp ho hd hr1 hq1 hf1 hn hp hz K137 ha hq3 hXS h8 hy hx hM hdv
 go_enter Tryz.func93,Tryz.ntmps93
 go_wp2_with fail
 refine K1.out.mono ?_
 rintro _ w1 ⟨rfl,hb1⟩
 have HB1:=Lib.hid hb1
 clear hb1
 go_wp2_with fail
 refine (KT.out w1 HB1.out).mono ?_
 rintro _ w2 ⟨rfl,v,hs2⟩
 have HS2:=Lib.hid hs2
 have x0:=HMP.out w2 v hs2.wk
 have hlg:=hs2.wk.lt
 have x303:=HO.out w2 v hs2.wk
 clear hs2
 go_wp2_with fail
 refine (K88.out w2).mono ?_
 rintro _ _ ⟨rfl,rfl⟩
 go_wp2_with fail
 refine (KL.out w2 HS2.out.mem).mono ?_
 rintro _ _ ⟨rfl,rfl⟩
 go_wp2_with fail
 refine (KS.out w2).mono ?_
 rintro _ _ ⟨rfl,rfl⟩
 go_wp2_with fail
 refine (KI.out w2).mono ?_
 rintro _ w3 ⟨rfl,hb3⟩
 have HS3:=Lib.hid (HS2.out.below hb3)
 clear hb3 x0 x303
 go_wp2_with fail
 refine (K95.out _ v HS3.out).mono ?_
 rintro _ w4 ⟨rfl,hs4⟩
 go_wp2_with fail
 go_end0
 exact ⟨rfl,v,hs4⟩
set_option maxHeartbeats 2000000 in
theorem c93_n2 (g b B:Nat) (M:Nat→Nat) (T:Nat→Bool) (tv:Value) (m:Nat) (xs:List Value) (w0 w:World) (k:WK) (o1 rd r1 n:Nat) (q1:Cq) (h:Stp g b B M T tv m xs w0 w k) (hmp:k.mp=.pointer (some ⟨b,0,none⟩)) (hm6:m≤65536) (ho:k.i.o=o1) (ho1:11≤o1) (ho2:o1≤16) (hd:k.i.rd=rd) (hd16:rd<16) (hr1:k.i.r1=r1) (h116:r1<16) (hq1:k.A.c r1=q1) (hf1:q1.fit) (hn:k.i.im%4294967296=(n:Int)) (hp:plB q1 1 o1 ((q1.a+n)%4294967296)=true) (hz:szO o1=2) (hdv:devB ((q1.a+n)%4294967296)=false) (hM:numL M ((q1.a+n)%4294967296) 2<4294967296) :
  Calls Tryz.prog 93 #[.pointer (some ⟨g,0,none⟩)] w fun e w'=>e=.returned (.tuple #[])∧∃ v,Stp g b B M T v (m+1) (xs++[.int .i64 2,.int .u32 ((((q1.a+n)%4294967296):Nat):Int),.int .i64 2]) w0 w' ((k.tc v).putN rd (numQ (sgO o1 (numL M ((q1.a+n)%4294967296) 2)))):=by
 have hpp:=hp
 unfold plB at hpp
 rw [hz] at hpp
 simp only [Bool.and_eq_true,decide_eq_true_eq] at hpp
 obtain ⟨-,h8,h6,-⟩:=hpp
 have K137:=c137_1_ok g k o1 r1 n q1 w h.wk ho ho1 (by omega) hr1 h116 hq1 hf1 hn hp
 rw [hz] at K137
 have hn2:n<4294967296:=by omega
 obtain ⟨a,ha⟩:∃ a,((q1.a+n)%4294967296)=a:=⟨_,rfl⟩
 rw [ha] at K137 h8 h6 hdv hM ⊢
 have K1:=Lib.hid K137
 have KT:Hid (∀ W,Below w.heap.size w W→Calls Tryz.prog 89 #[.pointer (some ⟨g,0,none⟩),.int .i64 2,.int .u32 (a:Int),.int .i64 2] W fun e w'=>e=.returned (.tuple #[])∧∃ v,Stp g b B M T v (m+1) (xs++[.int .i64 2,.int .u32 (a:Int),.int .i64 2]) w0 w' (k.tc v)):=Lib.hid (fun W hb=>(h.below hb).touch 2 2 a hm6)
 have HMP:Hid (∀ W v,Wk W g (k.tc v)→W.cell? ⟨g,0,none⟩=some (.pointer (some ⟨b,0,none⟩))):=Lib.hid (fun W v hk=>by rw [←hmp];exact hk.mpc)
 have K88:=Lib.hid (c88 a)
 rw [hdv] at K88
 have KL:Hid (∀ W,Mem W b M T→Calls Tryz.prog 27 #[.pointer (some ⟨b,0,none⟩),.int .u32 (a:Int),.int .i64 2] W fun e w'=>e=.returned (.tuple #[.int .u32 (numL M a 2:Int),.int .i64 0])∧W=w'):=Lib.hid (fun W hm=>mLoad b a 2 M T W hm (by unfold wordB;exact decide_eq_true ⟨by omega,h6,by omega⟩))
 have KS:=Lib.hid (c138 o1 (numL M a 2) hM)
 obtain ⟨x,hx⟩:∃ x,numL M a 2=x:=⟨_,rfl⟩
 rw [hx] at KL KS hM ⊢
 have HO:Hid (∀ W v,Wk W g (k.tc v)→W.cell? ⟨g,303,none⟩=some (.int .u8 (o1:Int))):=Lib.hid (fun W v hk=>by rw [←ho];exact hk.cellT 0 303 rfl)
 obtain ⟨y,hy⟩:∃ y,sgO o1 x=y:=⟨_,rfl⟩
 rw [hy] at KS ⊢
 have KI:=Lib.hid (int_call y)
 obtain ⟨q3,hq3⟩:∃ q3,numQ y=q3:=⟨_,rfl⟩
 rw [show (⟨false,y,0,0,0,0,0⟩:Cq)=q3 from hq3] at KI
 rw [hq3]
 have K95:Hid (∀ W v,Stp g b B M T v (m+1) (xs++[.int .i64 2,.int .u32 (a:Int),.int .i64 2]) w0 W (k.tc v)→Calls Tryz.prog 95 #[.pointer (some ⟨g,0,none⟩),.agg #[.bool q3.g,.int .u32 (q3.a:Int),.int .u8 (q3.p:Int),.int .u8 (q3.y:Int),.int .u8 (q3.e:Int),.int .u16 (q3.b:Int),.int .u16 (q3.t:Int)]] W fun e w'=>e=.returned (.tuple #[])∧Stp g b B M T v (m+1) (xs++[.int .i64 2,.int .u32 (a:Int),.int .i64 2]) w0 w' ((k.tc v).putN rd q3)):=Lib.hid (fun W v hs=>(c95 g (k.tc v) q3 W hs.wk rd hd hd16).mono fun e w' ⟨h1,h2,h3⟩=>⟨h1,hs.only (h3.sv (Nat.le_refl _)) h2 rfl⟩)
 obtain ⟨XS,hXS⟩:∃ XS,xs++[.int .i64 2,.int .u32 (a:Int),.int .i64 2]=XS:=⟨_,rfl⟩
 rw [hXS] at KT K95 ⊢
 clear h hmp ho hd hr1 hq1 hf1 hn hp hz K137 ha hq3 hXS h8 hy hx hM hdv
 go_enter Tryz.func93,Tryz.ntmps93
 go_wp2_with fail
 refine K1.out.mono ?_
 rintro _ w1 ⟨rfl,hb1⟩
 have HB1:=Lib.hid hb1
 clear hb1
 go_wp2_with fail
 refine (KT.out w1 HB1.out).mono ?_
 rintro _ w2 ⟨rfl,v,hs2⟩
 have HS2:=Lib.hid hs2
 have x0:=HMP.out w2 v hs2.wk
 have hlg:=hs2.wk.lt
 have x303:=HO.out w2 v hs2.wk
 clear hs2
 go_wp2_with fail
 refine (K88.out w2).mono ?_
 rintro _ _ ⟨rfl,rfl⟩
 go_wp2_with fail
 refine (KL.out w2 HS2.out.mem).mono ?_
 rintro _ _ ⟨rfl,rfl⟩
 go_wp2_with fail
 refine (KS.out w2).mono ?_
 rintro _ _ ⟨rfl,rfl⟩
 go_wp2_with fail
 refine (KI.out w2).mono ?_
 rintro _ w3 ⟨rfl,hb3⟩
 have HS3:=Lib.hid (HS2.out.below hb3)
 clear hb3 x0 x303
 go_wp2_with fail
 refine (K95.out _ v HS3.out).mono ?_
 rintro _ w4 ⟨rfl,hs4⟩
 go_wp2_with fail
 go_end0
 exact ⟨rfl,v,hs4⟩
set_option maxHeartbeats 2000000 in
theorem c93_n4 (g b B:Nat) (M:Nat→Nat) (T:Nat→Bool) (tv:Value) (m:Nat) (xs:List Value) (w0 w:World) (k:WK) (o1 rd r1 n:Nat) (q1:Cq) (h:Stp g b B M T tv m xs w0 w k) (hmp:k.mp=.pointer (some ⟨b,0,none⟩)) (hm6:m≤65536) (ho:k.i.o=o1) (ho1:11≤o1) (ho2:o1≤16) (hd:k.i.rd=rd) (hd16:rd<16) (hr1:k.i.r1=r1) (h116:r1<16) (hq1:k.A.c r1=q1) (hf1:q1.fit) (hn:k.i.im%4294967296=(n:Int)) (hp:plB q1 1 o1 ((q1.a+n)%4294967296)=true) (hz:szO o1=4) (hdv:devB ((q1.a+n)%4294967296)=false) (hM:numL M ((q1.a+n)%4294967296) 4<4294967296) :
  Calls Tryz.prog 93 #[.pointer (some ⟨g,0,none⟩)] w fun e w'=>e=.returned (.tuple #[])∧∃ v,Stp g b B M T v (m+1) (xs++[.int .i64 2,.int .u32 ((((q1.a+n)%4294967296):Nat):Int),.int .i64 4]) w0 w' ((k.tc v).putN rd (numQ (sgO o1 (numL M ((q1.a+n)%4294967296) 4)))):=by
 have hpp:=hp
 unfold plB at hpp
 rw [hz] at hpp
 simp only [Bool.and_eq_true,decide_eq_true_eq] at hpp
 obtain ⟨-,h8,h6,-⟩:=hpp
 have K137:=c137_1_ok g k o1 r1 n q1 w h.wk ho ho1 (by omega) hr1 h116 hq1 hf1 hn hp
 rw [hz] at K137
 have hn2:n<4294967296:=by omega
 obtain ⟨a,ha⟩:∃ a,((q1.a+n)%4294967296)=a:=⟨_,rfl⟩
 rw [ha] at K137 h8 h6 hdv hM ⊢
 have K1:=Lib.hid K137
 have KT:Hid (∀ W,Below w.heap.size w W→Calls Tryz.prog 89 #[.pointer (some ⟨g,0,none⟩),.int .i64 2,.int .u32 (a:Int),.int .i64 4] W fun e w'=>e=.returned (.tuple #[])∧∃ v,Stp g b B M T v (m+1) (xs++[.int .i64 2,.int .u32 (a:Int),.int .i64 4]) w0 w' (k.tc v)):=Lib.hid (fun W hb=>(h.below hb).touch 2 4 a hm6)
 have HMP:Hid (∀ W v,Wk W g (k.tc v)→W.cell? ⟨g,0,none⟩=some (.pointer (some ⟨b,0,none⟩))):=Lib.hid (fun W v hk=>by rw [←hmp];exact hk.mpc)
 have K88:=Lib.hid (c88 a)
 rw [hdv] at K88
 have KL:Hid (∀ W,Mem W b M T→Calls Tryz.prog 27 #[.pointer (some ⟨b,0,none⟩),.int .u32 (a:Int),.int .i64 4] W fun e w'=>e=.returned (.tuple #[.int .u32 (numL M a 4:Int),.int .i64 0])∧W=w'):=Lib.hid (fun W hm=>mLoad b a 4 M T W hm (by unfold wordB;exact decide_eq_true ⟨by omega,h6,by omega⟩))
 have KS:=Lib.hid (c138 o1 (numL M a 4) hM)
 obtain ⟨x,hx⟩:∃ x,numL M a 4=x:=⟨_,rfl⟩
 rw [hx] at KL KS hM ⊢
 have HO:Hid (∀ W v,Wk W g (k.tc v)→W.cell? ⟨g,303,none⟩=some (.int .u8 (o1:Int))):=Lib.hid (fun W v hk=>by rw [←ho];exact hk.cellT 0 303 rfl)
 obtain ⟨y,hy⟩:∃ y,sgO o1 x=y:=⟨_,rfl⟩
 rw [hy] at KS ⊢
 have KI:=Lib.hid (int_call y)
 obtain ⟨q3,hq3⟩:∃ q3,numQ y=q3:=⟨_,rfl⟩
 rw [show (⟨false,y,0,0,0,0,0⟩:Cq)=q3 from hq3] at KI
 rw [hq3]
 have K95:Hid (∀ W v,Stp g b B M T v (m+1) (xs++[.int .i64 2,.int .u32 (a:Int),.int .i64 4]) w0 W (k.tc v)→Calls Tryz.prog 95 #[.pointer (some ⟨g,0,none⟩),.agg #[.bool q3.g,.int .u32 (q3.a:Int),.int .u8 (q3.p:Int),.int .u8 (q3.y:Int),.int .u8 (q3.e:Int),.int .u16 (q3.b:Int),.int .u16 (q3.t:Int)]] W fun e w'=>e=.returned (.tuple #[])∧Stp g b B M T v (m+1) (xs++[.int .i64 2,.int .u32 (a:Int),.int .i64 4]) w0 w' ((k.tc v).putN rd q3)):=Lib.hid (fun W v hs=>(c95 g (k.tc v) q3 W hs.wk rd hd hd16).mono fun e w' ⟨h1,h2,h3⟩=>⟨h1,hs.only (h3.sv (Nat.le_refl _)) h2 rfl⟩)
 obtain ⟨XS,hXS⟩:∃ XS,xs++[.int .i64 2,.int .u32 (a:Int),.int .i64 4]=XS:=⟨_,rfl⟩
 rw [hXS] at KT K95 ⊢
 clear h hmp ho hd hr1 hq1 hf1 hn hp hz K137 ha hq3 hXS h8 hy hx hM hdv
 go_enter Tryz.func93,Tryz.ntmps93
 go_wp2_with fail
 refine K1.out.mono ?_
 rintro _ w1 ⟨rfl,hb1⟩
 have HB1:=Lib.hid hb1
 clear hb1
 go_wp2_with fail
 refine (KT.out w1 HB1.out).mono ?_
 rintro _ w2 ⟨rfl,v,hs2⟩
 have HS2:=Lib.hid hs2
 have x0:=HMP.out w2 v hs2.wk
 have hlg:=hs2.wk.lt
 have x303:=HO.out w2 v hs2.wk
 clear hs2
 go_wp2_with fail
 refine (K88.out w2).mono ?_
 rintro _ _ ⟨rfl,rfl⟩
 go_wp2_with fail
 refine (KL.out w2 HS2.out.mem).mono ?_
 rintro _ _ ⟨rfl,rfl⟩
 go_wp2_with fail
 refine (KS.out w2).mono ?_
 rintro _ _ ⟨rfl,rfl⟩
 go_wp2_with fail
 refine (KI.out w2).mono ?_
 rintro _ w3 ⟨rfl,hb3⟩
 have HS3:=Lib.hid (HS2.out.below hb3)
 clear hb3 x0 x303
 go_wp2_with fail
 refine (K95.out _ v HS3.out).mono ?_
 rintro _ w4 ⟨rfl,hs4⟩
 go_wp2_with fail
 go_end0
 exact ⟨rfl,v,hs4⟩
theorem c93_t (g:Nat) (w:World) (k:WK) (o1 r1 n:Nat) (q1:Cq) (h:Wk w g k) (ho:k.i.o=o1) (ho1:11≤o1) (ho2:o1≤20) (hr1:k.i.r1=r1) (h116:r1<16) (hq1:k.A.c r1=q1) (hf1:q1.fit) (hn:k.i.im%4294967296=(n:Int)) (hp:plB q1 1 o1 ((q1.a+n)%4294967296)=false) :
  Calls Tryz.prog 93 #[.pointer (some ⟨g,0,none⟩)] w fun e w'=>e=.panicked [{ v:=.iface 118 (.agg #[.int .u32 3]),recovered:=false }]∧Below w.heap.size w w':=by
 have K1:=Lib.hid (c137_1_tr g k o1 r1 n q1 w h ho ho1 ho2 hr1 h116 hq1 hf1 hn hp)
 clear h ho hr1 hq1 hf1 hn hp
 go_enter Tryz.func93,Tryz.ntmps93
 go_wp2_with fail
 refine K1.out.mono ?_
 rintro _ w1 ⟨rfl,hb1⟩
 go_wp2_with fail
 exact ⟨rfl,rfl,hb1⟩
end Go.Proofs.YtnkoknfihhdelaaGreatDoor
