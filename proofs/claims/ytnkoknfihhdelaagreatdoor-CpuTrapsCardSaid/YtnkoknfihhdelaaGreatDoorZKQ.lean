import Derived.Test.YtnkoknfihhdelaaGreatDoorZKA
import Derived.Laws.StructEq
namespace Go.Proofs.YtnkoknfihhdelaaGreatDoor.Ca
open Go.ChangeShapes Go.WideShapes Go.ChangeAt Go.RowKit
set_option linter.unusedVariables false
set_option maxRecDepth 100000
theorem keep77 {A1 A2:World} {k1 k2:Nat} {u0 u1 u2 u3 u4 u5 u6 v0 v1 v2 v3 v4 v5 v6:Value} {wp w1:World}
  (h:(Below A1.heap.size A1 wp∧k1<wp.heap.size∧wp.cell? ⟨k1,0,none⟩=some u0∧wp.cell? ⟨k1,1,none⟩=some u1∧wp.cell? ⟨k1,2,none⟩=some u2∧wp.cell? ⟨k1,3,none⟩=some u3∧wp.cell? ⟨k1,4,none⟩=some u4∧wp.cell? ⟨k1,5,none⟩=some u5∧wp.cell? ⟨k1,6,none⟩=some u6)∧(Below A2.heap.size A2 wp∧k2<wp.heap.size∧wp.cell? ⟨k2,0,none⟩=some v0∧wp.cell? ⟨k2,1,none⟩=some v1∧wp.cell? ⟨k2,2,none⟩=some v2∧wp.cell? ⟨k2,3,none⟩=some v3∧wp.cell? ⟨k2,4,none⟩=some v4∧wp.cell? ⟨k2,5,none⟩=some v5∧wp.cell? ⟨k2,6,none⟩=some v6)) (hb:Below wp.heap.size wp w1):(Below A1.heap.size A1 w1∧k1<w1.heap.size∧w1.cell? ⟨k1,0,none⟩=some u0∧w1.cell? ⟨k1,1,none⟩=some u1∧w1.cell? ⟨k1,2,none⟩=some u2∧w1.cell? ⟨k1,3,none⟩=some u3∧w1.cell? ⟨k1,4,none⟩=some u4∧w1.cell? ⟨k1,5,none⟩=some u5∧w1.cell? ⟨k1,6,none⟩=some u6)∧(Below A2.heap.size A2 w1∧k2<w1.heap.size∧w1.cell? ⟨k2,0,none⟩=some v0∧w1.cell? ⟨k2,1,none⟩=some v1∧w1.cell? ⟨k2,2,none⟩=some v2∧w1.cell? ⟨k2,3,none⟩=some v3∧w1.cell? ⟨k2,4,none⟩=some v4∧w1.cell? ⟨k2,5,none⟩=some v5∧w1.cell? ⟨k2,6,none⟩=some v6) :=
 ⟨keep7 h.1 hb,keep7 h.2 hb⟩
theorem start77 (w:World) (u0 u1 u2 u3 u4 u5 u6 v0 v1 v2 v3 v4 v5 v6:Value) (T:TypeId) :
  (Below w.heap.size w ((w.alloc (.cells #[u0,u1,u2,u3,u4,u5,u6] T)).alloc (.cells #[v0,v1,v2,v3,v4,v5,v6] T))∧w.heap.size<((w.alloc (.cells #[u0,u1,u2,u3,u4,u5,u6] T)).alloc (.cells #[v0,v1,v2,v3,v4,v5,v6] T)).heap.size∧((w.alloc (.cells #[u0,u1,u2,u3,u4,u5,u6] T)).alloc (.cells #[v0,v1,v2,v3,v4,v5,v6] T)).cell? ⟨w.heap.size,0,none⟩=some u0∧((w.alloc (.cells #[u0,u1,u2,u3,u4,u5,u6] T)).alloc (.cells #[v0,v1,v2,v3,v4,v5,v6] T)).cell? ⟨w.heap.size,1,none⟩=some u1∧((w.alloc (.cells #[u0,u1,u2,u3,u4,u5,u6] T)).alloc (.cells #[v0,v1,v2,v3,v4,v5,v6] T)).cell? ⟨w.heap.size,2,none⟩=some u2∧((w.alloc (.cells #[u0,u1,u2,u3,u4,u5,u6] T)).alloc (.cells #[v0,v1,v2,v3,v4,v5,v6] T)).cell? ⟨w.heap.size,3,none⟩=some u3∧((w.alloc (.cells #[u0,u1,u2,u3,u4,u5,u6] T)).alloc (.cells #[v0,v1,v2,v3,v4,v5,v6] T)).cell? ⟨w.heap.size,4,none⟩=some u4∧((w.alloc (.cells #[u0,u1,u2,u3,u4,u5,u6] T)).alloc (.cells #[v0,v1,v2,v3,v4,v5,v6] T)).cell? ⟨w.heap.size,5,none⟩=some u5∧((w.alloc (.cells #[u0,u1,u2,u3,u4,u5,u6] T)).alloc (.cells #[v0,v1,v2,v3,v4,v5,v6] T)).cell? ⟨w.heap.size,6,none⟩=some u6)∧(Below w.heap.size w ((w.alloc (.cells #[u0,u1,u2,u3,u4,u5,u6] T)).alloc (.cells #[v0,v1,v2,v3,v4,v5,v6] T))∧(w.heap.size+1)<((w.alloc (.cells #[u0,u1,u2,u3,u4,u5,u6] T)).alloc (.cells #[v0,v1,v2,v3,v4,v5,v6] T)).heap.size∧((w.alloc (.cells #[u0,u1,u2,u3,u4,u5,u6] T)).alloc (.cells #[v0,v1,v2,v3,v4,v5,v6] T)).cell? ⟨(w.heap.size+1),0,none⟩=some v0∧((w.alloc (.cells #[u0,u1,u2,u3,u4,u5,u6] T)).alloc (.cells #[v0,v1,v2,v3,v4,v5,v6] T)).cell? ⟨(w.heap.size+1),1,none⟩=some v1∧((w.alloc (.cells #[u0,u1,u2,u3,u4,u5,u6] T)).alloc (.cells #[v0,v1,v2,v3,v4,v5,v6] T)).cell? ⟨(w.heap.size+1),2,none⟩=some v2∧((w.alloc (.cells #[u0,u1,u2,u3,u4,u5,u6] T)).alloc (.cells #[v0,v1,v2,v3,v4,v5,v6] T)).cell? ⟨(w.heap.size+1),3,none⟩=some v3∧((w.alloc (.cells #[u0,u1,u2,u3,u4,u5,u6] T)).alloc (.cells #[v0,v1,v2,v3,v4,v5,v6] T)).cell? ⟨(w.heap.size+1),4,none⟩=some v4∧((w.alloc (.cells #[u0,u1,u2,u3,u4,u5,u6] T)).alloc (.cells #[v0,v1,v2,v3,v4,v5,v6] T)).cell? ⟨(w.heap.size+1),5,none⟩=some v5∧((w.alloc (.cells #[u0,u1,u2,u3,u4,u5,u6] T)).alloc (.cells #[v0,v1,v2,v3,v4,v5,v6] T)).cell? ⟨(w.heap.size+1),6,none⟩=some v6):=by
 have h1:=keep7 (start7 w u0 u1 u2 u3 u4 u5 u6 T) ((Below.refl _ _).alloc (Nat.le_refl _) (.cells #[v0,v1,v2,v3,v4,v5,v6] T))
 have h2:=start7 (w.alloc (.cells #[u0,u1,u2,u3,u4,u5,u6] T)) v0 v1 v2 v3 v4 v5 v6 T
 simp only [World.size_alloc] at h2
 exact ⟨h1,h1.1,by simp,h2.2.2⟩
def sub (g1:Bool) (p1 A1 T1:Nat) (g2:Bool) (p2 A2 T2:Nat):Bool:=(g1==g2)&&(decide (p1 &&& (255-p2)=0)&&(decide (A2≤A1)&&decide (T1≤T2)))
def tp (e b t a:Nat):Nat:=bs (e%16) (b%512) a+ln (e%16) (b%512) (t%512)
set_option maxHeartbeats 8000000 in
theorem subNe (g1:Bool) (a1 p1 y1 e1 b1 t1:Nat) (g2:Bool) (a2 p2 y2 e2 b2 t2 A1 A2 T1 T2:Nat) (hp1:p1<256) (hp2:p2<256) (hA1:A1<4294967296) (hA2:A2<4294967296) (hT1:T1<8589934592) (hT2:T2<8589934592)
  (k1:∀ w:World,Calls Tryz.prog 171 #[cp g1 a1 p1 y1 e1 b1 t1] w fun en w'=>en=.returned (.int .u64 (A1:Int))∧Below w.heap.size w w')
  (k2:∀ w:World,Calls Tryz.prog 171 #[cp g2 a2 p2 y2 e2 b2 t2] w fun en w'=>en=.returned (.int .u64 (A2:Int))∧Below w.heap.size w w')
  (k3:∀ w:World,Calls Tryz.prog 172 #[cp g1 a1 p1 y1 e1 b1 t1] w fun en w'=>en=.returned (.int .u64 (T1:Int))∧Below w.heap.size w w')
  (k4:∀ w:World,Calls Tryz.prog 172 #[cp g2 a2 p2 y2 e2 b2 t2] w fun en w'=>en=.returned (.int .u64 (T2:Int))∧Below w.heap.size w w')
  (hne:¬ (g1=g2∧a1=a2∧p1=p2∧y1=y2∧e1=e2∧b1=b2∧t1=t2)) (w:World) :
  Calls Tryz.prog 148 #[cp g1 a1 p1 y1 e1 b1 t1,cp g2 a2 p2 y2 e2 b2 t2] w fun en w'=>en=.returned (.bool (sub g1 p1 A1 T1 g2 p2 A2 T2))∧Below w.heap.size w w':=by
 have K1:=Lib.hid k1
 have K2:=Lib.hid k2
 have K3:=Lib.hid k3
 have K4:=Lib.hid k4
 clear k1 k2 k3 k4
 have hq:∀ wz:World,(Op.equalIn 10000 29 (cp g1 a1 p1 y1 e1 b1 t1) (cp g2 a2 p2 y2 e2 b2 t2)).run Tryz.prog wz=.ok false wz:=by
  intro wz
  go_simp
  intro h1 h2 h3 h4 h5 h6 h7
  exact hne ⟨h1,by omega,by omega,by omega,by omega,by omega,by omega⟩
 clear hne
 have ka:=u8_andNot_nat p1 p2 hp1 hp2
 have hm:p1 &&& (255-p2)<256:=by
  have:=Nat.and_le_left (n:=p1) (m:=255-p2);omega
 unfold sub
 by_cases hg:g1=g2
 ·subst hg
  rw [show (g1==g1)=true by simp]
  generalize p1 &&& (255-p2)=m at *
  by_cases hm0:m=0
  ·have hmb:((m:Int)==0)=true:=by simp;omega
   rw [decide_eq_true hm0]
   clear hm0
   have hS:=start77 w (.bool g1) (.int .u32 (a1:Int)) (.int .u8 (p1:Int)) (.int .u8 (y1:Int)) (.int .u8 (e1:Int)) (.int .u16 (b1:Int)) (.int .u16 (t1:Int)) (.bool g1) (.int .u32 (a2:Int)) (.int .u8 (p2:Int)) (.int .u8 (y2:Int)) (.int .u8 (e2:Int)) (.int .u16 (b2:Int)) (.int .u16 (t2:Int)) 29
   have HS:=Lib.hid hS
   clear hS
   by_cases hA:A2≤A1
   ·rw [decide_eq_true hA]
    go_enter Tryz.func148,Tryz.ntmps148
    go_wp2_with fail
    have hS:=HS.out
    go_region_held3 (fun w'=>(Below w.heap.size w w'∧w.heap.size<w'.heap.size∧w'.cell? ⟨w.heap.size,0,none⟩=some (.bool g1)∧w'.cell? ⟨w.heap.size,1,none⟩=some (.int .u32 (a1:Int))∧w'.cell? ⟨w.heap.size,2,none⟩=some (.int .u8 (p1:Int))∧w'.cell? ⟨w.heap.size,3,none⟩=some (.int .u8 (y1:Int))∧w'.cell? ⟨w.heap.size,4,none⟩=some (.int .u8 (e1:Int))∧w'.cell? ⟨w.heap.size,5,none⟩=some (.int .u16 (b1:Int))∧w'.cell? ⟨w.heap.size,6,none⟩=some (.int .u16 (t1:Int)))∧(Below w.heap.size w w'∧w.heap.size+1<w'.heap.size∧w'.cell? ⟨w.heap.size+1,0,none⟩=some (.bool g1)∧w'.cell? ⟨w.heap.size+1,1,none⟩=some (.int .u32 (a2:Int))∧w'.cell? ⟨w.heap.size+1,2,none⟩=some (.int .u8 (p2:Int))∧w'.cell? ⟨w.heap.size+1,3,none⟩=some (.int .u8 (y2:Int))∧w'.cell? ⟨w.heap.size+1,4,none⟩=some (.int .u8 (e2:Int))∧w'.cell? ⟨w.heap.size+1,5,none⟩=some (.int .u16 (b2:Int))∧w'.cell? ⟨w.heap.size+1,6,none⟩=some (.int .u16 (t2:Int))))
     (first | exact keep77 (by assumption) ((Below.refl _ _).drew) | exact keep77 (by assumption) hbx)
     (first | (go_at_call 171;(with_reducible refine (K1.out _).mono ?_);rintro _ wx ⟨rfl,hbx⟩) | (go_at_call 171;(with_reducible refine (K2.out _).mono ?_);rintro _ wx ⟨rfl,hbx⟩) | (go_at_call 172;(with_reducible refine (K3.out _).mono ?_);rintro _ wx ⟨rfl,hbx⟩) | (go_at_call 172;(with_reducible refine (K4.out _).mono ?_);rintro _ wx ⟨rfl,hbx⟩))
    all_goals
     have hE:Below w.heap.size w wx:=And.left (And.left (by assumption))
     go_wp2
     go_ret
     exact ⟨retb (by rw [Bool.eq_iff_iff];simp),hE⟩
   ·rw [decide_eq_false hA]
    go_enter Tryz.func148,Tryz.ntmps148
    go_wp2_with fail
    have hS:=HS.out
    refine wp_region_held_drew (S:=(fun w'=>(Below w.heap.size w w'∧w.heap.size<w'.heap.size∧w'.cell? ⟨w.heap.size,0,none⟩=some (.bool g1)∧w'.cell? ⟨w.heap.size,1,none⟩=some (.int .u32 (a1:Int))∧w'.cell? ⟨w.heap.size,2,none⟩=some (.int .u8 (p1:Int))∧w'.cell? ⟨w.heap.size,3,none⟩=some (.int .u8 (y1:Int))∧w'.cell? ⟨w.heap.size,4,none⟩=some (.int .u8 (e1:Int))∧w'.cell? ⟨w.heap.size,5,none⟩=some (.int .u16 (b1:Int))∧w'.cell? ⟨w.heap.size,6,none⟩=some (.int .u16 (t1:Int)))∧(Below w.heap.size w w'∧w.heap.size+1<w'.heap.size∧w'.cell? ⟨w.heap.size+1,0,none⟩=some (.bool g1)∧w'.cell? ⟨w.heap.size+1,1,none⟩=some (.int .u32 (a2:Int))∧w'.cell? ⟨w.heap.size+1,2,none⟩=some (.int .u8 (p2:Int))∧w'.cell? ⟨w.heap.size+1,3,none⟩=some (.int .u8 (y2:Int))∧w'.cell? ⟨w.heap.size+1,4,none⟩=some (.int .u8 (e2:Int))∧w'.cell? ⟨w.heap.size+1,5,none⟩=some (.int .u16 (b2:Int))∧w'.cell? ⟨w.heap.size+1,6,none⟩=some (.int .u16 (t2:Int))))) (by kernel_rfl) ?_ (fun hHeld=>?_)
    ·exact keep77 hS ((Below.refl _ _).drew)
    refine wpAnyH_take (i:=0) (v:=?vC1) rfl (by kernel_rfl) (by kernel_rfl) (by kernel_rfl) (fun _ _ _ h=>h) (Or.inl ⟨by rfl,?hyC1⟩) (by assumption) ?restC1
    case hyC1=>(intro w' hSw;go_split_ands;go_simp;try with_reducible rfl)
    simp only [Act.put,List.getElem_toArray,List.getElem_cons_zero,List.setIfInBounds_toArray,List.set_cons_zero,List.set_cons_succ]
    refine wpAnyH_take (i:=1) (v:=?vC2) rfl (by kernel_rfl) (by kernel_rfl) (by kernel_rfl) (fun _ _ _ h=>h) (Or.inl ⟨by rfl,?hyC2⟩) (by assumption) ?restC2
    case hyC2=>(intro w' hSw;go_split_ands;go_simp;try with_reducible rfl)
    simp only [Act.put,List.getElem_toArray,List.getElem_cons_succ,List.getElem_cons_zero,List.setIfInBounds_toArray,List.set_cons_zero,List.set_cons_succ]
    refine wpAnyH_take (i:=2) (v:=?vC3) rfl (by kernel_rfl) (by kernel_rfl) (by kernel_rfl) (fun _ _ _ h=>h) (Or.inl ⟨by rfl,?hyC3⟩) (by assumption) ?restC3
    case hyC3=>(intro w' hSw;go_split_ands;go_simp;try with_reducible rfl)
    simp only [Act.put,List.getElem_toArray,List.getElem_cons_succ,List.getElem_cons_zero,List.setIfInBounds_toArray,List.set_cons_zero,List.set_cons_succ]
    refine wpAnyH_take (i:=3) (v:=?vC4) rfl (by kernel_rfl) (by kernel_rfl) (by kernel_rfl) (fun _ _ _ h=>h) (Or.inl ⟨by rfl,?hyC4⟩) (by assumption) ?restC4
    case hyC4=>(intro w' hSw;go_split_ands;go_simp;try with_reducible rfl)
    simp only [Act.put,List.getElem_toArray,List.getElem_cons_succ,List.getElem_cons_zero,List.setIfInBounds_toArray,List.set_cons_zero,List.set_cons_succ]
    refine wpAnyH_take (i:=4) (v:=?vC5) rfl (by kernel_rfl) (by kernel_rfl) (by kernel_rfl) (fun _ _ _ h=>h) (Or.inl ⟨by rfl,?hyC5⟩) (by assumption) ?restC5
    case hyC5=>(intro w' hSw;go_split_ands;go_simp;try with_reducible rfl)
    simp only [Act.put,List.getElem_toArray,List.getElem_cons_succ,List.getElem_cons_zero,List.setIfInBounds_toArray,List.set_cons_zero,List.set_cons_succ]
    refine wpAnyH_take (i:=5) (v:=?vC6) rfl (by kernel_rfl) (by kernel_rfl) (by kernel_rfl) (fun _ _ _ h=>h) (Or.inl ⟨by rfl,?hyC6⟩) (by assumption) ?restC6
    case hyC6=>(intro w' hSw;go_split_ands;go_simp;try with_reducible rfl)
    simp only [Act.put,List.getElem_toArray,List.getElem_cons_succ,List.getElem_cons_zero,List.setIfInBounds_toArray,List.set_cons_zero,List.set_cons_succ]
    refine wpAnyH_take (i:=6) (v:=?vC7) rfl (by kernel_rfl) (by kernel_rfl) (by kernel_rfl) (fun _ _ _ h=>h) (Or.inl ⟨by rfl,?hyC7⟩) (by assumption) ?restC7
    case hyC7=>(intro w' hSw;go_split_ands;go_simp;try with_reducible rfl)
    simp only [Act.put,List.getElem_toArray,List.getElem_cons_succ,List.getElem_cons_zero,List.setIfInBounds_toArray,List.set_cons_zero,List.set_cons_succ]
    refine wpAnyH_take (i:=7) (v:=?vC8) rfl (by kernel_rfl) (by kernel_rfl) (by kernel_rfl) (fun _ _ _ h=>h) (Or.inl ⟨by rfl,?hyC8⟩) (by assumption) ?restC8
    case hyC8=>(intro w' hSw;go_split_ands;go_simp;try with_reducible rfl)
    simp only [Act.put,List.getElem_toArray,List.getElem_cons_succ,List.getElem_cons_zero,List.setIfInBounds_toArray,List.set_cons_zero,List.set_cons_succ]
    refine wpAnyH_take (i:=8) (v:=?vC9) rfl (by kernel_rfl) (by kernel_rfl) (by kernel_rfl) (fun _ _ _ h=>h) (Or.inl ⟨by rfl,?hyC9⟩) (by assumption) ?restC9
    case hyC9=>(intro w' hSw;go_split_ands;go_simp;try with_reducible rfl)
    simp only [Act.put,List.getElem_toArray,List.getElem_cons_succ,List.getElem_cons_zero,List.setIfInBounds_toArray,List.set_cons_zero,List.set_cons_succ]
    refine wpAnyH_take (i:=9) (v:=?vC10) rfl (by kernel_rfl) (by kernel_rfl) (by kernel_rfl) (fun _ _ _ h=>h) (Or.inl ⟨by rfl,?hyC10⟩) (by assumption) ?restC10
    case hyC10=>(intro w' hSw;go_split_ands;go_simp;try with_reducible rfl)
    simp only [Act.put,List.getElem_toArray,List.getElem_cons_succ,List.getElem_cons_zero,List.setIfInBounds_toArray,List.set_cons_zero,List.set_cons_succ]
    refine wpAnyH_take (i:=10) (v:=?vC11) rfl (by kernel_rfl) (by kernel_rfl) (by kernel_rfl) (fun _ _ _ h=>h) (Or.inl ⟨by rfl,?hyC11⟩) (by assumption) ?restC11
    case hyC11=>(intro w' hSw;go_split_ands;go_simp;try with_reducible rfl)
    simp only [Act.put,List.getElem_toArray,List.getElem_cons_succ,List.getElem_cons_zero,List.setIfInBounds_toArray,List.set_cons_zero,List.set_cons_succ]
    refine wpAnyH_take (i:=11) (v:=?vC12) rfl (by kernel_rfl) (by kernel_rfl) (by kernel_rfl) (fun _ _ _ h=>h) (Or.inl ⟨by rfl,?hyC12⟩) (by assumption) ?restC12
    case hyC12=>(intro w' hSw;go_split_ands;go_simp;try with_reducible rfl)
    simp only [Act.put,List.getElem_toArray,List.getElem_cons_succ,List.getElem_cons_zero,List.setIfInBounds_toArray,List.set_cons_zero,List.set_cons_succ]
    refine wpAnyH_take (i:=12) (v:=?vC13) rfl (by kernel_rfl) (by kernel_rfl) (by kernel_rfl) (fun _ _ _ h=>h) (Or.inl ⟨by rfl,?hyC13⟩) (by assumption) ?restC13
    case hyC13=>(intro w' hSw;go_split_ands;go_simp;try with_reducible rfl)
    simp only [Act.put,List.getElem_toArray,List.getElem_cons_succ,List.getElem_cons_zero,List.setIfInBounds_toArray,List.set_cons_zero,List.set_cons_succ]
    refine wpAnyH_take (i:=13) (v:=?vC14) rfl (by kernel_rfl) (by kernel_rfl) (by kernel_rfl) (fun _ _ _ h=>h) (Or.inl ⟨by rfl,?hyC14⟩) (by assumption) ?restC14
    case hyC14=>(intro w' hSw;go_split_ands;go_simp;try with_reducible rfl)
    simp only [Act.put,List.getElem_toArray,List.getElem_cons_succ,List.getElem_cons_zero,List.setIfInBounds_toArray,List.set_cons_zero,List.set_cons_succ]
    refine wpAnyH_take (i:=14) (v:=?vC15) rfl (by kernel_rfl) (by kernel_rfl) (by kernel_rfl) (fun _ _ _ h=>h) (Or.inl ⟨by rfl,?hyC15⟩) (by assumption) ?restC15
    case hyC15=>(intro w' hSw;go_split_ands;go_simp;try with_reducible rfl)
    simp only [Act.put,List.getElem_toArray,List.getElem_cons_succ,List.getElem_cons_zero,List.setIfInBounds_toArray,List.set_cons_zero,List.set_cons_succ]
    refine wpAnyH_take (i:=16) (v:=?vC16) rfl (by kernel_rfl) (by kernel_rfl) (by kernel_rfl) (fun _ _ _ h=>h) (Or.inl ⟨by rfl,?hyC16⟩) (by assumption) ?restC16
    case hyC16=>(intro w' hSw;go_split_ands;go_simp;try with_reducible rfl)
    simp only [Act.put,List.getElem_toArray,List.getElem_cons_succ,List.getElem_cons_zero,List.setIfInBounds_toArray,List.set_cons_zero,List.set_cons_succ]
    refine wpAnyH_ready (rs:=[15]) (by kernel_rfl) (by simp) ?_
    refine AllReadyH.cons rfl (fun K hK=>?_) AllReadyH.nil
    go_simp
    go_at_call 171
    refine (K1.out _).mono ?_
    rintro _ wx ⟨rfl,hbx⟩
    go_wp2_with fail
    refine hK.out _ _ ?_ (fun hHeld=>?_)
    ·exact keep77 (by assumption) hbx
    clear hK K
    refine wpAnyH_ready (rs:=[17]) (by kernel_rfl) (by simp) ?_
    refine AllReadyH.cons rfl (fun K hK=>?_) AllReadyH.nil
    go_simp
    go_at_call 171
    refine (K2.out _).mono ?_
    rintro _ wx ⟨rfl,hbx⟩
    go_wp2_with fail
    refine hK.out _ _ ?_ (fun hHeld=>?_)
    ·exact keep77 (by assumption) hbx
    clear hK K
    refine wpAnyH_take (i:=18) (v:=?vC17) rfl (by kernel_rfl) (by kernel_rfl) (by kernel_rfl) (fun _ _ _ h=>h) (Or.inl ⟨by rfl,?hyC17⟩) (by assumption) ?restC17
    case hyC17=>(intro w' hSw;go_split_ands;go_simp;try with_reducible rfl)
    simp only [Act.put,List.getElem_toArray,List.getElem_cons_succ,List.getElem_cons_zero,List.setIfInBounds_toArray,List.set_cons_zero,List.set_cons_succ]
    refine wpAnyH_take (i:=19) (v:=?vC18) rfl (by kernel_rfl) (by kernel_rfl) (by kernel_rfl) (fun _ _ _ h=>h) (Or.inl ⟨by rfl,?hyC18⟩) (by assumption) ?restC18
    case hyC18=>(intro w' hSw;go_split_ands;go_simp;try with_reducible rfl)
    simp only [Act.put,List.getElem_toArray,List.getElem_cons_succ,List.getElem_cons_zero,List.setIfInBounds_toArray,List.set_cons_zero,List.set_cons_succ]
    refine wpAnyH_take (i:=20) (v:=?vC19) rfl (by kernel_rfl) (by kernel_rfl) (by kernel_rfl) (fun _ _ _ h=>h) (Or.inl ⟨by rfl,?hyC19⟩) (by assumption) ?restC19
    case hyC19=>(intro w' hSw;go_split_ands;go_simp;try with_reducible rfl)
    simp only [Act.put,List.getElem_toArray,List.getElem_cons_succ,List.getElem_cons_zero,List.setIfInBounds_toArray,List.set_cons_zero,List.set_cons_succ]
    refine wpAnyH_take (i:=21) (v:=undef) rfl (by kernel_rfl) (by kernel_rfl) (by kernel_rfl) (fun _ _ _ h=>h) (Or.inr ⟨by rfl,rfl⟩) (by assumption) ?_
    simp only [Act.put,List.getElem_toArray,List.getElem_cons_succ,List.getElem_cons_zero,List.setIfInBounds_toArray,List.set_cons_zero,List.set_cons_succ]
    refine wpAnyH_take (i:=22) (v:=undef) rfl (by kernel_rfl) (by kernel_rfl) (by kernel_rfl) (fun _ _ _ h=>h) (Or.inr ⟨by rfl,rfl⟩) (by assumption) ?_
    simp only [Act.put,List.getElem_toArray,List.getElem_cons_succ,List.getElem_cons_zero,List.setIfInBounds_toArray,List.set_cons_zero,List.set_cons_succ]
    refine wpAnyH_take (i:=23) (v:=undef) rfl (by kernel_rfl) (by kernel_rfl) (by kernel_rfl) (fun _ _ _ h=>h) (Or.inr ⟨by rfl,rfl⟩) (by assumption) ?_
    simp only [Act.put,List.getElem_toArray,List.getElem_cons_succ,List.getElem_cons_zero,List.setIfInBounds_toArray,List.set_cons_zero,List.set_cons_succ]
    refine wpAnyH_take (i:=24) (v:=undef) rfl (by kernel_rfl) (by kernel_rfl) (by kernel_rfl) (fun _ _ _ h=>h) (Or.inr ⟨by rfl,rfl⟩) (by assumption) ?_
    simp only [Act.put,List.getElem_toArray,List.getElem_cons_succ,List.getElem_cons_zero,List.setIfInBounds_toArray,List.set_cons_zero,List.set_cons_succ]
    refine wpAnyH_take (i:=25) (v:=undef) rfl (by kernel_rfl) (by kernel_rfl) (by kernel_rfl) (fun _ _ _ h=>h) (Or.inr ⟨by rfl,rfl⟩) (by assumption) ?_
    simp only [Act.put,List.getElem_toArray,List.getElem_cons_succ,List.getElem_cons_zero,List.setIfInBounds_toArray,List.set_cons_zero,List.set_cons_succ]
    refine wpAnyH_take (i:=26) (v:=?vC20) rfl (by kernel_rfl) (by kernel_rfl) (by kernel_rfl) (fun _ _ _ h=>h) (Or.inl ⟨by rfl,?hyC20⟩) (by assumption) ?restC20
    case hyC20=>(intro w' hSw;go_split_ands;go_simp;try with_reducible rfl)
    simp only [Act.put,List.getElem_toArray,List.getElem_cons_succ,List.getElem_cons_zero,List.setIfInBounds_toArray,List.set_cons_zero,List.set_cons_succ]
    refine wpAnyH_take (i:=27) (v:=?vC21) rfl (by kernel_rfl) (by kernel_rfl) (by kernel_rfl) (fun _ _ _ h=>h) (Or.inl ⟨by rfl,?hyC21⟩) (by assumption) ?restC21
    case hyC21=>(intro w' hSw;go_split_ands;go_simp;try with_reducible rfl)
    simp only [Act.put,List.getElem_toArray,List.getElem_cons_succ,List.getElem_cons_zero,List.setIfInBounds_toArray,List.set_cons_zero,List.set_cons_succ]
    refine wpAnyH_done (by kernel_rfl) ?_ _
    have hE:Below w.heap.size w wx:=And.left (And.left (by assumption))
    go_wp2
    go_ret
    exact ⟨rfl,hE⟩
  ·have hmb:((m:Int)==0)=false:=by simp;omega
   rw [decide_eq_false hm0]
   clear hm0
   go_enter Tryz.func148,Tryz.ntmps148
   go_wp2_with fail
   go_quiet (fail)
   go_wp2
   go_ret
   exact ⟨rfl,below_drewN (((Below.refl _ _).alloc (Nat.le_refl _) _).alloc (by simp) _) _⟩
 ·have hgb:(g1==g2)=false:=by simpa using hg
  rw [hgb]
  go_enter Tryz.func148,Tryz.ntmps148
  go_wp2_with fail
  go_quiet (fail)
  go_wp2
  go_ret
  exact ⟨rfl,below_drewN (((Below.refl _ _).alloc (Nat.le_refl _) _).alloc (by simp) _) _⟩
theorem pself:∀ p,p<256→p &&& (255-p)=0:=by decide +kernel
theorem tp_lt (e b t a:Nat) (ha:a<4294967296):tp e b t a<8589934592:=by
 unfold tp
 have hA:=bs_lt (e%16) (b%512) a (by omega) (by omega) ha
 have hL:=ln_le (e%16) (b%512) (t%512) (by omega)
 omega
def subs (g1:Bool) (a1 p1 e1 b1 t1:Nat) (g2:Bool) (a2 p2 e2 b2 t2:Nat):Bool:=sub g1 p1 (bs (e1%16) (b1%512) a1) (tp e1 b1 t1 a1) g2 p2 (bs (e2%16) (b2%512) a2) (tp e2 b2 t2 a2)
theorem subs_self (g:Bool) (a p e b t:Nat) (hp:p<256):subs g a p e b t g a p e b t=true:=by
 unfold subs sub
 rw [pself p hp]
 simp
theorem c34 (g1:Bool) (a1 p1 y1 e1 b1 t1:Nat) (g2:Bool) (a2 p2 y2 e2 b2 t2:Nat) (ha1:a1<4294967296) (hp1:p1<256) (he1:e1<256) (hb1:b1<65536) (ht1:t1<65536) (ha2:a2<4294967296) (hp2:p2<256) (he2:e2<256) (hb2:b2<65536) (ht2:t2<65536) (w:World) :
  Calls Tryz.prog 148 #[cp g1 a1 p1 y1 e1 b1 t1,cp g2 a2 p2 y2 e2 b2 t2] w fun en w'=>en=.returned (.bool (subs g1 a1 p1 e1 b1 t1 g2 a2 p2 e2 b2 t2))∧Below w.heap.size w w':=by
 by_cases hne:g1=g2∧a1=a2∧p1=p2∧y1=y2∧e1=e2∧b1=b2∧t1=t2
 ·obtain ⟨rfl,rfl,rfl,rfl,rfl,rfl,rfl⟩:=hne
  rw [subs_self _ _ _ _ _ _ hp1]
  go_enter Tryz.func148,Tryz.ntmps148
  go_wp2
  go_ret
  exact ⟨rfl,((Below.refl _ _).alloc (Nat.le_refl _) _).alloc (by simp) _⟩
 ·exact subNe g1 a1 p1 y1 e1 b1 t1 g2 a2 p2 y2 e2 b2 t2 _ _ _ _ hp1 hp2 (bs_lt _ _ _ (by omega) (by omega) ha1) (bs_lt _ _ _ (by omega) (by omega) ha2) (tp_lt _ _ _ _ ha1) (tp_lt _ _ _ _ ha2)
   (fun w=>c38 g1 a1 p1 y1 e1 b1 t1 ha1 he1 hb1 ht1 w) (fun w=>c38 g2 a2 p2 y2 e2 b2 t2 ha2 he2 hb2 ht2 w) (fun w=>c40 g1 a1 p1 y1 e1 b1 t1 ha1 he1 hb1 ht1 w) (fun w=>c40 g2 a2 p2 y2 e2 b2 t2 ha2 he2 hb2 ht2 w) hne w
def pw:Nat→Nat
 | 8=>0
 | k=>2 ^ k
theorem far7 {w1:World} {k k':Nat} (h:k≠k') (v0 v1 v2 v3 v4 v5 v6:Value) (j:Nat) :
  (((((((w1.setCell ⟨k,0,none⟩ v0).setCell ⟨k,1,none⟩ v1).setCell ⟨k,2,none⟩ v2).setCell ⟨k,3,none⟩ v3).setCell ⟨k,4,none⟩ v4).setCell ⟨k,5,none⟩ v5).setCell ⟨k,6,none⟩ v6).cell? ⟨k',j,none⟩=w1.cell? ⟨k',j,none⟩:=by
 repeat rw [World.cell?_setCell_far _ _ _ _ h]
theorem setS {w w1:World} {k k':Nat} {u0 u1 u2 u3 u4 u5 u6:Value} (hne:k≠k') (hk:w.heap.size≤k) (h:Below w.heap.size w w1∧k'<w1.heap.size∧w1.cell? ⟨k',0,none⟩=some u0∧w1.cell? ⟨k',1,none⟩=some u1∧w1.cell? ⟨k',2,none⟩=some u2∧w1.cell? ⟨k',3,none⟩=some u3∧w1.cell? ⟨k',4,none⟩=some u4∧w1.cell? ⟨k',5,none⟩=some u5∧w1.cell? ⟨k',6,none⟩=some u6) (v0 v1 v2 v3 v4 v5 v6:Value) :
  Below w.heap.size w (((((((w1.setCell ⟨k,0,none⟩ v0).setCell ⟨k,1,none⟩ v1).setCell ⟨k,2,none⟩ v2).setCell ⟨k,3,none⟩ v3).setCell ⟨k,4,none⟩ v4).setCell ⟨k,5,none⟩ v5).setCell ⟨k,6,none⟩ v6)∧k'<(((((((w1.setCell ⟨k,0,none⟩ v0).setCell ⟨k,1,none⟩ v1).setCell ⟨k,2,none⟩ v2).setCell ⟨k,3,none⟩ v3).setCell ⟨k,4,none⟩ v4).setCell ⟨k,5,none⟩ v5).setCell ⟨k,6,none⟩ v6).heap.size∧(((((((w1.setCell ⟨k,0,none⟩ v0).setCell ⟨k,1,none⟩ v1).setCell ⟨k,2,none⟩ v2).setCell ⟨k,3,none⟩ v3).setCell ⟨k,4,none⟩ v4).setCell ⟨k,5,none⟩ v5).setCell ⟨k,6,none⟩ v6).cell? ⟨k',0,none⟩=some u0∧(((((((w1.setCell ⟨k,0,none⟩ v0).setCell ⟨k,1,none⟩ v1).setCell ⟨k,2,none⟩ v2).setCell ⟨k,3,none⟩ v3).setCell ⟨k,4,none⟩ v4).setCell ⟨k,5,none⟩ v5).setCell ⟨k,6,none⟩ v6).cell? ⟨k',1,none⟩=some u1∧(((((((w1.setCell ⟨k,0,none⟩ v0).setCell ⟨k,1,none⟩ v1).setCell ⟨k,2,none⟩ v2).setCell ⟨k,3,none⟩ v3).setCell ⟨k,4,none⟩ v4).setCell ⟨k,5,none⟩ v5).setCell ⟨k,6,none⟩ v6).cell? ⟨k',2,none⟩=some u2∧(((((((w1.setCell ⟨k,0,none⟩ v0).setCell ⟨k,1,none⟩ v1).setCell ⟨k,2,none⟩ v2).setCell ⟨k,3,none⟩ v3).setCell ⟨k,4,none⟩ v4).setCell ⟨k,5,none⟩ v5).setCell ⟨k,6,none⟩ v6).cell? ⟨k',3,none⟩=some u3∧(((((((w1.setCell ⟨k,0,none⟩ v0).setCell ⟨k,1,none⟩ v1).setCell ⟨k,2,none⟩ v2).setCell ⟨k,3,none⟩ v3).setCell ⟨k,4,none⟩ v4).setCell ⟨k,5,none⟩ v5).setCell ⟨k,6,none⟩ v6).cell? ⟨k',4,none⟩=some u4∧(((((((w1.setCell ⟨k,0,none⟩ v0).setCell ⟨k,1,none⟩ v1).setCell ⟨k,2,none⟩ v2).setCell ⟨k,3,none⟩ v3).setCell ⟨k,4,none⟩ v4).setCell ⟨k,5,none⟩ v5).setCell ⟨k,6,none⟩ v6).cell? ⟨k',5,none⟩=some u5∧(((((((w1.setCell ⟨k,0,none⟩ v0).setCell ⟨k,1,none⟩ v1).setCell ⟨k,2,none⟩ v2).setCell ⟨k,3,none⟩ v3).setCell ⟨k,4,none⟩ v4).setCell ⟨k,5,none⟩ v5).setCell ⟨k,6,none⟩ v6).cell? ⟨k',6,none⟩=some u6 :=
 ⟨set7 h.1 hk _ _ _ _ _ _ _,by simpa using h.2.1,by rw [far7 hne];exact h.2.2.1,by rw [far7 hne];exact h.2.2.2.1,by rw [far7 hne];exact h.2.2.2.2.1,by rw [far7 hne];exact h.2.2.2.2.2.1,by rw [far7 hne];exact h.2.2.2.2.2.2.1,by rw [far7 hne];exact h.2.2.2.2.2.2.2.1,by rw [far7 hne];exact h.2.2.2.2.2.2.2.2⟩
set_option maxHeartbeats 2000000 in
theorem c22 (g:Bool) (a p y e b t s:Nat) (hp:p<256) (hy:y<256) (hs:s<4294967296) (w:World) :
  Calls Tryz.prog 145 #[cp g a p y e b t,.int .u32 (s:Int)] w fun en w'=>en=.returned (cp (g&&decide (y=0)) a (p &&& (s%256)) y e b t)∧Below w.heap.size w w':=by
 have ka:=u8_and_nat p (s%256) hp (by omega)
 have kr:(s:Int)%256=((s%256:Nat):Int):=rfl
 have hm:p &&& (s%256)<256:=by have:=Nat.and_le_left (n:=p) (m:=s%256);omega
 have k1:=c47 g a (p &&& (s%256)) y e b t hy
 have k3:=c49 g (decide (y=0)) a (p &&& (s%256)) y e b t
 have hl:s%256<256:=by omega
 generalize p &&& (s%256)=m at *
 generalize s%256=s' at *
 generalize decide (y=0)=r at *
 have K1:=Lib.hid k1
 have K3:=Lib.hid k3
 clear k1 k3
 go_enter Tryz.func145,Tryz.ntmps145
 go_wp2_with fail
 have hst:=(start77 w (.bool g) (.int .u32 (a:Int)) (.int .u8 (m:Int)) (.int .u8 (y:Int)) (.int .u8 (e:Int)) (.int .u16 (b:Int)) (.int .u16 (t:Int)) (.bool false) (.int .u32 0) (.int .u8 0) (.int .u8 0) (.int .u8 0) (.int .u16 0) (.int .u16 0) 29).1
 refine wp_region_held_drew (S:=(fun w'=>(Below w.heap.size w w'∧w.heap.size<w'.heap.size∧w'.cell? ⟨w.heap.size,0,none⟩=some (.bool g)∧w'.cell? ⟨w.heap.size,1,none⟩=some (.int .u32 (a:Int))∧w'.cell? ⟨w.heap.size,2,none⟩=some (.int .u8 (m:Int))∧w'.cell? ⟨w.heap.size,3,none⟩=some (.int .u8 (y:Int))∧w'.cell? ⟨w.heap.size,4,none⟩=some (.int .u8 (e:Int))∧w'.cell? ⟨w.heap.size,5,none⟩=some (.int .u16 (b:Int))∧w'.cell? ⟨w.heap.size,6,none⟩=some (.int .u16 (t:Int))))) (by kernel_rfl) ?_ (fun hHeld=>?_)
 ·exact keep7 hst (Below.refl _ _).drew
 refine wpAnyH_take (i:=0) (v:=?v1) rfl (by kernel_rfl) (by kernel_rfl) (by kernel_rfl) (fun _ _ _ h=>h) (Or.inl ⟨by rfl,?hy1⟩) (by assumption) ?rest1
 case hy1=>(intro w' hSw;go_split_ands;go_simp;try with_reducible rfl)
 simp only [Act.put,List.getElem_toArray,List.getElem_cons_zero,List.setIfInBounds_toArray,List.set_cons_zero,List.set_cons_succ]
 refine wpAnyH_take (i:=1) (v:=?v2) rfl (by kernel_rfl) (by kernel_rfl) (by kernel_rfl) (fun _ _ _ h=>h) (Or.inl ⟨by rfl,?hy2⟩) (by assumption) ?rest2
 case hy2=>(intro w' hSw;go_split_ands;go_simp;try with_reducible rfl)
 simp only [Act.put,List.getElem_toArray,List.getElem_cons_succ,List.getElem_cons_zero,List.setIfInBounds_toArray,List.set_cons_zero,List.set_cons_succ]
 refine wpAnyH_ready (rs:=[2]) (by kernel_rfl) (by simp) ?_
 refine AllReadyH.cons rfl (fun K hK=>?_) AllReadyH.nil
 go_simp
 go_at_call 124
 refine (K1.out _).mono ?_
 rintro _ w1 ⟨rfl,hb1⟩
 go_wp2_with fail
 refine hK.out _ _ ?_ (fun hHeld=>?_)
 ·exact keep7 (by assumption) hb1
 clear hK K
 refine wpAnyH_ready (rs:=[3]) (by kernel_rfl) (by simp) ?_
 refine AllReadyH.cons rfl (fun K hK=>?_) AllReadyH.nil
 go_simp
 go_at_call 131
 refine (K3.out _).mono ?_
 rintro _ w2 ⟨rfl,hb2⟩
 go_wp2_with fail
 refine hK.out _ _ ?_ (fun hHeld=>?_)
 ·exact keep7 (by assumption) hb2
 clear hK K
 have hs2:=hHeld
 have hW:=hb1.trans (hb2.mono hb1.size)
 obtain ⟨hc,hf⟩:=bcell hW
 have hz2:w.heap.size+1<w2.heap.size:=by have:=hW.size;simp at this;omega
 refine wpAnyH_ready (rs:=[4]) (by kernel_rfl) (by simp) ?_
 refine AllReadyH.cons rfl (fun K hK=>?_) AllReadyH.nil
 go_simp
 refine hK.out _ _ ?_ (fun hHeld=>?_)
 ·exact setS (by omega) (by omega) hs2 _ _ _ _ _ _ _
 clear hK K
 have hB:Below w.heap.size w w2:=hs2.1
 refine wpAnyH_done (by kernel_rfl) ?_ _
 go_wp2
 exact bodyPost_ret (v:=cp (g&&r) a m y e b t) (by simp [results,Tryz.results145,go_sem,hc]) rfl ⟨rfl,set7 hB (by omega) _ _ _ _ _ _ _⟩
set_option maxHeartbeats 2000000 in
theorem c41 (g:Bool) (a p y e b t:Nat) (ha:a<4294967296) (he:e<256) (hb:b<65536) (ht:t<65536) (w:World) :
  Calls Tryz.prog 55 #[cp g a p y e b t] w fun en w'=>en=.returned (.int .u64 ((bs (e%16) (b%512) a+ln (e%16) (b%512) (t%512):Nat):Int))∧Below w.heap.size w w':=by
 have hA:=bs_lt (e%16) (b%512) a (by omega) (by omega) ha
 have hL:=ln_le (e%16) (b%512) (t%512) (by omega)
 have k1:=c10 e b t a he hb ht ha
 have k2:=c12 e b t he hb ht
 generalize bs (e%16) (b%512) a=A at *
 generalize ln (e%16) (b%512) (t%512)=L at *
 have K1:=Lib.hid k1
 have K2:=Lib.hid k2
 clear k1 k2
 have hS:=start7 w (.bool g) (.int .u32 (a:Int)) (.int .u8 (p:Int)) (.int .u8 (y:Int)) (.int .u8 (e:Int)) (.int .u16 (b:Int)) (.int .u16 (t:Int)) 29
 have HS:=Lib.hid hS
 clear hS
 go_enter Tryz.func55,Tryz.ntmps55
 go_wp2_with fail
 have hS:=HS.out
 go_region_held3 (fun w'=>Below w.heap.size w w'∧w.heap.size<w'.heap.size∧w'.cell? ⟨w.heap.size,0,none⟩=some (.bool g)∧w'.cell? ⟨w.heap.size,1,none⟩=some (.int .u32 (a:Int))∧w'.cell? ⟨w.heap.size,2,none⟩=some (.int .u8 (p:Int))∧w'.cell? ⟨w.heap.size,3,none⟩=some (.int .u8 (y:Int))∧w'.cell? ⟨w.heap.size,4,none⟩=some (.int .u8 (e:Int))∧w'.cell? ⟨w.heap.size,5,none⟩=some (.int .u16 (b:Int))∧w'.cell? ⟨w.heap.size,6,none⟩=some (.int .u16 (t:Int)))
  (first | exact keep7 (by assumption) ((Below.refl _ _).drew) | exact keep7 (by assumption) hbx)
  (first | (go_at_call 85;(with_reducible refine (K1.out _).mono ?_);rintro _ wx ⟨rfl,hbx⟩) | (go_at_call 86;(with_reducible refine (K2.out _).mono ?_);rintro _ wx ⟨rfl,hbx⟩))
 all_goals
  have hE:Below w.heap.size w wx:=And.left (by assumption)
  go_wp2
  go_ret
  exact ⟨ret1 (by first | rfl | omega | (rw [IntKind.wrap_u64];omega)),hE⟩
set_option maxHeartbeats 2000000 in
theorem c33 (b t m:Nat) (hb:b<18446744073709551616) (ht:t<18446744073709551616) (hm:m<256) (w:World) :
  Calls Tryz.prog 44 #[.int .u64 (b:Int),.int .u64 (t:Int),.int .u8 (m:Int)] w fun en w'=>en=.returned (rootV b t m)∧Below w.heap.size w w':=by
 have k1:=c19 b t hb ht
 unfold exV at k1
 unfold rootV
 rcases ex_err b t with ⟨h0,h1,h2,h3,h4,h5⟩ | ⟨h1,h2,h3,h4⟩
 ·rw [if_pos h0]
  rw [h0] at k1
  generalize (ex b t).1=E at *
  generalize (ex b t).2.1=B at *
  generalize (ex b t).2.2.1=T at *
  have rb:(b:Int)%4294967296=(b:Int):=by omega
  have RB:=Lib.hid rb
  have K1:=Lib.hid k1
  clear k1 h0 rb
  go_enter Tryz.func44,Tryz.ntmps44
  go_wp2_with fail
  refine (K1.out _).mono ?_
  rintro en w1 ⟨rfl,hb1⟩
  obtain ⟨hc,hf⟩:=bcell hb1
  have hz:w.heap.size<w1.heap.size:=by have:=hb1.size;simp at this;omega
  have hB:Below w.heap.size w w1:=((Below.refl _ _).alloc (Nat.le_refl _) _).trans (hb1.mono (by simp))
  clear hb1
  go_wp2_with fail
  exact bodyPost_ret (v:=.tuple #[cp true b m 0 E B T,.int .i64 0]) (by simp [results,Tryz.results44,go_sem,cellAlloc,hz,hc]) rfl ⟨rfl,set7a hB (by omega) _ _ _ _ _ _ _ _⟩
 ·rw [if_neg (by omega)]
  rw [h1,h2,h3] at k1
  have h5:(ex b t).2.2.2≠0:=by omega
  generalize (ex b t).2.2.2=R at *
  have h6:((R:Int) != 0)=true:=by simp;omega
  have K1:=Lib.hid k1
  clear k1 h1 h2 h3
  go_enter Tryz.func44,Tryz.ntmps44
  go_wp2_with fail
  refine (K1.out _).mono ?_
  rintro en w1 ⟨rfl,hb1⟩
  obtain ⟨hc,hf⟩:=bcell hb1
  have hz:w.heap.size<w1.heap.size:=by have:=hb1.size;simp at this;omega
  have hB:Below w.heap.size w w1:=((Below.refl _ _).alloc (Nat.le_refl _) _).trans (hb1.mono (by simp))
  clear hb1
  go_wp2_with fail
  exact bodyPost_ret (v:=.tuple #[cp false 0 0 0 0 0 0,.int .i64 (R:Int)]) (by simp [results,Tryz.results44,go_sem,cellAlloc,hz,hc]) rfl ⟨rfl,set7a hB (by omega) _ _ _ _ _ _ _ _⟩
end Go.Proofs.YtnkoknfihhdelaaGreatDoor.Ca
