import Derived.Test.YtnkoknfihhdelaaGreatDoorZA
import Derived.Deep.RegionHeld3
namespace Go.Proofs.YtnkoknfihhdelaaGreatDoor
open Go.ChangeShapes Go.WideShapes Go.ChangeAt Go.RowKit
set_option linter.unusedVariables false
set_option maxRecDepth 100000
set_option maxHeartbeats 2000000
def st0:St:=⟨fun _=>nul,0,false,false,false⟩
theorem z32 (W:World):(zeroValue 32).run Tryz.prog W=.ok (.agg st0.L.toArray) W:=by kernel_rfl
theorem info32s:(Tryz.prog.info? 32).map (·.size)=some 151:=by kernel_rfl
theorem oneL (c:Nat→Cq):∀ n,∀ v∈flat c n,v.oneCell'=true
 | 0,v,h=>by cases h
 | n+1,v,h=>by
  rw [flat,List.mem_append] at h
  rcases h with h | h
  ·exact oneL c n v h
  ·simp only [Cq.L,List.mem_cons,List.not_mem_nil,or_false] at h
   rcases h with rfl | rfl | rfl | rfl | rfl | rfl | rfl <;> rfl
theorem St.one (s:St):s.L.toArray.all (·.oneCell')=true:=by
 rw [Array.all_eq_true_iff_forall_mem]
 intro v hv
 have hv2:v∈s.L:=by simpa using hv
 unfold St.L at hv2
 rw [List.mem_append] at hv2
 rcases hv2 with h | h
 ·exact oneL s.c 21 v h
 ·simp only [List.mem_cons,List.not_mem_nil,or_false] at h
  rcases h with rfl | rfl | rfl | rfl <;> rfl
def Sb (w:World) (b:Nat) (s:St):Prop:=Blk w b 32 s.L.toArray
theorem Sb.cap {w:World} {b:Nat} {s:St} (h:Sb w b s) (r j o:Nat) (hr:r<21) (hj:j<7) (ho:o=7*r+j):w.cell? ⟨b,o,none⟩=(s.c r).L[j]?:=by
 subst ho
 rw [Blk.cell h,List.getElem?_toArray,s.cap r j hr hj]
theorem Sb.seven {w:World} {b:Nat} {s:St} (h:Sb w b s) (r o:Nat) (hr:r<21) (ho:o=7*r) :
  w.cell? ⟨b,o,none⟩=some (.bool (s.c r).g)∧w.cell? ⟨b,o+1,none⟩=some (.int .u32 ((s.c r).a:Int))∧w.cell? ⟨b,o+2,none⟩=some (.int .u8 ((s.c r).p:Int)) ∧
  w.cell? ⟨b,o+3,none⟩=some (.int .u8 ((s.c r).y:Int))∧w.cell? ⟨b,o+4,none⟩=some (.int .u8 ((s.c r).e:Int))∧w.cell? ⟨b,o+5,none⟩=some (.int .u16 ((s.c r).b:Int))∧w.cell? ⟨b,o+6,none⟩=some (.int .u16 ((s.c r).t:Int)) :=
 ⟨h.cap r 0 _ hr (by decide) (by omega),h.cap r 1 _ hr (by decide) (by omega),h.cap r 2 _ hr (by decide) (by omega),h.cap r 3 _ hr (by decide) (by omega),h.cap r 4 _ hr (by decide) (by omega),h.cap r 5 _ hr (by decide) (by omega),h.cap r 6 _ hr (by decide) (by omega)⟩
theorem Sb.tail {w:World} {b:Nat} {s:St} (h:Sb w b s):w.cell? ⟨b,147,none⟩=some (.int .u32 (s.cause:Int))∧w.cell? ⟨b,148,none⟩=some (.bool s.on)∧w.cell? ⟨b,149,none⟩=some (.bool s.was)∧w.cell? ⟨b,150,none⟩=some (.bool s.halted):=by
 refine ⟨?_,?_,?_,?_⟩ <;> rw [Blk.cell h,List.getElem?_toArray]
 ·exact s.tl 0
 ·exact s.tl 1
 ·exact s.tl 2
 ·exact s.tl 3
theorem putA_list (L:List Value) (off:Nat) (x:List Value):putA L.toArray off x=(L.take off++(x++L.drop (off+x.length))).toArray:=rfl
theorem St.putL (s:St) (r:Nat) (x:Cq) (hr:r<21):putA s.L.toArray (7*r) x.L=(s.put r x).L.toArray:=by
 rw [putA_list,show x.L.length=7 from rfl,s.put_L r x hr]
theorem St.setT (s:St) (j:Nat) (v:Value) (s':St) (hc:s'.c=s.c) (h:[Value.int .u32 (s.cause:Int),.bool s.on,.bool s.was,.bool s.halted].set j v=[Value.int .u32 (s'.cause:Int),.bool s'.on,.bool s'.was,.bool s'.halted]):s.L.toArray.setIfInBounds (147+j) v=s'.L.toArray:=by
 apply Array.ext'
 rw [Array.toList_setIfInBounds]
 show s.L.set (147+j) v=s'.L
 unfold St.L
 rw [List.set_append_right _ _ (by rw [flat_len];omega),flat_len,show 147+j-7*21=j by omega,h,hc]
theorem St.put_same (s:St) (r:Nat) (x:Cq):(s.put r x).c r=x:=by show upd s.c r x r=x;unfold upd;rw [if_pos rfl]
def trp (s:St) (z:Nat):St:=⟨upd (upd s.c 20 (s.c 16)) 16 (s.c 17),z,false,s.on,!(s.c 17).g||decide ((s.c 17).y≠0)⟩
theorem c29 (s : St) (z : Nat) (w : World) : Calls Tryz.prog 29 #[.agg s.L.toArray, .int .u32 (z : Int)] w fun e w' => e = .returned (.agg (trp s z).L.toArray) ∧ Below w.heap.size w w' := by
  obtain ⟨SA, hSA⟩ : ∃ SA, s.L.toArray = SA := ⟨_, rfl⟩
  obtain ⟨ZA, hZA⟩ : ∃ ZA, st0.L.toArray = ZA := ⟨_, rfl⟩
  have hz : ∀ W, (zeroValue 32).run Tryz.prog W = .ok (.agg ZA) W := fun W => by rw [← hZA]; exact z32 W
  have hzs : ZA.size = 151 := by rw [← hZA]; rw [List.size_toArray]; exact st0.len
  have HZS := Lib.hid hzs
  clear hzs
  have HSA := Lib.hid hSA
  have HZA := Lib.hid hZA
  rw [hSA]
  clear hSA hZA
  have HB0 : Hid (Blk ((w.alloc (.cells SA 32)).alloc (.cells ZA 32)) w.heap.size 32 SA) := Lib.hid ((Blk.new w 32 SA).alloc _)
  have HR0 : Hid (Blk ((w.alloc (.cells SA 32)).alloc (.cells ZA 32)) (w.heap.size + 1) 32 ZA) := Lib.hid (by
    have := Blk.new (w.alloc (.cells SA 32)) 32 ZA
    simpa using this)
  have HO0 : Hid (Below w.heap.size w ((w.alloc (.cells SA 32)).alloc (.cells ZA 32))) := Lib.hid (((Below.refl _ _).alloc (Nat.le_refl _) _).alloc (by simp) _)
  go_enter Tryz.func29, Tryz.ntmps29
  go_upto_region 1 with fail
  have hlb : w.heap.size < ((w.alloc (.cells SA 32)).alloc (.cells ZA 32)).heap.size := HB0.out.lt
  generalize (w.alloc (.cells SA 32)).alloc (.cells ZA 32) = W at *
  have hS0 : Sb W w.heap.size s := by unfold Sb; rw [HSA.out]; exact HB0.out
  obtain ⟨p, hp⟩ : ∃ p, s.c 16 = p := ⟨_, rfl⟩
  have hc7 := hS0.seven 16 112 (by decide) rfl
  rw [hp] at hc7
  obtain ⟨x0, x1, x2, x3, x4, x5, x6⟩ := hc7
  have HP := Lib.hid hp
  have HS0 := Lib.hid hS0
  clear hp hS0
  go_wp2_with (first
    | (refine wpList_store_sub rfl 29 (.tmp 8) (.tmp 6) rfl w.heap.size 140 #[.bool p.g, .int .u32 (p.a : Int), .int .u8 (p.p : Int), .int .u8 (p.y : Int), .int .u8 (p.e : Int), .int .u16 (p.b : Int), .int .u16 (p.t : Int)] rfl rfl 32 s.L.toArray HS0.out info29s (by have := s.len; simp; omega) (arr_all p) ?_
       have hput : putA s.L.toArray 140 (#[Value.bool p.g, .int .u32 (p.a : Int), .int .u8 (p.p : Int), .int .u8 (p.y : Int), .int .u8 (p.e : Int), .int .u16 (p.b : Int), .int .u16 (p.t : Int)]).toList = (s.put 20 p).L.toArray := s.putL 20 p (by decide)
       rw [hput]
       have HS1 : Hid (Sb (W.setRow w.heap.size (s.put 20 p).L.toArray) w.heap.size (s.put 20 p)) := Lib.hid (blk_row HS0.out _)
       have HR1 : Hid (Blk (W.setRow w.heap.size (s.put 20 p).L.toArray) (w.heap.size + 1) 32 ZA) := Lib.hid ((only_row W w.heap.size (s.put 20 p).L.toArray).blk (by omega) HR0.out)
       have HO1 : Hid (Below w.heap.size w (W.setRow w.heap.size (s.put 20 p).L.toArray)) := Lib.hid (HO0.out.trans ((only_row W w.heap.size (s.put 20 p).L.toArray).1 _ (Nat.le_refl _) (Nat.le_of_lt hlb)))
       clear hput HS0 HR0 HO0 HB0 x0 x1 x2 x3 x4 x5 x6 hlb
       generalize W.setRow w.heap.size (s.put 20 p).L.toArray = W1 at *
       obtain ⟨t0, t1, t2, t3⟩ := HS1.out.tail
       have f0 : W1.frozen? ⟨w.heap.size, 147, none⟩ = false := Blk.frozen HS1.out 147
       have f1 : W1.frozen? ⟨w.heap.size, 148, none⟩ = false := Blk.frozen HS1.out 148
       have f2 : W1.frozen? ⟨w.heap.size, 149, none⟩ = false := Blk.frozen HS1.out 149
       obtain ⟨m, hm⟩ : ∃ m, s.c 17 = m := ⟨_, rfl⟩
       have hc7 := HS1.out.seven 17 119 (by decide) rfl
       rw [show (s.put 20 p).c 17 = m from hm] at hc7
       obtain ⟨x0, x1, x2, x3, x4, x5, x6⟩ := hc7
       have t0' : W1.cell? ⟨w.heap.size, 147, none⟩ = some (.int .u32 (s.cause : Int)) := t0
       have t1' : W1.cell? ⟨w.heap.size, 148, none⟩ = some (.bool s.on) := t1
       have t2' : W1.cell? ⟨w.heap.size, 149, none⟩ = some (.bool s.was) := t2
       have HM := Lib.hid hm
       clear t0 t1 t2 t3 hm
       have HS2 : Hid (Sb (((W1.setCell ⟨w.heap.size, 147, none⟩ (.int .u32 (z : Int))).setCell ⟨w.heap.size, 149, none⟩ (.bool s.on)).setCell ⟨w.heap.size, 148, none⟩ (.bool false)) w.heap.size ⟨(s.put 20 p).c, z, false, s.on, s.halted⟩) := Lib.hid (by
         have h1 := Blk.set_ HS1.out 147 (.int .u32 (z : Int))
         rw [(s.put 20 p).setT 0 _ ⟨(s.put 20 p).c, z, s.on, s.was, s.halted⟩ rfl rfl] at h1
         have h2 := Blk.set_ h1 149 (.bool s.on)
         rw [(⟨(s.put 20 p).c, z, s.on, s.was, s.halted⟩ : St).setT 2 (.bool s.on) ⟨(s.put 20 p).c, z, s.on, s.on, s.halted⟩ rfl rfl] at h2
         have h3 := Blk.set_ h2 148 (.bool false)
         rw [(⟨(s.put 20 p).c, z, s.on, s.on, s.halted⟩ : St).setT 1 (.bool false) ⟨(s.put 20 p).c, z, false, s.on, s.halted⟩ rfl rfl] at h3
         exact h3))
    | (refine wpList_store_sub rfl 29 (.tmp 16) (.tmp 15) rfl w.heap.size 112 #[.bool m.g, .int .u32 (m.a : Int), .int .u8 (m.p : Int), .int .u8 (m.y : Int), .int .u8 (m.e : Int), .int .u16 (m.b : Int), .int .u16 (m.t : Int)] rfl rfl 32 (⟨(s.put 20 p).c, z, false, s.on, s.halted⟩ : St).L.toArray HS2.out info29s (by have := (⟨(s.put 20 p).c, z, false, s.on, s.halted⟩ : St).len; simp; omega) (arr_all m) ?_
       have hput2 : putA (⟨(s.put 20 p).c, z, false, s.on, s.halted⟩ : St).L.toArray 112 (#[Value.bool m.g, .int .u32 (m.a : Int), .int .u8 (m.p : Int), .int .u8 (m.y : Int), .int .u8 (m.e : Int), .int .u16 (m.b : Int), .int .u16 (m.t : Int)]).toList = ((⟨(s.put 20 p).c, z, false, s.on, s.halted⟩ : St).put 16 m).L.toArray := St.putL _ 16 m (by decide)
       rw [hput2]
       have HS3 : Hid (Sb ((((W1.setCell ⟨w.heap.size, 147, none⟩ (.int .u32 (z : Int))).setCell ⟨w.heap.size, 149, none⟩ (.bool s.on)).setCell ⟨w.heap.size, 148, none⟩ (.bool false)).setRow w.heap.size ((⟨(s.put 20 p).c, z, false, s.on, s.halted⟩ : St).put 16 m).L.toArray) w.heap.size ((⟨(s.put 20 p).c, z, false, s.on, s.halted⟩ : St).put 16 m)) := Lib.hid (blk_row HS2.out _)
       have HR3 : Hid (Blk ((((W1.setCell ⟨w.heap.size, 147, none⟩ (.int .u32 (z : Int))).setCell ⟨w.heap.size, 149, none⟩ (.bool s.on)).setCell ⟨w.heap.size, 148, none⟩ (.bool false)).setRow w.heap.size ((⟨(s.put 20 p).c, z, false, s.on, s.halted⟩ : St).put 16 m).L.toArray) (w.heap.size + 1) 32 ZA) := Lib.hid ((only_row _ w.heap.size ((⟨(s.put 20 p).c, z, false, s.on, s.halted⟩ : St).put 16 m).L.toArray).blk (by omega) (((HR1.out.far (by show w.heap.size + 1 ≠ w.heap.size; omega) _).far (by show w.heap.size + 1 ≠ w.heap.size; omega) _).far (by show w.heap.size + 1 ≠ w.heap.size; omega) _))
       have HO3 : Hid (Below w.heap.size w ((((W1.setCell ⟨w.heap.size, 147, none⟩ (.int .u32 (z : Int))).setCell ⟨w.heap.size, 149, none⟩ (.bool s.on)).setCell ⟨w.heap.size, 148, none⟩ (.bool false)).setRow w.heap.size ((⟨(s.put 20 p).c, z, false, s.on, s.halted⟩ : St).put 16 m).L.toArray)) := Lib.hid ((((HO1.out.setCell (Nat.le_refl _) _).setCell (Nat.le_refl _) _).setCell (Nat.le_refl _) _).trans ((only_row _ w.heap.size ((⟨(s.put 20 p).c, z, false, s.on, s.halted⟩ : St).put 16 m).L.toArray).1 _ (Nat.le_refl _) (((HO1.out.setCell (Nat.le_refl _) _).setCell (Nat.le_refl _) _).setCell (Nat.le_refl _) _).size))
       clear hput2 HS2 HR1 HO1 HS1 x0 x1 x2 x3 x4 x5 x6 t0' t1' t2' f0 f1 f2
       generalize (((W1.setCell ⟨w.heap.size, 147, none⟩ (.int .u32 (z : Int))).setCell ⟨w.heap.size, 149, none⟩ (.bool s.on)).setCell ⟨w.heap.size, 148, none⟩ (.bool false)).setRow w.heap.size ((⟨(s.put 20 p).c, z, false, s.on, s.halted⟩ : St).put 16 m).L.toArray = W3 at *
       have hs16 : ((⟨(s.put 20 p).c, z, false, s.on, s.halted⟩ : St).put 16 m).c 16 = m := St.put_same _ 16 m
       have hs3h : ((⟨(s.put 20 p).c, z, false, s.on, s.halted⟩ : St).put 16 m).halted = s.halted := rfl
       obtain ⟨s3, hs3⟩ : ∃ s3, ((⟨(s.put 20 p).c, z, false, s.on, s.halted⟩ : St).put 16 m) = s3 := ⟨_, rfl⟩
       rw [hs3] at HS3 hs16 hs3h
       have HS3E := Lib.hid hs3
       have hc7 := HS3.out.seven 16 112 (by decide) rfl
       rw [hs16] at hc7
       obtain ⟨z0, -, -, z3, -, -, -⟩ := hc7
       have t3 : W3.cell? ⟨w.heap.size, 150, none⟩ = some (.bool s.halted) := by rw [← hs3h]; exact HS3.out.tail.2.2.2
       have f3 : W3.frozen? ⟨w.heap.size, 150, none⟩ = false := Blk.frozen HS3.out 150
       have hblk : ∀ hv : Bool, Blk (W3.setCell ⟨w.heap.size, 150, none⟩ (.bool hv)) w.heap.size 32 (⟨s3.c, s3.cause, s3.on, s3.was, hv⟩ : St).L.toArray := fun hv => by
         have h1 := Blk.set_ HS3.out 150 (.bool hv)
         rw [s3.setT 3 (.bool hv) ⟨s3.c, s3.cause, s3.on, s3.was, hv⟩ rfl rfl] at h1
         exact h1
       have hend : ∀ hv : Bool, hv = (!m.g || decide (m.y ≠ 0)) → (⟨s3.c, s3.cause, s3.on, s3.was, hv⟩ : St).L.toArray = (trp s z).L.toArray := fun hv h => by
         rw [← hs3, h, ← HM.out, ← HP.out]
         rfl
       have hsz : ∀ hv : Bool, (⟨s3.c, s3.cause, s3.on, s3.was, hv⟩ : St).L.toArray.size = 151 := fun hv => by rw [List.size_toArray]; exact St.len _
       have hone : ∀ hv : Bool, (⟨s3.c, s3.cause, s3.on, s3.was, hv⟩ : St).L.toArray.all (·.oneCell') = true := fun hv => St.one _
       obtain ⟨XA, hXA⟩ : ∃ XA : Bool → Array Value, XA = fun hv => (⟨s3.c, s3.cause, s3.on, s3.was, hv⟩ : St).L.toArray := ⟨_, rfl⟩
       have HST : Hid (∀ hv : Bool, Blk (W3.setCell ⟨w.heap.size, 150, none⟩ (.bool hv)) w.heap.size 32 (XA hv)) := Lib.hid (by rw [hXA]; exact hblk)
       have HXE : Hid (∀ hv : Bool, hv = (!m.g || decide (m.y ≠ 0)) → XA hv = (trp s z).L.toArray) := Lib.hid (by rw [hXA]; exact hend)
       have HXS : Hid (∀ hv : Bool, (XA hv).size = 151) := Lib.hid (by rw [hXA]; exact hsz)
       have HX1 : Hid (∀ hv : Bool, (XA hv).all (·.oneCell') = true) := Lib.hid (by rw [hXA]; exact hone)
       clear hblk hend hsz hone hXA
       have hsr : ∀ hv : Bool, Blk (W3.setCell ⟨w.heap.size, 150, none⟩ (.bool hv)) (w.heap.size + 1) 32 ZA := fun hv => HR3.out.far (by show w.heap.size + 1 ≠ w.heap.size; omega) _
       have HSR := Lib.hid hsr
       have HFR : Hid (∀ hv : Bool, Blk ((W3.setCell ⟨w.heap.size, 150, none⟩ (.bool hv)).setRow (w.heap.size + 1) (XA hv)) (w.heap.size + 1) 32 (XA hv)) := Lib.hid (fun hv => blk_row (hsr hv) _)
       have HFO : Hid (∀ hv : Bool, Below w.heap.size w ((W3.setCell ⟨w.heap.size, 150, none⟩ (.bool hv)).setRow (w.heap.size + 1) (XA hv))) := Lib.hid (fun hv => (HO3.out.setCell (Nat.le_refl _) _).trans ((only_row _ (w.heap.size + 1) (XA hv)).1 _ (Nat.le_succ _) (HO3.out.setCell (Nat.le_refl _) _).size))
       clear hsr
       clear hs3 hs16 hs3h)
    | (refine wpList_load_row rfl 32 (.tmp 2) rfl w.heap.size rfl 32 (XA _) (0, 0) _ (HST.out _) Tryz.underlying32 rfl (by rw [info32s, HXS.out]) ?_)
    | (refine wpList_store_row rfl 32 (.tmp 4) (.tmp 28) rfl (w.heap.size + 1) (XA _) rfl rfl 32 ZA (HSR.out _) (by rw [info32s, HXS.out]) (by rw [HZS.out, HXS.out]) (HX1.out _) ?_))
  · rename_i hg
    exact bodyPost_ret (results_cell_row rfl _ _ (w.heap.size + 1) 32 (XA _) (0, 0) _ rfl (HFR.out _) Tryz.underlying32 rfl (by rw [info32s, HXS.out])) rfl ⟨by rw [HXE.out _ (by rw [hg]; by_cases hy : m.y = 0 <;> simp [hy])], HFO.out _⟩
  · rename_i hg
    exact bodyPost_ret (results_cell_row rfl _ _ (w.heap.size + 1) 32 (XA _) (0, 0) _ rfl (HFR.out _) Tryz.underlying32 rfl (by rw [info32s, HXS.out])) rfl ⟨by rw [HXE.out _ (by simp [hg])], HFO.out _⟩
def dn0:Dn:=⟨0,.slice none 0 0,false,0,0⟩
theorem z41 (W:World):(zeroValue 41).run Tryz.prog W=.ok (.agg dn0.L.toArray) W:=by kernel_rfl
theorem info41s:(Tryz.prog.info? 41).map (·.size)=some 5:=by kernel_rfl
theorem b41:Tryz.prog.built 41 []=some dn0.L.toArray:=by kernel_rfl
theorem dn0_one:dn0.L.toArray.all (·.oneCell')=true:=by kernel_rfl
section
variable {P:Program}
theorem wpList_buildE {ops:Array Oper} {rest:List Oper} {o:Oper} {a:Act} {w:World} {Q:Exit→Act→World→Prop} (hg:o.guard=none) (t:TypeId) (parts:List (Nat × Operand)) (ho:o.op=.build t parts.toArray)
  (cells:Array Value) (hf:P.built t (parts.map fun (i,x)=>(i,a.eval x))=some cells)
  (h:wpList P ops Q rest (a.put o.dst (.agg cells)) w):wpList P ops Q (o :: rest) a w:=by
 have e:(parts.toArray.map fun (i,x)=>(i,a.eval x)).toList=parts.map fun (i,x)=>(i,a.eval x):=by simp
 refine wpList_build hg t parts.toArray ho (by rw [e,hf];rfl) ?_
 rw [e,hf]
 exact h
theorem results_cct {fn:Func} {p q r:Tmp} {ty tz:TypeId} (h:fn.results=#[.cell p ty,.cell q tz,.tmp r]) (tmps:Array Value) (w:World) (g k:Nat) (t u:TypeId) (cs ds:Array Value) (f1 f2:Nat × Nat) (d d2:TypeDesc) (v:Value)
  (hp:tmps.getD p undef=.pointer (some ⟨g,0,none⟩)) (hg:w.heap[g]?=some (.cells cs t f1))
  (hu:P.underlying ty=some d) (hd:(match d with | .struct _ | .array _ _=>true | _=>false)=true) (hi:(P.info? ty).map (·.size)=some cs.size)
  (hq:tmps.getD q undef=.pointer (some ⟨k,0,none⟩)) (hk:w.heap[k]?=some (.cells ds u f2))
  (hu2:P.underlying tz=some d2) (hd2:(match d2 with | .struct _ | .array _ _=>true | _=>false)=true) (hi2:(P.info? tz).map (·.size)=some ds.size)
  (hr:tmps.getD r undef=v) :
  (results fn tmps).run P w=.ok (.tuple #[.agg cs,.agg ds,v]) w:=by
 have hp':tmps[p]?.getD undef=.pointer (some ⟨g,0,none⟩):=by simpa using hp
 have hq':tmps[q]?.getD undef=.pointer (some ⟨k,0,none⟩):=by simpa using hq
 have hr':tmps[r]?.getD undef=v:=by simpa using hr
 simp [results,h,hp',hq',hr',asAddr,run_loadVar_row w g t ty cs f1 d hg hu hd hi,run_loadVar_row w k u tz ds f2 d2 hk hu2 hd2 hi2]
end
theorem b32q (q:Cq):Tryz.prog.built 32 [(1,.agg q.L.toArray)]=some (st0.put 16 q).L.toArray:=by kernel_rfl
theorem c45 (q:Cq) (w:World):Calls Tryz.prog 45 #[.agg q.L.toArray] w fun e w'=>e=.returned (.agg (st0.put 16 q).L.toArray)∧Below w.heap.size w w':=by
 have hb:=b32q q
 have hsZ:st0.L.toArray.size=151:=by rw [List.size_toArray];exact st0.len
 have hsX:(st0.put 16 q).L.toArray.size=151:=by rw [List.size_toArray];exact St.len _
 have h1X:(st0.put 16 q).L.toArray.all (·.oneCell')=true:=St.one _
 have hz:∀ W,(zeroValue 32).run Tryz.prog W=.ok (.agg st0.L.toArray) W:=z32
 have hsQ:q.L.toArray.size=7:=rfl
 generalize q.L.toArray=QA at *
 generalize (st0.put 16 q).L.toArray=XA at *
 generalize st0.L.toArray=ZA at *
 have HQ:=Lib.hid hsQ
 have HZ:=Lib.hid hsZ
 have HX:=Lib.hid hsX
 have HX1:=Lib.hid h1X
 have HB:=Lib.hid hb
 clear hsZ hsX h1X hb hsQ
 have HC:Hid (Blk ((w.alloc (.cells QA 29)).alloc (.cells ZA 32)) w.heap.size 29 QA):=Lib.hid ((Blk.new w 29 QA).alloc _)
 have HR:Hid (Blk ((w.alloc (.cells QA 29)).alloc (.cells ZA 32)) (w.heap.size+1) 32 ZA):=Lib.hid (by
  have:=Blk.new (w.alloc (.cells QA 29)) 32 ZA
  simpa using this)
 have HO:Hid (Below w.heap.size w ((w.alloc (.cells QA 29)).alloc (.cells ZA 32))):=Lib.hid (((Below.refl _ _).alloc (Nat.le_refl _) _).alloc (by simp) _)
 go_enter Tryz.func45,Tryz.ntmps45
 go_upto_region 1 with fail
 generalize (w.alloc (.cells QA 29)).alloc (.cells ZA 32)=W at *
 go_wp2_with (first
  | (refine wpList_load_row rfl 29 (.tmp 1) rfl w.heap.size rfl 29 QA (0,0) _ HC.out Tryz.underlying29 rfl (by rw [info29s,HQ.out]) ?_)
  | (refine wpList_buildE rfl 32 [(1,.tmp 3)] rfl XA HB.out ?_)
  | (refine wpList_store_row rfl 32 (.tmp 2) (.tmp 4) rfl (w.heap.size+1) XA rfl rfl 32 ZA HR.out (by rw [info32s,HX.out]) (by rw [HZ.out,HX.out]) HX1.out ?_))
 exact bodyPost_ret (results_cell_row rfl _ _ (w.heap.size+1) 32 XA (0,0) _ rfl (blk_row HR.out _) Tryz.underlying32 rfl (by rw [info32s,HX.out])) rfl ⟨rfl,below_setRow HO.out (by omega) _⟩
end Go.Proofs.YtnkoknfihhdelaaGreatDoor
namespace Go.Proofs.YtnkoknfihhdelaaGreatDoor
section
variable {P:Program} {ops:Array Oper} {Q:Exit→Act→World→Prop}
theorem wpAny_inv (I:Array Bool→Act→World→Prop)
  (hstep:∀ listed a w i,listed.size=ops.size→i∈Region.ready .any ops listed→I listed a w→wpOp P ops Q i (fun a' w'=>I (listed.setIfInBounds i true) a' w') a w)
  (hend:∀ listed a w,listed.size=ops.size→Region.ready .any ops listed=[]→I listed a w→Q .normal a w) :
  ∀ (fuel:Nat) (listed:Array Bool) (a:Act) (w:World),listed.size=ops.size→listed.toList.count false≤fuel→I listed a w→wpAny P .any ops Q fuel listed a w:=by
 have hin:∀ (listed:Array Bool) (i:Nat),i∈Region.ready .any ops listed→∃ h:i<listed.toList.length,listed.toList[i]=false:=fun listed i hi=>by
  have h1:=(mem_ready.1 hi).1
  rcases Nat.lt_or_ge i listed.size with h | h
  ·refine ⟨by simpa using h,?_⟩
   simpa [h] using h1
  ·simp [Array.getElem?_eq_none h] at h1
 intro fuel
 induction fuel with
 | zero =>
  intro listed a w hs hc hI
  have hnil:Region.ready .any ops listed=[]:=by
   cases hr:Region.ready .any ops listed with
   | nil=>rfl
   | cons x xs =>
    obtain ⟨h,hx⟩:=hin listed x (by rw [hr];simp)
    have:false∈listed.toList:=by rw [←hx];exact List.getElem_mem h
    have:=List.count_pos_iff.2 this
    omega
  exact ⟨hnil,hend _ _ _ hs hnil hI⟩
 | succ fuel ih =>
  intro listed a w hs hc hI
  refine ⟨fun h=>hend _ _ _ hs h hI,fun i hi=>wpOp_mono (fun a' w' h'=>ih _ _ _ (by simpa using hs) ?_ h') (hstep _ _ _ _ hs hi hI)⟩
  obtain ⟨h,hx⟩:=hin listed i hi
  rw [Array.toList_setIfInBounds,List.count_set h,hx]
  have:false∈listed.toList:=by rw [←hx];exact List.getElem_mem h
  have:=List.count_pos_iff.2 this
  rw [if_pos (by decide),if_neg (by decide)]
  omega
theorem wp_region_inv {id:Nat} {a:Act} {w:World} (hm:P.follows .mixedOrders=true) (I:Array Bool→Act→World→Prop)
  (h0:I (Array.replicate ops.size false) a w.drew)
  (hstep:∀ listed a w i,listed.size=ops.size→i∈Region.ready .any ops listed→I listed a w→wpOp P ops Q i (fun a' w'=>I (listed.setIfInBounds i true) a' w') a w)
  (hend:∀ listed a w,listed.size=ops.size→Region.ready .any ops listed=[]→I listed a w→Q .normal a w):(Code.region id ops true).wp P Q a w :=
 wp_region_any hm (wpAny_inv I hstep hend ops.size _ _ _ (by simp) (by simp) h0)
theorem wpOp_of {i:Nat} {o:Oper} {a:Act} {w:World} {K:Act→World→Prop} (ho:ops[i]?=some o) (hg:o.guard=none) (h:o.wp P a w K Q):wpOp P ops Q i K a w:=by
 unfold wpOp
 rw [ho]
 show if Region.wanted o (yielded ops a.tmps)=true then _ else _
 rw [if_pos (by unfold Region.wanted;rw [hg])]
 exact Or.inl h
theorem put_at (a:Act) (d j:Nat) (v:Value):(a.put (some d) v).tmps.getD j undef=if d=j∧d<a.tmps.size then v else a.tmps.getD j undef:=by
 show (a.tmps.setIfInBounds d v).getD j undef=_
 simp only [Array.getD_eq_getD_getElem?,Array.getElem?_setIfInBounds]
 by_cases h:d=j
 ·subst h
  by_cases h2:d<a.tmps.size
  ·simp [h2]
  ·simp [h2]
 ·simp [h]
theorem put_size (a:Act) (d:Option Nat) (v:Value):(a.put d v).tmps.size=a.tmps.size:=by
 cases d <;> simp [Act.put]
end
end Go.Proofs.YtnkoknfihhdelaaGreatDoor
