import Derived.Test.YtmanoheofloimaaGreatDoorLz
namespace Go.Proofs.YtmanoheofloimaaGreatDoor
open Go.ChangeShapes Go.WideShapes Go.ChangeAt Go.RowKit
set_option linter.unusedVariables false
set_option maxRecDepth 100000
set_option maxHeartbeats 2000000
def st0 : St := ⟨fun _ => nul, 0, false, false, false⟩
theorem z32 (W : World) : (zeroValue 34).run Tryz.prog W = .ok (.agg st0.L.toArray) W := by kernel_rfl
theorem info32s : (Tryz.prog.info? 34).map (·.size) = some 151 := by kernel_rfl
theorem oneL (c : Nat → Cq) : ∀ n, ∀ v ∈ flat c n, v.oneCell' = true
  | 0, v, h => by cases h
  | n + 1, v, h => by
    rw [flat, List.mem_append] at h
    rcases h with h | h
    · exact oneL c n v h
    · simp only [Cq.L, List.mem_cons, List.not_mem_nil, or_false] at h
      rcases h with rfl | rfl | rfl | rfl | rfl | rfl | rfl <;> rfl
theorem St.one (s : St) : s.L.toArray.all (·.oneCell') = true := by
  rw [Array.all_eq_true_iff_forall_mem]
  intro v hv
  have hv2 : v ∈ s.L := by simpa using hv
  unfold St.L at hv2
  rw [List.mem_append] at hv2
  rcases hv2 with h | h
  · exact oneL s.c 21 v h
  · simp only [List.mem_cons, List.not_mem_nil, or_false] at h
    rcases h with rfl | rfl | rfl | rfl <;> rfl
/-- a block with a state -/
def Sb (w : World) (b : Nat) (s : St) : Prop := Blk w b 34 s.L.toArray
theorem Sb.cap {w : World} {b : Nat} {s : St} (h : Sb w b s) (r j o : Nat) (hr : r < 21) (hj : j < 7) (ho : o = 7 * r + j) : w.cell? ⟨b, o, none⟩ = (s.c r).L[j]? := by
  subst ho
  rw [Blk.cell h, List.getElem?_toArray, s.cap r j hr hj]
theorem Sb.seven {w : World} {b : Nat} {s : St} (h : Sb w b s) (r o : Nat) (hr : r < 21) (ho : o = 7 * r) :
    w.cell? ⟨b, o, none⟩ = some (.bool (s.c r).g) ∧ w.cell? ⟨b, o + 1, none⟩ = some (.int .u32 ((s.c r).a : Int)) ∧ w.cell? ⟨b, o + 2, none⟩ = some (.int .u8 ((s.c r).p : Int)) ∧
    w.cell? ⟨b, o + 3, none⟩ = some (.int .u8 ((s.c r).y : Int)) ∧ w.cell? ⟨b, o + 4, none⟩ = some (.int .u8 ((s.c r).e : Int)) ∧ w.cell? ⟨b, o + 5, none⟩ = some (.int .u16 ((s.c r).b : Int)) ∧ w.cell? ⟨b, o + 6, none⟩ = some (.int .u16 ((s.c r).t : Int)) :=
  ⟨h.cap r 0 _ hr (by decide) (by omega), h.cap r 1 _ hr (by decide) (by omega), h.cap r 2 _ hr (by decide) (by omega), h.cap r 3 _ hr (by decide) (by omega), h.cap r 4 _ hr (by decide) (by omega), h.cap r 5 _ hr (by decide) (by omega), h.cap r 6 _ hr (by decide) (by omega)⟩
theorem Sb.tail {w : World} {b : Nat} {s : St} (h : Sb w b s) : w.cell? ⟨b, 147, none⟩ = some (.int .u32 (s.cause : Int)) ∧ w.cell? ⟨b, 148, none⟩ = some (.bool s.on) ∧ w.cell? ⟨b, 149, none⟩ = some (.bool s.was) ∧ w.cell? ⟨b, 150, none⟩ = some (.bool s.halted) := by
  refine ⟨?_, ?_, ?_, ?_⟩ <;> rw [Blk.cell h, List.getElem?_toArray]
  · exact s.tl 0
  · exact s.tl 1
  · exact s.tl 2
  · exact s.tl 3
theorem putA_list (L : List Value) (off : Nat) (x : List Value) : putA L.toArray off x = (L.take off ++ (x ++ L.drop (off + x.length))).toArray := rfl
theorem St.putL (s : St) (r : Nat) (x : Cq) (hr : r < 21) : putA s.L.toArray (7 * r) x.L = (s.put r x).L.toArray := by
  rw [putA_list, show x.L.length = 7 from rfl, s.put_L r x hr]
theorem St.setT (s : St) (j : Nat) (v : Value) (s' : St) (hc : s'.c = s.c) (h : [Value.int .u32 (s.cause : Int), .bool s.on, .bool s.was, .bool s.halted].set j v = [Value.int .u32 (s'.cause : Int), .bool s'.on, .bool s'.was, .bool s'.halted]) : s.L.toArray.setIfInBounds (147 + j) v = s'.L.toArray := by
  apply Array.ext'
  rw [Array.toList_setIfInBounds]
  show s.L.set (147 + j) v = s'.L
  unfold St.L
  rw [List.set_append_right _ _ (by rw [flat_len]; omega), flat_len, show 147 + j - 7 * 21 = j by omega, h, hc]
theorem St.put_same (s : St) (r : Nat) (x : Cq) : (s.put r x).c r = x := by show upd s.c r x r = x; unfold upd; rw [if_pos rfl]
def trp (s : St) (z : Nat) : St := ⟨upd (upd s.c 20 (s.c 16)) 16 (s.c 17), z, false, s.on, !(s.c 17).g || decide ((s.c 17).y ≠ 0)⟩
/-- trapped -/
theorem c29 (s : St) (z : Nat) (w : World) : Calls Tryz.prog 17 #[.agg s.L.toArray, .int .u32 (z : Int)] w fun e w' => e = .returned (.agg (trp s z).L.toArray) ∧ Below w.heap.size w w' := by
  obtain ⟨SA, hSA⟩ : ∃ SA, s.L.toArray = SA := ⟨_, rfl⟩
  obtain ⟨ZA, hZA⟩ : ∃ ZA, st0.L.toArray = ZA := ⟨_, rfl⟩
  have hz : ∀ W, (zeroValue 34).run Tryz.prog W = .ok (.agg ZA) W := fun W => by rw [← hZA]; exact z32 W
  have hzs : ZA.size = 151 := by rw [← hZA]; rw [List.size_toArray]; exact st0.len
  have HZS := Lib.hid hzs
  clear hzs
  have HSA := Lib.hid hSA
  have HZA := Lib.hid hZA
  rw [hSA]
  clear hSA hZA
  have HB0 : Hid (Blk ((w.alloc (.cells SA 34)).alloc (.cells ZA 34)) w.heap.size 34 SA) := Lib.hid ((Blk.new w 34 SA).alloc _)
  have HR0 : Hid (Blk ((w.alloc (.cells SA 34)).alloc (.cells ZA 34)) (w.heap.size + 1) 34 ZA) := Lib.hid (by
    have := Blk.new (w.alloc (.cells SA 34)) 34 ZA
    simpa using this)
  have HO0 : Hid (Below w.heap.size w ((w.alloc (.cells SA 34)).alloc (.cells ZA 34))) := Lib.hid (((Below.refl _ _).alloc (Nat.le_refl _) _).alloc (by simp) _)
  go_enter Tryz.func17, Tryz.ntmps17
  go_upto_region 1 with fail
  have hlb : w.heap.size < ((w.alloc (.cells SA 34)).alloc (.cells ZA 34)).heap.size := HB0.out.lt
  generalize (w.alloc (.cells SA 34)).alloc (.cells ZA 34) = W at *
  have hS0 : Sb W w.heap.size s := by unfold Sb; rw [HSA.out]; exact HB0.out
  obtain ⟨p, hp⟩ : ∃ p, s.c 16 = p := ⟨_, rfl⟩
  have hc7 := hS0.seven 16 112 (by decide) rfl
  rw [hp] at hc7
  obtain ⟨x0, x1, x2, x3, x4, x5, x6⟩ := hc7
  have HP := Lib.hid hp
  have HS0 := Lib.hid hS0
  clear hp hS0
  go_wp2_with (first
    | (refine wpList_store_sub rfl 31 (.tmp 8) (.tmp 6) rfl w.heap.size 140 #[.bool p.g, .int .u32 (p.a : Int), .int .u8 (p.p : Int), .int .u8 (p.y : Int), .int .u8 (p.e : Int), .int .u16 (p.b : Int), .int .u16 (p.t : Int)] rfl rfl 34 s.L.toArray HS0.out info29s (by have := s.len; simp; omega) (arr_all p) ?_
       have hput : putA s.L.toArray 140 (#[Value.bool p.g, .int .u32 (p.a : Int), .int .u8 (p.p : Int), .int .u8 (p.y : Int), .int .u8 (p.e : Int), .int .u16 (p.b : Int), .int .u16 (p.t : Int)]).toList = (s.put 20 p).L.toArray := s.putL 20 p (by decide)
       rw [hput]
       have HS1 : Hid (Sb (W.setRow w.heap.size (s.put 20 p).L.toArray) w.heap.size (s.put 20 p)) := Lib.hid (blk_row HS0.out _)
       have HR1 : Hid (Blk (W.setRow w.heap.size (s.put 20 p).L.toArray) (w.heap.size + 1) 34 ZA) := Lib.hid ((only_row W w.heap.size (s.put 20 p).L.toArray).blk (by omega) HR0.out)
       have HO1 : Hid (Below w.heap.size w (W.setRow w.heap.size (s.put 20 p).L.toArray)) := Lib.hid (HO0.out.trans ((only_row W w.heap.size (s.put 20 p).L.toArray).1 _ (Nat.le_refl _) (Nat.le_of_lt hlb)))
       clear hput HS0 HR0 HO0 HB0 x0 x1 x2 x3 x4 x5 x6 hlb
       generalize W.setRow w.heap.size (s.put 20 p).L.toArray = W1 at *
       obtain ⟨t0, t1, t2, t3⟩ := HS1.out.tail
       have f0 : W1.frozen? ⟨w.heap.size, 147, none⟩ = false := Blk.frozen HS1.out 147
       have f1 : W1.frozen? ⟨w.heap.size, 148, none⟩ = false := Blk.frozen HS1.out 148
       have f2 : W1.frozen? ⟨w.heap.size, 149, none⟩ = false := Blk.frozen HS1.out 149
       obtain ⟨m, hm⟩ : ∃ m, s.c 17 = m := ⟨_, rfl⟩
       have hc7 := HS1.out.seven 17 119 (by decide) rfl
       rw [show (s.put 20 p).c 17 = m from hm] at hc7
       obtain ⟨x0, x1, x2, x3, x4, x5, x6⟩ := hc7
       have t0' : W1.cell? ⟨w.heap.size, 147, none⟩ = some (.int .u32 (s.cause : Int)) := t0
       have t1' : W1.cell? ⟨w.heap.size, 148, none⟩ = some (.bool s.on) := t1
       have t2' : W1.cell? ⟨w.heap.size, 149, none⟩ = some (.bool s.was) := t2
       have HM := Lib.hid hm
       clear t0 t1 t2 t3 hm
       have HS2 : Hid (Sb (((W1.setCell ⟨w.heap.size, 147, none⟩ (.int .u32 (z : Int))).setCell ⟨w.heap.size, 149, none⟩ (.bool s.on)).setCell ⟨w.heap.size, 148, none⟩ (.bool false)) w.heap.size ⟨(s.put 20 p).c, z, false, s.on, s.halted⟩) := Lib.hid (by
         have h1 := Blk.set_ HS1.out 147 (.int .u32 (z : Int))
         rw [(s.put 20 p).setT 0 _ ⟨(s.put 20 p).c, z, s.on, s.was, s.halted⟩ rfl rfl] at h1
         have h2 := Blk.set_ h1 149 (.bool s.on)
         rw [(⟨(s.put 20 p).c, z, s.on, s.was, s.halted⟩ : St).setT 2 (.bool s.on) ⟨(s.put 20 p).c, z, s.on, s.on, s.halted⟩ rfl rfl] at h2
         have h3 := Blk.set_ h2 148 (.bool false)
         rw [(⟨(s.put 20 p).c, z, s.on, s.on, s.halted⟩ : St).setT 1 (.bool false) ⟨(s.put 20 p).c, z, false, s.on, s.halted⟩ rfl rfl] at h3
         exact h3))
    | (refine wpList_store_sub rfl 31 (.tmp 16) (.tmp 15) rfl w.heap.size 112 #[.bool m.g, .int .u32 (m.a : Int), .int .u8 (m.p : Int), .int .u8 (m.y : Int), .int .u8 (m.e : Int), .int .u16 (m.b : Int), .int .u16 (m.t : Int)] rfl rfl 34 (⟨(s.put 20 p).c, z, false, s.on, s.halted⟩ : St).L.toArray HS2.out info29s (by have := (⟨(s.put 20 p).c, z, false, s.on, s.halted⟩ : St).len; simp; omega) (arr_all m) ?_
       have hput2 : putA (⟨(s.put 20 p).c, z, false, s.on, s.halted⟩ : St).L.toArray 112 (#[Value.bool m.g, .int .u32 (m.a : Int), .int .u8 (m.p : Int), .int .u8 (m.y : Int), .int .u8 (m.e : Int), .int .u16 (m.b : Int), .int .u16 (m.t : Int)]).toList = ((⟨(s.put 20 p).c, z, false, s.on, s.halted⟩ : St).put 16 m).L.toArray := St.putL _ 16 m (by decide)
       rw [hput2]
       have HS3 : Hid (Sb ((((W1.setCell ⟨w.heap.size, 147, none⟩ (.int .u32 (z : Int))).setCell ⟨w.heap.size, 149, none⟩ (.bool s.on)).setCell ⟨w.heap.size, 148, none⟩ (.bool false)).setRow w.heap.size ((⟨(s.put 20 p).c, z, false, s.on, s.halted⟩ : St).put 16 m).L.toArray) w.heap.size ((⟨(s.put 20 p).c, z, false, s.on, s.halted⟩ : St).put 16 m)) := Lib.hid (blk_row HS2.out _)
       have HR3 : Hid (Blk ((((W1.setCell ⟨w.heap.size, 147, none⟩ (.int .u32 (z : Int))).setCell ⟨w.heap.size, 149, none⟩ (.bool s.on)).setCell ⟨w.heap.size, 148, none⟩ (.bool false)).setRow w.heap.size ((⟨(s.put 20 p).c, z, false, s.on, s.halted⟩ : St).put 16 m).L.toArray) (w.heap.size + 1) 34 ZA) := Lib.hid ((only_row _ w.heap.size ((⟨(s.put 20 p).c, z, false, s.on, s.halted⟩ : St).put 16 m).L.toArray).blk (by omega) (((HR1.out.far (by show w.heap.size + 1 ≠ w.heap.size; omega) _).far (by show w.heap.size + 1 ≠ w.heap.size; omega) _).far (by show w.heap.size + 1 ≠ w.heap.size; omega) _))
       have HO3 : Hid (Below w.heap.size w ((((W1.setCell ⟨w.heap.size, 147, none⟩ (.int .u32 (z : Int))).setCell ⟨w.heap.size, 149, none⟩ (.bool s.on)).setCell ⟨w.heap.size, 148, none⟩ (.bool false)).setRow w.heap.size ((⟨(s.put 20 p).c, z, false, s.on, s.halted⟩ : St).put 16 m).L.toArray)) := Lib.hid ((((HO1.out.setCell (Nat.le_refl _) _).setCell (Nat.le_refl _) _).setCell (Nat.le_refl _) _).trans ((only_row _ w.heap.size ((⟨(s.put 20 p).c, z, false, s.on, s.halted⟩ : St).put 16 m).L.toArray).1 _ (Nat.le_refl _) (((HO1.out.setCell (Nat.le_refl _) _).setCell (Nat.le_refl _) _).setCell (Nat.le_refl _) _).size))
       clear hput2 HS2 HR1 HO1 HS1 x0 x1 x2 x3 x4 x5 x6 t0' t1' t2' f0 f1 f2
       generalize (((W1.setCell ⟨w.heap.size, 147, none⟩ (.int .u32 (z : Int))).setCell ⟨w.heap.size, 149, none⟩ (.bool s.on)).setCell ⟨w.heap.size, 148, none⟩ (.bool false)).setRow w.heap.size ((⟨(s.put 20 p).c, z, false, s.on, s.halted⟩ : St).put 16 m).L.toArray = W3 at *
       have hs16 : ((⟨(s.put 20 p).c, z, false, s.on, s.halted⟩ : St).put 16 m).c 16 = m := St.put_same _ 16 m
       have hs3h : ((⟨(s.put 20 p).c, z, false, s.on, s.halted⟩ : St).put 16 m).halted = s.halted := rfl
       obtain ⟨s3, hs3⟩ : ∃ s3, ((⟨(s.put 20 p).c, z, false, s.on, s.halted⟩ : St).put 16 m) = s3 := ⟨_, rfl⟩
       rw [hs3] at HS3 hs16 hs3h
       have HS3E := Lib.hid hs3
       have hc7 := HS3.out.seven 16 112 (by decide) rfl
       rw [hs16] at hc7
       obtain ⟨z0, -, -, z3, -, -, -⟩ := hc7
       have t3 : W3.cell? ⟨w.heap.size, 150, none⟩ = some (.bool s.halted) := by rw [← hs3h]; exact HS3.out.tail.2.2.2
       have f3 : W3.frozen? ⟨w.heap.size, 150, none⟩ = false := Blk.frozen HS3.out 150
       have hblk : ∀ hv : Bool, Blk (W3.setCell ⟨w.heap.size, 150, none⟩ (.bool hv)) w.heap.size 34 (⟨s3.c, s3.cause, s3.on, s3.was, hv⟩ : St).L.toArray := fun hv => by
         have h1 := Blk.set_ HS3.out 150 (.bool hv)
         rw [s3.setT 3 (.bool hv) ⟨s3.c, s3.cause, s3.on, s3.was, hv⟩ rfl rfl] at h1
         exact h1
       have hend : ∀ hv : Bool, hv = (!m.g || decide (m.y ≠ 0)) → (⟨s3.c, s3.cause, s3.on, s3.was, hv⟩ : St).L.toArray = (trp s z).L.toArray := fun hv h => by
         rw [← hs3, h, ← HM.out, ← HP.out]
         rfl
       have hsz : ∀ hv : Bool, (⟨s3.c, s3.cause, s3.on, s3.was, hv⟩ : St).L.toArray.size = 151 := fun hv => by rw [List.size_toArray]; exact St.len _
       have hone : ∀ hv : Bool, (⟨s3.c, s3.cause, s3.on, s3.was, hv⟩ : St).L.toArray.all (·.oneCell') = true := fun hv => St.one _
       obtain ⟨XA, hXA⟩ : ∃ XA : Bool → Array Value, XA = fun hv => (⟨s3.c, s3.cause, s3.on, s3.was, hv⟩ : St).L.toArray := ⟨_, rfl⟩
       have HST : Hid (∀ hv : Bool, Blk (W3.setCell ⟨w.heap.size, 150, none⟩ (.bool hv)) w.heap.size 34 (XA hv)) := Lib.hid (by rw [hXA]; exact hblk)
       have HXE : Hid (∀ hv : Bool, hv = (!m.g || decide (m.y ≠ 0)) → XA hv = (trp s z).L.toArray) := Lib.hid (by rw [hXA]; exact hend)
       have HXS : Hid (∀ hv : Bool, (XA hv).size = 151) := Lib.hid (by rw [hXA]; exact hsz)
       have HX1 : Hid (∀ hv : Bool, (XA hv).all (·.oneCell') = true) := Lib.hid (by rw [hXA]; exact hone)
       clear hblk hend hsz hone hXA
       have hsr : ∀ hv : Bool, Blk (W3.setCell ⟨w.heap.size, 150, none⟩ (.bool hv)) (w.heap.size + 1) 34 ZA := fun hv => HR3.out.far (by show w.heap.size + 1 ≠ w.heap.size; omega) _
       have HSR := Lib.hid hsr
       have HFR : Hid (∀ hv : Bool, Blk ((W3.setCell ⟨w.heap.size, 150, none⟩ (.bool hv)).setRow (w.heap.size + 1) (XA hv)) (w.heap.size + 1) 34 (XA hv)) := Lib.hid (fun hv => blk_row (hsr hv) _)
       have HFO : Hid (∀ hv : Bool, Below w.heap.size w ((W3.setCell ⟨w.heap.size, 150, none⟩ (.bool hv)).setRow (w.heap.size + 1) (XA hv))) := Lib.hid (fun hv => (HO3.out.setCell (Nat.le_refl _) _).trans ((only_row _ (w.heap.size + 1) (XA hv)).1 _ (Nat.le_succ _) (HO3.out.setCell (Nat.le_refl _) _).size))
       clear hsr
       clear hs3 hs16 hs3h)
    | (refine wpList_load_row rfl 34 (.tmp 2) rfl w.heap.size rfl 34 (XA _) (0, 0) _ (HST.out _) Tryz.underlying34 rfl (by rw [info32s, HXS.out]) ?_)
    | (refine wpList_store_row rfl 34 (.tmp 4) (.tmp 28) rfl (w.heap.size + 1) (XA _) rfl rfl 34 ZA (HSR.out _) (by rw [info32s, HXS.out]) (by rw [HZS.out, HXS.out]) (HX1.out _) ?_))
  · rename_i hg
    exact bodyPost_ret (results_cell_row rfl _ _ (w.heap.size + 1) 34 (XA _) (0, 0) _ rfl (HFR.out _) Tryz.underlying34 rfl (by rw [info32s, HXS.out])) rfl ⟨by rw [HXE.out _ (by rw [hg]; by_cases hy : m.y = 0 <;> simp [hy])], HFO.out _⟩
  · rename_i hg
    exact bodyPost_ret (results_cell_row rfl _ _ (w.heap.size + 1) 34 (XA _) (0, 0) _ rfl (HFR.out _) Tryz.underlying34 rfl (by rw [info32s, HXS.out])) rfl ⟨by rw [HXE.out _ (by simp [hg])], HFO.out _⟩
end Go.Proofs.YtmanoheofloimaaGreatDoor
