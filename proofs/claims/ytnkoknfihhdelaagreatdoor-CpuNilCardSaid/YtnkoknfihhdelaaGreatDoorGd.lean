import Derived.Test.YtnkoknfihhdelaaGreatDoorAz
import Derived.Test.YtnkoknfihhdelaaGreatDoorGb
import Derived.Test.YtnkoknfihhdelaaGreatDoorGa
import Derived.Test.YtnkoknfihhdelaaGreatDoorKE
namespace Go.Proofs.YtnkoknfihhdelaaGreatDoor
open Go.ChangeShapes Go.WideShapes Go.ChangeAt Go.RowKit
set_option linter.unusedVariables false
set_option maxRecDepth 100000
/-- a state: sixteen registers, then Pcc, Mtcc, Mtdc, Mscratch, Mepcc -/
structure St where (c : Nat → Cq) (cause : Nat) (on was halted : Bool)
def St.L (s : St) : List Value := flat s.c 21 ++ [.int .u32 (s.cause : Int), .bool s.on, .bool s.was, .bool s.halted]
theorem St.len (s : St) : s.L.length = 151 := by unfold St.L; rw [List.length_append, flat_len]; rfl
theorem St.cap (s : St) (r j : Nat) (hr : r < 21) (hj : j < 7) : s.L[7 * r + j]? = (s.c r).L[j]? := by
  unfold St.L
  rw [List.getElem?_append_left (by rw [flat_len]; omega)]
  exact flat_at s.c 21 r j hr hj
theorem St.tl (s : St) (j : Nat) : s.L[147 + j]? = [Value.int .u32 (s.cause : Int), .bool s.on, .bool s.was, .bool s.halted][j]? := by
  unfold St.L
  rw [List.getElem?_append_right (by rw [flat_len]; omega), flat_len]
  congr 1
  omega
def St.put (s : St) (r : Nat) (x : Cq) : St := { s with c := upd s.c r x }
theorem St.put_L (s : St) (r : Nat) (x : Cq) (hr : r < 21) : s.L.take (7 * r) ++ (x.L ++ s.L.drop (7 * r + 7)) = (s.put r x).L := by
  show (flat s.c 21 ++ _).take _ ++ (x.L ++ (flat s.c 21 ++ _).drop _) = flat (upd s.c r x) 21 ++ _
  rw [← flat_upd s.c r x 21 hr, List.take_append_of_le_length (by rw [flat_len]; omega), List.drop_append_of_le_length (by rw [flat_len]; omega)]
  simp [List.append_assoc, St.put]
structure Ins where (o rd r1 r2 : Nat) (im : Int)
abbrev Ins.L (i : Ins) : List Value := [.int .u8 (i.o : Int), .int .u8 (i.rd : Int), .int .u8 (i.r1 : Int), .int .u8 (i.r2 : Int), .int .i32 i.im]
structure Dn where (cause : Nat) (tc : Value) (told : Bool) (out dst : Nat)
abbrev Dn.L (d : Dn) : List Value := [.int .u32 (d.cause : Int), d.tc, .bool d.told, .int .u32 (d.out : Int), .int .u32 (d.dst : Int)]
/-- what a step works on -/
structure WK where (mp : Value) (A N : St) (i : Ins) (ans : Nat) (d : Dn)
def WK.L (k : WK) : List Value := k.mp :: (k.A.L ++ (k.N.L ++ (k.i.L ++ (.int .u32 (k.ans : Int) :: k.d.L))))
theorem WK.len (k : WK) : k.L.length = 314 := by
  unfold WK.L
  simp [St.len]
theorem WK.mpc (k : WK) : k.L[0]? = some k.mp := rfl
theorem WK.atA (k : WK) (j : Nat) (hj : j < 151) : k.L[1 + j]? = k.A.L[j]? := by
  unfold WK.L
  rw [Nat.add_comm, List.getElem?_cons_succ, List.getElem?_append_left (by rw [St.len]; omega)]
theorem WK.atN (k : WK) (j : Nat) (hj : j < 151) : k.L[152 + j]? = k.N.L[j]? := by
  unfold WK.L
  rw [show 152 + j = (151 + j) + 1 by omega, List.getElem?_cons_succ, List.getElem?_append_right (by rw [St.len]; omega), St.len, List.getElem?_append_left (by rw [St.len]; omega)]
  congr 1
  omega
theorem WK.atT (k : WK) (j : Nat) : k.L[303 + j]? = (k.i.L ++ (.int .u32 (k.ans : Int) :: k.d.L))[j]? := by
  unfold WK.L
  rw [show 303 + j = (302 + j) + 1 by omega, List.getElem?_cons_succ, List.getElem?_append_right (by rw [St.len]; omega), St.len, List.getElem?_append_right (by rw [St.len]; omega), St.len]
  congr 1
  omega
/-- the block of a step -/
def Wk (w : World) (g : Nat) (k : WK) : Prop := Blk w g 81 k.L.toArray
theorem Wk.cellA {w : World} {g : Nat} {k : WK} (h : Wk w g k) (r j : Nat) (hr : r < 21) (hj : j < 7) (o : Nat) (ho : o = 1 + (7 * r + j)) : w.cell? ⟨g, o, none⟩ = (k.A.c r).L[j]? := by
  subst ho
  rw [Blk.cell h, List.getElem?_toArray, k.atA _ (by omega), k.A.cap r j hr hj]
theorem Wk.cellN {w : World} {g : Nat} {k : WK} (h : Wk w g k) (r j : Nat) (hr : r < 21) (hj : j < 7) (o : Nat) (ho : o = 152 + (7 * r + j)) : w.cell? ⟨g, o, none⟩ = (k.N.c r).L[j]? := by
  subst ho
  rw [Blk.cell h, List.getElem?_toArray, k.atN _ (by omega), k.N.cap r j hr hj]
theorem Wk.cellT {w : World} {g : Nat} {k : WK} (h : Wk w g k) (j : Nat) (o : Nat) (ho : o = 303 + j) : w.cell? ⟨g, o, none⟩ = (k.i.L ++ (.int .u32 (k.ans : Int) :: k.d.L))[j]? := by
  subst ho
  rw [Blk.cell h, List.getElem?_toArray, k.atT]
/-- seven cells of a register ahead -/
theorem Wk.sevenA {w : World} {g : Nat} {k : WK} (h : Wk w g k) (r : Nat) (hr : r < 21) : ∀ j v, (k.A.c r).L[j]? = some v → k.L.toArray[1 + 7 * r + j]? = some v := fun j v hv => by
  have hj : j < 7 := by
    have := (List.getElem?_eq_some_iff.1 hv).1
    simpa using this
  rw [List.getElem?_toArray, Nat.add_assoc, k.atA _ (by omega), k.A.cap r j hr hj]
  exact hv
def WK.putN (k : WK) (r : Nat) (x : Cq) : WK := { k with N := k.N.put r x }
theorem WK.putN_L (k : WK) (r : Nat) (x : Cq) (hr : r < 21) : putA k.L.toArray (152 + 7 * r) x.L = (k.putN r x).L.toArray := by
  unfold putA WK.putN
  congr 1
  show k.L.take (152 + 7 * r) ++ (x.L ++ k.L.drop (152 + 7 * r + 7)) = _
  unfold WK.L
  show (k.mp :: (k.A.L ++ (k.N.L ++ _))).take _ ++ (x.L ++ (k.mp :: (k.A.L ++ (k.N.L ++ _))).drop _) = k.mp :: (k.A.L ++ ((k.N.put r x).L ++ _))
  rw [← St.put_L k.N r x hr, show 152 + 7 * r + 7 = (151 + (7 * r + 7)) + 1 by omega, show 152 + 7 * r = (151 + 7 * r) + 1 by omega]
  rw [List.take_succ_cons, List.drop_succ_cons, List.take_append, List.drop_append, St.len, List.take_of_length_le (by rw [St.len]; omega), List.drop_of_length_le (by rw [St.len]; omega)]
  rw [show 151 + 7 * r - 151 = 7 * r by omega, show 151 + (7 * r + 7) - 151 = 7 * r + 7 by omega, List.take_append_of_le_length (by rw [St.len]; omega), List.drop_append_of_le_length (by rw [St.len]; omega)]
  simp [List.append_assoc]
theorem blk_row {w : World} {g : Nat} {t : TypeId} {C : Array Value} (h : Blk w g t C) (D : Array Value) : Blk (w.setRow g D) g t D := setRow_heap w g C D t (0, 0) h
theorem only_row (w : World) (g : Nat) (D : Array Value) : Only g w (w.setRow g D) := by
  have hb : ∀ k, k ≠ g → (w.setRow g D).heap[k]? = w.heap[k]? := fun k hk => by
    have hk2 : ¬ g = k := fun e => hk e.symm
    unfold World.setRow
    simp [Array.getElem?_modify, hk2]
  exact ⟨fun B hB hs => ⟨rfl, rfl, rfl, by unfold World.setRow; simp, fun k hk => hb k (by omega)⟩, fun k hk _ => hb k hk⟩
theorem WK.one (k : WK) : True := trivial
set_option maxHeartbeats 1000000 in
theorem c60 (g : Nat) (k : WK) (w : World) (h : Wk w g k) : Calls Tryz.prog 60 #[.pointer (some ⟨g, 0, none⟩)] w fun e w' => e = .returned (.int .u32 ((k.A.c 16).a : Int)) ∧ w = w' := by
  have x : w.cell? ⟨g, 114, none⟩ = some (.int .u32 ((k.A.c 16).a : Int)) := h.cellA 16 1 (by decide) (by decide) 114 rfl
  generalize (k.A.c 16).a = a at *
  clear h
  go_enter Tryz.func60, Tryz.ntmps60
  go_wp2_with fail
  go_ret
  exact ⟨rfl, rfl⟩
set_option maxHeartbeats 1000000 in
theorem c97 (g : Nat) (k : WK) (w : World) (h : Wk w g k) : Calls Tryz.prog 97 #[.pointer (some ⟨g, 0, none⟩)] w fun e w' => e = .returned (.int .u32 (k.i.im % 4294967296)) ∧ w = w' := by
  have x : w.cell? ⟨g, 307, none⟩ = some (.int .i32 k.i.im) := h.cellT 4 307 rfl
  generalize k.i.im = a at *
  clear h
  go_enter Tryz.func97, Tryz.ntmps97
  go_wp2_with fail
  go_ret
  exact ⟨rfl, rfl⟩
end Go.Proofs.YtnkoknfihhdelaaGreatDoor
namespace Go.Proofs.YtnkoknfihhdelaaGreatDoor
open Go.ChangeShapes Go.WideShapes Go.ChangeAt Go.RowKit
set_option linter.unusedVariables false
set_option maxRecDepth 100000
/-- the index of a register, read -/
theorem Wk.seven {w : World} {g : Nat} {k : WK} (h : Wk w g k) (r : Nat) (hr : r < 16) :
    w.cell? ⟨g, 1 + r * 7, none⟩ = some (.bool (k.A.c r).g) ∧ w.cell? ⟨g, 1 + r * 7 + 1, none⟩ = some (.int .u32 ((k.A.c r).a : Int)) ∧ w.cell? ⟨g, 1 + r * 7 + 2, none⟩ = some (.int .u8 ((k.A.c r).p : Int)) ∧
    w.cell? ⟨g, 1 + r * 7 + 3, none⟩ = some (.int .u8 ((k.A.c r).y : Int)) ∧ w.cell? ⟨g, 1 + r * 7 + 4, none⟩ = some (.int .u8 ((k.A.c r).e : Int)) ∧ w.cell? ⟨g, 1 + r * 7 + 5, none⟩ = some (.int .u16 ((k.A.c r).b : Int)) ∧ w.cell? ⟨g, 1 + r * 7 + 6, none⟩ = some (.int .u16 ((k.A.c r).t : Int)) :=
  ⟨h.cellA r 0 (by omega) (by decide) _ (by omega), h.cellA r 1 (by omega) (by decide) _ (by omega), h.cellA r 2 (by omega) (by decide) _ (by omega), h.cellA r 3 (by omega) (by decide) _ (by omega), h.cellA r 4 (by omega) (by decide) _ (by omega), h.cellA r 5 (by omega) (by decide) _ (by omega), h.cellA r 6 (by omega) (by decide) _ (by omega)⟩
set_option maxHeartbeats 800000 in
theorem c136 (g : Nat) (k : WK) (w : World) (h : Wk w g k) (r : Nat) (q : Cq) (hrq : k.i.r1 = r) (hq : k.A.c r = q) (hr : r < 16) : Calls Tryz.prog 136 #[.pointer (some ⟨g, 0, none⟩)] w fun e w' => e = .returned q.v ∧ Below w.heap.size w w' := by
  have xr : w.cell? ⟨g, 305, none⟩ = some (.int .u8 (r : Int)) := by rw [← hrq]; exact h.cellT 2 305 rfl
  have hsv := h.seven r hr
  rw [hq] at hsv
  have HW := Lib.hid h
  have HS := Lib.hid hsv
  have hl := Blk.lt h
  clear h hrq hsv hq
  have hi : ((r : Int) < 16) = True := eq_true (by omega)
  go_enter Tryz.func136, Tryz.ntmps136
  go_wp2_with fail
  have hR : Blk (w.alloc (.cells nCap 29)) w.heap.size 29 nCap := Blk.new w 29 nCap
  have hK : Wk (w.alloc (.cells nCap 29)) g k := Blk.alloc HW.out _
  have hO : Below w.heap.size w (w.alloc (.cells nCap 29)) := (Below.refl _ _).alloc (Nat.le_refl _) _
  have hc : ∀ o, (w.alloc (.cells nCap 29)).cell? ⟨g, o, none⟩ = w.cell? ⟨g, o, none⟩ := fun o => by rw [Blk.cell hK, Blk.cell HW.out]
  have xr2 : (w.alloc (.cells nCap 29)).cell? ⟨g, 305, none⟩ = some (.int .u8 (r : Int)) := by rw [hc]; exact xr
  obtain ⟨x0, x1, x2, x3, x4, x5, x6⟩ := HS.out
  rw [← hc] at x0 x1 x2 x3 x4 x5 x6
  have y0 := hR.cell 0
  have y1 := hR.cell 1
  have y2 := hR.cell 2
  have y3 := hR.cell 3
  have y4 := hR.cell 4
  have y5 := hR.cell 5
  have y6 := hR.cell 6
  simp only [nCap, List.getElem?_toArray, List.getElem?_cons_zero, List.getElem?_cons_succ] at y0 y1 y2 y3 y4 y5 y6
  have f0 := hR.frozen 0
  have f1 := hR.frozen 1
  have f2 := hR.frozen 2
  have f3 := hR.frozen 3
  have f4 := hR.frozen 4
  have f5 := hR.frozen 5
  have f6 := hR.frozen 6
  have HO := Lib.hid hO
  have HB := Lib.hid hR
  clear hR hK hO xr hc
  generalize w.alloc (.cells nCap 29) = W at *
  go_still_tail 11, (by kernel_rfl)
  go_wp2_with fail
  refine bodyPost_ret (v := q.v) (by simp [results, Tryz.results136, go_sem, y0, y1, y2, y3, y4, y5, y6]) rfl ⟨rfl, ?_⟩
  exact ((((((((HO.out).setCell (Nat.le_refl _) _).setCell (Nat.le_refl _) _).setCell (Nat.le_refl _) _).setCell (Nat.le_refl _) _).setCell (Nat.le_refl _) _).setCell (Nat.le_refl _) _).setCell (Nat.le_refl _) _).drew
set_option maxHeartbeats 800000 in
theorem c98 (g : Nat) (k : WK) (w : World) (h : Wk w g k) (r : Nat) (q : Cq) (hrq : k.i.r2 = r) (hq : k.A.c r = q) (hr : r < 16) : Calls Tryz.prog 98 #[.pointer (some ⟨g, 0, none⟩)] w fun e w' => e = .returned q.v ∧ Below w.heap.size w w' := by
  have xr : w.cell? ⟨g, 306, none⟩ = some (.int .u8 (r : Int)) := by rw [← hrq]; exact h.cellT 3 306 rfl
  have hsv := h.seven r hr
  rw [hq] at hsv
  have HW := Lib.hid h
  have HS := Lib.hid hsv
  have hl := Blk.lt h
  clear h hrq hsv hq
  have hi : ((r : Int) < 16) = True := eq_true (by omega)
  go_enter Tryz.func98, Tryz.ntmps98
  go_wp2_with fail
  have hR : Blk (w.alloc (.cells nCap 29)) w.heap.size 29 nCap := Blk.new w 29 nCap
  have hK : Wk (w.alloc (.cells nCap 29)) g k := Blk.alloc HW.out _
  have hO : Below w.heap.size w (w.alloc (.cells nCap 29)) := (Below.refl _ _).alloc (Nat.le_refl _) _
  have hc : ∀ o, (w.alloc (.cells nCap 29)).cell? ⟨g, o, none⟩ = w.cell? ⟨g, o, none⟩ := fun o => by rw [Blk.cell hK, Blk.cell HW.out]
  have xr2 : (w.alloc (.cells nCap 29)).cell? ⟨g, 306, none⟩ = some (.int .u8 (r : Int)) := by rw [hc]; exact xr
  obtain ⟨x0, x1, x2, x3, x4, x5, x6⟩ := HS.out
  rw [← hc] at x0 x1 x2 x3 x4 x5 x6
  have y0 := hR.cell 0
  have y1 := hR.cell 1
  have y2 := hR.cell 2
  have y3 := hR.cell 3
  have y4 := hR.cell 4
  have y5 := hR.cell 5
  have y6 := hR.cell 6
  simp only [nCap, List.getElem?_toArray, List.getElem?_cons_zero, List.getElem?_cons_succ] at y0 y1 y2 y3 y4 y5 y6
  have f0 := hR.frozen 0
  have f1 := hR.frozen 1
  have f2 := hR.frozen 2
  have f3 := hR.frozen 3
  have f4 := hR.frozen 4
  have f5 := hR.frozen 5
  have f6 := hR.frozen 6
  have HO := Lib.hid hO
  have HB := Lib.hid hR
  clear hR hK hO xr hc
  generalize w.alloc (.cells nCap 29) = W at *
  go_still_tail 11, (by kernel_rfl)
  go_wp2_with fail
  refine bodyPost_ret (v := q.v) (by simp [results, Tryz.results98, go_sem, y0, y1, y2, y3, y4, y5, y6]) rfl ⟨rfl, ?_⟩
  exact ((((((((HO.out).setCell (Nat.le_refl _) _).setCell (Nat.le_refl _) _).setCell (Nat.le_refl _) _).setCell (Nat.le_refl _) _).setCell (Nat.le_refl _) _).setCell (Nat.le_refl _) _).setCell (Nat.le_refl _) _).drew
end Go.Proofs.YtnkoknfihhdelaaGreatDoor
namespace Go.Proofs.YtnkoknfihhdelaaGreatDoor
open Go.ChangeShapes Go.WideShapes Go.ChangeAt Go.RowKit
set_option linter.unusedVariables false
set_option maxRecDepth 100000
theorem info29s : (Tryz.prog.info? 29).map (·.size) = some 7 := by kernel_rfl
theorem arr_all (q : Cq) : (#[Value.bool q.g, .int .u32 (q.a : Int), .int .u8 (q.p : Int), .int .u8 (q.y : Int), .int .u8 (q.e : Int), .int .u16 (q.b : Int), .int .u16 (q.t : Int)]).all (·.oneCell') = true := by simp [Value.oneCell']
set_option maxHeartbeats 800000 in
theorem c95 (g : Nat) (k : WK) (q : Cq) (w : World) (h : Wk w g k) (r : Nat) (hrq : k.i.rd = r) (hr : r < 16) : Calls Tryz.prog 95 #[.pointer (some ⟨g, 0, none⟩), q.v] w fun e w' => e = .returned (.tuple #[]) ∧ Wk w' g (k.putN r q) ∧ Only g w w' := by
  have xr : w.cell? ⟨g, 304, none⟩ = some (.int .u8 (r : Int)) := by rw [← hrq]; exact h.cellT 1 304 rfl
  have HW := Lib.hid h
  have hl := Blk.lt h
  have HP := Lib.hid (k.putN_L r q (by omega))
  clear h hrq
  have hi : ((r : Int) < 16) = True := eq_true (by omega)
  go_enter Tryz.func95, Tryz.ntmps95
  go_wp2_with fail
  have hR := Blk.new w 29 #[.bool q.g, .int .u32 (q.a : Int), .int .u8 (q.p : Int), .int .u8 (q.y : Int), .int .u8 (q.e : Int), .int .u16 (q.b : Int), .int .u16 (q.t : Int)]
  have hK : Wk (w.alloc (.cells #[.bool q.g, .int .u32 (q.a : Int), .int .u8 (q.p : Int), .int .u8 (q.y : Int), .int .u8 (q.e : Int), .int .u16 (q.b : Int), .int .u16 (q.t : Int)] 29)) g k := Blk.alloc HW.out _
  have hO : Only g w (w.alloc (.cells #[.bool q.g, .int .u32 (q.a : Int), .int .u8 (q.p : Int), .int .u8 (q.y : Int), .int .u8 (q.e : Int), .int .u16 (q.b : Int), .int .u16 (q.t : Int)] 29)) := (Only.refl _ _).alloc _
  have hc : ∀ o, (w.alloc (.cells #[.bool q.g, .int .u32 (q.a : Int), .int .u8 (q.p : Int), .int .u8 (q.y : Int), .int .u8 (q.e : Int), .int .u16 (q.b : Int), .int .u16 (q.t : Int)] 29)).cell? ⟨g, o, none⟩ = w.cell? ⟨g, o, none⟩ := fun o => by rw [Blk.cell hK, Blk.cell HW.out]
  rw [← hc] at xr
  have y0 := hR.cell 0
  have y1 := hR.cell 1
  have y2 := hR.cell 2
  have y3 := hR.cell 3
  have y4 := hR.cell 4
  have y5 := hR.cell 5
  have y6 := hR.cell 6
  simp only [List.getElem?_toArray, List.getElem?_cons_zero, List.getElem?_cons_succ] at y0 y1 y2 y3 y4 y5 y6
  have HO := Lib.hid hO
  have HK := Lib.hid hK
  clear hR hK hO hc
  generalize w.alloc (.cells #[.bool q.g, .int .u32 (q.a : Int), .int .u8 (q.p : Int), .int .u8 (q.y : Int), .int .u8 (q.e : Int), .int .u16 (q.b : Int), .int .u16 (q.t : Int)] 29) = W at *
  go_still_tail 11, (by kernel_rfl)
  change wpList _ _ _ _ _ (World.drew _)
  refine wpList_store_sub rfl 29 (.tmp 14) (.tmp 10) rfl g (152 + r * 7) #[.bool q.g, .int .u32 (q.a : Int), .int .u8 (q.p : Int), .int .u8 (q.y : Int), .int .u8 (q.e : Int), .int .u16 (q.b : Int), .int .u16 (q.t : Int)] rfl rfl 81 k.L.toArray HK.out.drew info29s (by have := k.len; simp; omega) (arr_all q) ?_
  have hput : putA k.L.toArray (152 + r * 7) (#[Value.bool q.g, .int .u32 (q.a : Int), .int .u8 (q.p : Int), .int .u8 (q.y : Int), .int .u8 (q.e : Int), .int .u16 (q.b : Int), .int .u16 (q.t : Int)]).toList = (k.putN r q).L.toArray := by
    rw [Nat.mul_comm r 7]
    exact HP.out
  rw [hput]
  have HK2 := Lib.hid (blk_row (HK.out.drew) (k.putN r q).L.toArray)
  have HO2 := Lib.hid ((HO.out.drew).trans (only_row W.drew g (k.putN r q).L.toArray))
  clear hput HP
  generalize (W.drew.setRow g (k.putN r q).L.toArray) = W2 at *
  go_wp2_with fail
  go_end0
  exact ⟨rfl, HK2.out, HO2.out⟩
end Go.Proofs.YtnkoknfihhdelaaGreatDoor
namespace Go.Proofs.YtnkoknfihhdelaaGreatDoor
open Go.ChangeShapes Go.WideShapes Go.ChangeAt Go.RowKit
set_option linter.unusedVariables false
set_option maxRecDepth 100000
/-- with another address -/
def Cq.sa (q : Cq) (n : Nat) : Cq := ⟨q.g && (decide (q.y = 0) && decide (Ca.bs (q.e % 16) (q.b % 512) q.a = Ca.bs (q.e % 16) (q.b % 512) n)), n, q.p, q.y, q.e, q.b, q.t⟩
theorem sa_call (q : Cq) (hq : q.fit) (n : Nat) (hn : n < 4294967296) (w : World) : Calls Tryz.prog 91 #[q.v, .int .u32 (n : Int)] w fun e w' => e = .returned (q.sa n).v ∧ Below w.heap.size w w' :=
  Ca.c18b q.g q.a q.p q.y q.e q.b q.t n hq.1 hq.2.2.1 hq.2.2.2.1 hq.2.2.2.2.1 hq.2.2.2.2.2 hn w
theorem Wk.sevenP {w : World} {g : Nat} {k : WK} (h : Wk w g k) (r o : Nat) (hr : r < 21) (ho : o = 1 + 7 * r) :
    w.cell? ⟨g, o, none⟩ = some (.bool (k.A.c r).g) ∧ w.cell? ⟨g, o + 1, none⟩ = some (.int .u32 ((k.A.c r).a : Int)) ∧ w.cell? ⟨g, o + 2, none⟩ = some (.int .u8 ((k.A.c r).p : Int)) ∧
    w.cell? ⟨g, o + 3, none⟩ = some (.int .u8 ((k.A.c r).y : Int)) ∧ w.cell? ⟨g, o + 4, none⟩ = some (.int .u8 ((k.A.c r).e : Int)) ∧ w.cell? ⟨g, o + 5, none⟩ = some (.int .u16 ((k.A.c r).b : Int)) ∧ w.cell? ⟨g, o + 6, none⟩ = some (.int .u16 ((k.A.c r).t : Int)) :=
  ⟨h.cellA r 0 hr (by decide) _ (by omega), h.cellA r 1 hr (by decide) _ (by omega), h.cellA r 2 hr (by decide) _ (by omega), h.cellA r 3 hr (by decide) _ (by omega), h.cellA r 4 hr (by decide) _ (by omega), h.cellA r 5 hr (by decide) _ (by omega), h.cellA r 6 hr (by decide) _ (by omega)⟩
set_option maxHeartbeats 800000 in
/-- lead: where it goes on -/
theorem c59 (g : Nat) (k : WK) (q : Cq) (n : Nat) (w : World) (h : Wk w g k) (hq : k.A.c 16 = q) (hf : q.fit) (hn : n < 4294967296) : Calls Tryz.prog 59 #[.pointer (some ⟨g, 0, none⟩), .int .u32 (n : Int)] w fun e w' => e = .returned (.tuple #[]) ∧ Wk w' g (k.putN 16 (q.sa n)) ∧ Only g w w' := by
  have hsv := h.sevenP 16 113 (by decide) rfl
  rw [hq] at hsv
  have HW := Lib.hid h
  have hl := Blk.lt h
  have K := Lib.hid (sa_call q hf n hn w)
  obtain ⟨q2, hq2⟩ : ∃ q2, q.sa n = q2 := ⟨_, rfl⟩
  rw [hq2] at K
  have HP := Lib.hid (k.putN_L 16 q2 (by decide))
  rw [hq2]
  obtain ⟨x0, x1, x2, x3, x4, x5, x6⟩ := hsv
  clear h hq hf hq2
  go_enter Tryz.func59, Tryz.ntmps59
  go_wp2_with fail
  refine K.out.mono ?_
  rintro _ w1 ⟨rfl, hb⟩
  have HB := Lib.hid hb
  clear hb x0 x1 x2 x3 x4 x5 x6 K
  have HK : Hid (Wk w1 g k) := Lib.hid (Blk.below HW.out HB.out hl)
  go_wp2_with (refine wpList_store_sub rfl 29 (.tmp 14) (.tmp 11) rfl g 264 #[.bool q2.g, .int .u32 (q2.a : Int), .int .u8 (q2.p : Int), .int .u8 (q2.y : Int), .int .u8 (q2.e : Int), .int .u16 (q2.b : Int), .int .u16 (q2.t : Int)] rfl rfl 81 k.L.toArray HK.out info29s (by have := k.len; simp; omega) (arr_all q2) ?_)
  have hput : putA k.L.toArray 264 (#[Value.bool q2.g, .int .u32 (q2.a : Int), .int .u8 (q2.p : Int), .int .u8 (q2.y : Int), .int .u8 (q2.e : Int), .int .u16 (q2.b : Int), .int .u16 (q2.t : Int)]).toList = (k.putN 16 q2).L.toArray := HP.out
  rw [hput]
  have HK2 := Lib.hid (blk_row HK.out (k.putN 16 q2).L.toArray)
  have HO2 := Lib.hid (((Only.refl g w).below HB.out).trans (only_row w1 g (k.putN 16 q2).L.toArray))
  clear hput HP
  generalize (w1.setRow g (k.putN 16 q2).L.toArray) = W2 at *
  go_wp2_with fail
  go_end0
  exact ⟨rfl, HK2.out, HO2.out⟩
end Go.Proofs.YtnkoknfihhdelaaGreatDoor
