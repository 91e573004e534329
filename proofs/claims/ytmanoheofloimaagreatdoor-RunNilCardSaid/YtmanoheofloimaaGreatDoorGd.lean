import Derived.Test.YtmanoheofloimaaGreatDoorAz
import Derived.Test.YtmanoheofloimaaGreatDoorGb
import Derived.Test.YtmanoheofloimaaGreatDoorGa
import Derived.Test.YtmanoheofloimaaGreatDoorGg
import Derived.Deep.DeepCutAuto
import Derived.Deep.CutBlock
namespace Go.Proofs.YtmanoheofloimaaGreatDoor
open Go.ChangeShapes Go.WideShapes Go.ChangeAt Go.RowKit
set_option linter.unusedVariables false
set_option maxRecDepth 100000
/-- a state: sixteen registers, then Pcc, Mtcc, Mtdc, Mscratch, Mepcc -/
structure St where (c : Nat → Cq) (cause : Nat) (on was halted : Bool)
def St.L (s : St) : List Value := flat s.c 21 ++ [.int .u32 (s.cause : Int), .bool s.on, .bool s.was, .bool s.halted]
theorem St.len (s : St) : s.L.length = 151 := by unfold St.L; rw [List.length_append, flat_len]; rfl
theorem St.cap (s : St) (r j : Nat) (hr : r < 21) (hj : j < 7) : s.L[7 * r + j]? = (s.c r).L[j]? := by
  unfold St.L
  rw [List.getElem?_append_left (by rw [flat_len]; omega)]
  exact flat_at s.c 21 r j hr hj
theorem St.tl (s : St) (j : Nat) : s.L[147 + j]? = [Value.int .u32 (s.cause : Int), .bool s.on, .bool s.was, .bool s.halted][j]? := by
  unfold St.L
  rw [List.getElem?_append_right (by rw [flat_len]; omega), flat_len]
  congr 1
  omega
def St.put (s : St) (r : Nat) (x : Cq) : St := { s with c := upd s.c r x }
theorem St.put_L (s : St) (r : Nat) (x : Cq) (hr : r < 21) : s.L.take (7 * r) ++ (x.L ++ s.L.drop (7 * r + 7)) = (s.put r x).L := by
  show (flat s.c 21 ++ _).take _ ++ (x.L ++ (flat s.c 21 ++ _).drop _) = flat (upd s.c r x) 21 ++ _
  rw [← flat_upd s.c r x 21 hr, List.take_append_of_le_length (by rw [flat_len]; omega), List.drop_append_of_le_length (by rw [flat_len]; omega)]
  simp [List.append_assoc, St.put]
structure Ins where (o rd r1 r2 : Nat) (im : Int)
abbrev Ins.L (i : Ins) : List Value := [.int .u8 (i.o : Int), .int .u8 (i.rd : Int), .int .u8 (i.r1 : Int), .int .u8 (i.r2 : Int), .int .i32 i.im]
structure Dn where (cause : Nat) (tc : Value) (told : Bool) (out dst : Nat)
abbrev Dn.L (d : Dn) : List Value := [.int .u32 (d.cause : Int), d.tc, .bool d.told, .int .u32 (d.out : Int), .int .u32 (d.dst : Int)]
/-- what a step works on -/
structure WK where (mp : Value) (A N : St) (i : Ins) (ans : Nat) (d : Dn)
def WK.L (k : WK) : List Value := k.mp :: (k.A.L ++ (k.N.L ++ (k.i.L ++ (.int .u32 (k.ans : Int) :: k.d.L))))
theorem WK.len (k : WK) : k.L.length = 314 := by
  unfold WK.L
  simp [St.len]
theorem WK.atA (k : WK) (j : Nat) (hj : j < 151) : k.L[1 + j]? = k.A.L[j]? := by
  unfold WK.L
  rw [Nat.add_comm, List.getElem?_cons_succ, List.getElem?_append_left (by rw [St.len]; omega)]
theorem WK.atN (k : WK) (j : Nat) (hj : j < 151) : k.L[152 + j]? = k.N.L[j]? := by
  unfold WK.L
  rw [show 152 + j = (151 + j) + 1 by omega, List.getElem?_cons_succ, List.getElem?_append_right (by rw [St.len]; omega), St.len, List.getElem?_append_left (by rw [St.len]; omega)]
  congr 1
  omega
theorem WK.atT (k : WK) (j : Nat) : k.L[303 + j]? = (k.i.L ++ (.int .u32 (k.ans : Int) :: k.d.L))[j]? := by
  unfold WK.L
  rw [show 303 + j = (302 + j) + 1 by omega, List.getElem?_cons_succ, List.getElem?_append_right (by rw [St.len]; omega), St.len, List.getElem?_append_right (by rw [St.len]; omega), St.len]
  congr 1
  omega
/-- the block of a step -/
def Wk (w : World) (g : Nat) (k : WK) : Prop := Blk w g 78 k.L.toArray
theorem Wk.cellA {w : World} {g : Nat} {k : WK} (h : Wk w g k) (r j : Nat) (hr : r < 21) (hj : j < 7) (o : Nat) (ho : o = 1 + (7 * r + j)) : w.cell? ⟨g, o, none⟩ = (k.A.c r).L[j]? := by
  subst ho
  rw [Blk.cell h, List.getElem?_toArray, k.atA _ (by omega), k.A.cap r j hr hj]
def WK.putN (k : WK) (r : Nat) (x : Cq) : WK := { k with N := k.N.put r x }
theorem WK.putN_L (k : WK) (r : Nat) (x : Cq) (hr : r < 21) : putA k.L.toArray (152 + 7 * r) x.L = (k.putN r x).L.toArray := by
  unfold putA WK.putN
  congr 1
  show k.L.take (152 + 7 * r) ++ (x.L ++ k.L.drop (152 + 7 * r + 7)) = _
  unfold WK.L
  show (k.mp :: (k.A.L ++ (k.N.L ++ _))).take _ ++ (x.L ++ (k.mp :: (k.A.L ++ (k.N.L ++ _))).drop _) = k.mp :: (k.A.L ++ ((k.N.put r x).L ++ _))
  rw [← St.put_L k.N r x hr, show 152 + 7 * r + 7 = (151 + (7 * r + 7)) + 1 by omega, show 152 + 7 * r = (151 + 7 * r) + 1 by omega]
  rw [List.take_succ_cons, List.drop_succ_cons, List.take_append, List.drop_append, St.len, List.take_of_length_le (by rw [St.len]; omega), List.drop_of_length_le (by rw [St.len]; omega)]
  rw [show 151 + 7 * r - 151 = 7 * r by omega, show 151 + (7 * r + 7) - 151 = 7 * r + 7 by omega, List.take_append_of_le_length (by rw [St.len]; omega), List.drop_append_of_le_length (by rw [St.len]; omega)]
  simp [List.append_assoc]
theorem blk_row {w : World} {g : Nat} {t : TypeId} {C : Array Value} (h : Blk w g t C) (D : Array Value) : Blk (w.setRow g D) g t D := setRow_heap w g C D t (0, 0) h
theorem only_row (w : World) (g : Nat) (D : Array Value) : Only g w (w.setRow g D) := by
  have hb : ∀ k, k ≠ g → (w.setRow g D).heap[k]? = w.heap[k]? := fun k hk => by
    have hk2 : ¬ g = k := fun e => hk e.symm
    unfold World.setRow
    simp [Array.getElem?_modify, hk2]
  exact ⟨fun B hB hs => ⟨rfl, rfl, rfl, by unfold World.setRow; simp, fun k hk => hb k (by omega)⟩, fun k hk _ => hb k hk⟩
theorem WK.one (k : WK) : True := trivial
set_option maxHeartbeats 1000000 in
theorem c60 (g : Nat) (k : WK) (w : World) (h : Wk w g k) : Calls Tryz.prog 27 #[.pointer (some ⟨g, 0, none⟩)] w fun e w' => e = .returned (.int .u32 ((k.A.c 16).a : Int)) ∧ w = w' := by
  have x : w.cell? ⟨g, 114, none⟩ = some (.int .u32 ((k.A.c 16).a : Int)) := h.cellA 16 1 (by decide) (by decide) 114 rfl
  generalize (k.A.c 16).a = a at *
  clear h
  go_enter Tryz.func27, Tryz.ntmps27
  go_wp2_with fail
  go_ret
  exact ⟨rfl, rfl⟩
end Go.Proofs.YtmanoheofloimaaGreatDoor
namespace Go.Proofs.YtmanoheofloimaaGreatDoor
open Go.ChangeShapes Go.WideShapes Go.ChangeAt Go.RowKit
set_option linter.unusedVariables false
set_option maxRecDepth 100000
/-- the index of a register, read -/
theorem Wk.seven {w : World} {g : Nat} {k : WK} (h : Wk w g k) (r : Nat) (hr : r < 16) :
    w.cell? ⟨g, 1 + r * 7, none⟩ = some (.bool (k.A.c r).g) ∧ w.cell? ⟨g, 1 + r * 7 + 1, none⟩ = some (.int .u32 ((k.A.c r).a : Int)) ∧ w.cell? ⟨g, 1 + r * 7 + 2, none⟩ = some (.int .u8 ((k.A.c r).p : Int)) ∧
    w.cell? ⟨g, 1 + r * 7 + 3, none⟩ = some (.int .u8 ((k.A.c r).y : Int)) ∧ w.cell? ⟨g, 1 + r * 7 + 4, none⟩ = some (.int .u8 ((k.A.c r).e : Int)) ∧ w.cell? ⟨g, 1 + r * 7 + 5, none⟩ = some (.int .u16 ((k.A.c r).b : Int)) ∧ w.cell? ⟨g, 1 + r * 7 + 6, none⟩ = some (.int .u16 ((k.A.c r).t : Int)) :=
  ⟨h.cellA r 0 (by omega) (by decide) _ (by omega), h.cellA r 1 (by omega) (by decide) _ (by omega), h.cellA r 2 (by omega) (by decide) _ (by omega), h.cellA r 3 (by omega) (by decide) _ (by omega), h.cellA r 4 (by omega) (by decide) _ (by omega), h.cellA r 5 (by omega) (by decide) _ (by omega), h.cellA r 6 (by omega) (by decide) _ (by omega)⟩
end Go.Proofs.YtmanoheofloimaaGreatDoor
namespace Go.Proofs.YtmanoheofloimaaGreatDoor
open Go.ChangeShapes Go.WideShapes Go.ChangeAt Go.RowKit
set_option linter.unusedVariables false
set_option maxRecDepth 100000
theorem info29s : (Tryz.prog.info? 31).map (·.size) = some 7 := by kernel_rfl
theorem arr_all (q : Cq) : (#[Value.bool q.g, .int .u32 (q.a : Int), .int .u8 (q.p : Int), .int .u8 (q.y : Int), .int .u8 (q.e : Int), .int .u16 (q.b : Int), .int .u16 (q.t : Int)]).all (·.oneCell') = true := by simp [Value.oneCell']
end Go.Proofs.YtmanoheofloimaaGreatDoor
namespace Go.Proofs.YtmanoheofloimaaGreatDoor
open Go.ChangeShapes Go.WideShapes Go.ChangeAt Go.RowKit
set_option linter.unusedVariables false
set_option maxRecDepth 100000
theorem Wk.sevenP {w : World} {g : Nat} {k : WK} (h : Wk w g k) (r o : Nat) (hr : r < 21) (ho : o = 1 + 7 * r) :
    w.cell? ⟨g, o, none⟩ = some (.bool (k.A.c r).g) ∧ w.cell? ⟨g, o + 1, none⟩ = some (.int .u32 ((k.A.c r).a : Int)) ∧ w.cell? ⟨g, o + 2, none⟩ = some (.int .u8 ((k.A.c r).p : Int)) ∧
    w.cell? ⟨g, o + 3, none⟩ = some (.int .u8 ((k.A.c r).y : Int)) ∧ w.cell? ⟨g, o + 4, none⟩ = some (.int .u8 ((k.A.c r).e : Int)) ∧ w.cell? ⟨g, o + 5, none⟩ = some (.int .u16 ((k.A.c r).b : Int)) ∧ w.cell? ⟨g, o + 6, none⟩ = some (.int .u16 ((k.A.c r).t : Int)) :=
  ⟨h.cellA r 0 hr (by decide) _ (by omega), h.cellA r 1 hr (by decide) _ (by omega), h.cellA r 2 hr (by decide) _ (by omega), h.cellA r 3 hr (by decide) _ (by omega), h.cellA r 4 hr (by decide) _ (by omega), h.cellA r 5 hr (by decide) _ (by omega), h.cellA r 6 hr (by decide) _ (by omega)⟩
end Go.Proofs.YtmanoheofloimaaGreatDoor
