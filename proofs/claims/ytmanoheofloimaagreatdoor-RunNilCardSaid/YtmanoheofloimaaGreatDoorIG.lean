import Derived.Test.YtmanoheofloimaaGreatDoorIFa
import Derived.Test.YtmanoheofloimaaGreatDoorIFb
import Derived.Test.YtmanoheofloimaaGreatDoorIFc
namespace Go.Proofs.YtmanoheofloimaaGreatDoor.In
open Go.ChangeShapes Go.WideShapes Go.ChangeAt Go.RowKit
set_option linter.unusedVariables false
set_option maxRecDepth 100000
def FLl : List Nat := [0, 0, 1, 2, 6, 6, 6, 6, 6, 6, 2, 2, 2, 2, 2, 2, 5, 5, 5, 5, 2, 2, 2, 2, 2, 2, 4, 4, 4, 7, 7, 7, 7, 7, 7, 7, 7, 7, 7, 7, 7, 7, 7, 7, 7, 7, 7, 2, 3, 7, 7, 8, 7, 7, 7, 7, 8, 8, 8, 8, 8, 8, 8, 8, 8, 9, 10, 10]
def WLl : List Nat := [55, 23, 111, 103, 99, 4195, 16483, 20579, 24675, 28771, 3, 4099, 8195, 12291, 16387, 20483, 35, 4131, 8227, 12323, 19, 8211, 12307, 16403, 24595, 28691, 4115, 20499, 1073762323, 51, 1073741875, 4147, 8243, 12339, 16435, 20531, 1073762355, 24627, 28723, 33554483, 33558579, 33562675, 33566771, 33570867, 33574963, 33579059, 33583155, 4187, 8283, 268435547, 369098843, 402653275, 436207707, 536871003, 570425435, 1073741915, 4261412955, 4262461531, 4263510107, 4264558683, 4265607259, 4271898715, 4272947291, 4277141595, 4279238747, 33554523, 115, 807403635]
def XLl : List Nat := [127, 127, 28799, 28799, 4261441663, 28799, 28799, 4261441663, 4293947519, 4261441663, 4294967295]
def FL (q : Nat) : Nat := FLl.getD q 0
def WL (q : Nat) : Nat := WLl.getD q 0
def XL (q : Nat) : Nat := XLl.getD q 0
def FA : Array Value := (FLl.map fun (n : Nat) => Value.int .u8 (n : Int)).toArray
def WA : Array Value := (WLl.map fun (n : Nat) => Value.int .u32 (n : Int)).toArray
def XA : Array Value := (XLl.map fun (n : Nat) => Value.int .u32 (n : Int)).toArray
theorem FL_free : ∀ q : Fin 68, freeF (FL q.val) (WL q.val) = true ∧ FL q.val ≤ 10 := by decide +kernel
theorem FA_at (q : Nat) (h : q < 68) : FA[q]? = some (.int .u8 (FL q : Int)) := by
  have : q < FLl.length := h
  simp [FA, FL, this]
theorem WA_at (q : Nat) (h : q < 68) : WA[q]? = some (.int .u32 (WL q : Int)) := by
  have : q < WLl.length := h
  simp [WA, WL, this]
theorem XA_at (q : Nat) (h : q < 11) : XA[q]? = some (.int .u32 (XL q : Int)) := by
  have : q < XLl.length := h
  simp [XA, XL, this]
/-- the program's tables lie as their initialisers lay them -/
def Glob (w : World) : Prop := (∃ t f, w.heap[0]? = some (.cells FA t f)) ∧ (∃ t f, w.heap[1]? = some (.cells WA t f)) ∧ ∃ t f, w.heap[2]? = some (.cells XA t f)
theorem Glob.size {w : World} (h : Glob w) : 3 ≤ w.heap.size := by
  obtain ⟨_, _, t, f, h2⟩ := h
  have := (Array.getElem?_eq_some_iff.1 h2).1
  omega
theorem Glob.below {w w' : World} {B : Nat} (h : Glob w) (hb : Below B w w') (hB : 3 ≤ B) : Glob w' := by
  obtain ⟨⟨a, b, c⟩, ⟨a1, b1, c1⟩, a2, b2, c2⟩ := h
  exact ⟨⟨a, b, by rw [hb.block 0 (by omega)]; exact c⟩, ⟨a1, b1, by rw [hb.block 1 (by omega)]; exact c1⟩, a2, b2, by rw [hb.block 2 (by omega)]; exact c2⟩
theorem Glob.f {w : World} (h : Glob w) (q : Nat) (hq : q < 68) : w.cell? ⟨0, q, none⟩ = some (.int .u8 (FL q : Int)) := by
  obtain ⟨⟨t, f, e⟩, _⟩ := h
  simp only [World.cell?, e]
  exact FA_at q hq
theorem Glob.w {w : World} (h : Glob w) (q : Nat) (hq : q < 68) : w.cell? ⟨1, q, none⟩ = some (.int .u32 (WL q : Int)) := by
  obtain ⟨_, ⟨t, f, e⟩, _⟩ := h
  simp only [World.cell?, e]
  exact WA_at q hq
theorem Glob.x {w : World} (h : Glob w) (q : Nat) (hq : q < 11) : w.cell? ⟨2, q, none⟩ = some (.int .u32 (XL q : Int)) := by
  obtain ⟨_, _, t, f, e⟩ := h
  simp only [World.cell?, e]
  exact XA_at q hq
/-- the word of an instruction, and the error -/
def put (o d a b : Nat) (n : Int) : Nat × Nat :=
  if o = 0 ∨ 68 < o then (0, 2) else if okF (FL (o - 1)) d a b n = true then (wordF (FL (o - 1)) (WL (o - 1)) d a b n, 0) else (0, 2)
def insV (o d a b : Nat) (n : Int) : Value := .agg #[.int .u8 (o : Int), .int .u8 (d : Int), .int .u8 (a : Int), .int .u8 (b : Int), .int .i32 n]
def weV (r : Nat × Nat) : Value := .tuple #[.int .u32 (r.1 : Int), .int .i64 (r.2 : Int)]
theorem weV_put (q d a b : Nat) (n : Int) (hq : q ≤ 67) : weV (put (q + 1) d a b n) = putV (FL q) (WL q) d a b n := by
  unfold put putV
  rw [if_neg (by omega), Nat.add_sub_cancel]
  split <;> rfl
set_option maxHeartbeats 1000000 in
theorem c7 (o d a b : Nat) (n : Int) (ho : o < 256) (hd : d < 256) (ha : a < 256) (hb : b < 256) (hn : i32 n) (w : World) (hg : Glob w) :
    Calls Tryz.prog 58 #[insV o d a b n] w fun en w' => en = .returned (weV (put o d a b n)) ∧ Below w.heap.size w w' := by
  rcases Nat.eq_zero_or_pos o with rfl | h0
  · have e : put 0 d a b n = (0, 2) := rfl
    rw [e]
    unfold insV weV
    go_enter Tryz.func58, Tryz.ntmps58
    go_wp2_with fail
    go_ret2
    exact ⟨rfl, (Below.refl _ _).alloc (Nat.le_refl _) _⟩
  by_cases h68 : 68 < o
  · have e : put o d a b n = (0, 2) := by unfold put; rw [if_pos (Or.inr h68)]
    rw [e]
    unfold insV weV
    have t1 : ((o : Int) == 0) = false := by simp; omega
    have t2 : decide ((68 : Int) < (o : Int)) = true := by simp; omega
    go_enter Tryz.func58, Tryz.ntmps58
    go_wp2_with fail
    go_ret2
    exact ⟨rfl, (Below.refl _ _).alloc (Nat.le_refl _) _⟩
  obtain ⟨q, rfl⟩ : ∃ q, o = q + 1 := ⟨o - 1, by omega⟩
  rw [weV_put q d a b n (by omega)]
  have hfr := (FL_free ⟨q, by omega⟩).1
  have hle := (FL_free ⟨q, by omega⟩).2
  have c0 := hg.f q (by omega)
  have c1 := hg.w q (by omega)
  have hs := hg.size
  simp only at hfr hle
  unfold insV
  rw [Int.natCast_add]
  generalize FL q = f at *
  generalize WL q = W at *
  have hf : f = 0 ∨ f = 1 ∨ f = 2 ∨ f = 3 ∨ f = 4 ∨ f = 5 ∨ f = 6 ∨ f = 7 ∨ f = 8 ∨ f = 9 ∨ f = 10 := by omega
  rcases hf with rfl | rfl | rfl | rfl | rfl | rfl | rfl | rfl | rfl | rfl | rfl
  · exact putOp0 q W d a b n (by omega) hd ha hb hn hfr w hs c0 c1
  · exact putOp1 q W d a b n (by omega) hd ha hb hn hfr w hs c0 c1
  · exact putOp2 q W d a b n (by omega) hd ha hb hn hfr w hs c0 c1
  · exact putOp3 q W d a b n (by omega) hd ha hb hn hfr w hs c0 c1
  · exact putOp4 q W d a b n (by omega) hd ha hb hn hfr w hs c0 c1
  · exact putOp5 q W d a b n (by omega) hd ha hb hn hfr w hs c0 c1
  · exact putOp6 q W d a b n (by omega) hd ha hb hn hfr w hs c0 c1
  · exact putOp7 q W d a b n (by omega) hd ha hb hn hfr w hs c0 c1
  · exact putOp8 q W d a b n (by omega) hd ha hb hn hfr w hs c0 c1
  · exact putOp9 q W d a b n (by omega) hd ha hb hn hfr w hs c0 c1
  · exact putOp10 q W d a b n (by omega) hd ha hb hn hfr w hs c0 c1
end Go.Proofs.YtmanoheofloimaaGreatDoor.In

