import Derived.Test.YtmanoheofloimaaGreatDoorIO
namespace Go.Proofs.YtmanoheofloimaaGreatDoor.In
open Go.ChangeShapes Go.WideShapes Go.ChangeAt Go.RowKit
set_option linter.unusedVariables false
set_option maxRecDepth 100000
def hasN (f : Nat) : Int := [9, 9, 11, 11, 11, 14, 14, 7, 3, 11, 0].getD f 0
theorem hasN_bits : ∀ f : Fin 11, (bits .and .i64 (hasN f.val) 1 != 0) = hasD f.val ∧ (bits .and .i64 (hasN f.val) 2 != 0) = hasA f.val ∧ (bits .and .i64 (hasN f.val) 4 != 0) = hasB f.val := by decide +kernel
/-- a closure that takes an Imm off a word, in whatever world has it still -/
def Gets (f : Nat) (g : FuncId) (caps : Array Value) (w1 : World) : Prop :=
  (∀ (args : Array Value) (w : World), (callFunc g args).run Tryz.prog w = .ok (.enter g args) w) ∧ ∀ (n : Nat) (w' : World), n < 4294967296 → Below w1.heap.size w1 w' → Calls Tryz.prog g (#[.int .u32 (n : Int)] ++ caps) w' fun en w'' => en = .returned (.int .i32 (getF f n)) ∧ w' = w''
def FormG (f : Nat) : Prop := ∀ (N : Nat) (w : World), w.heap.size = N → Calls Tryz.prog 56 #[.int .u8 (f : Int)] w fun en w' => ∃ (g : FuncId) (caps : Array Value) (gm : FuncId) (cm : Array Value) (gp : FuncId) (cp : Array Value),
  en = .returned (.agg #[.int .i64 (hasN f), .func (Fn.func gm) #[] cm, .func (Fn.func gp) #[] cp, .func (Fn.func g) #[] caps]) ∧ Below N w w' ∧ N + 1 ≤ w'.heap.size ∧ Gets f g caps w'
theorem cf29 (args : Array Value) (w : World) : (callFunc 86 args).run Tryz.prog w = .ok (.enter 86 args) w := by kernel_rfl
theorem cf32 (args : Array Value) (w : World) : (callFunc 89 args).run Tryz.prog w = .ok (.enter 89 args) w := by kernel_rfl
theorem cf33 (args : Array Value) (w : World) : (callFunc 90 args).run Tryz.prog w = .ok (.enter 90 args) w := by kernel_rfl
theorem cf37 (args : Array Value) (w : World) : (callFunc 94 args).run Tryz.prog w = .ok (.enter 94 args) w := by kernel_rfl
theorem cf39 (args : Array Value) (w : World) : (callFunc 96 args).run Tryz.prog w = .ok (.enter 96 args) w := by kernel_rfl
theorem cf50 (args : Array Value) (w : World) : (callFunc 114 args).run Tryz.prog w = .ok (.enter 114 args) w := by kernel_rfl
theorem formG0 : FormG 0 := fun N w hN => by
  refine (form0 N w hN).mono ?_
  rintro _ w1 ⟨rfl, hb, hs, h0, h1⟩
  exact ⟨86, #[], _, _, _, _, rfl, hb, by omega, cf29, fun n w2 hn hb2 => get0 n hn w2⟩
theorem formG1 : FormG 1 := fun N w hN => by
  refine (form1 N w hN).mono ?_
  rintro _ w1 ⟨rfl, hb, hs, h0, h1⟩
  exact ⟨89, #[], _, _, _, _, rfl, hb, by omega, cf32, fun n w2 hn hb2 => get1 n hn w2⟩
theorem formG2 : FormG 2 := fun N w hN => by
  refine (form2 N w hN).mono ?_
  rintro _ w1 ⟨rfl, hb, hs, h0, h1, h2⟩
  exact ⟨90, #[], _, _, _, _, rfl, hb, by omega, cf33, fun n w2 hn hb2 => get2 n hn w2⟩
theorem formG3 : FormG 3 := fun N w hN => by
  refine (form3 N w hN).mono ?_
  rintro _ w1 ⟨rfl, hb, hs, h0, h1, h2, h3, h4⟩
  exact ⟨114, #[.pointer (some ⟨N + 4, 0, none⟩), .pointer (some ⟨N + 5, 0, none⟩)], _, _, _, _, rfl, hb, by omega, cf50, fun n w2 hn hb2 => get3 n (N + 4) (N + 5) hn w2 (by rw [hb2.cell (p := ⟨N + 4, 0, none⟩) (show N + 4 < w1.heap.size by omega)]; exact h3) (by rw [hb2.cell (p := ⟨N + 5, 0, none⟩) (show N + 5 < w1.heap.size by omega)]; exact h4)⟩
theorem formG4 : FormG 4 := fun N w hN => by
  refine (form4 N w hN).mono ?_
  rintro _ w1 ⟨rfl, hb, hs, h0, h1, h2, h3, h4⟩
  exact ⟨114, #[.pointer (some ⟨N + 4, 0, none⟩), .pointer (some ⟨N + 5, 0, none⟩)], _, _, _, _, rfl, hb, by omega, cf50, fun n w2 hn hb2 => get4 n (N + 4) (N + 5) hn w2 (by rw [hb2.cell (p := ⟨N + 4, 0, none⟩) (show N + 4 < w1.heap.size by omega)]; exact h3) (by rw [hb2.cell (p := ⟨N + 5, 0, none⟩) (show N + 5 < w1.heap.size by omega)]; exact h4)⟩
theorem formG5 : FormG 5 := fun N w hN => by
  refine (form5 N w hN).mono ?_
  rintro _ w1 ⟨rfl, hb, hs, h0, h1⟩
  exact ⟨94, #[], _, _, _, _, rfl, hb, by omega, cf37, fun n w2 hn hb2 => get5 n hn w2⟩
theorem formG6 : FormG 6 := fun N w hN => by
  refine (form6 N w hN).mono ?_
  rintro _ w1 ⟨rfl, hb, hs, h0, h1⟩
  exact ⟨96, #[], _, _, _, _, rfl, hb, by omega, cf39, fun n w2 hn hb2 => get6 n hn w2⟩
theorem formG7 : FormG 7 := fun N w hN => by
  refine (form7 N w hN).mono ?_
  rintro _ w1 ⟨rfl, hb, hs, h0, h1, h2, h3, h4⟩
  exact ⟨114, #[.pointer (some ⟨N + 4, 0, none⟩), .pointer (some ⟨N + 5, 0, none⟩)], _, _, _, _, rfl, hb, by omega, cf50, fun n w2 hn hb2 => get7 n (N + 4) (N + 5) hn w2 (by rw [hb2.cell (p := ⟨N + 4, 0, none⟩) (show N + 4 < w1.heap.size by omega)]; exact h3) (by rw [hb2.cell (p := ⟨N + 5, 0, none⟩) (show N + 5 < w1.heap.size by omega)]; exact h4)⟩
theorem formG8 : FormG 8 := fun N w hN => by
  refine (form8 N w hN).mono ?_
  rintro _ w1 ⟨rfl, hb, hs, h0, h1, h2, h3, h4⟩
  exact ⟨114, #[.pointer (some ⟨N + 4, 0, none⟩), .pointer (some ⟨N + 5, 0, none⟩)], _, _, _, _, rfl, hb, by omega, cf50, fun n w2 hn hb2 => get7 n (N + 4) (N + 5) hn w2 (by rw [hb2.cell (p := ⟨N + 4, 0, none⟩) (show N + 4 < w1.heap.size by omega)]; exact h3) (by rw [hb2.cell (p := ⟨N + 5, 0, none⟩) (show N + 5 < w1.heap.size by omega)]; exact h4)⟩
theorem formG9 : FormG 9 := fun N w hN => by
  refine (form9 N w hN).mono ?_
  rintro _ w1 ⟨rfl, hb, hs, h0, h1, h2, h3, h4⟩
  exact ⟨114, #[.pointer (some ⟨N + 4, 0, none⟩), .pointer (some ⟨N + 5, 0, none⟩)], _, _, _, _, rfl, hb, by omega, cf50, fun n w2 hn hb2 => get4 n (N + 4) (N + 5) hn w2 (by rw [hb2.cell (p := ⟨N + 4, 0, none⟩) (show N + 4 < w1.heap.size by omega)]; exact h3) (by rw [hb2.cell (p := ⟨N + 5, 0, none⟩) (show N + 5 < w1.heap.size by omega)]; exact h4)⟩
theorem formG10 : FormG 10 := fun N w hN => by
  refine (form10 N w hN).mono ?_
  rintro _ w1 ⟨rfl, hb, hs, h0, h1, h2, h3, h4⟩
  exact ⟨114, #[.pointer (some ⟨N + 4, 0, none⟩), .pointer (some ⟨N + 5, 0, none⟩)], _, _, _, _, rfl, hb, by omega, cf50, fun n w2 hn hb2 => get7 n (N + 4) (N + 5) hn w2 (by rw [hb2.cell (p := ⟨N + 4, 0, none⟩) (show N + 4 < w1.heap.size by omega)]; exact h3) (by rw [hb2.cell (p := ⟨N + 5, 0, none⟩) (show N + 5 < w1.heap.size by omega)]; exact h4)⟩
theorem formG (f : Nat) (hf : f ≤ 10) : FormG f := by
  have h : f = 0 ∨ f = 1 ∨ f = 2 ∨ f = 3 ∨ f = 4 ∨ f = 5 ∨ f = 6 ∨ f = 7 ∨ f = 8 ∨ f = 9 ∨ f = 10 := by omega
  rcases h with rfl | rfl | rfl | rfl | rfl | rfl | rfl | rfl | rfl | rfl | rfl
  · exact formG0
  · exact formG1
  · exact formG2
  · exact formG3
  · exact formG4
  · exact formG5
  · exact formG6
  · exact formG7
  · exact formG8
  · exact formG9
  · exact formG10
end Go.Proofs.YtmanoheofloimaaGreatDoor.In

