import Derived.Test.YtbbcljffcjhiaaaG
import Derived.Laws.OwnMore
namespace Go.Proofs.Ytbbcljffcjhiaaa
open Go.ChangeShapes Go.WideShapes Go.ChangeAt Go.RowKit
set_option linter.unusedVariables false
set_option linter.unusedSimpArgs false
/-- how it stands within take: the row of names, the boxes -/
def Tk (w W : World) (B g n cap : Nat) (sy tg : List Value) (xs : List Value) : Prop :=
  W.ownsRow B 74 12 (.slice (some ⟨g, 0, none⟩) n cap) n xs ∧ w.grownBy W (some g) ∧ W.heap[w.heap.size]? = some (.cells sy.toArray 48 (0, 0)) ∧ W.heap[w.heap.size + 1]? = some (.cells tg.toArray 62 (0, 0))
theorem grown_drew {w W : World} {r : Option Nat} (h : w.grownBy W r) : w.grownBy W.drew r := ⟨h.os, h.tape, h.output, h.size, h.block⟩
theorem grown_of_below {w w' : World} (hb : Below w.heap.size w w') (r : Option Nat) : w.grownBy w' r := ⟨hb.os, hb.tape, hb.output, hb.size, fun k hk _ => hb.block k hk⟩
theorem heap_lt {w : World} {b : Nat} {o : Obj} (h : w.heap[b]? = some o) : b < w.heap.size := by
  rcases Nat.lt_or_ge b w.heap.size with hlt | hge
  · exact hlt
  · rw [Array.getElem?_eq_none hge] at h; cases h
theorem Tk.drew {w W : World} {B g n cap : Nat} {sy tg xs : List Value} (h : Tk w W B g n cap sy tg xs) : Tk w W.drew B g n cap sy tg xs := ⟨h.1.drew, grown_drew h.2.1, h.2.2⟩
theorem Tk.below {w W W' : World} {B g n cap : Nat} {sy tg xs : List Value} (h : Tk w W B g n cap sy tg xs) (hb : Below W.heap.size W W') : Tk w W' B g n cap sy tg xs := by
  refine ⟨h.1.kept (grown_of_below hb none) (by simp [Value.ownBlock]), h.2.1.trans (grown_of_below hb _), ?_, ?_⟩
  · rw [hb.block _ (heap_lt h.2.2.1)]; exact h.2.2.1
  · rw [hb.block _ (heap_lt h.2.2.2)]; exact h.2.2.2
theorem Tk.store {w W : World} {B g n cap : Nat} {sy tg xs : List Value} (h : Tk w W B g n cap sy tg xs) (hg : g < w.heap.size) (j : Nat) (u : Value) : Tk w (W.setCell ⟨g, j, none⟩ u) B g n cap sy tg (xs.set j u) := by
  obtain ⟨a, b⟩ := h.1.stored j u
  refine ⟨a, h.2.1.trans b, ?_, ?_⟩
  · rw [Below.heap_setCell _ _ _ _ (by simp; omega)]; exact h.2.2.1
  · rw [Below.heap_setCell _ _ _ _ (by simp; omega)]; exact h.2.2.2
theorem Tk.cell {w W : World} {B g n cap : Nat} {sy tg xs : List Value} (h : Tk w W B g n cap sy tg xs) (j : Nat) (hj : j < n * 12) : W.cell? ⟨g, j, none⟩ = xs[j]? := h.1.cellAt j hj
theorem Tk.frz {w W : World} {B g n cap : Nat} {sy tg xs : List Value} (h : Tk w W B g n cap sy tg xs) (j : Nat) : W.frozen? ⟨g, j, none⟩ = false := h.1.frozenAt j
theorem Tk.syc {w W : World} {B g n cap : Nat} {sy tg xs : List Value} (h : Tk w W B g n cap sy tg xs) (j : Nat) : W.cell? ⟨w.heap.size, j, none⟩ = sy[j]? := by
  rw [cell_of_row _ _ _ _ _ _ h.2.2.1]; simp
theorem Tk.tgc {w W : World} {B g n cap : Nat} {sy tg xs : List Value} (h : Tk w W B g n cap sy tg xs) (j : Nat) : W.cell? ⟨w.heap.size + 1, j, none⟩ = tg[j]? := by
  rw [cell_of_row _ _ _ _ _ _ h.2.2.2]; simp
theorem tk_start {w : World} {B g n cap : Nat} {xs : List Value} (h : w.ownsRow B 74 12 (.slice (some ⟨g, 0, none⟩) n cap) n xs) (sy tg : List Value) : Tk w ((w.alloc (.cells sy.toArray 48)).alloc (.cells tg.toArray 62)) B g n cap sy tg xs := by
  refine ⟨(h.alloc _).alloc _, (World.grownBy_alloc _ _ _).trans (World.grownBy_alloc _ _ _), ?_, ?_⟩
  · exact (Below.heap_alloc _ _ _ (by simp)).trans (heap_alloc_new w _)
  · have := heap_alloc_new (w.alloc (.cells sy.toArray 48)) (.cells tg.toArray 62)
    have hz : (w.alloc (.cells sy.toArray 48)).heap.size = w.heap.size + 1 := by simp
    rw [hz] at this
    exact this
abbrev n0F : List Value := [.string ⟨#[102]⟩, .int .i64 (-1), .int .i64 0, .int .i64 (-1), .int .i64 (-1), .int .i64 0, .int .i64 (-1), .int .i64 (-1), .int .i64 0, .int .i64 (-1), .bool false, .bool false]
abbrev n1F : List Value := [.string ⟨#[102]⟩, .int .i64 0, .int .i64 0, .int .i64 (-1), .int .i64 (-1), .int .i64 0, .int .i64 (-1), .int .i64 (-1), .int .i64 0, .int .i64 (-1), .bool false, .bool false]
abbrev n0S : List Value := [.string ⟨#[115, 119, 105, 116, 99, 104]⟩, .int .i64 (-1), .int .i64 0, .int .i64 (-1), .int .i64 (-1), .int .i64 0, .int .i64 (-1), .int .i64 (-1), .int .i64 0, .int .i64 (-1), .bool false, .bool false]
abbrev n1S : List Value := [.string ⟨#[115, 119, 105, 116, 99, 104]⟩, .int .i64 (-1), .int .i64 0, .int .i64 (-1), .int .i64 (-1), .int .i64 0, .int .i64 (-1), .int .i64 (-1), .int .i64 0, .int .i64 (-1), .bool false, .bool true]
abbrev yF : List Value := [.string ⟨#[102]⟩, .int .u32 0, .int .u32 0, .int .u8 1, .int .u8 0, .bool false, .int .i64 (-2)]
abbrev yS : List Value := [.string ⟨#[115, 119, 105, 116, 99, 104]⟩, .int .u32 0, .int .u32 0, .int .u8 1, .int .u8 0, .bool false, .int .i64 (-1)]
abbrev tF : List Value := [.int .i64 0, .int .i64 0, .int .i64 (-1)]
abbrev tS : List Value := [.int .i64 0, .int .i64 1, .int .i64 (-1)]
set_option maxHeartbeats 4000000 in
theorem f21S (w : World) (B g cap : Nat) (h : w.ownsRow B 74 12 (.slice (some ⟨g, 0, none⟩) 2 cap) 2 (n1F ++ n0S)) (hg : g < w.heap.size) :
    Calls Try.prog 21 #[.pointer (some ⟨g, 12, none⟩), .agg #[.string ⟨#[115, 119, 105, 116, 99, 104]⟩, .int .u32 0, .int .u32 0, .int .u8 1, .int .u8 0, .bool false, .int .i64 (-1)], .agg #[.int .i64 0, .int .i64 1, .int .i64 (-1)]] w
      fun e w' => e = .returned (.tuple #[]) ∧ w'.ownsRow B 74 12 (.slice (some ⟨g, 0, none⟩) 2 cap) 2 (n1F ++ n1S) ∧ w.grownBy w' (some g) := by
  have h0 := tk_start h yS tS
  have q := h0.cell 23 (by omega)
  have z := h0.frz 23
  have HG : Hid ((((w.setCell ⟨g, 23, none⟩ (.bool true)).alloc (.cells yS.toArray 48)).alloc (.cells tS.toArray 62)).ownsRow B 74 12 (.slice (some ⟨g, 0, none⟩) 2 cap) 2 (n1F ++ n1S) ∧ w.grownBy (((w.setCell ⟨g, 23, none⟩ (.bool true)).alloc (.cells yS.toArray 48)).alloc (.cells tS.toArray 62)) (some g)) :=
    Lib.hid ⟨((h.stored 23 (.bool true)).1.alloc _).alloc _, ((h.stored 23 (.bool true)).2.trans (World.grownBy_alloc _ _ _)).trans (World.grownBy_alloc _ _ _)⟩
  have hne : g ≠ w.heap.size := by omega
  have hne1 : g ≠ w.heap.size + 1 := by omega
  simp at q z
  clear h h0
  go_enter Try.func21, Try.ntmps21
  go_wp2_with fail
  exact bodyPost_end (v := .tuple #[]) (by simp [results, Try.results21, go_sem]) rfl ⟨rfl, HG.out.1, HG.out.2⟩
theorem tk_S {w W : World} {B g cap : Nat} {sy tg : List Value} (h : Tk w W B g 1 cap sy tg n0F) : (W.cell? ⟨g, 1, none⟩ = some (.int .i64 (-1)) ∧ W.cell? ⟨g, 2, none⟩ = some (.int .i64 0) ∧ W.cell? ⟨g, 3, none⟩ = some (.int .i64 (-1)) ∧ W.cell? ⟨g, 10, none⟩ = some (.bool false) ∧ W.frozen? ⟨g, 10, none⟩ = false) ∧ Tk w W B g 1 cap sy tg n0F :=
  ⟨⟨h.cell 1 (by omega), h.cell 2 (by omega), h.cell 3 (by omega), h.cell 10 (by omega), h.frz 10⟩, h⟩
set_option maxHeartbeats 4000000 in
theorem f21F (w : World) (B g cap : Nat) (h : w.ownsRow B 74 12 (.slice (some ⟨g, 0, none⟩) 1 cap) 1 n0F) (hg : g < w.heap.size) :
    Calls Try.prog 21 #[.pointer (some ⟨g, 0, none⟩), .agg #[.string ⟨#[102]⟩, .int .u32 0, .int .u32 0, .int .u8 1, .int .u8 0, .bool false, .int .i64 (-2)], .agg #[.int .i64 0, .int .i64 0, .int .i64 (-1)]] w
      fun e w' => e = .returned (.tuple #[]) ∧ w'.ownsRow B 74 12 (.slice (some ⟨g, 0, none⟩) 1 cap) 1 n1F ∧ w.grownBy w' (some g) := by
  have h0 := tk_start h [.string ⟨#[102]⟩, .int .u32 0, .int .u32 0, .int .u8 1, .int .u8 0, .bool false, .int .i64 (-2)] [.int .i64 0, .int .i64 0, .int .i64 (-1)]
  simp only [List.toArray] at h0
  have HT := Lib.hid h0
  have HG := Lib.hid hg
  have hne : g ≠ w.heap.size := by omega
  have hne1 : g ≠ w.heap.size + 1 := by omega
  have H17 := Lib.hid f17
  have H26 := Lib.hid f26
  clear h h0
  go_enter Try.func21, Try.ntmps21
  go_upto_region 8 with fail
  generalize ((w.alloc (.cells #[.string ⟨#[102]⟩, .int .u32 0, .int .u32 0, .int .u8 1, .int .u8 0, .bool false, .int .i64 (-2)] 48)).alloc (.cells #[.int .i64 0, .int .i64 0, .int .i64 (-1)] 62)) = w1 at *
  have HI : Hid (((w1.drew).cell? ⟨g, 1, none⟩ = some (.int .i64 (-1)) ∧ (w1.drew).cell? ⟨g, 2, none⟩ = some (.int .i64 0) ∧ (w1.drew).cell? ⟨g, 3, none⟩ = some (.int .i64 (-1)) ∧ (w1.drew).cell? ⟨g, 10, none⟩ = some (.bool false) ∧ (w1.drew).frozen? ⟨g, 10, none⟩ = false) ∧ Tk w (w1.drew) B g 1 cap [.string ⟨#[102]⟩, .int .u32 0, .int .u32 0, .int .u8 1, .int .u8 0, .bool false, .int .i64 (-2)] [.int .i64 0, .int .i64 0, .int .i64 (-1)] n0F) := Lib.hid (tk_S HT.out.drew)
  have HSET : Hid (∀ W, (W.cell? ⟨g, 1, none⟩ = some (.int .i64 (-1)) ∧ W.cell? ⟨g, 2, none⟩ = some (.int .i64 0) ∧ W.cell? ⟨g, 3, none⟩ = some (.int .i64 (-1)) ∧ W.cell? ⟨g, 10, none⟩ = some (.bool false) ∧ W.frozen? ⟨g, 10, none⟩ = false) ∧ Tk w W B g 1 cap [.string ⟨#[102]⟩, .int .u32 0, .int .u32 0, .int .u8 1, .int .u8 0, .bool false, .int .i64 (-2)] [.int .i64 0, .int .i64 0, .int .i64 (-1)] n0F → ((W.setCell ⟨g, 10, none⟩ (.bool false)).cell? ⟨g, 1, none⟩ = some (.int .i64 (-1)) ∧ (W.setCell ⟨g, 10, none⟩ (.bool false)).cell? ⟨g, 2, none⟩ = some (.int .i64 0) ∧ (W.setCell ⟨g, 10, none⟩ (.bool false)).cell? ⟨g, 3, none⟩ = some (.int .i64 (-1)) ∧ (W.setCell ⟨g, 10, none⟩ (.bool false)).cell? ⟨g, 10, none⟩ = some (.bool false) ∧ (W.setCell ⟨g, 10, none⟩ (.bool false)).frozen? ⟨g, 10, none⟩ = false) ∧ Tk w (W.setCell ⟨g, 10, none⟩ (.bool false)) B g 1 cap [.string ⟨#[102]⟩, .int .u32 0, .int .u32 0, .int .u8 1, .int .u8 0, .bool false, .int .i64 (-2)] [.int .i64 0, .int .i64 0, .int .i64 (-1)] n0F) := Lib.hid (fun W hW => tk_S (hW.2.store HG.out 10 (.bool false)))
  have HBE : Hid (∀ W W', ((W.cell? ⟨g, 1, none⟩ = some (.int .i64 (-1)) ∧ W.cell? ⟨g, 2, none⟩ = some (.int .i64 0) ∧ W.cell? ⟨g, 3, none⟩ = some (.int .i64 (-1)) ∧ W.cell? ⟨g, 10, none⟩ = some (.bool false) ∧ W.frozen? ⟨g, 10, none⟩ = false) ∧ Tk w W B g 1 cap [.string ⟨#[102]⟩, .int .u32 0, .int .u32 0, .int .u8 1, .int .u8 0, .bool false, .int .i64 (-2)] [.int .i64 0, .int .i64 0, .int .i64 (-1)] n0F) → Below W.heap.size W W' → ((W').cell? ⟨g, 1, none⟩ = some (.int .i64 (-1)) ∧ (W').cell? ⟨g, 2, none⟩ = some (.int .i64 0) ∧ (W').cell? ⟨g, 3, none⟩ = some (.int .i64 (-1)) ∧ (W').cell? ⟨g, 10, none⟩ = some (.bool false) ∧ (W').frozen? ⟨g, 10, none⟩ = false) ∧ Tk w (W') B g 1 cap [.string ⟨#[102]⟩, .int .u32 0, .int .u32 0, .int .u8 1, .int .u8 0, .bool false, .int .i64 (-2)] [.int .i64 0, .int .i64 0, .int .i64 (-1)] n0F) := Lib.hid (fun W W' hW hb => tk_S (hW.2.below hb))
  go_region_held3 (fun W => (W.cell? ⟨g, 1, none⟩ = some (.int .i64 (-1)) ∧ W.cell? ⟨g, 2, none⟩ = some (.int .i64 0) ∧ W.cell? ⟨g, 3, none⟩ = some (.int .i64 (-1)) ∧ W.cell? ⟨g, 10, none⟩ = some (.bool false) ∧ W.frozen? ⟨g, 10, none⟩ = false) ∧ Tk w W B g 1 cap [.string ⟨#[102]⟩, .int .u32 0, .int .u32 0, .int .u8 1, .int .u8 0, .bool false, .int .i64 (-2)] [.int .i64 0, .int .i64 0, .int .i64 (-1)] n0F)
    (first | assumption | exact HI.out | (with_reducible exact HSET.out _ (by assumption)))
    (first | (go_at_call 17; (with_reducible refine (H17.out _).mono ?_); rintro _ w6 ⟨rfl, hb6⟩; have HS6 : ((w6).cell? ⟨g, 1, none⟩ = some (.int .i64 (-1)) ∧ (w6).cell? ⟨g, 2, none⟩ = some (.int .i64 0) ∧ (w6).cell? ⟨g, 3, none⟩ = some (.int .i64 (-1)) ∧ (w6).cell? ⟨g, 10, none⟩ = some (.bool false) ∧ (w6).frozen? ⟨g, 10, none⟩ = false) ∧ Tk w (w6) B g 1 cap [.string ⟨#[102]⟩, .int .u32 0, .int .u32 0, .int .u8 1, .int .u8 0, .bool false, .int .i64 (-2)] [.int .i64 0, .int .i64 0, .int .i64 (-1)] n0F := HBE.out _ _ HI.out hb6))
  have HT7 := Lib.hid (HSET.out _ HS6).2
  clear HI HSET HBE HS6 hb6 HT H17
  rename_i hHeld
  clear hHeld
  generalize w6.setCell ⟨g, 10, none⟩ (.bool false) = w7 at *
  have HC : Hid (Calls Try.prog 26 #[.pointer (some ⟨g, 1, none⟩), .pointer (some ⟨w.heap.size + 1, 0, none⟩)] w7 fun e w' => e = .returned (.tuple #[]) ∧ ∃ wN, Below w7.heap.size w7 wN ∧ w' = ((wN.setCell ⟨g, 1, none⟩ (.int .i64 0)).setCell ⟨g, 2, none⟩ (.int .i64 0)).setCell ⟨g, 3, none⟩ (.int .i64 (-1))) :=
    Lib.hid (H26.out w7 g 1 (w.heap.size + 1) 0 0 (-1) (HT7.out.cell 1 (by omega)) (HT7.out.cell 2 (by omega)) (HT7.out.cell 3 (by omega)) (HT7.out.frz 1) (HT7.out.frz 2) (HT7.out.frz 3) (HT7.out.tgc 0) (HT7.out.tgc 1) (HT7.out.tgc 2))
  go_wp2_with fail
  with_reducible refine HC.out.mono ?_
  rintro e5 w5 ⟨rfl, wN, hbN, rfl⟩
  have HT8 := Lib.hid ((((HT7.out.below hbN).store HG.out 1 (.int .i64 0)).store HG.out 2 (.int .i64 0)).store HG.out 3 (.int .i64 (-1)))
  go_wp2_with fail
  exact bodyPost_end (v := .tuple #[]) (by simp [results, Try.results21, go_sem]) rfl ⟨rfl, HT8.out.1, HT8.out.2.1⟩
end Go.Proofs.Ytbbcljffcjhiaaa
