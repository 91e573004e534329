import Derived.Test.YtbbcljffcjhiaaaE
import Derived.Shelf.LaysM
import Derived.Shelf.Strconv.Clone
import Derived.Laws.Cover1
import Derived.Deep.RegionHeld3
import Derived.Deep.Cut
import Derived.Deep.CutRange
import Derived.LoopTactic
namespace Go.Proofs
open Go.Shelf
def Try.laysM316_ren : Go.Shelf.Ren := ⟨fun | 316 => 25 | n => n, fun | 9 => 9 | 3 => 3 | 4 => 4 | 37 => 94 | 0 => 0 | 127 => 95 | 5 => 5 | n => n, fun | n => n⟩
theorem Try.laysM316 : Go.Proofs.LaysM.n316 Try.prog Try.laysM316_ren := {
  mixed := by kernel_rfl
  f316 := Try.func25.trans (congrArg some (by kernel_rfl))
  t0 := Try.underlying0
  a0 := Try.isAgg0
  z0 := Try.sizeOf0
  v0 := Try.zeroValue0
  t3 := Try.underlying3
  a3 := Try.isAgg3
  z3 := Try.sizeOf3
  v3 := Try.zeroValue3
  t4 := Try.underlying4
  a4 := Try.isAgg4
  z4 := Try.sizeOf4
  v4 := Try.zeroValue4
  t9 := Try.underlying9
  a9 := Try.isAgg9
  z9 := Try.sizeOf9
  v9 := Try.zeroValue9
  t37 := Try.underlying94
  a37 := Try.isAgg94
  z37 := Try.sizeOf94
  v37 := Try.zeroValue94
  t127 := Try.underlying95
  a127 := Try.isAgg95
  z127 := Try.sizeOf95
  v127 := Try.zeroValue95
  t5 := Try.underlying5
  a5 := Try.isAgg5
  z5 := Try.sizeOf5
  v5 := Try.zeroValue5
  i0 := by kernel_rfl
  i3 := by kernel_rfl
  i4 := by kernel_rfl
  i5 := by kernel_rfl
  i9 := by kernel_rfl
  i37 := by kernel_rfl
  i127 := by kernel_rfl }
open Go.RowKit in
theorem Try.stringslite_Clone (s : ByteArray) (w : World) (hlim : s.size ≤ 281474976710656) :
    Calls Try.prog 25 #[.string s] w fun e w' => e = .returned (.string s) ∧ Below w.heap.size w w' := Any.stringslite_Clone Try.laysM316 s w hlim
end Go.Proofs
namespace Go.Proofs.Ytbbcljffcjhiaaa
open Go.ChangeShapes Go.WideShapes Go.ChangeAt Go.RowKit
set_option linter.unusedVariables false
set_option linter.unusedSimpArgs false
abbrev noT : Value := .agg #[.int .i64 (-1), .int .i64 0, .int .i64 (-1)]
theorem f17 (w : World) : Calls Try.prog 17 #[] w fun e w' => e = .returned noT ∧ Below w.heap.size w w' := by
  have hb := (Below.refl _ w).alloc (Nat.le_refl _) (.cells #[.int .i64 (-1), .int .i64 0, .int .i64 (-1)] 62)
  go_enter Try.func17, Try.ntmps17
  go_wp2_with fail
  exact bodyPost_ret (v := noT) (by simp [results, Try.results17, go_sem]) rfl ⟨rfl, hb⟩
theorem f20 (s : ByteArray) (w : World) (hlim : s.size ≤ 281474976710656) : Calls Try.prog 20 #[.string s] w fun e w' => e = .returned (.string s) ∧ Below w.heap.size w w' := by
  have H := Lib.hid (Try.stringslite_Clone s)
  go_enter Try.func20, Try.ntmps20
  go_wp2_with (with_reducible refine (H.out _ hlim).mono ?_; rintro e5 w5 ⟨rfl, hb⟩)
  go_ret
  exact ⟨rfl, hb⟩
theorem f29 (s : ByteArray) (w : World) : Calls Try.prog 29 #[.string s] w fun e w' => e = .returned (.bool false) ∧ w' = w := by
  have e1 : (!(s.toList == s.toList)) = false := by simp
  go_enter Try.func29, Try.ntmps29
  go_wp2_with fail
  go_ret
  exact ⟨rfl, rfl⟩
theorem f24 (w : World) : Calls Try.prog 24 #[.string ⟨#[115, 119, 105, 116, 99, 104]⟩, .string ⟨#[102]⟩] w fun e w' => e = .returned (.int .i64 1) ∧ w' = w := by
  have H := Lib.hid f29
  have e1 : Op.bytesLess [115, 119, 105, 116, 99, 104] [102] = false := by decide
  go_enter Try.func24, Try.ntmps24
  go_wp2_with (with_reducible refine (H.out _ _).mono ?_; rintro e5 w5 ⟨rfl, rfl⟩)
  go_ret
  exact ⟨rfl, rfl⟩
abbrev nmF : Value := .agg #[.string ⟨#[102]⟩, .int .i64 0, .int .i64 0, .int .i64 (-1), .int .i64 (-1), .int .i64 0, .int .i64 (-1), .int .i64 (-1), .int .i64 0, .int .i64 (-1), .bool false, .bool false]
abbrev nmS : Value := .agg #[.string ⟨#[115, 119, 105, 116, 99, 104]⟩, .int .i64 (-1), .int .i64 0, .int .i64 (-1), .int .i64 (-1), .int .i64 0, .int .i64 (-1), .int .i64 (-1), .int .i64 0, .int .i64 (-1), .bool false, .bool true]
theorem f23 (w : World) : Calls Try.prog 23 #[nmS, nmF] w fun e w' => e = .returned (.int .i64 1) ∧ Below w.heap.size w w' := by
  have H := Lib.hid f24
  have hb := Lib.hid (((Below.refl _ w).alloc (Nat.le_refl _) (.cells #[.string ⟨#[115, 119, 105, 116, 99, 104]⟩, .int .i64 (-1), .int .i64 0, .int .i64 (-1), .int .i64 (-1), .int .i64 0, .int .i64 (-1), .int .i64 (-1), .int .i64 0, .int .i64 (-1), .bool false, .bool true] 74)).alloc (by simp) (.cells #[.string ⟨#[102]⟩, .int .i64 0, .int .i64 0, .int .i64 (-1), .int .i64 (-1), .int .i64 0, .int .i64 (-1), .int .i64 (-1), .int .i64 0, .int .i64 (-1), .bool false, .bool false] 74))
  go_enter Try.func23, Try.ntmps23
  go_wp2_with (with_reducible refine (H.out _).mono ?_; rintro e5 w5 ⟨rfl, rfl⟩)
  go_ret
  exact ⟨rfl, hb.out⟩
/-- the two names stand there -/
def Two (w : World) (g : Nat) : Prop := g < w.heap.size ∧ ∀ j v, ([.string ⟨#[102]⟩, .int .i64 0, .int .i64 0, .int .i64 (-1), .int .i64 (-1), .int .i64 0, .int .i64 (-1), .int .i64 (-1), .int .i64 0, .int .i64 (-1), .bool false, .bool false,
  .string ⟨#[115, 119, 105, 116, 99, 104]⟩, .int .i64 (-1), .int .i64 0, .int .i64 (-1), .int .i64 (-1), .int .i64 0, .int .i64 (-1), .int .i64 (-1), .int .i64 0, .int .i64 (-1), .bool false, .bool true] : List Value)[j]? = some v → w.cell? ⟨g, j, none⟩ = some v
theorem Two.below {w w' : World} {g : Nat} (h : Two w g) (hb : Below w.heap.size w w') : Two w' g := ⟨Nat.lt_of_lt_of_le h.1 hb.size, fun j v hv => by rw [hb.cell (p := ⟨g, j, none⟩) h.1]; exact h.2 j v hv⟩
def TwoL (g : Nat) (W : World) : Prop := W.cell? ⟨g, 0, none⟩ = some (.string ⟨#[102]⟩) ∧ W.cell? ⟨g, 1, none⟩ = some (.int .i64 0) ∧ W.cell? ⟨g, 2, none⟩ = some (.int .i64 0) ∧ W.cell? ⟨g, 3, none⟩ = some (.int .i64 (-1)) ∧ W.cell? ⟨g, 4, none⟩ = some (.int .i64 (-1)) ∧ W.cell? ⟨g, 5, none⟩ = some (.int .i64 0) ∧ W.cell? ⟨g, 6, none⟩ = some (.int .i64 (-1)) ∧ W.cell? ⟨g, 7, none⟩ = some (.int .i64 (-1)) ∧ W.cell? ⟨g, 8, none⟩ = some (.int .i64 0) ∧ W.cell? ⟨g, 9, none⟩ = some (.int .i64 (-1)) ∧ W.cell? ⟨g, 10, none⟩ = some (.bool false) ∧ W.cell? ⟨g, 11, none⟩ = some (.bool false) ∧ W.cell? ⟨g, 12, none⟩ = some (.string ⟨#[115, 119, 105, 116, 99, 104]⟩) ∧ W.cell? ⟨g, 13, none⟩ = some (.int .i64 (-1)) ∧ W.cell? ⟨g, 14, none⟩ = some (.int .i64 0) ∧ W.cell? ⟨g, 15, none⟩ = some (.int .i64 (-1)) ∧ W.cell? ⟨g, 16, none⟩ = some (.int .i64 (-1)) ∧ W.cell? ⟨g, 17, none⟩ = some (.int .i64 0) ∧ W.cell? ⟨g, 18, none⟩ = some (.int .i64 (-1)) ∧ W.cell? ⟨g, 19, none⟩ = some (.int .i64 (-1)) ∧ W.cell? ⟨g, 20, none⟩ = some (.int .i64 0) ∧ W.cell? ⟨g, 21, none⟩ = some (.int .i64 (-1)) ∧ W.cell? ⟨g, 22, none⟩ = some (.bool false) ∧ W.cell? ⟨g, 23, none⟩ = some (.bool true)
theorem Two.l {W : World} {g : Nat} (h : Two W g) : TwoL g W := ⟨h.2 0 _ rfl, h.2 1 _ rfl, h.2 2 _ rfl, h.2 3 _ rfl, h.2 4 _ rfl, h.2 5 _ rfl, h.2 6 _ rfl, h.2 7 _ rfl, h.2 8 _ rfl, h.2 9 _ rfl, h.2 10 _ rfl, h.2 11 _ rfl, h.2 12 _ rfl, h.2 13 _ rfl, h.2 14 _ rfl, h.2 15 _ rfl, h.2 16 _ rfl, h.2 17 _ rfl, h.2 18 _ rfl, h.2 19 _ rfl, h.2 20 _ rfl, h.2 21 _ rfl, h.2 22 _ rfl, h.2 23 _ rfl⟩
set_option maxHeartbeats 4000000 in
theorem f30 (g cap : Nat) (w : World) (h : Two w g) : Calls Try.prog 30 #[.slice (some ⟨g, 0, none⟩) 2 cap, .int .i64 0, .int .i64 2, .func (.func 23) #[] #[]] w fun e w' => e = .returned (.tuple #[]) ∧ Below w.heap.size w w' := by
  have H := Lib.hid f23
  have H2 := Lib.hid h
  have HL : Hid (∀ W, Below w.heap.size w W → TwoL g W) := Lib.hid (fun W hW => (h.below hW).l)
  unfold TwoL at HL
  have hw0 : IntKind.i64.wrap ((1 : Int) - 1) = 0 := by rfl
  have hw1 : IntKind.i64.wrap (0 : Int) = 0 := by rfl
  have hw2 : (0 : Int) < ((2 : Nat) : Int) := by decide
  have hw3 : (0 : Int) < 2 := by decide
  go_enter Try.func30, Try.ntmps30
  go_wp2_with fail
  refine wp_loop_rounds 2 ?_
  rw [rounds_succ]
  go_wp2_with fail
  refine wp_loop_rounds 1 ?_
  rw [rounds_succ]
  go_upto_region 4 with fail
  go_region_held3 (fun W => (W.cell? ⟨g, 0, none⟩ = some (.string ⟨#[102]⟩) ∧ W.cell? ⟨g, 1, none⟩ = some (.int .i64 0) ∧ W.cell? ⟨g, 2, none⟩ = some (.int .i64 0) ∧ W.cell? ⟨g, 3, none⟩ = some (.int .i64 (-1)) ∧ W.cell? ⟨g, 4, none⟩ = some (.int .i64 (-1)) ∧ W.cell? ⟨g, 5, none⟩ = some (.int .i64 0) ∧ W.cell? ⟨g, 6, none⟩ = some (.int .i64 (-1)) ∧ W.cell? ⟨g, 7, none⟩ = some (.int .i64 (-1)) ∧ W.cell? ⟨g, 8, none⟩ = some (.int .i64 0) ∧ W.cell? ⟨g, 9, none⟩ = some (.int .i64 (-1)) ∧ W.cell? ⟨g, 10, none⟩ = some (.bool false) ∧ W.cell? ⟨g, 11, none⟩ = some (.bool false) ∧ W.cell? ⟨g, 12, none⟩ = some (.string ⟨#[115, 119, 105, 116, 99, 104]⟩) ∧ W.cell? ⟨g, 13, none⟩ = some (.int .i64 (-1)) ∧ W.cell? ⟨g, 14, none⟩ = some (.int .i64 0) ∧ W.cell? ⟨g, 15, none⟩ = some (.int .i64 (-1)) ∧ W.cell? ⟨g, 16, none⟩ = some (.int .i64 (-1)) ∧ W.cell? ⟨g, 17, none⟩ = some (.int .i64 0) ∧ W.cell? ⟨g, 18, none⟩ = some (.int .i64 (-1)) ∧ W.cell? ⟨g, 19, none⟩ = some (.int .i64 (-1)) ∧ W.cell? ⟨g, 20, none⟩ = some (.int .i64 0) ∧ W.cell? ⟨g, 21, none⟩ = some (.int .i64 (-1)) ∧ W.cell? ⟨g, 22, none⟩ = some (.bool false) ∧ W.cell? ⟨g, 23, none⟩ = some (.bool true)) ∧ Below w.heap.size w W)
    (first | exact ⟨HL.out _ (by first | assumption | exact (Below.refl _ w).drew | exact Below.refl _ w), (by first | assumption | exact (Below.refl _ w).drew | exact Below.refl _ w)⟩ | assumption)
    (first | (go_at_call 23; (with_reducible refine (H.out _).mono ?_); rintro _ w6 ⟨rfl, hb6⟩; have HB6 : Below w.heap.size w w6 := ((Below.refl _ _).drew).trans (hb6.mono (by simp))))
  clear H HL
  go_wp2_with fail
  rw [rounds_succ]
  go_wp2_with fail
  go_end0
  exact ⟨rfl, HB6⟩
end Go.Proofs.Ytbbcljffcjhiaaa
