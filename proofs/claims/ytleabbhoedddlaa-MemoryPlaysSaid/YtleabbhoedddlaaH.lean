import Derived.Test.YtleabbhoedddlaaE
import Derived.Test.YtleabbhoedddlaaD
import Derived.Test.YtleabbhoedddlaaG
import Derived.Test.YtleabbhoedddlaaKV
namespace Go.Proofs.Ytleabbhoedddlaa
open Go.ChangeShapes Go.WideShapes Go.ChangeAt Go.RowKit
open Cp (cp arr mt)
set_option linter.unusedVariables false
/-- the cells after the capability at 8 -/
noncomputable def LA : Array Value := scC Z1 8 (bytes8 (Cp.En.bt 4096 0) (Cp.En.bt 4096 1) (Cp.En.bt 4096 2) (Cp.En.bt 4096 3) (Cp.En.bt (mt 39 0 4 256 0) 0) (Cp.En.bt (mt 39 0 4 256 0) 1) (Cp.En.bt (mt 39 0 4 256 0) 2) (Cp.En.bt (mt 39 0 4 256 0) 3)) true
noncomputable def LB : Array Value := stC LA 12 1 7
theorem LA_t0 : LA[65537]? = some (.bool false) := by
  unfold LA scC
  rw [Array.getElem?_setIfInBounds_ne (by omega), putA_out _ _ _ (by rw [Z1size]; simp [bytes8]) 65537 (Or.inr (by simp [bytes8])), Z1_at _ (by omega)]
  exact Z3
theorem LA_size : LA.size = 73729 := by
  unfold LA scC
  rw [Array.size_setIfInBounds, putA_size _ _ _ (by rw [Z1size]; simp [bytes8]), Z1size]
theorem LA_t1 : LA[65538]? = some (.bool true) := by
  unfold LA scC
  rw [show 65537 + 8 / 8 = 65538 from rfl, Array.getElem?_setIfInBounds_self_of_lt (by rw [putA_size _ _ _ (by rw [Z1size]; simp [bytes8]), Z1size]; omega)]
theorem LB_t0 : LB[65537]? = some (.bool false) := by
  unfold LB stC putB putB
  rw [Array.getElem?_setIfInBounds_ne (by omega), Array.getElem?_setIfInBounds_ne (by omega)]
  exact LA_t0
theorem LB_t1 : LB[65538]? = some (.bool false) := by
  unfold LB stC putB putB
  rw [show 65537 + 12 / 8 = 65538 from rfl, Array.getElem?_setIfInBounds_self_of_lt (by rw [Array.size_setIfInBounds, LA_size]; omega)]
theorem LB_b : LB[1 + 12]? = some (.int .u8 ((7 : Nat) : Int)) := by
  unfold LB stC putB putB
  rw [Array.getElem?_setIfInBounds_ne (by omega), show 1 + (12 + 0) = 1 + 12 from rfl, Array.getElem?_setIfInBounds_self_of_lt (by rw [LA_size]; omega)]
  rfl
theorem root (w : World) : Calls Try.prog 28 #[.int .u64 4096, .int .u64 8192, .int .u8 39] w fun en w' => en = .returned (.tuple #[cp true 4096 39 0 4 256 0, .int .i64 0]) ∧ Below w.heap.size w w' := by
  have h := Cp.c33 4096 8192 39 (by omega) (by omega) (by omega) w
  unfold Cp.rootV at h
  rw [show Cp.ex 4096 8192 = (4, 256, 0, 0) by decide, if_pos rfl] at h
  exact h
theorem sA (b : Nat) (w : World) (hm : Me w b Z1) : Calls Try.prog 13 #[.pointer (some ⟨b, 0, none⟩), .int .u32 8, cp true 4096 39 0 4 256 0] w fun e w' => e = .returned (.int .i64 0) ∧ Only b w w' ∧ Me w' b LA :=
  storeCap b 8 Z1 true 4096 39 0 4 256 0 _ _ _ _ _ _ _ _ w hm (by omega) (by decide) (Lib.hid fun w => Cp.cb11 true 4096 39 0 4 256 0 (by omega) (by omega) (by omega) (by omega) (by omega) (by omega) w)
theorem sB (b : Nat) (w : World) (hm : Me w b LA) : Calls Try.prog 12 #[.pointer (some ⟨b, 0, none⟩), .int .u32 12, .int .i64 1, .int .u32 7] w fun e w' => e = .returned (.int .i64 0) ∧ Only b w w' ∧ Me w' b LB :=
  store1 b 12 7 LA w hm (by omega) (by omega) (by decide)
set_option maxHeartbeats 1000000 in
theorem lives (w : World) : Calls Try.prog 11 #[] w fun e w' => e = .returned (.bool true) ∧ Below w.heap.size w w' := by
  go_enter Try.func11, Try.ntmps11
  go_wp2_with fail
  refine (new7 _).mono ?_
  rintro _ w1 ⟨rfl, q1, z1, m1⟩
  have HM1 := Lib.hid m1; have Q1 := Lib.hid q1; have S1 := Lib.hid z1
  have l1 : w.heap.size < w1.heap.size := by omega
  clear m1 q1 z1
  go_wp2_with fail
  refine (root _).mono ?_
  rintro _ w2 ⟨rfl, q2⟩
  have zz2 := q2.size
  have m2 : Me (w2.alloc (.cells #[.bool true, .int .u32 4096, .int .u8 39, .int .u8 0, .int .u8 4, .int .u16 256, .int .u16 0] 35)) w.heap.size Z1 := ⟨(HM1.out.1.below q2 l1).alloc _, HM1.out.2⟩
  have o2 : Below w.heap.size w (w2.alloc (.cells #[.bool true, .int .u32 4096, .int .u8 39, .int .u8 0, .int .u8 4, .int .u16 256, .int .u16 0] 35)) := (Q1.out.trans (q2.mono (by omega))).alloc (by omega) _
  have HM2 := Lib.hid m2; have O2 := Lib.hid o2
  clear m2 o2 q2
  go_wp2_with fail
  refine (sA _ _ HM2.out).mono ?_
  rintro _ w3 ⟨rfl, q3, m3⟩
  have o3 : Below w.heap.size w w3 := O2.out.trans (q3.1 _ (Nat.le_refl _) (by simp; omega))
  have HM3 := Lib.hid m3; have O3 := Lib.hid o3
  clear m3 o3 q3
  go_wp2_with fail
  refine (tags2 _ LA false true _ HM3.out LA_t0 LA_t1).mono ?_
  rintro _ _ ⟨rfl, rfl⟩
  go_wp2_with fail
  refine (sB _ _ HM3.out).mono ?_
  rintro _ w4 ⟨rfl, q4, m4⟩
  have o4 : Below w.heap.size w w4 := O3.out.trans (q4.1 _ (Nat.le_refl _) O3.out.size)
  have HM4 := Lib.hid m4; have O4 := Lib.hid o4
  clear m4 o4 q4
  go_wp2_with fail
  refine (tags2 _ LB false false _ HM4.out LB_t0 LB_t1).mono ?_
  rintro _ _ ⟨rfl, rfl⟩
  go_wp2_with fail
  refine (load1 _ 12 7 LB _ HM4.out (by omega) (by decide) (by omega) LB_b).mono ?_
  rintro _ _ ⟨rfl, rfl⟩
  go_wp2_with fail
  refine (storeNo _ 2 1 4 LB _ HM4.out (by decide)).mono ?_
  rintro _ _ ⟨rfl, rfl⟩
  go_wp2_with fail
  go_ret
  exact ⟨rfl, O4.out⟩
end Go.Proofs.Ytleabbhoedddlaa
