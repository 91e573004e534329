import Derived.Test.YtleabbhoedddlaaF
import Derived.Test.YtleabbhoedddlaaI
import Derived.Test.YtleabbhoedddlaaH
namespace Go.Proofs.Ytleabbhoedddlaa
open Go.ChangeShapes Go.WideShapes Go.ChangeAt Go.RowKit
open Cp (cp arr mt num4)
set_option linter.unusedVariables false
theorem scC_at {C : Array Value} (hC : C.size = 73729) (at_ : Nat) (ha : at_ + 8 ≤ 65536) (g : Bool) (l : List Value) (hl : l.length = 8) (j : Nat) (v : Value) (hj : l[j]? = some v) : (scC C at_ l g)[1 + at_ + j]? = some v := by
  have hlt : j < l.length := by
    rcases Nat.lt_or_ge j l.length with h | h
    · exact h
    · rw [List.getElem?_eq_none h] at hj; cases hj
  unfold scC
  rw [Array.getElem?_setIfInBounds_ne (by omega), putA_in _ _ _ (by omega) j hlt]
  exact hj
theorem scC_tag {C : Array Value} (hC : C.size = 73729) (at_ : Nat) (ha : at_ + 8 ≤ 65536) (g : Bool) (l : List Value) (hl : l.length = 8) : (scC C at_ l g)[65537 + at_ / 8]? = some (.bool g) := by
  unfold scC
  rw [Array.getElem?_setIfInBounds_self_of_lt (by rw [putA_size _ _ _ (by omega)]; omega)]
theorem scC_size {C : Array Value} (hC : C.size = 73729) (at_ : Nat) (ha : at_ + 8 ≤ 65536) (g : Bool) (l : List Value) (hl : l.length = 8) : (scC C at_ l g).size = 73729 := by
  unfold scC
  rw [Array.size_setIfInBounds, putA_size _ _ _ (by omega), hC]
theorem putB_in {C : Array Value} (at_ n : Nat) : ∀ (k j : Nat), j < k → at_ + k < C.size → (putB C at_ n k)[1 + (at_ + j)]? = some (.int .u8 (bt n j : Int))
  | 0, j, h, _ => by omega
  | k + 1, j, h, hs => by
    unfold putB
    by_cases e : j = k
    · rw [e, Array.getElem?_setIfInBounds_self_of_lt (by rw [putB_size]; omega)]
    · rw [Array.getElem?_setIfInBounds_ne (by omega)]
      exact putB_in at_ n k j (by omega) (by omega)
theorem putB_out {C : Array Value} (at_ n i : Nat) : ∀ k, (i < 1 + at_ ∨ 1 + at_ + k ≤ i) → (putB C at_ n k)[i]? = C[i]?
  | 0, _ => rfl
  | k + 1, h => by
    unfold putB
    rw [Array.getElem?_setIfInBounds_ne (by omega)]
    exact putB_out at_ n i k (by omega)
theorem One.putA_ {C : Array Value} (h : One C) (off : Nat) (l : List Value) (hl : l.all (·.oneCell') = true) : One (putA C off l) := by
  unfold One putA at *
  rw [List.all_eq_true] at *
  intro x hx
  simp only [List.mem_append] at hx
  rcases hx with hx | hx | hx
  · exact h x (List.mem_of_mem_take hx)
  · exact hl x hx
  · exact h x (List.mem_of_mem_drop hx)
theorem One.sc {C : Array Value} (h : One C) (at_ : Nat) (l : List Value) (hl : l.all (·.oneCell') = true) (g : Bool) : One (scC C at_ l g) := (h.putA_ _ l hl).set_ _ _ rfl
theorem One.z1 : One Z1 := One.set_ (show One Z from Zone) _ _ rfl
/-- what stands behind a number of four bytes over a capability -/
theorem over4 {C : Array Value} (hC : C.size = 73729) (at_ n : Nat) (ha : at_ + 8 ≤ 65536) (h8 : at_ % 8 = 0) (g : Bool) (x0 x1 x2 x3 x4 x5 x6 x7 : Nat) (j : Nat) (v : Value) (hj : (bytes8 (bt n 0) (bt n 1) (bt n 2) (bt n 3) x4 x5 x6 x7)[j]? = some v) :
    (stC (scC C at_ (bytes8 x0 x1 x2 x3 x4 x5 x6 x7) g) at_ 4 n)[1 + at_ + j]? = some v := by
  have hs := scC_size hC at_ ha g (bytes8 x0 x1 x2 x3 x4 x5 x6 x7) rfl
  have hlt : j < 8 := by
    rcases Nat.lt_or_ge j 8 with h | h
    · exact h
    · rw [List.getElem?_eq_none (by simp [bytes8]; omega)] at hj; cases hj
  unfold stC
  rw [Array.getElem?_setIfInBounds_ne (by omega)]
  by_cases h4 : j < 4
  · rw [show 1 + at_ + j = 1 + (at_ + j) by omega, putB_in at_ n 4 j h4 (by rw [hs]; omega), ← hj]
    have : j = 0 ∨ j = 1 ∨ j = 2 ∨ j = 3 := by omega
    rcases this with rfl | rfl | rfl | rfl <;> rfl
  · rw [putB_out at_ n _ 4 (by omega)]
    refine scC_at hC at_ ha g _ rfl j v ?_
    rw [← hj]
    have : j = 4 ∨ j = 5 ∨ j = 6 ∨ j = 7 := by omega
    rcases this with rfl | rfl | rfl | rfl <;> rfl
theorem over4_tag {C : Array Value} (hC : C.size = 73729) (at_ n : Nat) (ha : at_ + 8 ≤ 65536) (g : Bool) (l : List Value) (hl : l.length = 8) : (stC (scC C at_ l g) at_ 4 n)[65537 + at_ / 8]? = some (.bool false) := by
  unfold stC
  rw [Array.getElem?_setIfInBounds_self_of_lt (by rw [putB_size, scC_size hC at_ ha g l hl]; omega)]
theorem num4_bt (n : Nat) (hn : n < 4294967296) : num4 (bt n 0) (bt n 1) (bt n 2) (bt n 3) = n := by
  unfold num4 bt
  simp only [Nat.pow_zero, Nat.div_one, show 256 ^ 1 = 256 from rfl, show 256 ^ 2 = 65536 from rfl, show 256 ^ 3 = 16777216 from rfl]
  omega
theorem bt_lt (n k : Nat) : bt n k < 256 := Nat.mod_lt _ (by omega)
/-- the capability of eight bytes -/
def ofV (x0 x1 x2 x3 x4 x5 x6 x7 : Nat) (g : Bool) : Value := cp g (num4 x0 x1 x2 x3) (num4 x4 x5 x6 x7 % 128) (num4 x4 x5 x6 x7 / 128 % 8) (num4 x4 x5 x6 x7 / 1024 % 16) (num4 x4 x5 x6 x7 / 16384 % 512) (num4 x4 x5 x6 x7 / 8388608 % 512)
theorem storeCapNo (b at_ : Nat) (C : Array Value) (v0 v1 v2 v3 v4 v5 v6 : Value) (w : World) (hm : Me w b C) (hw : granB at_ = false) :
    Calls Try.prog 13 #[.pointer (some ⟨b, 0, none⟩), .int .u32 (at_ : Int), .agg #[v0, v1, v2, v3, v4, v5, v6]] w fun e w' => e = .returned (.int .i64 2) ∧ Below w.heap.size w w' := by
  have K := Lib.hid (c31 at_)
  rw [hw] at K
  have HM := Lib.hid hm
  clear hw hm
  go_enter Try.func13, Try.ntmps13
  go_wp2_with fail
  refine (Me.there (C := C) (w := w.alloc _) ⟨HM.out.1.alloc _, HM.out.2⟩).mono ?_
  rintro _ _ ⟨rfl, rfl⟩
  go_wp2_with fail
  refine (K.out _).mono ?_
  rintro _ _ ⟨rfl, rfl⟩
  go_wp2_with fail
  go_ret
  exact ⟨rfl, (Below.refl _ _).alloc (Nat.le_refl _) _⟩
end Go.Proofs.Ytleabbhoedddlaa
