import Derived.Test.YtmanoheofloimaaGreatDoorGc
namespace Go.Proofs.YtmanoheofloimaaGreatDoor
open Go.ChangeShapes Go.WideShapes Go.ChangeAt Go.RowKit
open Cp (cp arr mt num4)
set_option linter.unusedVariables false
set_option maxRecDepth 100000
/-- cells that read as bytes and tags -/
structure Rds (C : Array Value) (B : Nat → Nat) (T : Nat → Bool) : Prop where
  size : C.size = 73729
  made : C[0]? = some (.bool true)
  bytes : ∀ i, i < 65536 → C[1 + i]? = some (.int .u8 (B i : Int))
  tags : ∀ i, i < 8192 → C[65537 + i]? = some (.bool (T i))
  lt : ∀ i, B i < 256
theorem Rds.one {C : Array Value} {B : Nat → Nat} {T : Nat → Bool} (h : Rds C B T) : One C := by
  unfold One
  rw [List.all_eq_true]
  intro x hx
  obtain ⟨i, hi, rfl⟩ := List.getElem_of_mem hx
  have hs := h.size
  have hi2 : i < C.size := by simpa using hi
  have e : C[i]? = some (C.toList[i]) := by rw [Array.getElem?_eq_getElem hi2]; simp
  by_cases h0 : i = 0
  · subst h0
    rw [h.made] at e
    rw [← Option.some.inj e]; rfl
  by_cases h1 : i < 65537
  · have := h.bytes (i - 1) (by omega)
    rw [show 1 + (i - 1) = i by omega, e] at this
    rw [Option.some.inj this]; rfl
  · have := h.tags (i - 65537) (by omega)
    rw [show 65537 + (i - 65537) = i by omega, e] at this
    rw [Option.some.inj this]; rfl
/-- bytes behind a store -/
def stB (B : Nat → Nat) (a s n : Nat) (i : Nat) : Nat := if a ≤ i ∧ i < a + s then bt n (i - a) else B i
def stT (T : Nat → Bool) (a : Nat) (g : Bool) (i : Nat) : Bool := if i = a / 8 then g else T i
theorem Rds.store {C : Array Value} {B : Nat → Nat} {T : Nat → Bool} (h : Rds C B T) (a s n : Nat) (ha : a + s ≤ 65536) (hs : 0 < s) : Rds (stC C a s n) (stB B a s n) (stT T a false) where
  size := by unfold stC; rw [Array.size_setIfInBounds, putB_size, h.size]
  made := by unfold stC; rw [Array.getElem?_setIfInBounds_ne (by omega), putB_0, h.made]
  bytes := fun i hi => by
    unfold stC stB
    rw [Array.getElem?_setIfInBounds_ne (by omega)]
    by_cases c : a ≤ i ∧ i < a + s
    · rw [if_pos c, show 1 + i = 1 + (a + (i - a)) by omega, putB_in a n s (i - a) (by omega) (by rw [h.size]; omega)]
    · rw [if_neg c, putB_out a n _ s (by omega), h.bytes i hi]
  tags := fun i hi => by
    unfold stC stT
    by_cases c : i = a / 8
    · rw [if_pos c, c, Array.getElem?_setIfInBounds_self_of_lt (by rw [putB_size, h.size]; omega)]
    · rw [if_neg c, Array.getElem?_setIfInBounds_ne (by omega), putB_out a n _ s (by omega), h.tags i hi]
  lt := fun i => by
    unfold stB
    split
    · exact bt_lt _ _
    · exact h.lt i
/-- eight bytes -/
def b8 (x0 x1 x2 x3 x4 x5 x6 x7 : Nat) (j : Nat) : Nat := match j with | 0 => x0 | 1 => x1 | 2 => x2 | 3 => x3 | 4 => x4 | 5 => x5 | 6 => x6 | _ => x7
/-- a memory that reads so -/
def Mem (w : World) (b : Nat) (B : Nat → Nat) (T : Nat → Bool) : Prop := ∃ C, Blk w b 86 C ∧ Rds C B T
theorem Mem.me {w : World} {b : Nat} {C : Array Value} {B : Nat → Nat} {T : Nat → Bool} (h : Blk w b 86 C) (r : Rds C B T) : Me w b C := ⟨h, r.size, r.made⟩
theorem Mem.lt {w : World} {b : Nat} {B : Nat → Nat} {T : Nat → Bool} (h : Mem w b B T) : b < w.heap.size := by obtain ⟨C, hb, _⟩ := h; exact hb.lt
theorem Mem.below {w w' : World} {b K : Nat} {B : Nat → Nat} {T : Nat → Bool} (h : Mem w b B T) (hb : Below K w w') (hk : b < K) : Mem w' b B T := by obtain ⟨C, h1, r⟩ := h; exact ⟨C, h1.below hb hk, r⟩
theorem Mem.far {w w' : World} {b m : Nat} {B : Nat → Nat} {T : Nat → Bool} (h : Mem w b B T) (ho : Only m w w') (hk : b ≠ m) : Mem w' b B T := by obtain ⟨C, h1, r⟩ := h; exact ⟨C, ho.blk hk h1, r⟩
end Go.Proofs.YtmanoheofloimaaGreatDoor
