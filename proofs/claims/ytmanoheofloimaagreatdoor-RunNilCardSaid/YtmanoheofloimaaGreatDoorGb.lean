import Derived.Test.YtmanoheofloimaaGreatDoorMA
import Derived.Test.YtmanoheofloimaaGreatDoorGa
import Derived.RegionTactic
import Derived.ChangeAlike
import Derived.StillTailTactics
namespace Go.Proofs.YtmanoheofloimaaGreatDoor
open Go.ChangeShapes Go.WideShapes Go.ChangeAt Go.RowKit
set_option linter.unusedVariables false
/-- the cells of a new memory -/
noncomputable def Z1 : Array Value := Z.setIfInBounds 0 (.bool true)
theorem Z1size : Z1.size = 73729 := by unfold Z1; rw [Array.size_setIfInBounds]; exact Zsize
theorem Z1_0 : Z1[0]? = some (.bool true) := by
  unfold Z1
  rw [Array.getElem?_setIfInBounds_self_of_lt (by rw [Zsize]; omega)]
theorem Z1_at (i : Nat) (h : i ≠ 0) : Z1[i]? = Z[i]? := by
  unfold Z1
  rw [Array.getElem?_setIfInBounds_ne (by omega)]
/-- a memory that a call made: its cells -/
def Me (w : World) (b : Nat) (C : Array Value) : Prop := Blk w b 86 C ∧ C.size = 73729 ∧ C[0]? = some (.bool true)
theorem there0 (w : World) : Calls Tryz.prog 21 #[.pointer none] w fun e w' => e = .returned (.bool false) ∧ w = w' := by
  go_enter Tryz.func21, Tryz.ntmps21
  go_wp2
  go_ret
  exact ⟨rfl, rfl⟩
theorem there1 (b : Nat) (x : Bool) (w : World) (h : w.cell? ⟨b, 0, none⟩ = some (.bool x)) : Calls Tryz.prog 21 #[.pointer (some ⟨b, 0, none⟩)] w fun e w' => e = .returned (.bool x) ∧ w = w' := by
  go_enter Tryz.func21, Tryz.ntmps21
  go_wp2
  go_ret
  exact ⟨rfl, rfl⟩
theorem Me.there {w : World} {b : Nat} {C : Array Value} (h : Me w b C) : Calls Tryz.prog 21 #[.pointer (some ⟨b, 0, none⟩)] w fun e w' => e = .returned (.bool true) ∧ w = w' :=
  there1 b true w (by rw [h.1.cell]; exact h.2.2)
/-- may a number of that size stand there? -/
def wordB (at_ : Nat) (s : Int) : Bool := decide ((s = 1 ∨ s = 2 ∨ s = 4) ∧ at_ < 65536 ∧ (at_ : Int) % s = 0)
theorem word_bad (n : Nat) (s : Int) (h1 : s ≠ 1) (h2 : s ≠ 2) (h4 : s ≠ 4) (w : World) : Calls Tryz.prog 23 #[.int .u32 (n : Int), .int .i64 s] w fun e w' => e = .returned (.bool false) ∧ w = w' := by
  have t1 : (s != 1) = true := by simp; omega
  have t2 : (s != 2) = true := by simp; omega
  have t4 : (s != 4) = true := by simp; omega
  clear h1 h2 h4
  go_enter Tryz.func23, Tryz.ntmps23
  go_wp2_with fail
  go_ret
  exact ⟨rfl, rfl⟩
theorem word_far (n : Nat) (s : Int) (hs : s = 1 ∨ s = 2 ∨ s = 4) (h : 65536 ≤ n) (w : World) : Calls Tryz.prog 23 #[.int .u32 (n : Int), .int .i64 s] w fun e w' => e = .returned (.bool false) ∧ w = w' := by
  have d : decide ((n : Int) < 65536) = false := by simp; omega
  rcases hs with rfl | rfl | rfl
  all_goals
    go_enter Tryz.func23, Tryz.ntmps23
    go_wp2_with fail
    go_ret
    exact ⟨rfl, rfl⟩
theorem word_at (n : Nat) (s : Int) (b : Bool) (hs : s = 1 ∨ s = 2 ∨ s = 4) (h : n < 65536) (hb : decide ((n : Int) % s = 0) = b) (w : World) : Calls Tryz.prog 23 #[.int .u32 (n : Int), .int .i64 s] w fun e w' => e = .returned (.bool b) ∧ w = w' := by
  have d : decide ((n : Int) < 65536) = true := by simp; omega
  rcases hs with rfl | rfl | rfl
  all_goals
    go_enter Tryz.func23, Tryz.ntmps23
    go_wp2_with fail
    go_ret
    refine ⟨retb ?_, rfl⟩
    rw [← hb, Bool.eq_iff_iff]
    simp
theorem c30 (n : Nat) (s : Int) (w : World) : Calls Tryz.prog 23 #[.int .u32 (n : Int), .int .i64 s] w fun e w' => e = .returned (.bool (wordB n s)) ∧ w = w' := by
  unfold wordB
  by_cases hs : s = 1 ∨ s = 2 ∨ s = 4
  · by_cases hn : n < 65536
    · have := word_at n s (decide ((n : Int) % s = 0)) hs hn rfl w
      rw [show decide ((s = 1 ∨ s = 2 ∨ s = 4) ∧ n < 65536 ∧ (n : Int) % s = 0) = decide ((n : Int) % s = 0) by rw [Bool.eq_iff_iff]; simp [hs, hn]]
      exact this
    · rw [show decide ((s = 1 ∨ s = 2 ∨ s = 4) ∧ n < 65536 ∧ (n : Int) % s = 0) = false by simp [hn]]
      exact word_far n s hs (by omega) w
  · rw [show decide ((s = 1 ∨ s = 2 ∨ s = 4) ∧ n < 65536 ∧ (n : Int) % s = 0) = false by simp [hs]]
    exact word_bad n s (fun h => hs (Or.inl h)) (fun h => hs (Or.inr (Or.inl h))) (fun h => hs (Or.inr (Or.inr h))) w
end Go.Proofs.YtmanoheofloimaaGreatDoor
namespace Go.Proofs.YtmanoheofloimaaGreatDoor
open Go.ChangeShapes Go.WideShapes Go.ChangeAt Go.RowKit
set_option linter.unusedVariables false
def bt (n k : Nat) : Nat := n / 256 ^ k % 256
/-- bytes that are put in -/
def putB (C : Array Value) (at_ n : Nat) : Nat → Array Value
  | 0 => C
  | k + 1 => (putB C at_ n k).setIfInBounds (1 + (at_ + k)) (.int .u8 (bt n k : Int))
/-- the cells behind a store -/
def stC (C : Array Value) (at_ s n : Nat) : Array Value := (putB C at_ n s).setIfInBounds (65537 + at_ / 8) (.bool false)
theorem putB_size (C : Array Value) (at_ n : Nat) : ∀ k, (putB C at_ n k).size = C.size
  | 0 => rfl
  | k + 1 => by unfold putB; rw [Array.size_setIfInBounds, putB_size C at_ n k]
theorem putB_0 (C : Array Value) (at_ n : Nat) : ∀ k, (putB C at_ n k)[0]? = C[0]?
  | 0 => rfl
  | k + 1 => by unfold putB; rw [Array.getElem?_setIfInBounds_ne (by omega), putB_0 C at_ n k]
theorem Me.put {w : World} {b : Nat} {C : Array Value} (h : Me w b C) (at_ n k : Nat) : (putB C at_ n k).size = 73729 ∧ (putB C at_ n k)[0]? = some (.bool true) :=
  ⟨(putB_size C at_ n k).trans h.2.1, (putB_0 C at_ n k).trans h.2.2⟩
theorem Me.at_ {w : World} {b : Nat} {C : Array Value} (h : Me w b C) (i : Nat) (hi : i < 73729) : ∃ v, w.cell? ⟨b, i, none⟩ = some v := by
  rw [h.1.cell, Array.getElem?_eq_getElem (by rw [h.2.1]; exact hi)]
  exact ⟨_, rfl⟩
def SR (w : World) (b : Nat) (C : Array Value) (at_ n s : Nat) (i : Value) (wr : World) : Prop := ∃ k : Nat, k ≤ s ∧ i = .int .i64 (k : Int) ∧ Only b w wr ∧ Me wr b (putB C at_ n k)
theorem SR.step {w wr : World} {b at_ n s k : Nat} {C : Array Value} (hk : k < s) (ho : Only b w wr) (hm : Me wr b (putB C at_ n k)) {i : Int} (hi : i = ((k + 1 : Nat) : Int)) {x : Int} (hx : x = (bt n k : Int)) {off : Nat} (hoff : off = 1 + (at_ + k)) :
    SR w b C at_ n s (.int .i64 i) (wr.setCell ⟨b, off, none⟩ (.int .u8 x)).drew := by
  subst hi hx hoff
  refine ⟨k + 1, by omega, rfl, (ho.set_ _ _).drew, (hm.1.set_ _ _).drew, ?_⟩
  show (putB C at_ n (k + 1)).size = 73729 ∧ (putB C at_ n (k + 1))[0]? = some (.bool true)
  unfold putB
  rw [Array.size_setIfInBounds, Array.getElem?_setIfInBounds_ne (by omega)]
  exact hm.2
end Go.Proofs.YtmanoheofloimaaGreatDoor
namespace Go.Proofs.YtmanoheofloimaaGreatDoor
open Go.ChangeShapes Go.WideShapes Go.ChangeAt Go.RowKit
open Cp (cp arr mt)
set_option linter.unusedVariables false
set_option maxRecDepth 100000
/-- cells put in at a place -/
def putA (C : Array Value) (off : Nat) (cs : List Value) : Array Value := (C.toList.take off ++ (cs ++ C.toList.drop (off + cs.length))).toArray
end Go.Proofs.YtmanoheofloimaaGreatDoor
namespace Go.Proofs.YtmanoheofloimaaGreatDoor
open Go.ChangeShapes Go.WideShapes Go.ChangeAt Go.RowKit
set_option linter.unusedVariables false
/-- it is no memory that a call made -/
def Nope (w : World) (a : Option Addr) : Prop := Calls Tryz.prog 21 #[.pointer a] w fun e w' => e = .returned (.bool false) ∧ w = w'
theorem Nope.nil (w : World) : Nope w none := there0 w
theorem Nope.zero {w : World} {b : Nat} {C : Array Value} (h : Blk w b 86 C) (h0 : C[0]? = some (.bool false)) : Nope w (some ⟨b, 0, none⟩) :=
  there1 b false w (by rw [h.cell]; exact h0)
section
variable (a : Option Addr) (w : World) (h : Nope w a)
end
end Go.Proofs.YtmanoheofloimaaGreatDoor
