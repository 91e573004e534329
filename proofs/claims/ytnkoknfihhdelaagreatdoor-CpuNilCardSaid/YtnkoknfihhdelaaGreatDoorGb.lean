import Derived.Test.YtnkoknfihhdelaaGreatDoorMA
import Derived.Test.YtnkoknfihhdelaaGreatDoorGa
import Derived.RegionTactic
import Derived.ChangeAlike
import Derived.StillTailTactics
import Derived.Deep.DeepCutAuto
import Derived.Deep.CutBlock
namespace Go.Proofs.YtnkoknfihhdelaaGreatDoor
open Go.ChangeShapes Go.WideShapes Go.ChangeAt Go.RowKit
set_option linter.unusedVariables false
theorem Zne : ¬ Z = #[] := fun h => by have := Zsize; rw [h] at this; simp at this
/-- the cells of a new memory -/
noncomputable def Z1 : Array Value := Z.setIfInBounds 0 (.bool true)
theorem Z1size : Z1.size = 73729 := by unfold Z1; rw [Array.size_setIfInBounds]; exact Zsize
theorem Z1_0 : Z1[0]? = some (.bool true) := by
  unfold Z1
  rw [Array.getElem?_setIfInBounds_self_of_lt (by rw [Zsize]; omega)]
theorem Z1_at (i : Nat) (h : i ≠ 0) : Z1[i]? = Z[i]? := by
  unfold Z1
  rw [Array.getElem?_setIfInBounds_ne (by omega)]
/-- a memory that a call made: its cells -/
def Me (w : World) (b : Nat) (C : Array Value) : Prop := Blk w b 69 C ∧ C.size = 73729 ∧ C[0]? = some (.bool true)
theorem new7 (w : World) : Calls Tryz.prog 20 #[] w fun e w' => e = .returned (.pointer (some ⟨w.heap.size, 0, none⟩)) ∧ Below w.heap.size w w' ∧ w'.heap.size = w.heap.size + 1 ∧ Me w' w.heap.size Z1 := by
  have hz := zeroValue64
  have hne := Zne
  go_enter Tryz.func20, Tryz.ntmps20
  go_wp2_with fail
  go_ret
  exact ⟨rfl, (Below.refl _ _).alloc (Nat.le_refl _) _, by simp, Blk.new _ _ _, Z1size, Z1_0⟩
theorem there0 (w : World) : Calls Tryz.prog 49 #[.pointer none] w fun e w' => e = .returned (.bool false) ∧ w = w' := by
  go_enter Tryz.func49, Tryz.ntmps49
  go_wp2
  go_ret
  exact ⟨rfl, rfl⟩
theorem there1 (b : Nat) (x : Bool) (w : World) (h : w.cell? ⟨b, 0, none⟩ = some (.bool x)) : Calls Tryz.prog 49 #[.pointer (some ⟨b, 0, none⟩)] w fun e w' => e = .returned (.bool x) ∧ w = w' := by
  go_enter Tryz.func49, Tryz.ntmps49
  go_wp2
  go_ret
  exact ⟨rfl, rfl⟩
theorem Me.there {w : World} {b : Nat} {C : Array Value} (h : Me w b C) : Calls Tryz.prog 49 #[.pointer (some ⟨b, 0, none⟩)] w fun e w' => e = .returned (.bool true) ∧ w = w' :=
  there1 b true w (by rw [h.1.cell]; exact h.2.2)
/-- may a number of that size stand there? -/
def wordB (at_ : Nat) (s : Int) : Bool := decide ((s = 1 ∨ s = 2 ∨ s = 4) ∧ at_ < 65536 ∧ (at_ : Int) % s = 0)
theorem word_bad (n : Nat) (s : Int) (h1 : s ≠ 1) (h2 : s ≠ 2) (h4 : s ≠ 4) (w : World) : Calls Tryz.prog 53 #[.int .u32 (n : Int), .int .i64 s] w fun e w' => e = .returned (.bool false) ∧ w = w' := by
  have t1 : (s != 1) = true := by simp; omega
  have t2 : (s != 2) = true := by simp; omega
  have t4 : (s != 4) = true := by simp; omega
  clear h1 h2 h4
  go_enter Tryz.func53, Tryz.ntmps53
  go_wp2_with fail
  go_ret
  exact ⟨rfl, rfl⟩
theorem word_far (n : Nat) (s : Int) (hs : s = 1 ∨ s = 2 ∨ s = 4) (h : 65536 ≤ n) (w : World) : Calls Tryz.prog 53 #[.int .u32 (n : Int), .int .i64 s] w fun e w' => e = .returned (.bool false) ∧ w = w' := by
  have d : decide ((n : Int) < 65536) = false := by simp; omega
  rcases hs with rfl | rfl | rfl
  all_goals
    go_enter Tryz.func53, Tryz.ntmps53
    go_wp2_with fail
    go_ret
    exact ⟨rfl, rfl⟩
theorem word_at (n : Nat) (s : Int) (b : Bool) (hs : s = 1 ∨ s = 2 ∨ s = 4) (h : n < 65536) (hb : decide ((n : Int) % s = 0) = b) (w : World) : Calls Tryz.prog 53 #[.int .u32 (n : Int), .int .i64 s] w fun e w' => e = .returned (.bool b) ∧ w = w' := by
  have d : decide ((n : Int) < 65536) = true := by simp; omega
  rcases hs with rfl | rfl | rfl
  all_goals
    go_enter Tryz.func53, Tryz.ntmps53
    go_wp2_with fail
    go_ret
    refine ⟨retb ?_, rfl⟩
    rw [← hb, Bool.eq_iff_iff]
    simp
theorem c30 (n : Nat) (s : Int) (w : World) : Calls Tryz.prog 53 #[.int .u32 (n : Int), .int .i64 s] w fun e w' => e = .returned (.bool (wordB n s)) ∧ w = w' := by
  unfold wordB
  by_cases hs : s = 1 ∨ s = 2 ∨ s = 4
  · by_cases hn : n < 65536
    · have := word_at n s (decide ((n : Int) % s = 0)) hs hn rfl w
      rw [show decide ((s = 1 ∨ s = 2 ∨ s = 4) ∧ n < 65536 ∧ (n : Int) % s = 0) = decide ((n : Int) % s = 0) by rw [Bool.eq_iff_iff]; simp [hs, hn]]
      exact this
    · rw [show decide ((s = 1 ∨ s = 2 ∨ s = 4) ∧ n < 65536 ∧ (n : Int) % s = 0) = false by simp [hn]]
      exact word_far n s hs (by omega) w
  · rw [show decide ((s = 1 ∨ s = 2 ∨ s = 4) ∧ n < 65536 ∧ (n : Int) % s = 0) = false by simp [hs]]
    exact word_bad n s (fun h => hs (Or.inl h)) (fun h => hs (Or.inr (Or.inl h))) (fun h => hs (Or.inr (Or.inr h))) w
def granB (n : Nat) : Bool := decide (n < 65536) && decide (n % 8 = 0)
theorem c31 (n : Nat) (w : World) : Calls Tryz.prog 51 #[.int .u32 (n : Int)] w fun e w' => e = .returned (.bool (granB n)) ∧ w = w' := by
  by_cases hn : n < 65536
  · have d : decide ((n : Int) < 65536) = true := by simp; omega
    go_enter Tryz.func51, Tryz.ntmps51
    go_wp2_with fail
    go_ret
    refine ⟨retb ?_, rfl⟩
    unfold granB
    rw [Bool.eq_iff_iff]
    simp [hn]
    omega
  · have d : decide ((n : Int) < 65536) = false := by simp; omega
    go_enter Tryz.func51, Tryz.ntmps51
    go_wp2_with fail
    go_ret
    refine ⟨retb ?_, rfl⟩
    unfold granB
    rw [Bool.eq_iff_iff]
    simp [hn]
end Go.Proofs.YtnkoknfihhdelaaGreatDoor
namespace Go.Proofs.YtnkoknfihhdelaaGreatDoor
open Go.ChangeShapes Go.WideShapes Go.ChangeAt Go.RowKit
set_option linter.unusedVariables false
def bt (n k : Nat) : Nat := n / 256 ^ k % 256
/-- bytes that are put in -/
def putB (C : Array Value) (at_ n : Nat) : Nat → Array Value
  | 0 => C
  | k + 1 => (putB C at_ n k).setIfInBounds (1 + (at_ + k)) (.int .u8 (bt n k : Int))
/-- the cells behind a store -/
def stC (C : Array Value) (at_ s n : Nat) : Array Value := (putB C at_ n s).setIfInBounds (65537 + at_ / 8) (.bool false)
theorem putB_size (C : Array Value) (at_ n : Nat) : ∀ k, (putB C at_ n k).size = C.size
  | 0 => rfl
  | k + 1 => by unfold putB; rw [Array.size_setIfInBounds, putB_size C at_ n k]
theorem putB_0 (C : Array Value) (at_ n : Nat) : ∀ k, (putB C at_ n k)[0]? = C[0]?
  | 0 => rfl
  | k + 1 => by unfold putB; rw [Array.getElem?_setIfInBounds_ne (by omega), putB_0 C at_ n k]
theorem Me.put {w : World} {b : Nat} {C : Array Value} (h : Me w b C) (at_ n k : Nat) : (putB C at_ n k).size = 73729 ∧ (putB C at_ n k)[0]? = some (.bool true) :=
  ⟨(putB_size C at_ n k).trans h.2.1, (putB_0 C at_ n k).trans h.2.2⟩
theorem Me.at_ {w : World} {b : Nat} {C : Array Value} (h : Me w b C) (i : Nat) (hi : i < 73729) : ∃ v, w.cell? ⟨b, i, none⟩ = some v := by
  rw [h.1.cell, Array.getElem?_eq_getElem (by rw [h.2.1]; exact hi)]
  exact ⟨_, rfl⟩
def SR (w : World) (b : Nat) (C : Array Value) (at_ n s : Nat) (i : Value) (wr : World) : Prop := ∃ k : Nat, k ≤ s ∧ i = .int .i64 (k : Int) ∧ Only b w wr ∧ Me wr b (putB C at_ n k)
theorem bt_eq (n k : Nat) : bt n k = n / 256 ^ k % 256 := rfl
theorem SR.step {w wr : World} {b at_ n s k : Nat} {C : Array Value} (hk : k < s) (ho : Only b w wr) (hm : Me wr b (putB C at_ n k)) {i : Int} (hi : i = ((k + 1 : Nat) : Int)) {x : Int} (hx : x = (bt n k : Int)) {off : Nat} (hoff : off = 1 + (at_ + k)) :
    SR w b C at_ n s (.int .i64 i) (wr.setCell ⟨b, off, none⟩ (.int .u8 x)).drew := by
  subst hi hx hoff
  refine ⟨k + 1, by omega, rfl, (ho.set_ _ _).drew, (hm.1.set_ _ _).drew, ?_⟩
  show (putB C at_ n (k + 1)).size = 73729 ∧ (putB C at_ n (k + 1))[0]? = some (.bool true)
  unfold putB
  rw [Array.size_setIfInBounds, Array.getElem?_setIfInBounds_ne (by omega)]
  exact hm.2
theorem Me.tag_ {w : World} {b : Nat} {C : Array Value} (h : Me w b C) {i : Nat} (hi : 1 ≤ i) (v : Value) : Me (w.setCell ⟨b, i, none⟩ v) b (C.setIfInBounds i v) :=
  ⟨h.1.set_ _ _, by rw [Array.size_setIfInBounds]; exact h.2.1, by rw [Array.getElem?_setIfInBounds_ne (by omega)]; exact h.2.2⟩
set_option maxHeartbeats 1000000 in
theorem store1 (b at_ n : Nat) (C : Array Value) (w : World) (hm : Me w b C) (hn : n < 4294967296) (ha : at_ + 1 ≤ 65536) (hw : wordB at_ 1 = true) :
    Calls Tryz.prog 22 #[.pointer (some ⟨b, 0, none⟩), .int .u32 (at_ : Int), .int .i64 1, .int .u32 (n : Int)] w fun e w' => e = .returned (.int .i64 0) ∧ Only b w w' ∧ Me w' b (stC C at_ 1 n) := by
  have K := Lib.hid (c30 at_ 1)
  rw [hw] at K
  have KT := Lib.hid hm.there
  have HM := Lib.hid hm
  clear hw hm
  go_enter Tryz.func22, Tryz.ntmps22
  go_wp2_with fail
  refine KT.out.mono ?_
  rintro _ _ ⟨rfl, rfl⟩
  go_wp2_with fail
  refine (K.out _).mono ?_
  rintro _ _ ⟨rfl, rfl⟩
  go_wp2_with fail
  go_loopw [9, 18] (fun _ i wr => SR w b C at_ n 1 i wr) (fun _ i _ => 1 - (intOf i).toNat)
  case atStart => exact ⟨0, by omega, rfl, Only.refl _ _, HM.out⟩
  case round =>
    obtain ⟨k, hk, rfl, ho, hm⟩ := hrel
    have hk4 : k = 0 ∨ k = 1 := by omega
    clear hk
    rcases hk4 with rfl | rfl
    · obtain ⟨v, hv⟩ := hm.at_ (1 + (at_ + 0)) (by omega)
      have hf := hm.1.frozen (1 + (at_ + 0))
      have hv : wr.cell? ⟨b, 1 + at_, none⟩ = some v := hv
      have hf : wr.frozen? ⟨b, 1 + at_, none⟩ = false := hf
      have hi : (at_ : Int) + 0 < 65536 := by omega
      have HO := Lib.hid ho; have HM2 := Lib.hid hm; have HA := Lib.hid ha
      clear ho hm ha HM
      go_wp2_with fail
      go_region
      go_wp2_with fail
      exact ⟨SR.step (k := 0) (by omega) HO.out HM2.out rfl (by unfold bt; simp) rfl, by simp [intOf]⟩
    · obtain ⟨v, hv⟩ := hm.at_ (65537 + at_ / 8) (by omega)
      have hf := hm.1.frozen (65537 + at_ / 8)
      have hi : (at_ : Int) / 8 < 8192 := by omega
      have HO := Lib.hid ho; have HM2 := Lib.hid hm; have HA := Lib.hid ha
      clear ho hm ha HM
      go_wp2_with fail
      go_ret
      exact ⟨rfl, HO.out.set_ _ _, HM2.out.tag_ (by have := HA.out; omega) _⟩
set_option maxHeartbeats 1000000 in
theorem store2 (b at_ n : Nat) (C : Array Value) (w : World) (hm : Me w b C) (hn : n < 4294967296) (ha : at_ + 2 ≤ 65536) (hw : wordB at_ 2 = true) :
    Calls Tryz.prog 22 #[.pointer (some ⟨b, 0, none⟩), .int .u32 (at_ : Int), .int .i64 2, .int .u32 (n : Int)] w fun e w' => e = .returned (.int .i64 0) ∧ Only b w w' ∧ Me w' b (stC C at_ 2 n) := by
  have K := Lib.hid (c30 at_ 2)
  rw [hw] at K
  have KT := Lib.hid hm.there
  have HM := Lib.hid hm
  clear hw hm
  go_enter Tryz.func22, Tryz.ntmps22
  go_wp2_with fail
  refine KT.out.mono ?_
  rintro _ _ ⟨rfl, rfl⟩
  go_wp2_with fail
  refine (K.out _).mono ?_
  rintro _ _ ⟨rfl, rfl⟩
  go_wp2_with fail
  go_loopw [9, 18] (fun _ i wr => SR w b C at_ n 2 i wr) (fun _ i _ => 2 - (intOf i).toNat)
  case atStart => exact ⟨0, by omega, rfl, Only.refl _ _, HM.out⟩
  case round =>
    obtain ⟨k, hk, rfl, ho, hm⟩ := hrel
    have hk4 : k = 0 ∨ k = 1 ∨ k = 2 := by omega
    clear hk
    rcases hk4 with rfl | rfl | rfl
    · obtain ⟨v, hv⟩ := hm.at_ (1 + (at_ + 0)) (by omega)
      have hf := hm.1.frozen (1 + (at_ + 0))
      have hv : wr.cell? ⟨b, 1 + at_, none⟩ = some v := hv
      have hf : wr.frozen? ⟨b, 1 + at_, none⟩ = false := hf
      have hi : (at_ : Int) + 0 < 65536 := by omega
      have HO := Lib.hid ho; have HM2 := Lib.hid hm; have HA := Lib.hid ha
      clear ho hm ha HM
      go_wp2_with fail
      go_region
      go_wp2_with fail
      exact ⟨SR.step (k := 0) (by omega) HO.out HM2.out rfl (by unfold bt; simp) rfl, by simp [intOf]⟩
    · obtain ⟨v, hv⟩ := hm.at_ (1 + (at_ + 1)) (by omega)
      have hf := hm.1.frozen (1 + (at_ + 1))
      have hv : wr.cell? ⟨b, 1 + (at_ + 1), none⟩ = some v := hv
      have hf : wr.frozen? ⟨b, 1 + (at_ + 1), none⟩ = false := hf
      have hi : (at_ : Int) + 1 < 65536 := by omega
      have HO := Lib.hid ho; have HM2 := Lib.hid hm; have HA := Lib.hid ha
      clear ho hm ha HM
      go_wp2_with fail
      go_region
      go_wp2_with fail
      exact ⟨SR.step (k := 1) (by omega) HO.out HM2.out rfl (by unfold bt; simp) rfl, by simp [intOf]⟩
    · obtain ⟨v, hv⟩ := hm.at_ (65537 + at_ / 8) (by omega)
      have hf := hm.1.frozen (65537 + at_ / 8)
      have hi : (at_ : Int) / 8 < 8192 := by omega
      have HO := Lib.hid ho; have HM2 := Lib.hid hm; have HA := Lib.hid ha
      clear ho hm ha HM
      go_wp2_with fail
      go_ret
      exact ⟨rfl, HO.out.set_ _ _, HM2.out.tag_ (by have := HA.out; omega) _⟩
set_option maxHeartbeats 1000000 in
theorem store4 (b at_ n : Nat) (C : Array Value) (w : World) (hm : Me w b C) (hn : n < 4294967296) (ha : at_ + 4 ≤ 65536) (hw : wordB at_ 4 = true) :
    Calls Tryz.prog 22 #[.pointer (some ⟨b, 0, none⟩), .int .u32 (at_ : Int), .int .i64 4, .int .u32 (n : Int)] w fun e w' => e = .returned (.int .i64 0) ∧ Only b w w' ∧ Me w' b (stC C at_ 4 n) := by
  have K := Lib.hid (c30 at_ 4)
  rw [hw] at K
  have KT := Lib.hid hm.there
  have HM := Lib.hid hm
  clear hw hm
  go_enter Tryz.func22, Tryz.ntmps22
  go_wp2_with fail
  refine KT.out.mono ?_
  rintro _ _ ⟨rfl, rfl⟩
  go_wp2_with fail
  refine (K.out _).mono ?_
  rintro _ _ ⟨rfl, rfl⟩
  go_wp2_with fail
  go_loopw [9, 18] (fun _ i wr => SR w b C at_ n 4 i wr) (fun _ i _ => 4 - (intOf i).toNat)
  case atStart => exact ⟨0, by omega, rfl, Only.refl _ _, HM.out⟩
  case round =>
    obtain ⟨k, hk, rfl, ho, hm⟩ := hrel
    have hk4 : k = 0 ∨ k = 1 ∨ k = 2 ∨ k = 3 ∨ k = 4 := by omega
    clear hk
    rcases hk4 with rfl | rfl | rfl | rfl | rfl
    · obtain ⟨v, hv⟩ := hm.at_ (1 + (at_ + 0)) (by omega)
      have hf := hm.1.frozen (1 + (at_ + 0))
      have hv : wr.cell? ⟨b, 1 + at_, none⟩ = some v := hv
      have hf : wr.frozen? ⟨b, 1 + at_, none⟩ = false := hf
      have hi : (at_ : Int) + 0 < 65536 := by omega
      have HO := Lib.hid ho; have HM2 := Lib.hid hm; have HA := Lib.hid ha
      clear ho hm ha HM
      go_wp2_with fail
      go_region
      go_wp2_with fail
      exact ⟨SR.step (k := 0) (by omega) HO.out HM2.out rfl (by unfold bt; simp) rfl, by simp [intOf]⟩
    · obtain ⟨v, hv⟩ := hm.at_ (1 + (at_ + 1)) (by omega)
      have hf := hm.1.frozen (1 + (at_ + 1))
      have hv : wr.cell? ⟨b, 1 + (at_ + 1), none⟩ = some v := hv
      have hf : wr.frozen? ⟨b, 1 + (at_ + 1), none⟩ = false := hf
      have hi : (at_ : Int) + 1 < 65536 := by omega
      have HO := Lib.hid ho; have HM2 := Lib.hid hm; have HA := Lib.hid ha
      clear ho hm ha HM
      go_wp2_with fail
      go_region
      go_wp2_with fail
      exact ⟨SR.step (k := 1) (by omega) HO.out HM2.out rfl (by unfold bt; simp) rfl, by simp [intOf]⟩
    · obtain ⟨v, hv⟩ := hm.at_ (1 + (at_ + 2)) (by omega)
      have hf := hm.1.frozen (1 + (at_ + 2))
      have hv : wr.cell? ⟨b, 1 + (at_ + 2), none⟩ = some v := hv
      have hf : wr.frozen? ⟨b, 1 + (at_ + 2), none⟩ = false := hf
      have hi : (at_ : Int) + 2 < 65536 := by omega
      have HO := Lib.hid ho; have HM2 := Lib.hid hm; have HA := Lib.hid ha
      clear ho hm ha HM
      go_wp2_with fail
      go_region
      go_wp2_with fail
      exact ⟨SR.step (k := 2) (by omega) HO.out HM2.out rfl (by unfold bt; simp) rfl, by simp [intOf]⟩
    · obtain ⟨v, hv⟩ := hm.at_ (1 + (at_ + 3)) (by omega)
      have hf := hm.1.frozen (1 + (at_ + 3))
      have hv : wr.cell? ⟨b, 1 + (at_ + 3), none⟩ = some v := hv
      have hf : wr.frozen? ⟨b, 1 + (at_ + 3), none⟩ = false := hf
      have hi : (at_ : Int) + 3 < 65536 := by omega
      have HO := Lib.hid ho; have HM2 := Lib.hid hm; have HA := Lib.hid ha
      clear ho hm ha HM
      go_wp2_with fail
      go_region
      go_wp2_with fail
      exact ⟨SR.step (k := 3) (by omega) HO.out HM2.out rfl (by unfold bt; simp; omega) rfl, by simp [intOf]⟩
    · obtain ⟨v, hv⟩ := hm.at_ (65537 + at_ / 8) (by omega)
      have hf := hm.1.frozen (65537 + at_ / 8)
      have hi : (at_ : Int) / 8 < 8192 := by omega
      have HO := Lib.hid ho; have HM2 := Lib.hid hm; have HA := Lib.hid ha
      clear ho hm ha HM
      go_wp2_with fail
      go_ret
      exact ⟨rfl, HO.out.set_ _ _, HM2.out.tag_ (by have := HA.out; omega) _⟩
end Go.Proofs.YtnkoknfihhdelaaGreatDoor
namespace Go.Proofs.YtnkoknfihhdelaaGreatDoor
open Go.ChangeShapes Go.WideShapes Go.ChangeAt Go.RowKit
open Cp (cp arr mt)
set_option linter.unusedVariables false
set_option maxRecDepth 100000
theorem slice8 (b at_ q : Nat) (hq : q = at_ + 8) (i3 : q ≤ 65536) (w : World) :
    (Instr.sliceAt 66 (.pointer (some ⟨b, 1, none⟩)) (some (.int .u32 (at_ : Int))) (some (.int .u32 (q : Int))) (some (.int .u32 (q : Int)))).run Tryz.prog w = .ok (.slice (some ⟨b, 1 + at_, none⟩) 8 8) w := by
  have e : Tryz.prog.arrayLen 66 = 65536 := by kernel_rfl
  rw [run_sliceAt_array_lhm w 66 ⟨b, 1, none⟩ (by kernel_rfl) .u32 .u32 .u32 _ _ _ (by omega) (by omega) (by omega) (by rw [e]; omega)]
  rw [show (sizeOf (Tryz.prog.elem 66)).run Tryz.prog w = .ok 1 w by kernel_rfl]
  subst hq
  simp [Result.andThen, slicedAt, Addr.add]
  rw [if_neg (by omega)]
  refine ⟨?_, by omega⟩
  split
  · rename_i h; subst h; rfl
  · rfl
theorem sliceArr (b : Nat) (w : World) :
    (Instr.sliceAt 109 (.pointer (some ⟨b, 0, none⟩)) none none none).run Tryz.prog w = .ok (.slice (some ⟨b, 0, none⟩) 8 8) w := by
  go_simp
/-- cells put in at a place -/
def putA (C : Array Value) (off : Nat) (cs : List Value) : Array Value := (C.toList.take off ++ (cs ++ C.toList.drop (off + cs.length))).toArray
theorem putA_size (C : Array Value) (off : Nat) (cs : List Value) (h : off + cs.length ≤ C.size) : (putA C off cs).size = C.size := by
  unfold putA
  simp
  omega
theorem putA_in (C : Array Value) (off : Nat) (cs : List Value) (h : off + cs.length ≤ C.size) (j : Nat) (hj : j < cs.length) : (putA C off cs)[off + j]? = cs[j]? := by
  unfold putA
  rw [List.getElem?_toArray, List.getElem?_append_right (by simp; omega)]
  have e : off + j - (C.toList.take off).length = j := by simp; omega
  rw [e, List.getElem?_append_left hj]
theorem putA_out (C : Array Value) (off : Nat) (cs : List Value) (h : off + cs.length ≤ C.size) (i : Nat) (hi : i < off ∨ off + cs.length ≤ i) : (putA C off cs)[i]? = C[i]? := by
  unfold putA
  rw [List.getElem?_toArray]
  rcases hi with hi | hi
  · rw [List.getElem?_append_left (by simp; omega), List.getElem?_take_of_lt hi]
    simp
  · rw [List.getElem?_append_right (by simp; omega), List.getElem?_append_right (by simp; omega), List.getElem?_drop]
    have e : off + cs.length + (i - (C.toList.take off).length - cs.length) = i := by simp; omega
    rw [e]
    simp
theorem size5 : (Tryz.prog.info? 5).map (·.size) = some 1 := by kernel_rfl
/-- eight bytes are copied into the middle of a block -/
theorem cp8 {w : World} {ops : Array Oper} {rest : List Oper} {o : Oper} {a : Act} {Q : Exit → Act → World → Prop} (hgd : o.guard = none) (d s : Operand)
    (ho : o.op = .call { callee := .builtin .copy, args := #[d, s], argTypes := #[93, 93] }) (g off dCap g2 off2 sCap : Nat) (hd : a.eval d = .slice (some ⟨g, off, none⟩) 8 dCap) (hs : a.eval s = .slice (some ⟨g2, off2, none⟩) 8 sCap)
    (t : TypeId) (cur : Array Value) (hg : Blk w g t cur) (cs : List Value) (hl : cs.length = 8) (hsrc : ∀ j v, cs[j]? = some v → w.cell? ⟨g2, off2 + j, none⟩ = some v) (hfit : off + 8 ≤ cur.size)
    (h1 : ∀ v ∈ cs, v.oneCell' = true)
    (h : ∀ w', Blk w' g t (putA cur off cs) → w.grownBy w' (some g) → wpList Tryz.prog ops Q rest (a.put o.dst (goInt 8)) w') : wpList Tryz.prog ops Q (o :: rest) a w := by
  refine wpList_copy_own hgd d s 93 93 ho 5 Tryz.underlying93 size5 g off 8 dCap ⟨g2, off2, none⟩ 8 sCap hd hs cur t hg cs (by rw [hl]; rfl) ?_ (by omega) h1 ?_
  · intro j v hj
    have h2 := hsrc j v hj
    simp only [Addr.add]
    split
    · rename_i h3
      rw [h3, Nat.add_zero] at h2
      exact h2
    · exact h2
  · rw [hl]
    refine h _ ?_ ⟨rfl, rfl, rfl, by simp [World.setRow], fun k _ hne => setRow_other w g k _ (fun e => hne (by rw [e]))⟩
    have := setRow_heap w g cur (cur.toList.take off ++ (cs ++ cur.toList.drop (off + 8))).toArray t (0, 0) hg
    unfold Blk putA
    rw [hl]
    exact this
def bytes8 (x0 x1 x2 x3 x4 x5 x6 x7 : Nat) : List Value := [.int .u8 (x0 : Int), .int .u8 (x1 : Int), .int .u8 (x2 : Int), .int .u8 (x3 : Int), .int .u8 (x4 : Int), .int .u8 (x5 : Int), .int .u8 (x6 : Int), .int .u8 (x7 : Int)]
/-- the cells behind a capability's store -/
def scC (C : Array Value) (at_ : Nat) (l : List Value) (g : Bool) : Array Value := (putA C (1 + at_) l).setIfInBounds (65537 + at_ / 8) (.bool g)
theorem Me.putA_ {w w' : World} {b : Nat} {C : Array Value} (h : Me w b C) {off : Nat} {l : List Value} (hl : off + l.length ≤ 73729) (h1 : 1 ≤ off) (hb : Blk w' b 69 (putA C off l)) : Me w' b (putA C off l) :=
  ⟨hb, by rw [putA_size _ _ _ (by rw [h.2.1]; exact hl)]; exact h.2.1, by rw [putA_out _ _ _ (by rw [h.2.1]; exact hl) 0 (Or.inl (by omega))]; exact h.2.2⟩
set_option maxHeartbeats 1000000 in
theorem storeCap (b at_ : Nat) (C : Array Value) (g : Bool) (a p y e bb t : Nat) (x0 x1 x2 x3 x4 x5 x6 x7 : Nat) (w : World) (hm : Me w b C) (ha : at_ + 8 ≤ 65536) (hw : granB at_ = true)
    (KB : Hid (∀ w : World, Calls Tryz.prog 54 #[cp g a p y e bb t] w fun en w' => en = .returned (arr x0 x1 x2 x3 x4 x5 x6 x7) ∧ Below w.heap.size w w')) :
    Calls Tryz.prog 24 #[.pointer (some ⟨b, 0, none⟩), .int .u32 (at_ : Int), cp g a p y e bb t] w fun e w' => e = .returned (.int .i64 0) ∧ Only b w w' ∧ Me w' b (scC C at_ (bytes8 x0 x1 x2 x3 x4 x5 x6 x7) g) := by
  have K := Lib.hid (c31 at_)
  rw [hw] at K
  have z0 := hm.1.lt
  have HM := Lib.hid hm
  have z1 : w.heap.size < w.heap.size + 1 := by omega
  clear hw hm
  go_enter Tryz.func24, Tryz.ntmps24
  go_wp2_with fail
  refine (Me.there (C := C) (w := w.alloc _) ⟨HM.out.1.alloc _, HM.out.2⟩).mono ?_
  rintro _ _ ⟨rfl, rfl⟩
  go_wp2_with fail
  refine (K.out _).mono ?_
  rintro _ _ ⟨rfl, rfl⟩
  go_wp2_with fail
  refine (KB.out _).mono ?_
  rintro _ w1 ⟨rfl, q1⟩
  have z2 := q1.size
  simp at z2
  have hO : Only b w (w1.alloc (.cells #[.int .u8 (x0 : Int), .int .u8 (x1 : Int), .int .u8 (x2 : Int), .int .u8 (x3 : Int), .int .u8 (x4 : Int), .int .u8 (x5 : Int), .int .u8 (x6 : Int), .int .u8 (x7 : Int)] 109)) := (((Only.refl b w).alloc _).below q1).alloc _
  obtain ⟨hc1, hf1⟩ := bcell q1
  have hM1 : Me (w1.alloc (.cells #[.int .u8 (x0 : Int), .int .u8 (x1 : Int), .int .u8 (x2 : Int), .int .u8 (x3 : Int), .int .u8 (x4 : Int), .int .u8 (x5 : Int), .int .u8 (x6 : Int), .int .u8 (x7 : Int)] 109)) b C := ⟨(((HM.out.1.alloc _).below q1 (by simp; omega)).alloc _), HM.out.2⟩
  have hX : Blk (w1.alloc (.cells #[.int .u8 (x0 : Int), .int .u8 (x1 : Int), .int .u8 (x2 : Int), .int .u8 (x3 : Int), .int .u8 (x4 : Int), .int .u8 (x5 : Int), .int .u8 (x6 : Int), .int .u8 (x7 : Int)] 109)) w1.heap.size 109 #[.int .u8 (x0 : Int), .int .u8 (x1 : Int), .int .u8 (x2 : Int), .int .u8 (x3 : Int), .int .u8 (x4 : Int), .int .u8 (x5 : Int), .int .u8 (x6 : Int), .int .u8 (x7 : Int)] := Blk.new _ _ _
  have hc : (w1.alloc (.cells #[.int .u8 (x0 : Int), .int .u8 (x1 : Int), .int .u8 (x2 : Int), .int .u8 (x3 : Int), .int .u8 (x4 : Int), .int .u8 (x5 : Int), .int .u8 (x6 : Int), .int .u8 (x7 : Int)] 109)).cell? ⟨w.heap.size, 0, none⟩ = some (.bool g) := by
    rw [((Below.refl _ _).alloc (Nat.le_refl _) _).cell (p := ⟨w.heap.size, 0, none⟩) (show w.heap.size < w1.heap.size by omega), hc1 _ _ (by simp)]
    exact (Blk.new _ _ _).cell 0
  have Q1 := Lib.hid q1; have HO := Lib.hid hO; have HM1 := Lib.hid hM1; have HX := Lib.hid hX; have HC := Lib.hid hc
  clear q1 hO hM1 hX hc
  go_wp2_with fail
  obtain ⟨q, hq⟩ : ∃ q, q = at_ + 8 := ⟨_, rfl⟩
  have i1 : (at_ : Int) + 8 = (q : Int) := by omega
  have i3 : q ≤ 65536 := by omega
  have i5 : IntKind.u32.wrap (q : Int) = (q : Int) := by show (q : Int) % 4294967296 = _; omega
  have hsl := slice8 b at_ q hq i3
  have hsa := sliceArr w1.heap.size
  have HQ := Lib.hid hq; have HA := Lib.hid ha
  clear ha hq i3
  generalize hW : w1.alloc _ = W at *
  have hne : w.heap.size ≠ b := by omega
  have hWs : w.heap.size < W.heap.size := by have := HX.out.lt; omega
  clear hc1 hf1 hW
  go_still_tail 10, (by kernel_rfl)
  change wpList _ _ _ _ _ (World.drew _)
  refine cp8 rfl (.tmp 24) (.tmp 25) rfl b (1 + at_) 8 w1.heap.size 0 8 rfl rfl 69 C HM1.out.1.drew (bytes8 x0 x1 x2 x3 x4 x5 x6 x7) rfl ?_ (by rw [HM1.out.2.1]; have := HA.out; omega) ?_ ?_
  · intro j v hj
    rw [Nat.zero_add, HX.out.drew.cell]
    rw [← hj]
    exact List.getElem?_toArray
  · intro v hv
    simp only [bytes8, List.mem_cons, List.not_mem_nil, or_false] at hv
    rcases hv with rfl | rfl | rfl | rfl | rfl | rfl | rfl | rfl <;> rfl
  intro w2 hb2 hg2
  have hM2 := HM1.out.putA_ (by have := HA.out; simp [bytes8]; omega) (by omega) hb2
  have hO2 : Only b w w2 := HO.out.drew.grown hg2
  have hc2 : w2.cell? ⟨w.heap.size, 0, none⟩ = some (.bool g) := by
    rw [World.cell?_of_block (w := W) (hg2.block w.heap.size (by show w.heap.size < W.heap.size; omega) (fun e => hne (Option.some.inj e)))]
    exact HC.out
  obtain ⟨r, hr⟩ : ∃ r, r = at_ / 8 := ⟨_, rfl⟩
  have hrl : r < 8192 := by have := HA.out; omega
  obtain ⟨v, hv⟩ := hM2.at_ (65537 + r) (by omega)
  have hf := hM2.1.frozen (65537 + r)
  have hi : (r : Int) < 8192 := by omega
  have i7 : (at_ : Int) / 8 = (r : Int) := by omega
  have i8 : IntKind.u32.wrap (r : Int) = (r : Int) := by show (r : Int) % 4294967296 = _; omega
  have HR := Lib.hid hr
  clear hr
  have HM2 := Lib.hid hM2; have HO2 := Lib.hid hO2
  clear hM2 hO2 hb2 hg2 hsl hsa
  go_wp2_with fail
  go_region
  go_wp2_with fail
  go_ret
  refine ⟨rfl, (HO2.out.set_ _ _).drew, ?_⟩
  unfold scC
  rw [← HR.out]
  exact HM2.out.tag_ (by omega) _
end Go.Proofs.YtnkoknfihhdelaaGreatDoor
namespace Go.Proofs.YtnkoknfihhdelaaGreatDoor
open Go.ChangeShapes Go.WideShapes Go.ChangeAt Go.RowKit
set_option linter.unusedVariables false
/-- it is no memory that a call made -/
def Nope (w : World) (a : Option Addr) : Prop := Calls Tryz.prog 49 #[.pointer a] w fun e w' => e = .returned (.bool false) ∧ w = w'
theorem Nope.nil (w : World) : Nope w none := there0 w
theorem Nope.zero {w : World} {b : Nat} {C : Array Value} (h : Blk w b 69 C) (h0 : C[0]? = some (.bool false)) : Nope w (some ⟨b, 0, none⟩) :=
  there1 b false w (by rw [h.cell]; exact h0)
section
variable (a : Option Addr) (w : World) (h : Nope w a)
theorem nLoad (n : Nat) : Nope w a → Calls Tryz.prog 27 #[.pointer a, .int .u32 (n : Int), .int .i64 1] w fun e w' => e = .returned (.tuple #[.int .u32 0, .int .i64 1]) ∧ w = w' := by
  intro h
  have K := Lib.hid h
  clear h
  go_enter Tryz.func27, Tryz.ntmps27
  go_wp2_with fail
  refine (show Calls _ _ _ _ _ from K.out).mono ?_
  rintro _ _ ⟨rfl, rfl⟩
  go_wp2_with fail
  go_ret2
  exact ⟨rfl, rfl⟩
theorem nStore (n : Nat) (s : Int) (x : Nat) : Nope w a → Calls Tryz.prog 22 #[.pointer a, .int .u32 (n : Int), .int .i64 s, .int .u32 (x : Int)] w fun e w' => e = .returned (.int .i64 1) ∧ w = w' := by
  intro h
  have K := Lib.hid h
  clear h
  go_enter Tryz.func22, Tryz.ntmps22
  go_wp2_with fail
  refine (show Calls _ _ _ _ _ from K.out).mono ?_
  rintro _ _ ⟨rfl, rfl⟩
  go_wp2_with fail
  go_ret
  exact ⟨rfl, rfl⟩
theorem nBytes (x y : Int) : Nope w a → Calls Tryz.prog 40 #[.pointer a, .int .i64 x, .int .i64 y] w fun e w' => e = .returned (.tuple #[.slice none 0 0, .int .i64 1]) ∧ w = w' := by
  intro h
  have K := Lib.hid h
  clear h
  go_enter Tryz.func40, Tryz.ntmps40
  go_wp2_with fail
  refine (show Calls _ _ _ _ _ from K.out).mono ?_
  rintro _ _ ⟨rfl, rfl⟩
  go_wp2_with fail
  go_ret2
  exact ⟨rfl, rfl⟩
theorem nTags (x y : Int) : Nope w a → Calls Tryz.prog 42 #[.pointer a, .int .i64 x, .int .i64 y] w fun e w' => e = .returned (.tuple #[.int .i64 0, .int .i64 1]) ∧ w = w' := by
  intro h
  have K := Lib.hid h
  clear h
  go_enter Tryz.func42, Tryz.ntmps42
  go_wp2_with fail
  refine (show Calls _ _ _ _ _ from K.out).mono ?_
  rintro _ _ ⟨rfl, rfl⟩
  go_wp2_with fail
  go_ret2
  exact ⟨rfl, rfl⟩
theorem nCopy : Nope w a → Calls Tryz.prog 16 #[.pointer a] w fun e w' => e = .returned (.pointer none) ∧ w = w' := by
  intro h
  have K := Lib.hid h
  clear h
  go_enter Tryz.func16, Tryz.ntmps16
  go_wp2_with fail
  refine (show Calls _ _ _ _ _ from K.out).mono ?_
  rintro _ _ ⟨rfl, rfl⟩
  go_wp2_with fail
  go_ret
  exact ⟨rfl, rfl⟩
end
/-- a call stays what it is where memory is made -/
theorem Nope.keep {w w1 : World} {a : Option Addr} (h : Nope w a) (h1 : a = none ∨ ∃ b C, a = some ⟨b, 0, none⟩ ∧ Blk w1 b 69 C ∧ C[0]? = some (.bool false)) : Nope w1 a := by
  rcases h1 with rfl | ⟨b, C, rfl, hb, hc⟩
  · exact Nope.nil w1
  · exact Nope.zero hb hc
theorem nLoadCap (a : Option Addr) (n : Nat) (w : World) (h : ∀ o, Nope (w.alloc o) a) : Calls Tryz.prog 19 #[.pointer a, .int .u32 (n : Int)] w fun e w' => e = .returned (.tuple #[.agg #[.bool false, .int .u32 0, .int .u8 0, .int .u8 0, .int .u8 0, .int .u16 0, .int .u16 0], .int .i64 1]) ∧ Below w.heap.size w w' := by
  have K := Lib.hid h
  clear h
  go_enter Tryz.func19, Tryz.ntmps19
  go_wp2_with fail
  refine (show Calls _ _ _ _ _ from K.out _).mono ?_
  rintro _ _ ⟨rfl, rfl⟩
  go_wp2_with fail
  refine bodyPost_ret (v := .tuple #[.agg #[.bool false, .int .u32 0, .int .u8 0, .int .u8 0, .int .u8 0, .int .u16 0, .int .u16 0], .int .i64 1]) (by simp [results, Tryz.results19, go_sem]) rfl ⟨rfl, ?_⟩
  first | exact (Below.refl _ _).alloc (Nat.le_refl _) _ | exact ((((((((Below.refl _ _).alloc (Nat.le_refl _) _).setCell (Nat.le_refl _) _).setCell (Nat.le_refl _) _).setCell (Nat.le_refl _) _).setCell (Nat.le_refl _) _).setCell (Nat.le_refl _) _).setCell (Nat.le_refl _) _).setCell (Nat.le_refl _) _
theorem nStoreCap (a : Option Addr) (n : Nat) (v0 v1 v2 v3 v4 v5 v6 : Value) (w : World) (h : ∀ o, Nope (w.alloc o) a) : Calls Tryz.prog 24 #[.pointer a, .int .u32 (n : Int), .agg #[v0, v1, v2, v3, v4, v5, v6]] w fun e w' => e = .returned (.int .i64 1) ∧ Below w.heap.size w w' := by
  have K := Lib.hid h
  clear h
  go_enter Tryz.func24, Tryz.ntmps24
  go_wp2_with fail
  refine (show Calls _ _ _ _ _ from K.out _).mono ?_
  rintro _ _ ⟨rfl, rfl⟩
  go_wp2_with fail
  go_ret
  exact ⟨rfl, (Below.refl _ _).alloc (Nat.le_refl _) _⟩
/-- what may not be is refused, and nothing turns -/
theorem storeNo (b at_ n : Nat) (s : Int) (C : Array Value) (w : World) (hm : Me w b C) (hw : wordB at_ s = false) :
    Calls Tryz.prog 22 #[.pointer (some ⟨b, 0, none⟩), .int .u32 (at_ : Int), .int .i64 s, .int .u32 (n : Int)] w fun e w' => e = .returned (.int .i64 2) ∧ w = w' := by
  have K := Lib.hid (c30 at_ s)
  rw [hw] at K
  have KT := Lib.hid hm.there
  clear hw hm
  go_enter Tryz.func22, Tryz.ntmps22
  go_wp2_with fail
  refine KT.out.mono ?_
  rintro _ _ ⟨rfl, rfl⟩
  go_wp2_with fail
  refine (K.out _).mono ?_
  rintro _ _ ⟨rfl, rfl⟩
  go_wp2_with fail
  go_ret
  exact ⟨rfl, rfl⟩
end Go.Proofs.YtnkoknfihhdelaaGreatDoor
namespace Go.Proofs.YtnkoknfihhdelaaGreatDoor
open Go.ChangeShapes Go.WideShapes Go.ChangeAt Go.RowKit
open Cp (cp arr mt num4)
set_option linter.unusedVariables false
set_option maxRecDepth 100000
abbrev z8 : Array Value := #[.int .u8 0, .int .u8 0, .int .u8 0, .int .u8 0, .int .u8 0, .int .u8 0, .int .u8 0, .int .u8 0]
theorem putA8 (l : List Value) (h : l.length = 8) : putA z8 0 l = l.toArray := by
  unfold putA
  rw [h]
  simp
abbrev nCap : Array Value := #[.bool false, .int .u32 0, .int .u8 0, .int .u8 0, .int .u8 0, .int .u16 0, .int .u16 0]
set_option maxHeartbeats 1000000 in
set_option maxRecDepth 100000 in
theorem loadCap (b at_ : Nat) (C : Array Value) (g : Bool) (x0 x1 x2 x3 x4 x5 x6 x7 : Nat) (a p y e bb t : Nat) (w : World) (hm : Me w b C) (ha : at_ + 8 ≤ 65536) (hw : granB at_ = true)
    (hx : ∀ j v, (bytes8 x0 x1 x2 x3 x4 x5 x6 x7)[j]? = some v → C[1 + at_ + j]? = some v) (hg : C[65537 + at_ / 8]? = some (.bool g))
    (KO : Hid (∀ w : World, Calls Tryz.prog 52 #[arr x0 x1 x2 x3 x4 x5 x6 x7, .bool g] w fun en w' => en = .returned (cp g a p y e bb t) ∧ Below w.heap.size w w')) :
    Calls Tryz.prog 19 #[.pointer (some ⟨b, 0, none⟩), .int .u32 (at_ : Int)] w fun en w' => en = .returned (.tuple #[cp g a p y e bb t, .int .i64 0]) ∧ Below w.heap.size w w' := by
  have K := Lib.hid (c31 at_)
  rw [hw] at K
  have z0 := hm.1.lt
  have HM := Lib.hid hm
  have z1 : w.heap.size < w.heap.size + 1 := by omega
  have HX := Lib.hid hx; have HG := Lib.hid hg
  clear hw hm hx hg
  go_enter Tryz.func19, Tryz.ntmps19
  go_wp2_with fail
  refine (Me.there (C := C) (w := w.alloc _) ⟨HM.out.1.alloc _, HM.out.2⟩).mono ?_
  rintro _ _ ⟨rfl, rfl⟩
  go_wp2_with fail
  refine (K.out _).mono ?_
  rintro _ _ ⟨rfl, rfl⟩
  go_wp2_with fail
  obtain ⟨q, hq⟩ : ∃ q, q = at_ + 8 := ⟨_, rfl⟩
  have i1 : (at_ : Int) + 8 = (q : Int) := by omega
  have i3 : q ≤ 65536 := by omega
  have i5 : IntKind.u32.wrap (q : Int) = (q : Int) := by show (q : Int) % 4294967296 = _; omega
  have hsl := slice8 b at_ q hq i3
  have hsa := sliceArr (w.heap.size + 1)
  have HQ := Lib.hid hq; have HA := Lib.hid ha
  clear ha hq i3
  have hM1 : Me ((w.alloc (.cells nCap 29)).alloc (.cells z8 109)) b C := ⟨(HM.out.1.alloc _).alloc _, HM.out.2⟩
  have hB : Blk ((w.alloc (.cells nCap 29)).alloc (.cells z8 109)) (w.heap.size + 1) 109 z8 := by
    have := Blk.new (w.alloc (.cells nCap 29)) 109 z8
    simpa using this
  have hR : Blk ((w.alloc (.cells nCap 29)).alloc (.cells z8 109)) w.heap.size 29 nCap := (Blk.new w 29 nCap).alloc _
  have hO : Below w.heap.size w ((w.alloc (.cells nCap 29)).alloc (.cells z8 109)) := ((Below.refl _ _).alloc (Nat.le_refl _) _).alloc (by simp) _
  have HM1 := Lib.hid hM1; have HB := Lib.hid hB; have HR := Lib.hid hR; have HO := Lib.hid hO
  clear hM1 hB hR hO
  generalize hW : (w.alloc (.cells nCap 29)).alloc (.cells z8 109) = W at *
  clear hW
  go_cut [] from 15 to 25 (fun wx => Below w.heap.size w wx ∧ Blk wx (w.heap.size + 1) 109 (bytes8 x0 x1 x2 x3 x4 x5 x6 x7).toArray ∧ Blk wx w.heap.size 29 nCap ∧ Me wx b C)
  case first =>
    go_still_tail 10, (by kernel_rfl)
    change wpList _ _ _ _ _ (World.drew _)
    refine cp8 rfl (.tmp 15) (.tmp 24) rfl (w.heap.size + 1) 0 8 b (1 + at_) 8 rfl rfl 109 z8 HB.out.drew (bytes8 x0 x1 x2 x3 x4 x5 x6 x7) rfl ?_ (by simp [z8]) ?_ ?_
    · intro j v hj
      rw [HM1.out.1.drew.cell]
      exact HX.out j v hj
    · intro v hv
      simp only [bytes8, List.mem_cons, List.not_mem_nil, or_false] at hv
      rcases hv with rfl | rfl | rfl | rfl | rfl | rfl | rfl | rfl <;> rfl
    rw [putA8 _ rfl]
    intro w2 hb2 hg2
    have hO2 : Below w.heap.size w w2 := HO.out.drew.grown hg2 (Nat.le_of_lt (by have := HB.out.lt; show w.heap.size < W.heap.size; omega)) (fun k e => by cases e; omega)
    have hbk : w2.heap[b]? = W.heap[b]? := hg2.block b (by show b < W.heap.size; have := HB.out.lt; omega) (fun e => by have := Option.some.inj e; omega)
    have hM2 : Me w2 b C := ⟨hbk.trans HM1.out.1, HM1.out.2⟩
    have hR2 : Blk w2 w.heap.size 29 nCap := (hg2.block w.heap.size (by show w.heap.size < W.heap.size; have := HB.out.lt; omega) (fun e => by have := Option.some.inj e; omega)).trans HR.out
    have HH : Hid (Below w.heap.size w w2 ∧ Blk w2 (w.heap.size + 1) 109 (bytes8 x0 x1 x2 x3 x4 x5 x6 x7).toArray ∧ Blk w2 w.heap.size 29 nCap ∧ Me w2 b C) := Lib.hid ⟨hO2, hb2, hR2, hM2⟩
    clear hbk hO2 hM2 hR2 hb2 hg2
    go_wp2_with fail
    go_meet
    case rel => exact HH.out
  case rest =>
    obtain ⟨hO2, hb2, hR2, hM2⟩ := hcut
    obtain ⟨r, hr⟩ : ∃ r, r = at_ / 8 := ⟨_, rfl⟩
    have hrl : r < 8192 := by have := HA.out; omega
    have hi : ((r : Int) < 8192) = True := eq_true (by omega)
    have i7 : (at_ : Int) / 8 = (r : Int) := by omega
    have i8 : IntKind.u32.wrap (r : Int) = (r : Int) := by show (r : Int) % 4294967296 = _; omega
    have ht : wc.cell? ⟨b, 65537 + r, none⟩ = some (.bool g) := by rw [hM2.1.cell, hr]; exact HG.out
    have y0 := hb2.cell 0
    have y1 := hb2.cell 1
    have y2 := hb2.cell 2
    have y3 := hb2.cell 3
    have y4 := hb2.cell 4
    have y5 := hb2.cell 5
    have y6 := hb2.cell 6
    have y7 := hb2.cell 7
    simp only [bytes8, List.getElem?_toArray, List.getElem?_cons_zero, List.getElem?_cons_succ] at y0 y1 y2 y3 y4 y5 y6 y7
    have HR2 := Lib.hid hR2; have HO2 := Lib.hid hO2; have HRr := Lib.hid hr
    have zz : w.heap.size < wc.heap.size := hR2.lt
    clear hr hM2 hR2 hO2 hb2 hsl hsa hrl i1 i5 HM1 HB HR HO HX HG
    clear W
    go_wp2_with fail
    refine wp_region_still_tail 8 (by kernel_rfl) (by kernel_rfl) ?_
    simp only [List.take_succ_cons, List.take_zero, List.drop_succ_cons, List.drop_zero]
    still_step
    clear y0 y1 y2 y3 y4 y5 y6 y7
    repeat (with_reducible refine wpStill_step (fun K hK => ?_); go_simp; with_reducible refine hK _ ?_; clear hK K)
    try refine wpStill_nil ?_
    change wpList _ _ _ _ _ (World.drew _)
    generalize hw3 : World.drew _ = w3
    have zz3 : w.heap.size < w3.heap.size := by rw [← hw3]; exact zz
    have HR3 : Hid (Blk w3 w.heap.size 29 nCap) := Lib.hid (by rw [← hw3]; exact HR2.out.drew)
    have HO3 : Hid (Below w.heap.size w w3) := Lib.hid (by rw [← hw3]; exact HO2.out.drew)
    clear hw3
    go_wp2_with fail
    refine (KO.out _).mono ?_
    rintro _ w4 ⟨rfl, q4⟩
    have HR4 : Blk w4 w.heap.size 29 nCap := HR3.out.below q4 zz3
    have HO4 : Hid (Below w.heap.size w w4) := Lib.hid (HO3.out.trans (q4.mono (Nat.le_of_lt zz3)))
    have zz4 := HR4.lt
    have y0 := HR4.cell 0
    have y1 := HR4.cell 1
    have y2 := HR4.cell 2
    have y3 := HR4.cell 3
    have y4 := HR4.cell 4
    have y5 := HR4.cell 5
    have y6 := HR4.cell 6
    simp only [nCap, List.getElem?_toArray, List.getElem?_cons_zero, List.getElem?_cons_succ] at y0 y1 y2 y3 y4 y5 y6
    have f0 := HR4.frozen 0
    have f1 := HR4.frozen 1
    have f2 := HR4.frozen 2
    have f3 := HR4.frozen 3
    have f4 := HR4.frozen 4
    have f5 := HR4.frozen 5
    have f6 := HR4.frozen 6
    clear q4 HR4 ht
    go_wp2_with fail
    refine bodyPost_ret (v := .tuple #[cp g a p y e bb t, .int .i64 0]) (by simp [results, Tryz.results19, go_sem, y0, y1, y2, y3, y4, y5, y6]) rfl ⟨rfl, ?_⟩
    exact (((((((HO4.out.setCell (Nat.le_refl _) _).setCell (Nat.le_refl _) _).setCell (Nat.le_refl _) _).setCell (Nat.le_refl _) _).setCell (Nat.le_refl _) _).setCell (Nat.le_refl _) _).setCell (Nat.le_refl _) _)
end Go.Proofs.YtnkoknfihhdelaaGreatDoor
