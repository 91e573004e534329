import Derived.Test.YtleabbhoedddlaaXA
import Derived.Deep.Draws
import Derived.Laws.OwnMore
namespace Go.Proofs.Ytleabbhoedddlaa.Pt
open Go.ChangeShapes Go.WideShapes Go.ChangeAt Go.RowKit
set_option linter.unusedVariables false
/-- A slice of n bytes f. -/
def Rd (w : World) (A : Option Addr) (n : Nat) (f : Nat → Nat) : Prop :=
  0 < n → ∃ b o, A = some ⟨b, o, none⟩ ∧ b < w.heap.size ∧ ∀ j, j < n → w.cell? ⟨b, o + j, none⟩ = some (.int .u8 (f j : Int))
theorem Rd.below {w w' : World} {A : Option Addr} {n : Nat} {f : Nat → Nat} (h : Rd w A n f) (hb : Below w.heap.size w w') : Rd w' A n f := fun h0 => by
  obtain ⟨b, o, e, hlt, hc⟩ := h h0
  exact ⟨b, o, e, Nat.lt_of_lt_of_le hlt hb.size, fun j hj => (hb.cell hlt).trans (hc j hj)⟩
theorem Rd.drewN {w : World} {A : Option Addr} {n : Nat} {f : Nat → Nat} (h : Rd w A n f) (q : Nat) : Rd (w.drewN q) A n f := h
def alike (n : Nat) (f g : Nat → Nat) : Prop := ∀ j, j < n → f j = g j
theorem alike.succ {n : Nat} {f g : Nat → Nat} (h : alike n f g) (he : f n = g n) : alike (n + 1) f g := fun j hj => by
  by_cases hjn : j = n
  · rw [hjn]; exact he
  · exact h j (by omega)
def SameOut (w : World) (n m : Nat) (f g : Nat → Nat) (e : Ending) (w' : World) : Prop := ∃ x : Bool, e = .returned (.bool x) ∧ (x = true ↔ n = m ∧ alike n f g) ∧ ∃ q, w' = w.drewN q
def SameR (w : World) (n : Nat) (f g : Nat → Nat) (i : Value) (wr : World) : Prop := ∃ k : Nat, k ≤ n ∧ i = .int .i64 (k : Int) ∧ alike k f g ∧ ∃ q, wr = w.drewN q
set_option maxHeartbeats 2000000 in
theorem c11 (A B : Option Addr) (n c m d : Nat) (f g : Nat → Nat) (w : World) (hn : n ≤ 9223372036854775807) (hm : m ≤ 9223372036854775807) (hA : Rd w A n f) (hB : Rd w B m g) :
    Calls Try.prog 16 #[.slice A n c, .slice B m d] w (SameOut w n m f g) := by
  by_cases hnm : n = m
  · subst hnm
    have hq : ((n : Int) != (n : Int)) = false := by simp
    go_enter Try.func16, Try.ntmps16
    go_wp2
    go_loopw [5] (SameR w n f g) (fun i _ => n - (intOf i).toNat)
    case atStart => exact ⟨0, Nat.zero_le _, rfl, fun j hj => absurd hj (by omega), 0, rfl⟩
    case round =>
      obtain ⟨k, hk, rfl, hal, q, rfl⟩ := hrel
      by_cases hlt : k < n
      · obtain ⟨b, o, rfl, hb, hc⟩ := hA (by omega)
        obtain ⟨b', o', rfl, hb', hc'⟩ := hB (by omega)
        have h1 := hc k hlt
        have h2 := hc' k hlt
        clear hc hc' hA hB
        have HAL := Lib.hid hal
        clear hal
        by_cases he : f k = g k
        · have HE := Lib.hid he
          have e1 : ((f k : Int) != (g k : Int)) = false := by simp [he]
          clear he
          generalize f k = x at h1 e1
          generalize g k = y at h2 e1
          go_wp2_with fail
          go_quiet (fail)
          go_wp2
          go_roundw
          case rel => exact ⟨k + 1, hlt, by go_num, HAL.out.succ HE.out, _, rfl⟩
          case measure => simp [intOf]; omega
        · have e1 : ((f k : Int) != (g k : Int)) = true := by simp; omega
          have hno : ¬ alike n f g := fun h => he (h k hlt)
          have HNO := Lib.hid hno
          clear he hno
          generalize f k = x at h1 e1
          generalize g k = y at h2 e1
          go_wp2_with fail
          go_quiet (fail)
          go_wp2
          go_ret
          exact ⟨false, rfl, by simp [HNO.out], _, World.drewN_drewN _ _ _⟩
      · obtain rfl : k = n := by omega
        go_wp2
        go_ret
        exact ⟨true, rfl, by simp [hal], q, rfl⟩
  · have hq : ((n : Int) != (m : Int)) = true := by simp; omega
    have hf : ¬ (n = m ∧ alike n f g) := fun h => hnm h.1
    have HF := Lib.hid hf
    clear hf hnm
    go_enter Try.func16, Try.ntmps16
    go_wp2
    go_ret
    exact ⟨false, rfl, by simp [HF.out], 0, rfl⟩
theorem Rd.cut {w : World} {A : Option Addr} {n p k : Nat} {f : Nat → Nat} (h : Rd w A n f) (hp : p + k ≤ n) : Rd w (A.map fun x => x.add p) k (fun j => f (p + j)) := fun h0 => by
  obtain ⟨b, o, rfl, hb, hc⟩ := h (by omega)
  refine ⟨b, o + p, ?_, hb, fun j hj => ?_⟩
  · by_cases hp0 : p = 0
    · subst hp0; rfl
    · simp [Addr.add, hp0]
  · rw [Nat.add_assoc]; exact hc (p + j) (by omega)
def CutOk (w : World) (A : Option Addr) (p k : Nat) (f : Nat → Nat) (e : Ending) (w' : World) : Prop := ∃ A', e = .returned (.tuple #[.slice A' k k, .int .i64 0]) ∧ w = w' ∧ Rd w A' k (fun j => f (p + j))
theorem c28 (A : Option Addr) (n c p k : Nat) (f : Nat → Nat) (w : World) (hn : n ≤ c) (hc : c ≤ 9223372036854775807) (hA : Rd w A n f) (hA0 : A = none → c = 0) (hp : p + k ≤ n) :
    Calls Try.prog 38 #[.slice A n c, .int .i64 (p : Int), .int .i64 (k : Int)] w (CutOk w A p k f) := by
  have q1 : decide ((p : Int) < 0) = false := by simp
  have q2 : decide ((k : Int) < 0) = false := by simp
  have q3 : decide (n < p) = false := by simp; omega
  have q4 : decide ((n : Int) - (p : Int) < (k : Int)) = false := by simp; omega
  have f1 : (p : Int) + (k : Int) ≤ (c : Int) := by omega
  have f2 : (0 : Int) ≤ (p : Int) + (k : Int) := by omega
  have f3 : (p : Int) ≤ (p : Int) + (k : Int) := by omega
  go_enter Try.func38, Try.ntmps38
  go_wp2
  all_goals
    go_ret2
    first
      | exact ⟨_, rfl, rfl, hA.cut hp⟩
      | (obtain rfl : k = 0 := by omega
         exact ⟨_, rfl, rfl, fun h0 => absurd h0 (by omega)⟩)
def cutE (n at' k : Int) : Int := if at' < 0 ∨ n < at' ∨ k < 0 then 2 else 4
theorem c28x (A : Option Addr) (n c : Nat) (at' k : Int) (w : World) (hn : n ≤ c) (hc : c ≤ 9223372036854775807) (hp : ¬ (0 ≤ at' ∧ 0 ≤ k ∧ at' + k ≤ n)) :
    Calls Try.prog 38 #[.slice A n c, .int .i64 at', .int .i64 k] w fun e w' => e = .returned (.tuple #[.slice none 0 0, .int .i64 (cutE n at' k)]) ∧ w = w' := by
  by_cases h1 : at' < 0
  · have e : cutE n at' k = 2 := by unfold cutE; rw [if_pos (.inl h1)]
    have q1 : decide (at' < 0) = true := by simpa using h1
    rw [e]
    clear e hp
    go_enter Try.func38, Try.ntmps38
    go_wp2
    go_ret2
    exact ⟨rfl, rfl⟩
  have q1 : decide (at' < 0) = false := by simpa using h1
  by_cases h2 : (n : Int) < at'
  · have e : cutE n at' k = 2 := by unfold cutE; rw [if_pos (.inr (.inl h2))]
    have q2 : decide ((n : Int) < at') = true := by simpa using h2
    rw [e]
    clear e hp
    go_enter Try.func38, Try.ntmps38
    go_wp2
    go_ret2
    exact ⟨rfl, rfl⟩
  have q2 : decide ((n : Int) < at') = false := by simpa using h2
  by_cases h3 : k < 0
  · have e : cutE n at' k = 2 := by unfold cutE; rw [if_pos (.inr (.inr h3))]
    have q3 : decide (k < 0) = true := by simpa using h3
    rw [e]
    clear e hp
    go_enter Try.func38, Try.ntmps38
    go_wp2
    go_ret2
    exact ⟨rfl, rfl⟩
  have q3 : decide (k < 0) = false := by simpa using h3
  have e : cutE n at' k = 4 := by unfold cutE; rw [if_neg (by omega)]
  obtain ⟨p, rfl⟩ := Int.eq_ofNat_of_zero_le (Int.not_lt.1 h1)
  obtain ⟨m, rfl⟩ := Int.eq_ofNat_of_zero_le (Int.not_lt.1 h3)
  have q4 : decide ((n : Int) - (p : Int) < (m : Int)) = true := by simp; omega
  have q6 : p ≤ n := by omega
  have q7 : (p : Int) ≤ (n : Int) := by omega
  have q5 : decide (n < p) = false := by simp; omega
  rw [e]
  clear e hp h1 h2 h3
  go_enter Try.func38, Try.ntmps38
  go_wp2
  go_ret2
  exact ⟨rfl, rfl⟩
end Go.Proofs.Ytleabbhoedddlaa.Pt
