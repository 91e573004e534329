import Derived.Test.YtgmifaadlaigdaaGreatDoorG
namespace Go.Proofs.YtgmifaadlaigdaaGreatDoor
open Go.ChangeShapes Go.WideShapes Go.ChangeAt Go.RowKit
set_option linter.unusedVariables false
/-- so many bytes, of a slice that may be nil -/
def Bz (w : World) (A : Option Addr) (n : Nat) (f : Nat → Nat) : Prop := 0 < n → ∃ b o, A = some ⟨b, o, none⟩ ∧ Bs w b o n f
theorem Bz.below {w w' : World} {A : Option Addr} {n : Nat} {f : Nat → Nat} (h : Bz w A n f) (hb : Below w.heap.size w w') : Bz w' A n f := fun h0 => by
  obtain ⟨b, o, e, h1⟩ := h h0
  exact ⟨b, o, e, h1.below hb⟩
def DR (w : World) (n : Nat) (i : Value) (wr : World) : Prop := ∃ k : Nat, k ≤ n ∧ i = .int .i64 (k : Int) ∧ ∃ q, wr = w.drewN q
set_option maxHeartbeats 2000000 in
/-- two slices of the same bytes -/
theorem c10 (A B : Option Addr) (n c d : Nat) (f g : Nat → Nat) (w : World) (hn : n ≤ 9223372036854775807) (hA : Bz w A n f) (hB : Bz w B n g) (he : ∀ k, k < n → f k = g k) :
    Calls Tryz.prog 10 #[.slice A n c, .slice B n d] w fun e w' => e = .returned (.bool true) ∧ ∃ q, w' = w.drewN q := by
  have HE := Lib.hid he
  clear he
  have hq : ((n : Int) != (n : Int)) = false := by simp
  go_enter Tryz.func10, Tryz.ntmps10
  go_wp2
  go_loopw [5] (DR w n) (fun i _ => n - (intOf i).toNat)
  case atStart => exact ⟨0, Nat.zero_le _, rfl, 0, rfl⟩
  case round =>
    obtain ⟨k, hk, rfl, q, rfl⟩ := hrel
    by_cases hlt : k < n
    · obtain ⟨b, o, rfl, hb, hc⟩ := hA (by omega)
      obtain ⟨b', o', rfl, hb', hc'⟩ := hB (by omega)
      have h1 := (hc k hlt).2
      have h2 := (hc' k hlt).2
      rw [← HE.out k hlt] at h2
      clear hc hc' hA hB
      generalize f k = x at h1 h2
      have e1 : ((x : Int) != (x : Int)) = false := by simp
      go_wp2_with fail
      go_quiet (fail)
      go_wp2
      go_roundw
      case rel => exact ⟨k + 1, hlt, by go_num, _, rfl⟩
      case measure => simp [intOf]; omega
    · obtain rfl : k = n := by omega
      go_wp2
      go_ret
      exact ⟨rfl, q, rfl⟩
/-- a member -/
structure Mem where
  nm : ByteArray
  A : Option Addr
  n : Nat
  c : Nat
  f : Nat → Nat
/-- so many members stand there -/
def Ms (w : World) (A : Option Addr) (n : Nat) (g : Nat → Mem) : Prop :=
  0 < n → ∃ b o, A = some ⟨b, o, none⟩ ∧ b < w.heap.size ∧ ∀ k, k < n → w.cell? ⟨b, o + k * 2, none⟩ = some (.string (g k).nm) ∧ w.cell? ⟨b, o + k * 2 + 1, none⟩ = some (.slice (g k).A (g k).n (g k).c) ∧
    Bz w (g k).A (g k).n (g k).f ∧ (g k).n ≤ 9223372036854775807 ∧ (g k).n ≤ (g k).c ∧ (g k).nm.size ≤ 9223372036854775807
theorem Ms.below {w w' : World} {A : Option Addr} {n : Nat} {g : Nat → Mem} (h : Ms w A n g) (hb : Below w.heap.size w w') : Ms w' A n g := fun h0 => by
  obtain ⟨b, o, e, hl, hc⟩ := h h0
  have z : ∀ j, w'.cell? ⟨b, j, none⟩ = w.cell? ⟨b, j, none⟩ := fun j => hb.cell (p := ⟨b, j, none⟩) hl
  refine ⟨b, o, e, Nat.lt_of_lt_of_le hl hb.size, fun k hk => ?_⟩
  obtain ⟨h1, h2, h3, h4⟩ := hc k hk
  exact ⟨by rw [z]; exact h1, by rw [z]; exact h2, h3.below hb, h4⟩
/-- an entry of the index -/
structure Ix where
  nm : ByteArray
  m : Int
/-- so many entries stand there -/
def Is (w : World) (A : Option Addr) (n : Nat) (g : Nat → Ix) : Prop :=
  0 < n → ∃ b o, A = some ⟨b, o, none⟩ ∧ b < w.heap.size ∧ ∀ k, k < n → w.cell? ⟨b, o + k * 2, none⟩ = some (.string (g k).nm) ∧ w.cell? ⟨b, o + k * 2 + 1, none⟩ = some (.int .i64 (g k).m) ∧
    (g k).nm.size ≤ 9223372036854775807 ∧ -9223372036854775808 ≤ (g k).m ∧ (g k).m ≤ 9223372036854775807
theorem Is.below {w w' : World} {A : Option Addr} {n : Nat} {g : Nat → Ix} (h : Is w A n g) (hb : Below w.heap.size w w') : Is w' A n g := fun h0 => by
  obtain ⟨b, o, e, hl, hc⟩ := h h0
  have z : ∀ j, w'.cell? ⟨b, j, none⟩ = w.cell? ⟨b, j, none⟩ := fun j => hb.cell (p := ⟨b, j, none⟩) hl
  refine ⟨b, o, e, Nat.lt_of_lt_of_le hl hb.size, fun k hk => ?_⟩
  obtain ⟨h1, h2, h3⟩ := hc k hk
  exact ⟨by rw [z]; exact h1, by rw [z]; exact h2, h3⟩
end Go.Proofs.YtgmifaadlaigdaaGreatDoor
