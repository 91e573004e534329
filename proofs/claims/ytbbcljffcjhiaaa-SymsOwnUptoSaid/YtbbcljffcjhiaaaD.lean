import Derived.Test.YtbbcljffcjhiaaaC
import Derived.Deep.Draws
import Derived.BigQuiet
namespace Go.Proofs.Ytbbcljffcjhiaaa
open Go.ChangeShapes Go.WideShapes Go.ChangeAt Go.RowKit
set_option linter.unusedVariables false
set_option linter.unusedSimpArgs false
def Ss (w : World) (A : Option Addr) (n : Nat) (f : Nat → ByteArray) : Prop :=
  0 < n → ∃ b o, A = some ⟨b, o, none⟩ ∧ b < w.heap.size ∧ ∀ k, k < n → w.cell? ⟨b, o + k, none⟩ = some (.string (f k))
def DR (w : World) (n : Nat) (i : Value) (wr : World) : Prop := ∃ k : Nat, k ≤ n ∧ i = .int .i64 (k : Int) ∧ ∃ q, wr = w.drewN q
set_option maxHeartbeats 4000000 in
/-- f0.Texts of the same texts -/
theorem c4 (A B : Option Addr) (n c d : Nat) (f : Nat → ByteArray) (w : World) (hn : n ≤ 9223372036854775807) (hA : Ss w A n f) (hB : Ss w B n f) :
    Calls Try.prog 4 #[.slice A n c, .slice B n d] w fun e w' => e = .returned (.bool true) ∧ ∃ q, w' = w.drewN q := by
  have HA := Lib.hid hA
  have HB := Lib.hid hB
  clear hA hB
  have hq : ((n : Int) != (n : Int)) = false := by simp
  go_enter Try.func4, Try.ntmps4
  go_wp2
  go_loopw [5] (DR w n) (fun i _ => n - (intOf i).toNat)
  case atStart => exact ⟨0, Nat.zero_le _, rfl, 0, rfl⟩
  case round =>
    obtain ⟨k, hk, rfl, q, rfl⟩ := hrel
    by_cases hlt : k < n
    · obtain ⟨b, o, rfl, hb, hc⟩ := HA.out (by omega)
      obtain ⟨b', o', rfl, hb', hc'⟩ := HB.out (by omega)
      have h1 := hc k hlt
      have h2 := hc' k hlt
      clear hc hc'
      generalize f k = x at *
      have e1 : (!(x.toList == x.toList)) = false := by simp
      have hkw : IntKind.i64.wrap (k : Int) = (k : Int) := by rw [IntKind.wrap_i64]; omega
      go_wp2_with fail
      go_quiet (fail)
      go_wp2
      go_roundw
      case rel => exact ⟨k + 1, hlt, by go_num, _, rfl⟩
      case measure => simp [intOf]; omega
    · obtain rfl : k = n := by omega
      go_wp2
      go_ret
      exact ⟨rfl, q, rfl⟩
/-- no compartment: no names -/
theorem c5_out (st tr : Int) (SA : Option Addr) (ns sc : Nat) (CA : Option Addr) (nc cc : Nat) (start : Int) (main : ByteArray) (c : Int) (w : World) (hc : c < 0 ∨ (nc : Int) ≤ c) :
    Calls Try.prog 5 #[.agg #[.int .i64 st, .int .i64 tr, .slice SA ns sc, .slice CA nc cc, .int .i64 start, .string main], .int .i64 c] w fun e w' => e = .returned (.slice none 0 0) ∧ Below w.heap.size w w' := by
  have HB : Hid (Below w.heap.size w (w.alloc (.cells #[.int .i64 st, .int .i64 tr, .slice SA ns sc, .slice CA nc cc, .int .i64 start, .string main] 25))) := Lib.hid ((Below.refl _ w).alloc (Nat.le_refl _) _)
  by_cases h0 : c < 0
  · have d1 : decide (c < 0) = true := by simp; omega
    clear hc h0
    go_enter Try.func5, Try.ntmps5
    go_wp2_with fail
    go_ret
    exact ⟨rfl, HB.out⟩
  · have d1 : decide (c < 0) = false := by simp; omega
    have d2 : decide ((nc : Int) ≤ c) = true := by simp; omega
    clear hc h0
    go_enter Try.func5, Try.ntmps5
    go_wp2_with fail
    go_ret
    exact ⟨rfl, HB.out⟩
theorem c6_out (st tr : Int) (SA : Option Addr) (ns sc : Nat) (CA : Option Addr) (nc cc : Nat) (start : Int) (main : ByteArray) (c : Int) (w : World) (hc : c < 0 ∨ (nc : Int) ≤ c) :
    Calls Try.prog 6 #[.agg #[.int .i64 st, .int .i64 tr, .slice SA ns sc, .slice CA nc cc, .int .i64 start, .string main], .int .i64 c] w fun e w' => e = .returned (.slice none 0 0) ∧ Below w.heap.size w w' := by
  have HB : Hid (Below w.heap.size w (w.alloc (.cells #[.int .i64 st, .int .i64 tr, .slice SA ns sc, .slice CA nc cc, .int .i64 start, .string main] 25))) := Lib.hid ((Below.refl _ w).alloc (Nat.le_refl _) _)
  by_cases h0 : c < 0
  · have d1 : decide (c < 0) = true := by simp; omega
    clear hc h0
    go_enter Try.func6, Try.ntmps6
    go_wp2_with fail
    go_ret
    exact ⟨rfl, HB.out⟩
  · have d1 : decide (c < 0) = false := by simp; omega
    have d2 : decide ((nc : Int) ≤ c) = true := by simp; omega
    clear hc h0
    go_enter Try.func6, Try.ntmps6
    go_wp2_with fail
    go_ret
    exact ⟨rfl, HB.out⟩
end Go.Proofs.Ytbbcljffcjhiaaa
