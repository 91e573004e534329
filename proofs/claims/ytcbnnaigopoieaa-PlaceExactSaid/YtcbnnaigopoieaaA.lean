import Derived.Test.YtcbnnaigopoieaaProg
import Derived.WalkKit
import Derived.ProofKit
import Derived.OpenShut
import Derived.Below
import Derived.WalkSmall
import Derived.BigQuiet
import Derived.Deep.QuietTactic
import Derived.Deep.RegionHeld3
import Derived.LoopTactic
import Derived.Lib.Hide
import Derived.Laws.BitsAllLaws
import Derived.Deep.Draws
namespace Go.Proofs.Ytcbnnaigopoieaa
open Go.ChangeShapes Go.WideShapes Go.ChangeAt Go.RowKit
set_option linter.unusedVariables false
def sz (n P : Nat) : Nat := (n + P - 1) / P * P
def rmL (n : Nat) : Nat → Nat × Nat × Bool
  | 0 => (0, 0, false)
  | j + 1 => if sz n (2 ^ (8 - j)) ≤ 511 * 2 ^ (8 - j) then (8 - j, sz n (2 ^ (8 - j)), true) else rmL n j
theorem le_sz (n P : Nat) (h : 1 ≤ P) : n ≤ sz n P := by
  unfold sz
  have h1 := Nat.div_add_mod (n + P - 1) P
  have h2 := Nat.mod_lt (n + P - 1) (show 0 < P by omega)
  rw [Nat.mul_comm] at h1
  omega
theorem sz_mod (n P : Nat) (h : 1 ≤ P) : sz n P = if n % P = 0 then n else n + P - n % P := by
  unfold sz
  have h1 := Nat.div_add_mod n P
  have h2 := Nat.mod_lt n (show 0 < P by omega)
  obtain ⟨q, hq⟩ : ∃ q, q = n / P := ⟨_, rfl⟩
  obtain ⟨r, hr⟩ : ∃ r, r = n % P := ⟨_, rfl⟩
  rw [← hq, ← hr] at h1
  rw [← hr] at h2 ⊢
  have e : n + P - 1 = (r + P - 1) + P * q := by omega
  rw [e, Nat.add_mul_div_left _ _ (show 0 < P by omega)]
  split
  · rename_i h0
    rw [h0, Nat.div_eq_of_lt (by omega)]
    rw [Nat.zero_add, Nat.mul_comm]; omega
  · rw [show r + P - 1 = (r - 1) + P * 1 by omega, Nat.add_mul_div_left _ _ (show 0 < P by omega), Nat.div_eq_of_lt (by omega), Nat.add_mul, Nat.mul_comm q P]
    omega
theorem rmL_b (n : Nat) : ∀ j, j ≤ 6 → rmL n j = (0, 0, false) ∨ ∃ k s, 3 ≤ k ∧ k ≤ 8 ∧ n ≤ s ∧ s ≤ 511 * 2 ^ k ∧ rmL n j = (k, s, true)
  | 0, _ => Or.inl rfl
  | j + 1, h => by
    rw [rmL]
    split
    · rename_i h1
      exact Or.inr ⟨8 - j, _, by omega, by omega, le_sz n _ Nat.one_le_two_pow, h1, rfl⟩
    · exact rmL_b n j (by omega)
theorem rmL_far (n : Nat) (h : 130816 < n) : ∀ j, j ≤ 6 → rmL n j = (0, 0, false)
  | 0, _ => rfl
  | j + 1, hj => by
    have h1 := le_sz n (2 ^ (8 - j)) Nat.one_le_two_pow
    have h2 : (2 : Nat) ^ (8 - j) ≤ 2 ^ 8 := Nat.pow_le_pow_right (by omega) (by omega)
    rw [rmL, if_neg (by omega)]
    exact rmL_far n h j (by omega)
theorem rmL_step (n k : Nat) (h3 : 3 ≤ k) (h8 : k ≤ 8) : rmL n (9 - k) = if sz n (2 ^ k) ≤ 511 * 2 ^ k then (k, sz n (2 ^ k), true) else rmL n (9 - (k + 1)) := by
  rw [show 9 - k = (8 - k) + 1 by omega, rmL, show 8 - (8 - k) = k by omega, show 9 - (k + 1) = 8 - k by omega]
def pw (n : Nat) : Bool := n == 1 || n == 2 || n == 4 || n == 8 || n == 16 || n == 32 || n == 64 || n == 128 || n == 256
theorem pw_and (n : Nat) (h0 : 0 < n) (h : n ≤ 256) : decide (n &&& (n - 1) = 0) = pw n := by
  have H : ∀ m : Fin 256, decide ((m.val + 1) &&& m.val = 0) = pw (m.val + 1) := by decide +kernel
  have := H ⟨n - 1, by omega⟩
  simp only [show n - 1 + 1 = n by omega] at this
  exact this
theorem small (a b P : Nat) (h : 1 ≤ P) : ((a + P - 1) / P ≤ 511) ↔ (sz a P ≤ 511 * P) := by
  unfold sz
  exact (Nat.mul_le_mul_right_iff (by omega)).symm
theorem ret1 {k : IntKind} {a b : Int} (h : a = b) : Ending.returned (.int k a) = .returned (.int k b) := by rw [h]
theorem retb {a b : Bool} (h : a = b) : Ending.returned (.bool a) = .returned (.bool b) := by rw [h]
theorem c11 (n P : Nat) (hn : n ≤ 1048576) (h1 : 1 ≤ P) (h2 : P ≤ 256) (w : World) : Calls Try.prog 11 #[.int .i64 (n : Int), .int .i64 (P : Int)] w fun en w' => en = .returned (.int .i64 (sz n P : Int)) ∧ w = w' := by
  have d1 : ((n : Int) + (P : Int) - 1).tdiv (P : Int) = (((n + P - 1) / P : Nat) : Int) := by
    rw [Int.tdiv_eq_ediv_of_nonneg (by omega), show (n : Int) + (P : Int) - 1 = ((n + P - 1 : Nat) : Int) by omega]; rfl
  have hz : ((P : Int) == 0) = false := by simp; omega
  have m1 : (((n + P - 1) / P : Nat) : Int) * (P : Int) = ((sz n P : Nat) : Int) := by unfold sz; rw [Int.natCast_mul]
  have b1 : (n + P - 1) / P ≤ n + P - 1 := Nat.div_le_self _ _
  have b2 : sz n P ≤ n + P - 1 := Nat.div_mul_le_self _ _
  generalize (n + P - 1) / P = q at *
  generalize sz n P = s at *
  go_enter Try.func11, Try.ntmps11
  go_wp2
  go_ret
  exact ⟨rfl, rfl⟩
theorem c14 (n P : Nat) (hn : n ≤ 1048576) (h1 : 1 ≤ P) (h2 : P ≤ 256) (w : World) : Calls Try.prog 14 #[.int .i64 (n : Int), .int .i64 (P : Int)] w fun en w' => en = .returned (.int .i64 (sz n P : Int)) ∧ w = w' := by
  have d1 : (n : Int).tmod (P : Int) = ((n % P : Nat) : Int) := by
    rw [Int.tmod_eq_emod_of_nonneg (by omega)]; rfl
  have hz : ((P : Int) == 0) = false := by simp; omega
  have m1 := sz_mod n P h1
  have b1 : n % P < P := Nat.mod_lt _ (by omega)
  generalize n % P = q at *
  generalize sz n P = s at *
  by_cases h0 : q = 0
  · subst h0
    rw [if_pos rfl] at m1
    subst m1
    go_enter Try.func14, Try.ntmps14
    go_wp2
    go_ret
    exact ⟨rfl, rfl⟩
  · rw [if_neg h0] at m1
    have hq : ((q : Int) == 0) = false := by simp; omega
    have M := Lib.hid m1
    clear m1
    go_enter Try.func14, Try.ntmps14
    go_wp2
    go_ret
    exact ⟨ret1 (by have := M.out; omega), rfl⟩
theorem and_pw (m : Nat) (h0 : 0 < m) (h : m ≤ 256) : bits .and .i64 (m : Int) ((m : Int) - 1) = ((m &&& (m - 1) : Nat) : Int) := by
  have H : ∀ k : Fin 256, bits .and .i64 (((k.val + 1 : Nat)) : Int) ((((k.val + 1 : Nat)) : Int) - 1) = (((k.val + 1) &&& (k.val + 1 - 1) : Nat) : Int) := by decide +kernel
  have := H ⟨m - 1, by omega⟩
  simp only [show m - 1 + 1 = m by omega] at this
  exact this
theorem c12 (n : Int) (hb : -9223372036854775808 ≤ n ∧ n ≤ 9223372036854775807) (w : World) : Calls Try.prog 12 #[.int .i64 n] w fun en w' => en = .returned (.bool (decide (0 < n) && pw n.toNat)) ∧ w = w' := by
  obtain ⟨hb1, hb2⟩ := hb
  by_cases h0 : 0 < n
  · by_cases h1 : n ≤ 256
    · obtain ⟨m, rfl⟩ := Int.eq_ofNat_of_zero_le (show 0 ≤ n by omega)
      have hp := pw_and m (by omega) (by omega)
      have hb : bits .and .i64 (m : Int) ((m : Int) - 1) = ((m &&& (m - 1) : Nat) : Int) := by
        exact and_pw m (by omega) (by omega)
      have e : ((m : Int)).toNat = m := by omega
      rw [e, show decide (0 < (m : Int)) = true by simpa using h0, Bool.true_and, ← hp]
      generalize m &&& (m - 1) = q at *
      clear hp e
      have hq : ((q : Int) == 0) = decide (q = 0) := by rw [Bool.eq_iff_iff]; simp
      go_enter Try.func12, Try.ntmps12
      go_wp2
      go_ret
      exact ⟨rfl, rfl⟩
    · have e : (decide (0 < n) && pw n.toNat) = false := by
        have : pw n.toNat = false := by unfold pw; simp; omega
        rw [this, Bool.and_false]
      rw [e]
      go_enter Try.func12, Try.ntmps12
      go_wp2
      go_ret
      exact ⟨rfl, rfl⟩
  · have e : (decide (0 < n) && pw n.toNat) = false := by rw [show decide (0 < n) = false by simpa using h0, Bool.false_and]
    rw [e]
    go_enter Try.func12, Try.ntmps12
    go_wp2
    go_ret
    exact ⟨rfl, rfl⟩
end Go.Proofs.Ytcbnnaigopoieaa
