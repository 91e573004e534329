import Derived.Test.YtcbnnaigopoieaaB
namespace Go.Proofs.Ytcbnnaigopoieaa
open Go.ChangeShapes Go.WideShapes Go.ChangeAt Go.RowKit
set_option linter.unusedVariables false
theorem pw_mul (n k : Nat) (h : ¬ pw n = true) (hk : k ≤ 8) : n ≠ 2 ^ k := by
  intro h2
  have : k = 0 ∨ k = 1 ∨ k = 2 ∨ k = 3 ∨ k = 4 ∨ k = 5 ∨ k = 6 ∨ k = 7 ∨ k = 8 := by omega
  rcases this with rfl | rfl | rfl | rfl | rfl | rfl | rfl | rfl | rfl <;> exact h (by rw [h2]; decide)
theorem c13 (n : Int) (hb : -9223372036854775808 ≤ n ∧ n ≤ 9223372036854775807) (w : World) : Calls Try.prog 13 #[.int .i64 n] w fun en w' => en = .returned (.bool (decide (0 < n) && pw n.toNat)) ∧ w = w' := by
  obtain ⟨hb1, hb2⟩ := hb
  obtain ⟨G, hG⟩ : ∃ G, G = (decide (0 < n) && pw n.toNat) := ⟨_, rfl⟩
  rw [← hG]
  have HG := Lib.hid hG
  clear hG
  go_enter Try.func13, Try.ntmps13
  go_wp2_with fail
  go_loop [3] (fun e => ∃ k : Nat, (k = 1 ∨ k = 2 ∨ k = 4 ∨ k = 8 ∨ k = 16 ∨ k = 32 ∨ k = 64 ∨ k = 128 ∨ k = 256 ∨ k = 512) ∧ e = .int .i64 (k : Int) ∧ Hid (∀ j : Nat, j < k → pw j = true → n ≠ (j : Int))) (fun e => 512 - (intOf e).toNat)
  case atStart => exact ⟨1, by omega, rfl, fun j hj hp => by rw [show j = 0 by omega] at hp; exact absurd hp (by decide)⟩
  case round =>
    obtain ⟨k, hk, rfl, hx⟩ := hrel
    by_cases he : n = (k : Int)
    · by_cases h5 : k = 512
      · subst h5
        have e : G = false := by rw [HG.out, he]; decide
        subst e
        go_wp2_with fail
        go_ret
        exact ⟨rfl, rfl⟩
      · have e : G = true := by
          rw [HG.out, he]
          rcases hk with rfl | rfl | rfl | rfl | rfl | rfl | rfl | rfl | rfl | rfl <;> first | decide | exact absurd rfl h5
        have hk2 : k ≤ 256 := by omega
        have hk0 : 1 ≤ k := by omega
        clear hk HG hx
        subst he
        subst e
        go_wp2_with fail
        go_ret
        exact ⟨rfl, rfl⟩
    · have hen : ((k : Int) == n) = false := by simp; omega
      by_cases h5 : k = 512
      · subst h5
        have e : G = false := by
          rw [HG.out]
          by_cases h0 : 0 < n
          · obtain ⟨m, rfl⟩ := Int.eq_ofNat_of_zero_le (show 0 ≤ n by omega)
            rw [show ((m : Int)).toNat = m by omega]
            cases hp : pw m
            · simp
            · have : m < 512 := by unfold pw at hp; simp at hp; omega
              exact absurd rfl (hx.out m this hp)
          · rw [show decide (0 < n) = false by simpa using h0, Bool.false_and]
        subst e
        clear HG hx
        go_wp2_with fail
        go_ret
        exact ⟨rfl, rfl⟩
      · have hx2 : Hid (∀ j : Nat, j < 2 * k → pw j = true → n ≠ (j : Int)) := Lib.hid fun j hj hp => by
          by_cases hjk : j < k
          · exact hx.out j hjk hp
          · have : j = k := by
              unfold pw at hp
              simp at hp
              omega
            rw [this]; exact he
        have hk2 : 2 * k = 2 ∨ 2 * k = 4 ∨ 2 * k = 8 ∨ 2 * k = 16 ∨ 2 * k = 32 ∨ 2 * k = 64 ∨ 2 * k = 128 ∨ 2 * k = 256 ∨ 2 * k = 512 := by omega
        have hk3 : k ≤ 256 := by omega
        have hk0 : 1 ≤ k := by omega
        have e2 : (2 : Int) * (k : Int) = ((2 * k : Nat) : Int) := by omega
        have hlt : 512 - 2 * k < 512 - k := by omega
        have hq : 2 * k ≤ 512 := by omega
        generalize 2 * k = q at *
        have HK := Lib.hid hk
        clear hk
        have HK2 := Lib.hid hk2
        clear hk2 hx HG
        go_wp2_with fail
        go_round
        case rel => exact ⟨q, by have := HK2.out; omega, rfl, hx2⟩
        case measure => simp [intOf]; omega
end Go.Proofs.Ytcbnnaigopoieaa
