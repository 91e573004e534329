import Derived.Test.YtjcoidpajcichaaF
import Derived.Test.YtjcoidpajcichaaL6
namespace Go.Proofs.Ytjcoidpajcichaa
open Go.ChangeShapes Go.WideShapes Go.ChangeAt Go.RowKit
set_option linter.unusedVariables false
theorem own_rd {w : World} {base n : Nat} {v : Value} {f : Nat → Nat} (h : w.ownsRow base 5 1 v n (rowL f n)) : ∃ A c, v = .slice A n c ∧ Rd w A n f ∧ n ≤ c ∧ c ≤ 9223372036854775807 ∧ (A = none → c = 0) := by
  rcases h.2 with ⟨rfl, rfl⟩ | ⟨g, cap, cur, rfl, hg, hh, h1, h2, h3, h4⟩
  · exact ⟨none, 0, rfl, fun h => absurd h (by omega), by omega, by omega, fun _ => rfl⟩
  · refine ⟨_, cap, rfl, fun h0 => ⟨g, 0, rfl, (h.lt g rfl).2, fun j hj => ?_⟩, h1, by unfold maxLen at h2; exact h2, fun h => by cases h⟩
    have := h.cellAt j (by omega)
    rw [Nat.zero_add, this, rowL_get f n j hj]
def ZOutB (w : World) (c : Prop) (e : Ending) (w' : World) : Prop := ∃ x : Bool, e = .returned (.bool x) ∧ (x = true ↔ c) ∧ Below w.heap.size w w'
set_option maxHeartbeats 2000000 in
theorem c21 (A : Option Addr) (n c p s : Nat) (f : Nat → Nat) (w : World) (hn : n ≤ c) (hc : c ≤ 140737488351300) (hA : Rd w A n f) (hA0 : A = none → c = 0) (hp : p + s ≤ n) :
    Calls Try.prog 21 #[.slice A n c, .int .i64 (p : Int), .int .i64 (s : Int)] w (ZOutB w (allz s (fun j => f (p + j)))) := by
  have k17 := c17 A n c p s f w hn hc hA hA0 hp
  have K17 := Lib.hid k17
  obtain ⟨g, hg⟩ : ∃ g, g = fun j => f (p + j) := ⟨_, rfl⟩
  rw [← hg]
  have HG := Lib.hid hg
  have hs : s ≤ 9223372036854775807 := by omega
  clear hg k17 hA hA0 hp
  go_enter Try.func21, Try.ntmps21
  go_wp2_with fail
  refine K17.out.mono ?_
  rintro _ w1 ⟨v, rfl, hb, hown⟩
  rw [← HG.out] at hown
  obtain ⟨A', c', rfl, hR, _, _, _⟩ := own_rd hown
  have HR := Lib.hid hR
  have HB := Lib.hid hb
  clear HG hR K17 hown hb
  go_wp2_with fail
  go_loopw [9] (ZR w1 g s) (fun i _ => s - (intOf i).toNat)
  case atStart => exact ⟨0, Nat.zero_le _, rfl, fun j hj => absurd hj (by omega), rfl⟩
  case round =>
    obtain ⟨k, hk, rfl, hz, rfl⟩ := hrel
    have HZ := Lib.hid hz
    clear hz
    by_cases hlt : k < s
    · obtain ⟨b, o, rfl, hb, hcell⟩ := HR.out (by omega)
      have hc0 := hcell k hlt
      clear hcell HR
      by_cases he : g k = 0
      · have e1 : ((g k : Int) != 0) = false := by simp [he]
        have HE := Lib.hid he
        clear he
        generalize g k = x at hc0 e1
        go_wp2
        go_roundw
        case rel => exact ⟨k + 1, hlt, by go_num, HZ.out.succ HE.out, rfl⟩
        case measure => simp [intOf]; omega
      · have e1 : ((g k : Int) != 0) = true := by simp; omega
        have hno : ¬ allz s g := fun h => he (h k hlt)
        have HNO := Lib.hid hno
        clear he hno
        generalize g k = x at hc0 e1
        go_wp2
        go_ret
        exact ⟨false, rfl, by simp [HNO.out], HB.out⟩
    · obtain rfl : k = s := by omega
      go_wp2
      go_ret
      exact ⟨true, rfl, by simp [HZ.out], HB.out⟩
theorem c21x (A : Option Addr) (n c : Nat) (at' s : Int) (w : World) (hn : n ≤ c) (hc : c ≤ 9223372036854775807) (hp : ¬ (0 ≤ at' ∧ 0 ≤ s ∧ at' + s ≤ n)) :
    Calls Try.prog 21 #[.slice A n c, .int .i64 at', .int .i64 s] w fun e w' => e = .returned (.bool false) ∧ w = w' := by
  have k17 := c17x A n c at' s w hn hc hp
  have e2 : cutE n at' s = 2 ∨ cutE n at' s = 4 := by unfold cutE; split <;> simp
  rcases e2 with e2 | e2
  all_goals
    rw [e2] at k17
    have K17 := Lib.hid k17
    clear k17 e2 hp
    go_enter Try.func21, Try.ntmps21
    go_wp2_with (go_at_call 17; refine K17.out.mono ?_; rintro _ _ ⟨rfl, rfl⟩)
    go_loopw [9] (fun i wr => i = .int .i64 0 ∧ wr = w) (fun i _ => 0)
    case atStart => exact ⟨rfl, rfl⟩
    case round =>
      obtain ⟨rfl, rfl⟩ := hrel
      go_wp2
      go_ret
      exact ⟨rfl, rfl⟩
end Go.Proofs.Ytjcoidpajcichaa
