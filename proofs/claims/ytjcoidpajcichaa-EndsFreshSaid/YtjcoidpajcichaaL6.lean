import Derived.Test.YtjcoidpajcichaaL3
import Derived.Test.YtjcoidpajcichaaRw
namespace Go.Proofs.Ytjcoidpajcichaa
open Go.ChangeShapes Go.WideShapes Go.ChangeAt Go.RowKit
set_option linter.unusedVariables false
/-- What came in, as a slice of bytes. -/
theorem IsRow.rd {w : World} {A : Option Addr} {len cap : Nat} {zs : List Int} (h : IsRow .u8 w A len cap zs) :
    ∃ f : Nat → Nat, (∀ j, f j < 256) ∧ Rd w A len f ∧ len ≤ cap ∧ cap ≤ 9223372036854775807 ∧ (A = none → cap = 0) := by
  obtain ⟨h1, h2, h3, h4⟩ := h.open_
  have hz : ∀ j, 0 ≤ zs.getD j 0 ∧ zs.getD j 0 < 256 := fun j => by
    have := bounds_u8 (getD_wf h4 rfl j)
    omega
  refine ⟨fun j => (zs.getD j 0).toNat, fun j => by have := hz j; show (zs.getD j 0).toNat < 256; omega, fun h0 => ?_, h1, by unfold maxLen at h2; exact h2, fun hn => ?_⟩
  · obtain ⟨b, o, e1, e2, e3⟩ := h3 h0
    exact ⟨b, o, e1, e2, fun j hj => by rw [e3 j (by omega), Int.toNat_of_nonneg (hz j).1]⟩
  · rcases h with ⟨_, _, rfl, _⟩ | ⟨x, hx, _⟩
    · rfl
    · rw [hn] at hx; cases hx
theorem bt_nm (g : Nat → Nat) (hg : ∀ j, g j < 256) : ∀ s j, j < s → bt (nm g s) j = g j
  | 0, j, h => by omega
  | s + 1, j, h => by
    unfold bt
    show (nm g s + g s * 256 ^ s) / 256 ^ j % 256 = g j
    have h1 := nm_lt g hg s
    by_cases hj : j = s
    · subst hj
      rw [Nat.add_mul_div_right _ _ (Nat.pow_pos (by omega)), Nat.div_eq_of_lt h1, Nat.zero_add, Nat.mod_eq_of_lt (hg j)]
    · have hjs : j < s := by omega
      have ih := bt_nm g hg s j hjs
      unfold bt at ih
      have e : (256 : Nat) ^ s = 256 * 256 ^ (s - j - 1) * 256 ^ j := by
        rw [Nat.mul_assoc, ← Nat.pow_add, Nat.mul_comm, ← Nat.pow_succ]
        congr 1; omega
      rw [e, ← Nat.mul_assoc, Nat.add_mul_div_right _ _ (Nat.pow_pos (by omega)), ← Nat.mul_assoc, Nat.mul_comm (g s) 256, Nat.mul_assoc, Nat.add_mul_mod_self_left]
      exact ih
theorem walk6 (A : Option Addr) (n c p s m : Nat) (g : Nat → Nat) (w : World) (hn : n ≤ c) (hc : c ≤ 9223372036854775807) (hA : Rd w A n g) (hp : p + s ≤ n) (hs8 : s ≤ 8) (hs0 : 0 < s) (hal : alike s (bt m) (fun j => g (p + j)))
    (K14 : ∀ w' : World, w' = w → Calls Try.prog 14 #[.slice A n c, .int .i64 (p : Int), .int .i64 (s : Int)] w' fun e w'' => e = .returned (.tuple #[.int .u64 (m : Int), .int .i64 0]) ∧ w' = w'')
    (K9 : ∀ w : World, Calls Try.prog 9 #[.int .u64 (m : Int), .int .i64 (s : Int)] w (PutOut w m s)) :
    Calls Try.prog 6 #[.slice A n c, .int .i64 (p : Int), .int .i64 (s : Int)] w fun e w' => e = .returned (.bool true) ∧ Below w.heap.size w w' := by
  have q1 : decide ((p : Int) < 0) = false := by simp
  have q2 : decide ((s : Int) < 0) = false := by simp
  have q3 : decide (n < p) = false := by simp; omega
  have q4 : decide ((n : Int) - (p : Int) < (s : Int)) = false := by simp; omega
  have f1 : (p : Int) + (s : Int) ≤ (c : Int) := by omega
  have f2 : (0 : Int) ≤ (p : Int) + (s : Int) := by omega
  have f3 : (p : Int) ≤ (p : Int) + (s : Int) := by omega
  have f4 : (p : Int) + (s : Int) ≤ (n : Int) := by omega
  have hcp : ¬ c = p := by omega
  have HAL := Lib.hid hal
  have HA := Lib.hid hA
  clear hal hA
  go_enter Try.func6, Try.ntmps6
  go_wp2_with fail
  refine (K14 _ rfl).mono ?_
  rintro _ _ ⟨rfl, rfl⟩
  clear K14
  go_wp2_with fail
  refine (K9 _).mono ?_
  rintro _ w0 ⟨v0, rfl, hb0, A0, c0, rfl, hR0⟩
  have HB0 := Lib.hid hb0
  have HR0 := Lib.hid (Made.rd (c := 0) hR0)
  have HA0 := Lib.hid (HA.out.below hb0)
  clear hb0 hR0 K9
  go_wp2_with fail
  refine (s11 A0 _ s c0 (c - p) (bt m) _ _ (by omega) HR0.out (HA0.out.cut hp) HAL.out).mono ?_
  rintro _ w2 ⟨rfl, hb2⟩
  have HB2 := Lib.hid (HB0.out.trans (hb2.mono HB0.out.size))
  clear hb2
  go_wp2_with fail
  refine (lives _).mono ?_
  rintro _ w3 ⟨rfl, hb3⟩
  have HB3 := Lib.hid (HB2.out.trans (hb3.mono HB2.out.size))
  clear hb3
  go_wp2_with fail
  go_ret
  exact ⟨rfl, HB3.out⟩
theorem walk6e (A : Option Addr) (n c : Nat) (at' s er : Int) (w : World) (her : ((er : Int) != 0) = true)
    (K14 : ∀ w' : World, w' = w → Calls Try.prog 14 #[.slice A n c, .int .i64 at', .int .i64 s] w' fun e w'' => e = .returned (.tuple #[.int .u64 0, .int .i64 er]) ∧ w' = w'') :
    Calls Try.prog 6 #[.slice A n c, .int .i64 at', .int .i64 s] w fun e w' => e = .returned (.bool true) ∧ Below w.heap.size w w' := by
  go_enter Try.func6, Try.ntmps6
  go_wp2_with fail
  refine (K14 _ rfl).mono ?_
  rintro _ _ ⟨rfl, rfl⟩
  clear K14
  go_wp2_with fail
  refine (lives _).mono ?_
  rintro _ w3 ⟨rfl, hb3⟩
  have HB3 := Lib.hid hb3
  clear hb3
  go_wp2_with fail
  go_ret
  exact ⟨rfl, HB3.out⟩
theorem law6 (A : Option Addr) (len cap : Nat) (zs : List Int) (at' s : Int) {w : World} (h : IsRow .u8 w A len cap zs) (hat : -9223372036854775808 ≤ at' ∧ at' ≤ 9223372036854775807) (hs : -9223372036854775808 ≤ s ∧ s ≤ 9223372036854775807) (_W : World) :
    Calls Try.prog 6 #[.slice A len cap, .int .i64 at', .int .i64 s] w fun e w' => e = .returned (.bool true) ∧ Below w.heap.size w w' := by
  obtain ⟨f, hf, hR, h1, h2, h3⟩ := h.rd
  by_cases hp : isSz s = true ∧ 0 ≤ at' ∧ at' + s ≤ len
  · obtain ⟨hs1, ha, hb⟩ := hp
    obtain ⟨k, rfl, hk⟩ := sz_of hs1
    obtain ⟨p, rfl⟩ := Int.eq_ofNat_of_zero_le ha
    have hlt := nm_lt (fun j => f (p + j)) (fun j => hf _) k
    have h8 : (256 : Nat) ^ k ≤ 256 ^ 8 := Nat.pow_le_pow_right (by omega) (by omega)
    have h9 : (256 : Nat) ^ 8 = 18446744073709551616 := rfl
    exact walk6 A len cap p k (nm (fun j => f (p + j)) k) f w h1 h2 hR (by omega) (by omega) (by omega) (fun j hj => bt_nm _ (fun j => hf _) k j hj)
      (fun w' hw => by subst hw; exact c14 A len cap p k f w' hf h1 h2 hR h3 hk (by omega)) (fun w => c9 _ k (by omega) hk hlt w)
  · refine walk6e A len cap at' s (getE len at' s) w ?_ (fun w' hw => c14x A len cap at' s w' h1 h2 hp)
    unfold getE
    split <;> rfl
end Go.Proofs.Ytjcoidpajcichaa
