import Derived.Test.YtjcoidpajcichaaD
namespace Go.Proofs.Ytjcoidpajcichaa
open Go.ChangeShapes Go.WideShapes Go.ChangeAt Go.RowKit
set_option linter.unusedVariables false
def allz (n : Nat) (f : Nat → Nat) : Prop := ∀ j, j < n → f j = 0
def ZOut (w : World) (c : Prop) (e : Ending) (w' : World) : Prop := ∃ x : Bool, e = .returned (.bool x) ∧ (x = true ↔ c) ∧ w = w'
def ZR (w : World) (f : Nat → Nat) (s : Nat) (i : Value) (wr : World) : Prop := ∃ k : Nat, k ≤ s ∧ i = .int .i64 (k : Int) ∧ allz k f ∧ wr = w
theorem allz.succ {n : Nat} {f : Nat → Nat} (h : allz n f) (he : f n = 0) : allz (n + 1) f := fun j hj => by
  by_cases hjn : j = n
  · rw [hjn]; exact he
  · exact h j (by omega)
set_option maxHeartbeats 2000000 in
theorem c20 (A : Option Addr) (n c p s : Nat) (f : Nat → Nat) (w : World) (hn : n ≤ c) (hc : c ≤ 9223372036854775807) (hA : Rd w A n f) (hA0 : A = none → c = 0) (hp : p + s ≤ n) :
    Calls Try.prog 20 #[.slice A n c, .int .i64 (p : Int), .int .i64 (s : Int)] w (ZOut w (allz s (fun j => f (p + j)))) := by
  have k28 := c28 A n c p s f w hn hc hA hA0 hp
  have K28 := Lib.hid k28
  obtain ⟨g, hg⟩ : ∃ g, g = fun j => f (p + j) := ⟨_, rfl⟩
  rw [← hg]
  have HG := Lib.hid hg
  have hs : s ≤ 9223372036854775807 := by omega
  clear hg k28 hA hA0 hp
  go_enter Try.func20, Try.ntmps20
  go_wp2_with fail
  refine K28.out.mono ?_
  rintro _ _ ⟨A', rfl, rfl, hR⟩
  rw [← HG.out] at hR
  have HR := Lib.hid hR
  clear HG hR K28
  go_wp2_with fail
  go_loopw [22] (ZR w g s) (fun i _ => s - (intOf i).toNat)
  case atStart => exact ⟨0, Nat.zero_le _, rfl, fun j hj => absurd hj (by omega), rfl⟩
  case round =>
    obtain ⟨k, hk, rfl, hz, rfl⟩ := hrel
    have HZ := Lib.hid hz
    clear hz
    by_cases hlt : k < s
    · obtain ⟨b, o, rfl, hb, hcell⟩ := HR.out (by omega)
      have hc0 := hcell k hlt
      clear hcell HR
      by_cases he : g k = 0
      · have e1 : ((g k : Int) != 0) = false := by simp [he]
        have HE := Lib.hid he
        clear he
        generalize g k = x at hc0 e1
        go_wp2
        go_roundw
        case rel => exact ⟨k + 1, hlt, by go_num, HZ.out.succ HE.out, rfl⟩
        case measure => simp [intOf]; omega
      · have e1 : ((g k : Int) != 0) = true := by simp; omega
        have hno : ¬ allz s g := fun h => he (h k hlt)
        have HNO := Lib.hid hno
        clear he hno
        generalize g k = x at hc0 e1
        go_wp2
        go_ret
        exact ⟨false, rfl, by simp [HNO.out], rfl⟩
    · obtain rfl : k = s := by omega
      go_wp2
      go_ret
      exact ⟨true, rfl, by simp [HZ.out], rfl⟩
theorem c20x (A : Option Addr) (n c : Nat) (at' s : Int) (w : World) (hn : n ≤ c) (hc : c ≤ 9223372036854775807) (hp : ¬ (0 ≤ at' ∧ 0 ≤ s ∧ at' + s ≤ n)) :
    Calls Try.prog 20 #[.slice A n c, .int .i64 at', .int .i64 s] w fun e w' => e = .returned (.bool false) ∧ w = w' := by
  have k28 := c28x A n c at' s w hn hc hp
  have e2 : cutE n at' s = 2 ∨ cutE n at' s = 4 := by unfold cutE; split <;> simp
  rcases e2 with e2 | e2
  all_goals
    rw [e2] at k28
    have K28 := Lib.hid k28
    clear k28 e2 hp
    go_enter Try.func20, Try.ntmps20
    go_wp2_with (go_at_call 28; refine K28.out.mono ?_; rintro _ _ ⟨rfl, rfl⟩)
    go_ret
    exact ⟨rfl, rfl⟩
def f3 (j : Nat) : Nat := if j = 0 then 2 else if j = 1 then 1 else 5
theorem f3_lt (j : Nat) : f3 j < 256 := by unfold f3; split <;> (try split) <;> omega
theorem build3 (w : World) : Rd (w.alloc (.cells #[.int .u8 2, .int .u8 1, .int .u8 5] 5)) (some ⟨w.heap.size, 0, none⟩) 3 f3 := fun _ => by
  refine ⟨_, 0, rfl, by simp, fun j hj => ?_⟩
  have : j = 0 ∨ j = 1 ∨ j = 2 := by omega
  rcases this with rfl | rfl | rfl <;> simp [f3]
def f21 (j : Nat) : Nat := if j = 0 then 2 else 1
theorem build21 (w : World) : Rd (w.alloc (.cells #[.int .u8 2, .int .u8 1] 5)) (some ⟨w.heap.size, 0, none⟩) 2 f21 := fun _ => by
  refine ⟨_, 0, rfl, by simp, fun j hj => ?_⟩
  have : j = 0 ∨ j = 1 := by omega
  rcases this with rfl | rfl <;> simp [f21]
def f10 (j : Nat) : Nat := if j = 0 then 1 else 0
theorem build10 (w : World) : Rd (w.alloc (.cells #[.int .u8 1, .int .u8 0] 5)) (some ⟨w.heap.size, 0, none⟩) 2 f10 := fun _ => by
  refine ⟨_, 0, rfl, by simp, fun j hj => ?_⟩
  have : j = 0 ∨ j = 1 := by omega
  rcases this with rfl | rfl <;> simp [f10]
theorem k14 (w : World) : Calls Try.prog 14 #[.slice (some ⟨w.heap.size, 0, none⟩) 3 3, .int .i64 0, .int .i64 2] (w.alloc (.cells #[.int .u8 2, .int .u8 1, .int .u8 5] 5)) fun e w' => e = .returned (.tuple #[.int .u64 258, .int .i64 0]) ∧ w.alloc (.cells #[.int .u8 2, .int .u8 1, .int .u8 5] 5) = w' :=
  c14 (some ⟨w.heap.size, 0, none⟩) 3 3 0 2 f3 _ f3_lt (by omega) (by omega) (build3 w) (fun h => by cases h) (by omega) (by omega)
theorem k20 (w : World) : Calls Try.prog 20 #[.slice (some ⟨w.heap.size, 0, none⟩) 2 2, .int .i64 1, .int .i64 1] (w.alloc (.cells #[.int .u8 1, .int .u8 0] 5)) fun e w' => e = .returned (.bool true) ∧ w.alloc (.cells #[.int .u8 1, .int .u8 0] 5) = w' :=
  (c20 (some ⟨w.heap.size, 0, none⟩) 2 2 1 1 f10 _ (by omega) (by omega) (build10 w) (fun h => by cases h) (by omega)).mono fun e w' ⟨x, h1, h2, h3⟩ => by
    have hx : x = true := h2.2 (fun j hj => by obtain rfl : j = 0 := by omega
                                               rfl)
    rw [hx] at h1
    exact ⟨h1, h3⟩
theorem k9 (w : World) : Calls Try.prog 9 #[.int .u64 258, .int .i64 2] w (PutOut w 258 2) := c9 258 2 (by omega) (by omega) (by decide) w
theorem k9e (w : World) : Calls Try.prog 9 #[.int .u64 256, .int .i64 1] w fun e w' => e = .returned (.tuple #[.slice none 0 0, .int .i64 2]) ∧ w = w' := c9y 256 1 (by omega) (by omega) (by decide) w
theorem k11 (w : World) (A : Option Addr) (d : Nat) (hA : Rd w A 2 (bt 258)) : Calls Try.prog 11 #[.slice A 2 d, .slice (some ⟨w.heap.size, 0, none⟩) 2 2] (w.alloc (.cells #[.int .u8 2, .int .u8 1] 5)) fun e w' => e = .returned (.bool true) ∧ ∃ q, w' = (w.alloc (.cells #[.int .u8 2, .int .u8 1] 5)).drewN q :=
  (c11 A (some ⟨w.heap.size, 0, none⟩) 2 d 2 2 (bt 258) f21 _ (by omega) (by omega) (hA.below ((Below.refl _ _).alloc (Nat.le_refl _) _)) (build21 w)).mono fun e w' ⟨x, h1, h2, h3⟩ => by
    have hx : x = true := h2.2 ⟨rfl, fun j hj => by
      have : j = 0 ∨ j = 1 := by omega
      rcases this with rfl | rfl <;> rfl⟩
    rw [hx] at h1
    exact ⟨h1, h3⟩
theorem Made.rd {w w' : World} {A : Option Addr} {n c : Nat} {f : Nat → Nat} (h : 0 < n → ∃ b, A = some ⟨b, 0, none⟩ ∧ w.heap.size ≤ b ∧ b < w'.heap.size ∧ ∀ j, j < n → w'.cell? ⟨b, j, none⟩ = some (.int .u8 (f j : Int))) : Rd w' A n f := fun h0 => by
  obtain ⟨b, e, _, h2, h3⟩ := h h0
  exact ⟨b, 0, e, h2, fun j hj => by rw [Nat.zero_add]; exact h3 j hj⟩
theorem below_drewN {B : Nat} {a w : World} (h : Below B a w) (n : Nat) : Below B a (w.drewN n) := ⟨h.os, h.tape, h.output, h.size, h.block⟩
set_option maxHeartbeats 4000000 in
theorem lives (w : World) : Calls Try.prog 12 #[] w fun e w' => e = .returned (.bool true) ∧ Below w.heap.size w w' := by
  go_enter Try.func12, Try.ntmps12
  go_wp2_with fail
  refine (k9 _).mono ?_
  rintro _ w1 ⟨v1, rfl, hb1, A1, d1, rfl, hR1⟩
  have hR1 := Lib.hid (Made.rd (c := 0) hR1)
  have hB := Lib.hid hb1
  clear hb1
  go_wp2_with fail
  refine (k14 _).mono ?_
  rintro _ _ ⟨rfl, rfl⟩
  go_wp2_with fail
  refine (k9e _).mono ?_
  rintro _ _ ⟨rfl, rfl⟩
  have hR2 := Lib.hid (hR1.out.below ((Below.refl _ _).alloc (Nat.le_refl _) (.cells #[.int .u8 2, .int .u8 1, .int .u8 5] 5)))
  have hB2 := Lib.hid (hB.out.alloc hB.out.size (.cells #[.int .u8 2, .int .u8 1, .int .u8 5] 5))
  clear hR1 hB
  generalize w1.alloc (.cells #[.int .u8 2, .int .u8 1, .int .u8 5] 5) = w2 at *
  go_wp2_with fail
  refine (k11 w2 A1 d1 hR2.out).mono ?_
  rintro _ _ ⟨rfl, q, rfl⟩
  have hB3 := Lib.hid (below_drewN (hB2.out.alloc hB2.out.size (.cells #[.int .u8 2, .int .u8 1] 5)) q)
  clear hR2 hB2
  generalize (w2.alloc (.cells #[.int .u8 2, .int .u8 1] 5)).drewN q = w3 at *
  go_wp2_with fail
  refine (k20 _).mono ?_
  rintro _ _ ⟨rfl, rfl⟩
  go_wp2_with fail
  go_ret
  exact ⟨rfl, hB3.out.alloc hB3.out.size _⟩
end Go.Proofs.Ytjcoidpajcichaa
