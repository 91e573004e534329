import Derived.Test.YtleabbhoedddlaaXD
namespace Go.Proofs.Ytleabbhoedddlaa.Pt
open Go.ChangeShapes Go.WideShapes Go.ChangeAt Go.RowKit
set_option linter.unusedVariables false
def allz (n : Nat) (f : Nat → Nat) : Prop := ∀ j, j < n → f j = 0
def ZOut (w : World) (c : Prop) (e : Ending) (w' : World) : Prop := ∃ x : Bool, e = .returned (.bool x) ∧ (x = true ↔ c) ∧ w = w'
def ZR (w : World) (f : Nat → Nat) (s : Nat) (i : Value) (wr : World) : Prop := ∃ k : Nat, k ≤ s ∧ i = .int .i64 (k : Int) ∧ allz k f ∧ wr = w
theorem allz.succ {n : Nat} {f : Nat → Nat} (h : allz n f) (he : f n = 0) : allz (n + 1) f := fun j hj => by
  by_cases hjn : j = n
  · rw [hjn]; exact he
  · exact h j (by omega)
def f3 (j : Nat) : Nat := if j = 0 then 2 else if j = 1 then 1 else 5
theorem f3_lt (j : Nat) : f3 j < 256 := by unfold f3; split <;> (try split) <;> omega
theorem build3 (w : World) : Rd (w.alloc (.cells #[.int .u8 2, .int .u8 1, .int .u8 5] 5)) (some ⟨w.heap.size, 0, none⟩) 3 f3 := fun _ => by
  refine ⟨_, 0, rfl, by simp, fun j hj => ?_⟩
  have : j = 0 ∨ j = 1 ∨ j = 2 := by omega
  rcases this with rfl | rfl | rfl <;> simp [f3]
def f21 (j : Nat) : Nat := if j = 0 then 2 else 1
theorem build21 (w : World) : Rd (w.alloc (.cells #[.int .u8 2, .int .u8 1] 5)) (some ⟨w.heap.size, 0, none⟩) 2 f21 := fun _ => by
  refine ⟨_, 0, rfl, by simp, fun j hj => ?_⟩
  have : j = 0 ∨ j = 1 := by omega
  rcases this with rfl | rfl <;> simp [f21]
def f10 (j : Nat) : Nat := if j = 0 then 1 else 0
theorem build10 (w : World) : Rd (w.alloc (.cells #[.int .u8 1, .int .u8 0] 5)) (some ⟨w.heap.size, 0, none⟩) 2 f10 := fun _ => by
  refine ⟨_, 0, rfl, by simp, fun j hj => ?_⟩
  have : j = 0 ∨ j = 1 := by omega
  rcases this with rfl | rfl <;> simp [f10]
theorem k14 (w : World) : Calls Try.prog 39 #[.slice (some ⟨w.heap.size, 0, none⟩) 3 3, .int .i64 0, .int .i64 2] (w.alloc (.cells #[.int .u8 2, .int .u8 1, .int .u8 5] 5)) fun e w' => e = .returned (.tuple #[.int .u64 258, .int .i64 0]) ∧ w.alloc (.cells #[.int .u8 2, .int .u8 1, .int .u8 5] 5) = w' :=
  c14 (some ⟨w.heap.size, 0, none⟩) 3 3 0 2 f3 _ f3_lt (by omega) (by omega) (build3 w) (fun h => by cases h) (by omega) (by omega)
theorem k9 (w : World) : Calls Try.prog 36 #[.int .u64 258, .int .i64 2] w (PutOut w 258 2) := c9 258 2 (by omega) (by omega) (by decide) w
theorem k9e (w : World) : Calls Try.prog 36 #[.int .u64 256, .int .i64 1] w fun e w' => e = .returned (.tuple #[.slice none 0 0, .int .i64 2]) ∧ w = w' := c9y 256 1 (by omega) (by omega) (by decide) w
theorem k11 (w : World) (A : Option Addr) (d : Nat) (hA : Rd w A 2 (bt 258)) : Calls Try.prog 16 #[.slice A 2 d, .slice (some ⟨w.heap.size, 0, none⟩) 2 2] (w.alloc (.cells #[.int .u8 2, .int .u8 1] 5)) fun e w' => e = .returned (.bool true) ∧ ∃ q, w' = (w.alloc (.cells #[.int .u8 2, .int .u8 1] 5)).drewN q :=
  (c11 A (some ⟨w.heap.size, 0, none⟩) 2 d 2 2 (bt 258) f21 _ (by omega) (by omega) (hA.below ((Below.refl _ _).alloc (Nat.le_refl _) _)) (build21 w)).mono fun e w' ⟨x, h1, h2, h3⟩ => by
    have hx : x = true := h2.2 ⟨rfl, fun j hj => by
      have : j = 0 ∨ j = 1 := by omega
      rcases this with rfl | rfl <;> rfl⟩
    rw [hx] at h1
    exact ⟨h1, h3⟩
theorem Made.rd {w w' : World} {A : Option Addr} {n c : Nat} {f : Nat → Nat} (h : 0 < n → ∃ b, A = some ⟨b, 0, none⟩ ∧ w.heap.size ≤ b ∧ b < w'.heap.size ∧ ∀ j, j < n → w'.cell? ⟨b, j, none⟩ = some (.int .u8 (f j : Int))) : Rd w' A n f := fun h0 => by
  obtain ⟨b, e, _, h2, h3⟩ := h h0
  exact ⟨b, 0, e, h2, fun j hj => by rw [Nat.zero_add]; exact h3 j hj⟩
theorem below_drewN {B : Nat} {a w : World} (h : Below B a w) (n : Nat) : Below B a (w.drewN n) := ⟨h.os, h.tape, h.output, h.size, h.block⟩
end Go.Proofs.Ytleabbhoedddlaa.Pt
