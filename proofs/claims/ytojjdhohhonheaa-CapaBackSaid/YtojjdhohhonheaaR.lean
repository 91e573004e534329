import Derived.Test.YtojjdhohhonheaaQ
namespace Go.Proofs.Ytojjdhohhonheaa
open Go.ChangeShapes Go.WideShapes Go.ChangeAt Go.RowKit
set_option linter.unusedVariables false
theorem pself : ∀ p, p < 256 → p &&& (255 - p) = 0 := by decide +kernel
theorem pmask : ∀ p, p < 256 → ∀ q, q < 256 → (p &&& (255 - q) = 0 ↔ p &&& q = p) := by decide +kernel
theorem tp_lt (e b t a : Nat) (ha : a < 4294967296) : tp e b t a < 8589934592 := by
  unfold tp
  have hA := bs_lt (e % 16) (b % 512) a (by omega) (by omega) ha
  have hL := ln_le (e % 16) (b % 512) (t % 512) (by omega)
  omega
def subs (g1 : Bool) (a1 p1 e1 b1 t1 : Nat) (g2 : Bool) (a2 p2 e2 b2 t2 : Nat) : Bool := sub g1 p1 (bs (e1 % 16) (b1 % 512) a1) (tp e1 b1 t1 a1) g2 p2 (bs (e2 % 16) (b2 % 512) a2) (tp e2 b2 t2 a2)
theorem subs_self (g : Bool) (a p e b t : Nat) (hp : p < 256) : subs g a p e b t g a p e b t = true := by
  unfold subs sub
  rw [pself p hp]
  simp
theorem c34 (g1 : Bool) (a1 p1 y1 e1 b1 t1 : Nat) (g2 : Bool) (a2 p2 y2 e2 b2 t2 : Nat) (ha1 : a1 < 4294967296) (hp1 : p1 < 256) (he1 : e1 < 256) (hb1 : b1 < 65536) (ht1 : t1 < 65536) (ha2 : a2 < 4294967296) (hp2 : p2 < 256) (he2 : e2 < 256) (hb2 : b2 < 65536) (ht2 : t2 < 65536) (w : World) :
    Calls Try.prog 34 #[cp g1 a1 p1 y1 e1 b1 t1, cp g2 a2 p2 y2 e2 b2 t2] w fun en w' => en = .returned (.bool (subs g1 a1 p1 e1 b1 t1 g2 a2 p2 e2 b2 t2)) ∧ Below w.heap.size w w' := by
  by_cases hne : g1 = g2 ∧ a1 = a2 ∧ p1 = p2 ∧ y1 = y2 ∧ e1 = e2 ∧ b1 = b2 ∧ t1 = t2
  · obtain ⟨rfl, rfl, rfl, rfl, rfl, rfl, rfl⟩ := hne
    rw [subs_self _ _ _ _ _ _ hp1]
    go_enter Try.func34, Try.ntmps34
    go_wp2
    go_ret
    exact ⟨rfl, ((Below.refl _ _).alloc (Nat.le_refl _) _).alloc (by simp) _⟩
  · exact subNe g1 a1 p1 y1 e1 b1 t1 g2 a2 p2 y2 e2 b2 t2 _ _ _ _ hp1 hp2 (bs_lt _ _ _ (by omega) (by omega) ha1) (bs_lt _ _ _ (by omega) (by omega) ha2) (tp_lt _ _ _ _ ha1) (tp_lt _ _ _ _ ha2)
      (fun w => c38 g1 a1 p1 y1 e1 b1 t1 ha1 he1 hb1 ht1 w) (fun w => c38 g2 a2 p2 y2 e2 b2 t2 ha2 he2 hb2 ht2 w) (fun w => c40 g1 a1 p1 y1 e1 b1 t1 ha1 he1 hb1 ht1 w) (fun w => c40 g2 a2 p2 y2 e2 b2 t2 ha2 he2 hb2 ht2 w) hne w
theorem same42 (w : World) : Calls Try.prog 42 #[.slice none 0 0, .slice none 0 0] w fun en w' => en = .returned (.bool true) ∧ w = w' := by
  go_enter Try.func42, Try.ntmps42
  go_wp2
  refine wp_loop_rounds 1 ?_
  rw [rounds_succ]
  go_wp2
  go_ret
  exact ⟨rfl, rfl⟩
end Go.Proofs.Ytojjdhohhonheaa
