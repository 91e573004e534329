import Derived.Test.YtnkoknfihhdelaaGreatDoorKE
namespace Go.Proofs.YtnkoknfihhdelaaGreatDoor.Ca
open Go.ChangeShapes Go.WideShapes Go.ChangeAt Go.RowKit
set_option linter.unusedVariables false
set_option maxRecDepth 100000
theorem c38 (g : Bool) (a p y e b t : Nat) (ha : a < 4294967296) (he : e < 256) (hb : b < 65536) (ht : t < 65536) (w : World) :
    Calls Tryz.prog 171 #[cp g a p y e b t] w fun en w' => en = .returned (.int .u64 ((bs (e % 16) (b % 512) a : Nat) : Int)) ∧ Below w.heap.size w w' := by
  have k1 := c9 e b t a he hb ht ha
  generalize bs (e % 16) (b % 512) a = A at *
  have K1 := Lib.hid k1
  clear k1
  go_enter Tryz.func171, Tryz.ntmps171
  go_wp2_with fail
  refine (K1.out _).mono ?_
  rintro en w1 ⟨rfl, hb1⟩
  have hB : Below w.heap.size w w1 := ((Below.refl _ _).alloc (Nat.le_refl _) _).trans (hb1.mono (by simp))
  clear hb1
  go_wp2_with fail
  go_ret
  exact ⟨ret1 rfl, hB⟩
theorem keep7 {w0 wp w1 : World} {k : Nat} {v0 v1 v2 v3 v4 v5 v6 : Value} (h : Below w0.heap.size w0 wp ∧ k < wp.heap.size ∧ wp.cell? ⟨k, 0, none⟩ = some v0 ∧ wp.cell? ⟨k, 1, none⟩ = some v1 ∧ wp.cell? ⟨k, 2, none⟩ = some v2 ∧ wp.cell? ⟨k, 3, none⟩ = some v3 ∧ wp.cell? ⟨k, 4, none⟩ = some v4 ∧ wp.cell? ⟨k, 5, none⟩ = some v5 ∧ wp.cell? ⟨k, 6, none⟩ = some v6) (hb : Below wp.heap.size wp w1) :
    Below w0.heap.size w0 w1 ∧ k < w1.heap.size ∧ w1.cell? ⟨k, 0, none⟩ = some v0 ∧ w1.cell? ⟨k, 1, none⟩ = some v1 ∧ w1.cell? ⟨k, 2, none⟩ = some v2 ∧ w1.cell? ⟨k, 3, none⟩ = some v3 ∧ w1.cell? ⟨k, 4, none⟩ = some v4 ∧ w1.cell? ⟨k, 5, none⟩ = some v5 ∧ w1.cell? ⟨k, 6, none⟩ = some v6 := by
  obtain ⟨h1, h2, q0, q1, q2, q3, q4, q5, q6⟩ := h
  have hc : ∀ o, w1.cell? ⟨k, o, none⟩ = wp.cell? ⟨k, o, none⟩ := fun o => hb.cell (p := ⟨k, o, none⟩) h2
  exact ⟨h1.trans (hb.mono h1.size), Nat.lt_of_lt_of_le h2 hb.size, by rw [hc]; exact q0, by rw [hc]; exact q1, by rw [hc]; exact q2, by rw [hc]; exact q3, by rw [hc]; exact q4, by rw [hc]; exact q5, by rw [hc]; exact q6⟩
theorem start7 (w : World) (v0 v1 v2 v3 v4 v5 v6 : Value) (T : TypeId) :
    Below w.heap.size w (w.alloc (.cells #[v0, v1, v2, v3, v4, v5, v6] T)) ∧ w.heap.size < (w.alloc (.cells #[v0, v1, v2, v3, v4, v5, v6] T)).heap.size ∧ (w.alloc (.cells #[v0, v1, v2, v3, v4, v5, v6] T)).cell? ⟨w.heap.size, 0, none⟩ = some v0 ∧ (w.alloc (.cells #[v0, v1, v2, v3, v4, v5, v6] T)).cell? ⟨w.heap.size, 1, none⟩ = some v1 ∧ (w.alloc (.cells #[v0, v1, v2, v3, v4, v5, v6] T)).cell? ⟨w.heap.size, 2, none⟩ = some v2 ∧ (w.alloc (.cells #[v0, v1, v2, v3, v4, v5, v6] T)).cell? ⟨w.heap.size, 3, none⟩ = some v3 ∧ (w.alloc (.cells #[v0, v1, v2, v3, v4, v5, v6] T)).cell? ⟨w.heap.size, 4, none⟩ = some v4 ∧ (w.alloc (.cells #[v0, v1, v2, v3, v4, v5, v6] T)).cell? ⟨w.heap.size, 5, none⟩ = some v5 ∧ (w.alloc (.cells #[v0, v1, v2, v3, v4, v5, v6] T)).cell? ⟨w.heap.size, 6, none⟩ = some v6 := by
  refine ⟨(Below.refl _ _).alloc (Nat.le_refl _) _, by simp, by simp, by simp, by simp, by simp, by simp, by simp, by simp⟩
set_option maxHeartbeats 2000000 in
theorem c40 (g : Bool) (a p y e b t : Nat) (ha : a < 4294967296) (he : e < 256) (hb : b < 65536) (ht : t < 65536) (w : World) :
    Calls Tryz.prog 172 #[cp g a p y e b t] w fun en w' => en = .returned (.int .u64 ((bs (e % 16) (b % 512) a + ln (e % 16) (b % 512) (t % 512) : Nat) : Int)) ∧ Below w.heap.size w w' := by
  have hA := bs_lt (e % 16) (b % 512) a (by omega) (by omega) ha
  have hL := ln_le (e % 16) (b % 512) (t % 512) (by omega)
  have k1 := c38 g a p y e b t ha he hb ht
  have k2 := c11 e b t he hb ht
  generalize bs (e % 16) (b % 512) a = A at *
  generalize ln (e % 16) (b % 512) (t % 512) = L at *
  have K1 := Lib.hid k1
  have K2 := Lib.hid k2
  clear k1 k2
  have hS := start7 w (.bool g) (.int .u32 (a : Int)) (.int .u8 (p : Int)) (.int .u8 (y : Int)) (.int .u8 (e : Int)) (.int .u16 (b : Int)) (.int .u16 (t : Int)) 29
  have HS := Lib.hid hS
  clear hS
  go_enter Tryz.func172, Tryz.ntmps172
  go_wp2_with fail
  have hS := HS.out
  go_region_held3 (fun w' => Below w.heap.size w w' ∧ w.heap.size < w'.heap.size ∧ w'.cell? ⟨w.heap.size, 0, none⟩ = some (.bool g) ∧ w'.cell? ⟨w.heap.size, 1, none⟩ = some (.int .u32 (a : Int)) ∧ w'.cell? ⟨w.heap.size, 2, none⟩ = some (.int .u8 (p : Int)) ∧ w'.cell? ⟨w.heap.size, 3, none⟩ = some (.int .u8 (y : Int)) ∧ w'.cell? ⟨w.heap.size, 4, none⟩ = some (.int .u8 (e : Int)) ∧ w'.cell? ⟨w.heap.size, 5, none⟩ = some (.int .u16 (b : Int)) ∧ w'.cell? ⟨w.heap.size, 6, none⟩ = some (.int .u16 (t : Int)))
    (first | exact keep7 (by assumption) ((Below.refl _ _).drew) | exact keep7 (by assumption) hbx)
    (first | (go_at_call 171; (with_reducible refine (K1.out _).mono ?_); rintro _ wx ⟨rfl, hbx⟩) | (go_at_call 152; (with_reducible refine (K2.out _).mono ?_); rintro _ wx ⟨rfl, hbx⟩))
  all_goals
    have hE : Below w.heap.size w wx := And.left (by assumption)
    go_wp2
    go_ret
    exact ⟨ret1 (by first | rfl | omega | (rw [IntKind.wrap_u64]; omega)), hE⟩

end Go.Proofs.YtnkoknfihhdelaaGreatDoor.Ca
