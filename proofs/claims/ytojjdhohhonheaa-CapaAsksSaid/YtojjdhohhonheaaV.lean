import Derived.Test.YtojjdhohhonheaaU
namespace Go.Proofs.Ytojjdhohhonheaa
open Go.ChangeShapes Go.WideShapes Go.ChangeAt Go.RowKit
set_option linter.unusedVariables false
theorem has55b (c p : Nat) (hc : c < 256) (hp : p < 256) (w : World) :
    Calls Try.prog 55 #[.int .u8 (c : Int), .int .u8 (p : Int)] w fun en w' => en = .returned (.bool (decide (c &&& p = p))) ∧ Below w.heap.size w w' :=
  (has55 c p hc hp w).mono fun _ _ ⟨h1, h2⟩ => ⟨h1, h2 ▸ Below.refl _ _⟩
theorem c39 (g : Bool) (a p y e b t : Nat) (ha : a < 4294967296) (he : e < 256) (hb : b < 65536) (ht : t < 65536) (w : World) :
    Calls Try.prog 39 #[cp g a p y e b t] w fun en w' => en = .returned (.int .u64 ((bs (e % 16) (b % 512) a : Nat) : Int)) ∧ Below w.heap.size w w' := by
  have k1 := c10 e b t a he hb ht ha
  generalize bs (e % 16) (b % 512) a = A at *
  have K1 := Lib.hid k1
  clear k1
  go_enter Try.func39, Try.ntmps39
  go_wp2_with fail
  refine (K1.out _).mono ?_
  rintro en w1 ⟨rfl, hb1⟩
  have hB : Below w.heap.size w w1 := ((Below.refl _ _).alloc (Nat.le_refl _) _).trans (hb1.mono (by simp))
  clear hb1
  go_wp2_with fail
  go_ret
  exact ⟨ret1 rfl, hB⟩
set_option maxHeartbeats 2000000 in
theorem c41 (g : Bool) (a p y e b t : Nat) (ha : a < 4294967296) (he : e < 256) (hb : b < 65536) (ht : t < 65536) (w : World) :
    Calls Try.prog 41 #[cp g a p y e b t] w fun en w' => en = .returned (.int .u64 ((bs (e % 16) (b % 512) a + ln (e % 16) (b % 512) (t % 512) : Nat) : Int)) ∧ Below w.heap.size w w' := by
  have hA := bs_lt (e % 16) (b % 512) a (by omega) (by omega) ha
  have hL := ln_le (e % 16) (b % 512) (t % 512) (by omega)
  have k1 := c10 e b t a he hb ht ha
  have k2 := c12 e b t he hb ht
  generalize bs (e % 16) (b % 512) a = A at *
  generalize ln (e % 16) (b % 512) (t % 512) = L at *
  have K1 := Lib.hid k1
  have K2 := Lib.hid k2
  clear k1 k2
  have hS := start7 w (.bool g) (.int .u32 (a : Int)) (.int .u8 (p : Int)) (.int .u8 (y : Int)) (.int .u8 (e : Int)) (.int .u16 (b : Int)) (.int .u16 (t : Int)) 27
  have HS := Lib.hid hS
  clear hS
  go_enter Try.func41, Try.ntmps41
  go_wp2_with fail
  have hS := HS.out
  go_region_held3 (fun w' => Below w.heap.size w w' ∧ w.heap.size < w'.heap.size ∧ w'.cell? ⟨w.heap.size, 0, none⟩ = some (.bool g) ∧ w'.cell? ⟨w.heap.size, 1, none⟩ = some (.int .u32 (a : Int)) ∧ w'.cell? ⟨w.heap.size, 2, none⟩ = some (.int .u8 (p : Int)) ∧ w'.cell? ⟨w.heap.size, 3, none⟩ = some (.int .u8 (y : Int)) ∧ w'.cell? ⟨w.heap.size, 4, none⟩ = some (.int .u8 (e : Int)) ∧ w'.cell? ⟨w.heap.size, 5, none⟩ = some (.int .u16 (b : Int)) ∧ w'.cell? ⟨w.heap.size, 6, none⟩ = some (.int .u16 (t : Int)))
    (first | exact keep7 (by assumption) ((Below.refl _ _).drew) | exact keep7 (by assumption) hbx)
    (first | (go_at_call 57; (with_reducible refine (K1.out _).mono ?_); rintro _ wx ⟨rfl, hbx⟩) | (go_at_call 59; (with_reducible refine (K2.out _).mono ?_); rintro _ wx ⟨rfl, hbx⟩))
  all_goals
    have hE : Below w.heap.size w wx := And.left (by assumption)
    go_wp2
    go_ret
    exact ⟨ret1 (by first | rfl | omega | (rw [IntKind.wrap_u64]; omega)), hE⟩

set_option maxHeartbeats 2000000 in
theorem c33 (b t m : Nat) (hb : b < 18446744073709551616) (ht : t < 18446744073709551616) (hm : m < 256) (w : World) :
    Calls Try.prog 33 #[.int .u64 (b : Int), .int .u64 (t : Int), .int .u8 (m : Int)] w fun en w' => en = .returned (rootV b t m) ∧ Below w.heap.size w w' := by
  have k1 := c19 b t hb ht
  unfold exV at k1
  unfold rootV
  rcases ex_err b t with ⟨h0, h1, h2, h3, h4, h5⟩ | ⟨h1, h2, h3, h4⟩
  · rw [if_pos h0]
    rw [h0] at k1
    generalize (ex b t).1 = E at *
    generalize (ex b t).2.1 = B at *
    generalize (ex b t).2.2.1 = T at *
    have rb : (b : Int) % 4294967296 = (b : Int) := by omega
    have RB := Lib.hid rb
    have K1 := Lib.hid k1
    clear k1 h0 rb
    go_enter Try.func33, Try.ntmps33
    go_wp2_with fail
    refine (K1.out _).mono ?_
    rintro en w1 ⟨rfl, hb1⟩
    obtain ⟨hc, hf⟩ := bcell hb1
    have hz : w.heap.size < w1.heap.size := by have := hb1.size; simp at this; omega
    have hB : Below w.heap.size w w1 := ((Below.refl _ _).alloc (Nat.le_refl _) _).trans (hb1.mono (by simp))
    clear hb1
    go_wp2_with fail
    exact bodyPost_ret (v := .tuple #[cp true b m 0 E B T, .int .i64 0]) (by simp [results, Try.results33, go_sem, cellAlloc, hz, hc]) rfl ⟨rfl, set7a hB (by omega) _ _ _ _ _ _ _ _⟩
  · rw [if_neg (by omega)]
    rw [h1, h2, h3] at k1
    have h5 : (ex b t).2.2.2 ≠ 0 := by omega
    generalize (ex b t).2.2.2 = R at *
    have h6 : ((R : Int) != 0) = true := by simp; omega
    have K1 := Lib.hid k1
    clear k1 h1 h2 h3
    go_enter Try.func33, Try.ntmps33
    go_wp2_with fail
    refine (K1.out _).mono ?_
    rintro en w1 ⟨rfl, hb1⟩
    obtain ⟨hc, hf⟩ := bcell hb1
    have hz : w.heap.size < w1.heap.size := by have := hb1.size; simp at this; omega
    have hB : Below w.heap.size w w1 := ((Below.refl _ _).alloc (Nat.le_refl _) _).trans (hb1.mono (by simp))
    clear hb1
    go_wp2_with fail
    exact bodyPost_ret (v := .tuple #[cp false 0 0 0 0 0 0, .int .i64 (R : Int)]) (by simp [results, Try.results33, go_sem, cellAlloc, hz, hc]) rfl ⟨rfl, set7a hB (by omega) _ _ _ _ _ _ _ _⟩
set_option maxHeartbeats 1000000 in
theorem c37 (g : Bool) (a p y e b t q x n : Nat) (ha : a < 4294967296) (hp : p < 256) (hy : y < 256) (he : e < 256) (hb : b < 65536) (ht : t < 65536) (hq : q < 256) (hx : x < 18446744073709551616) (hn : n < 18446744073709551616) (w : World) :
    Calls Try.prog 37 #[cp g a p y e b t, .int .u8 (q : Int), .int .u64 (x : Int), .int .u64 (n : Int)] w fun en w' => en = .returned (.bool (may g a p y e b t q x n)) ∧ Below w.heap.size w w' := by
  unfold may
  have k1 := has55b p q hp hq
  have k2 := c16 e b t a x n he hb ht ha hx hn
  generalize wi (e % 16) (b % 512) (t % 512) a x n = W at *
  generalize decide (p &&& q = q) = m at *
  have K1 := Lib.hid k1
  have K2 := Lib.hid k2
  clear k1 k2
  cases g
  · go_enter Try.func37, Try.ntmps37
    go_wp2_with fail
    go_ret
    exact ⟨rfl, (Below.refl _ _).alloc (Nat.le_refl _) _⟩
  by_cases hy0 : y = 0
  · rw [decide_eq_true hy0]
    have hyb : ((y : Int) == 0) = true := by simp; omega
    clear hy0
    cases m
    · go_enter Try.func37, Try.ntmps37
      go_wp2_with fail
      refine (K1.out _).mono ?_
      rintro en w1 ⟨rfl, hb1⟩
      obtain ⟨hB, hz, q0, q1, q2, q3, q4, q5, q6⟩ := init7 hb1
      clear hb1
      go_wp2_with fail
      go_ret
      exact ⟨rfl, hB⟩
    · go_enter Try.func37, Try.ntmps37
      go_wp2_with fail
      refine (K1.out _).mono ?_
      rintro en w1 ⟨rfl, hb1⟩
      obtain ⟨hB, hz, q0, q1, q2, q3, q4, q5, q6⟩ := init7 hb1
      clear hb1
      go_wp2_with fail
      refine (K2.out _).mono ?_
      rintro en w2 ⟨rfl, hb2⟩
      have hB2 := hB.trans (hb2.mono hB.size)
      clear hb2
      go_wp2_with fail
      go_ret
      exact ⟨rfl, hB2⟩
  · rw [decide_eq_false hy0]
    have hyb : ((y : Int) == 0) = false := by simp; omega
    clear hy0
    go_enter Try.func37, Try.ntmps37
    go_wp2_with fail
    go_ret
    exact ⟨rfl, (Below.refl _ _).alloc (Nat.le_refl _) _⟩
end Go.Proofs.Ytojjdhohhonheaa
