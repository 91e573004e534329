import Derived.Test.YtbclgkjljgcfbaaKU
namespace Go.Proofs.Ytbclgkjljgcfbaa.Cp
open Go.ChangeShapes Go.WideShapes Go.ChangeAt Go.RowKit
set_option linter.unusedVariables false
set_option maxHeartbeats 2000000 in
theorem c41 (g : Bool) (a p y e b t : Nat) (ha : a < 4294967296) (he : e < 256) (hb : b < 65536) (ht : t < 65536) (w : World) :
    Calls Try.prog 24 #[cp g a p y e b t] w fun en w' => en = .returned (.int .u64 ((bs (e % 16) (b % 512) a + ln (e % 16) (b % 512) (t % 512) : Nat) : Int)) ∧ Below w.heap.size w w' := by
  have hA := bs_lt (e % 16) (b % 512) a (by omega) (by omega) ha
  have hL := ln_le (e % 16) (b % 512) (t % 512) (by omega)
  have k1 := c10 e b t a he hb ht ha
  have k2 := c12 e b t he hb ht
  generalize bs (e % 16) (b % 512) a = A at *
  generalize ln (e % 16) (b % 512) (t % 512) = L at *
  have K1 := Lib.hid k1
  have K2 := Lib.hid k2
  clear k1 k2
  have hS := start7 w (.bool g) (.int .u32 (a : Int)) (.int .u8 (p : Int)) (.int .u8 (y : Int)) (.int .u8 (e : Int)) (.int .u16 (b : Int)) (.int .u16 (t : Int)) 34
  have HS := Lib.hid hS
  clear hS
  go_enter Try.func24, Try.ntmps24
  go_wp2_with fail
  have hS := HS.out
  go_region_held3 (fun w' => Below w.heap.size w w' ∧ w.heap.size < w'.heap.size ∧ w'.cell? ⟨w.heap.size, 0, none⟩ = some (.bool g) ∧ w'.cell? ⟨w.heap.size, 1, none⟩ = some (.int .u32 (a : Int)) ∧ w'.cell? ⟨w.heap.size, 2, none⟩ = some (.int .u8 (p : Int)) ∧ w'.cell? ⟨w.heap.size, 3, none⟩ = some (.int .u8 (y : Int)) ∧ w'.cell? ⟨w.heap.size, 4, none⟩ = some (.int .u8 (e : Int)) ∧ w'.cell? ⟨w.heap.size, 5, none⟩ = some (.int .u16 (b : Int)) ∧ w'.cell? ⟨w.heap.size, 6, none⟩ = some (.int .u16 (t : Int)))
    (first | exact keep7 (by assumption) ((Below.refl _ _).drew) | exact keep7 (by assumption) hbx)
    (first | (go_at_call 33; (with_reducible refine (K1.out _).mono ?_); rintro _ wx ⟨rfl, hbx⟩) | (go_at_call 34; (with_reducible refine (K2.out _).mono ?_); rintro _ wx ⟨rfl, hbx⟩))
  all_goals
    have hE : Below w.heap.size w wx := And.left (by assumption)
    go_wp2
    go_ret
    exact ⟨ret1 (by first | rfl | omega | (rw [IntKind.wrap_u64]; omega)), hE⟩

set_option maxHeartbeats 2000000 in
theorem c33 (b t m : Nat) (hb : b < 18446744073709551616) (ht : t < 18446744073709551616) (hm : m < 256) (w : World) :
    Calls Try.prog 21 #[.int .u64 (b : Int), .int .u64 (t : Int), .int .u8 (m : Int)] w fun en w' => en = .returned (rootV b t m) ∧ Below w.heap.size w w' := by
  have k1 := c19 b t hb ht
  unfold exV at k1
  unfold rootV
  rcases ex_err b t with ⟨h0, h1, h2, h3, h4, h5⟩ | ⟨h1, h2, h3, h4⟩
  · rw [if_pos h0]
    rw [h0] at k1
    generalize (ex b t).1 = E at *
    generalize (ex b t).2.1 = B at *
    generalize (ex b t).2.2.1 = T at *
    have rb : (b : Int) % 4294967296 = (b : Int) := by omega
    have RB := Lib.hid rb
    have K1 := Lib.hid k1
    clear k1 h0 rb
    go_enter Try.func21, Try.ntmps21
    go_wp2_with fail
    refine (K1.out _).mono ?_
    rintro en w1 ⟨rfl, hb1⟩
    obtain ⟨hc, hf⟩ := bcell hb1
    have hz : w.heap.size < w1.heap.size := by have := hb1.size; simp at this; omega
    have hB : Below w.heap.size w w1 := ((Below.refl _ _).alloc (Nat.le_refl _) _).trans (hb1.mono (by simp))
    clear hb1
    go_wp2_with fail
    exact bodyPost_ret (v := .tuple #[cp true b m 0 E B T, .int .i64 0]) (by simp [results, Try.results21, go_sem, cellAlloc, hz, hc]) rfl ⟨rfl, set7a hB (by omega) _ _ _ _ _ _ _ _⟩
  · rw [if_neg (by omega)]
    rw [h1, h2, h3] at k1
    have h5 : (ex b t).2.2.2 ≠ 0 := by omega
    generalize (ex b t).2.2.2 = R at *
    have h6 : ((R : Int) != 0) = true := by simp; omega
    have K1 := Lib.hid k1
    clear k1 h1 h2 h3
    go_enter Try.func21, Try.ntmps21
    go_wp2_with fail
    refine (K1.out _).mono ?_
    rintro en w1 ⟨rfl, hb1⟩
    obtain ⟨hc, hf⟩ := bcell hb1
    have hz : w.heap.size < w1.heap.size := by have := hb1.size; simp at this; omega
    have hB : Below w.heap.size w w1 := ((Below.refl _ _).alloc (Nat.le_refl _) _).trans (hb1.mono (by simp))
    clear hb1
    go_wp2_with fail
    exact bodyPost_ret (v := .tuple #[cp false 0 0 0 0 0 0, .int .i64 (R : Int)]) (by simp [results, Try.results21, go_sem, cellAlloc, hz, hc]) rfl ⟨rfl, set7a hB (by omega) _ _ _ _ _ _ _ _⟩
end Go.Proofs.Ytbclgkjljgcfbaa.Cp
