import Derived.Test.YtjcoidpajcichaaE
namespace Go.Proofs.Ytjcoidpajcichaa
open Go.ChangeShapes Go.WideShapes Go.ChangeAt Go.RowKit
set_option linter.unusedVariables false
/-- The same bytes are the same. -/
theorem s11 (A B : Option Addr) (n c d : Nat) (f g : Nat → Nat) (w : World) (hn : n ≤ 9223372036854775807) (hA : Rd w A n f) (hB : Rd w B n g) (hfg : alike n f g) :
    Calls Try.prog 11 #[.slice A n c, .slice B n d] w fun e w' => e = .returned (.bool true) ∧ Below w.heap.size w w' :=
  (c11 A B n c n d f g w hn hn hA hB).mono fun e w' ⟨x, h1, h2, q, h3⟩ => by
    have hx : x = true := h2.2 ⟨rfl, hfg⟩
    rw [hx] at h1
    exact ⟨h1, by rw [h3]; exact below_drewN (Below.refl _ _) q⟩
theorem s11n (w : World) : Calls Try.prog 11 #[.slice none 0 0, .slice none 0 0] w fun e w' => e = .returned (.bool true) ∧ Below w.heap.size w w' :=
  s11 none none 0 0 0 (fun _ => 0) (fun _ => 0) w (by omega) (fun h => absurd h (by omega)) (fun h => absurd h (by omega)) (fun _ _ => rfl)
theorem sz_of {s : Int} (h : isSz s = true) : ∃ k : Nat, s = (k : Int) ∧ (k = 1 ∨ k = 2 ∨ k = 4 ∨ k = 8) := by
  unfold isSz at h
  simp only [decide_eq_true_eq] at h
  rcases h with rfl | rfl | rfl | rfl
  · exact ⟨1, rfl, by simp⟩
  · exact ⟨2, rfl, by simp⟩
  · exact ⟨4, rfl, by simp⟩
  · exact ⟨8, rfl, by simp⟩
theorem walk3e (n : Nat) (s : Int) (w : World) (K9 : ∀ w : World, Calls Try.prog 9 #[.int .u64 (n : Int), .int .i64 s] w fun e w' => e = .returned (.tuple #[.slice none 0 0, .int .i64 2]) ∧ w = w')
    (K10 : ∀ w : World, Calls Try.prog 10 #[.int .u64 (n : Int), .int .i64 s] w fun e w' => e = .returned (.tuple #[.slice none 0 0, .int .i64 2]) ∧ Below w.heap.size w w') :
    Calls Try.prog 3 #[.int .u64 (n : Int), .int .i64 s] w fun e w' => e = .returned (.bool true) ∧ Below w.heap.size w w' := by
  go_enter Try.func3, Try.ntmps3
  go_wp2_with fail
  refine (K9 _).mono ?_
  rintro _ _ ⟨rfl, rfl⟩
  go_wp2_with fail
  refine (K10 _).mono ?_
  rintro _ w1 ⟨rfl, hb1⟩
  have HB1 := Lib.hid hb1
  clear hb1
  go_wp2_with fail
  refine (s11n _).mono ?_
  rintro _ w2 ⟨rfl, hb2⟩
  have HB2 := Lib.hid (HB1.out.trans (hb2.mono HB1.out.size))
  clear hb2
  go_wp2_with fail
  refine (lives _).mono ?_
  rintro _ w3 ⟨rfl, hb3⟩
  have HB3 := Lib.hid (HB2.out.trans (hb3.mono HB2.out.size))
  clear hb3
  go_wp2_with fail
  go_ret
  exact ⟨rfl, HB3.out⟩
theorem walk3 (n s : Nat) (hs : s ≤ 8) (w : World) (K9 : ∀ w : World, Calls Try.prog 9 #[.int .u64 (n : Int), .int .i64 (s : Int)] w (PutOut w n s)) (K10 : ∀ w : World, Calls Try.prog 10 #[.int .u64 (n : Int), .int .i64 (s : Int)] w (PutOut w n s)) :
    Calls Try.prog 3 #[.int .u64 (n : Int), .int .i64 (s : Int)] w fun e w' => e = .returned (.bool true) ∧ Below w.heap.size w w' := by
  go_enter Try.func3, Try.ntmps3
  go_wp2_with fail
  refine (K9 _).mono ?_
  rintro _ w0 ⟨v0, rfl, hb0, A0, c0, rfl, hR0⟩
  have HB0 := Lib.hid hb0
  have HR0 := Lib.hid (Made.rd (c := 0) hR0)
  clear hb0 hR0
  go_wp2_with fail
  refine (K10 _).mono ?_
  rintro _ w1 ⟨v1, rfl, hb1, A1, c1, rfl, hR1⟩
  have HB1 := Lib.hid (HB0.out.trans (hb1.mono HB0.out.size))
  have HR1 := Lib.hid (Made.rd (c := 0) hR1)
  have HR0' := Lib.hid (HR0.out.below hb1)
  clear hb1 HR0 hR1
  go_wp2_with fail
  refine (s11 A0 A1 s c0 c1 (bt n) (bt n) _ (by omega) HR0'.out HR1.out (fun _ _ => rfl)).mono ?_
  rintro _ w2 ⟨rfl, hb2⟩
  have HB2 := Lib.hid (HB1.out.trans (hb2.mono HB1.out.size))
  clear hb2
  go_wp2_with fail
  refine (lives _).mono ?_
  rintro _ w3 ⟨rfl, hb3⟩
  have HB3 := Lib.hid (HB2.out.trans (hb3.mono HB2.out.size))
  clear hb3
  go_wp2_with fail
  go_ret
  exact ⟨rfl, HB3.out⟩
theorem law3 (n : Nat) (s : Int) (hn : n < 18446744073709551616) (hs : -9223372036854775808 ≤ s ∧ s ≤ 9223372036854775807) (w : World) :
    Calls Try.prog 3 #[.int .u64 (n : Int), .int .i64 s] w fun e w' => e = .returned (.bool true) ∧ Below w.heap.size w w' := by
  cases h : isSz s with
  | false => exact walk3e n s w (fun w => c9x n s h w) (fun w => (c10x n s h w).mono fun e w' hh => ⟨hh.1, by rw [← hh.2]; exact Below.refl _ _⟩)
  | true =>
    obtain ⟨k, rfl, hk⟩ := sz_of h
    by_cases hf : n < 256 ^ k
    · exact walk3 n k (by omega) w (fun w => c9 n k hn hk hf w) (fun w => (c10 n k hn hk w).mono fun e w' hh => hh.1 hf)
    · exact walk3e n k w (fun w => c9y n k hn hk hf w) (fun w => (c10 n k hn hk w).mono fun e w' hh => hh.2 hf)
end Go.Proofs.Ytjcoidpajcichaa
