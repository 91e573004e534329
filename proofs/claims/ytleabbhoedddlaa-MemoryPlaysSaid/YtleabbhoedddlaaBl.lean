import Derived.Test.YtleabbhoedddlaaBh
import Derived.StillTailTactics
namespace Go.Proofs.Ytleabbhoedddlaa
open Go.ChangeShapes Go.WideShapes Go.ChangeAt Go.RowKit
set_option linter.unusedVariables false
open Pt (rowL rowL_len rowL_one PartOut info5)
theorem own_nil (w : World) : w.ownsRow w.heap.size 5 1 (.slice none 0 0) 0 [] := ⟨rfl, .inl ⟨rfl, rfl⟩⟩
set_option maxRecDepth 100000 in
set_option maxHeartbeats 4000000 in
theorem rBytes (r x y c2 a n : Nat) (B : Nat → Nat) (T : Nat → Bool) (w : World) (hm : RM w r x y 65536 c2 B T) (h : a + n ≤ 65536) :
    Calls Try.prog 24 #[.pointer (some ⟨r, 0, none⟩), .int .i64 (a : Int), .int .i64 (n : Int)] w (PartOut w n (fun j => B (a + j))) := by
  obtain ⟨g, hg⟩ : ∃ g, g = fun j => B (a + j) := ⟨_, rfl⟩
  rw [← hg]
  have p0 := hm.box.cell 0
  simp only [List.getElem?_toArray, List.getElem?_cons_zero] at p0
  have HR : Hid (Pt.Rd w (some ⟨x, a, none⟩) n g) := Lib.hid (by
    rw [hg]
    intro h0
    exact ⟨x, a, rfl, hm.by_.lt, fun j hj => (hm.by_.cell (a + j) (by omega)).1⟩)
  have hown := own_nil w
  obtain ⟨i0, hi, hz0, hz1, hz2⟩ := info_parts info5
  obtain ⟨q, hq⟩ : ∃ q : Nat, a + n = q := ⟨_, rfl⟩
  have hqi : (a : Int) + (n : Int) = (q : Int) := by omega
  have b1 : decide ((65536 : Int) < (a : Int)) = false := by simp; omega
  have b2 : decide ((65536 : Int) - (a : Int) < (n : Int)) = false := by simp; omega
  have ba : a ≤ q := by omega
  have bq : q ≤ 65536 := by omega
  have HQ := Lib.hid hq
  have HN : Hid (n ≤ 65536) := Lib.hid (by omega)
  have b3 : decide ((a : Int) < 0) = false := by simp
  have b4 : decide ((n : Int) < 0) = false := by simp
  have hsub : q - a = n := by omega
  clear hg hm h hq
  have HNW := Lib.hid HR.out.news
  by_cases hn : n = 0
  · subst hn
    have hqa : q = a := by omega
    subst hqa
    clear HR HQ HNW hsub hqi
    go_enter Try.func24, Try.ntmps24
    have hlc : ∀ (p : Addr) (W : World), (loadCellsFrom p 0 0 #[]).run Try.prog W = .ok #[] W := fun p W => rfl
    go_wp2
    all_goals
      go_ret2
      exact ⟨_, rfl, Below.refl _ _, own_nil _⟩
  · have hne : ¬ 65536 - a = 0 := by omega
    have hnz : ((n : Int) == 0) = false := by simp; omega
    clear HR HQ
    go_enter Try.func24, Try.ntmps24
    go_wp2_with (at_builtin; refine wpList_append_own _ rfl (.tmp 27) (.tmp 36) 44 rfl w.heap.size 5 i0 (.int .u8 0) 1 1 Try.underlying44 hi hz0 hz1 hz2 rfl (by decide) _ 0 [] rfl hown ⟨x, a, none⟩ n (65536 - a) (rowL g n) rfl (by rw [rowL_len]; omega) HNW.out (rowL_one g n) (by unfold maxLen; have := HN.out; omega) (by have := HN.out; omega) (Nat.le_refl _) ?_; intro v2 w2 hown2 hg2 _)
    go_ret2
    refine ⟨_, rfl, (Below.refl _ _).grown hg2 (Nat.le_refl _) (fun k hk => by cases hk), by simpa using hown2⟩
theorem rBytesNo (r : Nat) (a n : Int) (w : World) (ha : -9223372036854775808 ≤ a) (ha2 : a ≤ 9223372036854775807) (hn : -9223372036854775808 ≤ n) (hn2 : n ≤ 9223372036854775807) (h : spanB a n = false) :
    Calls Try.prog 24 #[.pointer (some ⟨r, 0, none⟩), .int .i64 a, .int .i64 n] w fun e w' => e = .returned (.tuple #[.slice none 0 0, .int .i64 2]) ∧ w = w' := by
  unfold spanB at h
  rw [decide_eq_false_iff_not] at h
  by_cases h1 : a < 0
  · have b1 : decide (a < 0) = true := by simpa using h1
    clear h h1
    go_enter Try.func24, Try.ntmps24
    go_wp2_with fail
    go_ret2
    exact ⟨rfl, rfl⟩
  by_cases h2 : n < 0
  · have b1 : decide (a < 0) = false := by simpa using h1
    have b2 : decide (n < 0) = true := by simpa using h2
    clear h h1 h2
    go_enter Try.func24, Try.ntmps24
    go_wp2_with fail
    go_ret2
    exact ⟨rfl, rfl⟩
  by_cases h3 : 65536 < a
  · have b1 : decide (a < 0) = false := by simpa using h1
    have b2 : decide (n < 0) = false := by simpa using h2
    have b3 : decide (65536 < a) = true := by simpa using h3
    clear h h1 h2 h3
    go_enter Try.func24, Try.ntmps24
    go_wp2_with fail
    go_ret2
    exact ⟨rfl, rfl⟩
  · have b1 : decide (a < 0) = false := by simpa using h1
    have b2 : decide (n < 0) = false := by simpa using h2
    have b3 : decide (65536 < a) = false := by simpa using h3
    have b4 : decide (65536 - a < n) = true := by simp; omega
    have c1 : 0 ≤ a := by omega
    have c2 : a ≤ 65536 := by omega
    clear h h1 h2 h3
    go_enter Try.func24, Try.ntmps24
    go_wp2_with fail
    go_ret2
    exact ⟨rfl, rfl⟩
theorem rTagsNo (r : Nat) (a n : Int) (w : World) (ha : -9223372036854775808 ≤ a) (ha2 : a ≤ 9223372036854775807) (hn : -9223372036854775808 ≤ n) (hn2 : n ≤ 9223372036854775807) (h : spanB a n = false) :
    Calls Try.prog 25 #[.pointer (some ⟨r, 0, none⟩), .int .i64 a, .int .i64 n] w fun e w' => e = .returned (.tuple #[.int .i64 0, .int .i64 2]) ∧ w = w' := by
  unfold spanB at h
  rw [decide_eq_false_iff_not] at h
  by_cases h1 : a < 0
  · have b1 : decide (a < 0) = true := by simpa using h1
    clear h h1
    go_enter Try.func25, Try.ntmps25
    go_wp2_with fail
    go_ret2
    exact ⟨rfl, rfl⟩
  by_cases h2 : n < 0
  · have b1 : decide (a < 0) = false := by simpa using h1
    have b2 : decide (n < 0) = true := by simpa using h2
    clear h h1 h2
    go_enter Try.func25, Try.ntmps25
    go_wp2_with fail
    go_ret2
    exact ⟨rfl, rfl⟩
  by_cases h3 : 65536 < a
  · have b1 : decide (a < 0) = false := by simpa using h1
    have b2 : decide (n < 0) = false := by simpa using h2
    have b3 : decide (65536 < a) = true := by simpa using h3
    clear h h1 h2 h3
    go_enter Try.func25, Try.ntmps25
    go_wp2_with fail
    go_ret2
    exact ⟨rfl, rfl⟩
  · have b1 : decide (a < 0) = false := by simpa using h1
    have b2 : decide (n < 0) = false := by simpa using h2
    have b3 : decide (65536 < a) = false := by simpa using h3
    have b4 : decide (65536 - a < n) = true := by simp; omega
    have c1 : 0 ≤ a := by omega
    have c2 : a ≤ 65536 := by omega
    clear h h1 h2 h3
    go_enter Try.func25, Try.ntmps25
    go_wp2_with fail
    go_ret2
    exact ⟨rfl, rfl⟩
theorem rLoadCapNo (r at_ : Nat) (w : World) (hat : at_ < 4294967296) (hw : granB at_ = false) :
    Calls Try.prog 27 #[.pointer (some ⟨r, 0, none⟩), .int .u32 (at_ : Int)] w fun e w' => e = .returned (.tuple #[.agg #[.bool false, .int .u32 0, .int .u8 0, .int .u8 0, .int .u8 0, .int .u16 0, .int .u16 0], .int .i64 2]) ∧ Below w.heap.size w w' := by
  unfold granB at hw
  by_cases h8 : at_ % 8 = 0
  · have h1 : ((at_ : Int) % 8 != 0) = false := by simp; omega
    have h2 : decide ((65536 : Int) ≤ (at_ : Int)) = true := by simp [h8] at hw; simp; omega
    clear hw h8
    go_enter Try.func27, Try.ntmps27
    go_wp2_with fail
    exact bodyPost_ret (v := .tuple #[.agg #[.bool false, .int .u32 0, .int .u8 0, .int .u8 0, .int .u8 0, .int .u16 0, .int .u16 0], .int .i64 2]) (by simp [results, Try.results27, go_sem]) rfl ⟨rfl, (Below.refl _ _).alloc (Nat.le_refl _) _⟩
  · have h1 : ((at_ : Int) % 8 != 0) = true := by simp; omega
    clear hw h8
    go_enter Try.func27, Try.ntmps27
    go_wp2_with fail
    exact bodyPost_ret (v := .tuple #[.agg #[.bool false, .int .u32 0, .int .u8 0, .int .u8 0, .int .u8 0, .int .u16 0, .int .u16 0], .int .i64 2]) (by simp [results, Try.results27, go_sem]) rfl ⟨rfl, (Below.refl _ _).alloc (Nat.le_refl _) _⟩
theorem rStoreCapNo (r at_ : Nat) (v0 v1 v2 v3 v4 v5 v6 : Value) (w : World) (hat : at_ < 4294967296) (hw : granB at_ = false) :
    Calls Try.prog 23 #[.pointer (some ⟨r, 0, none⟩), .int .u32 (at_ : Int), .agg #[v0, v1, v2, v3, v4, v5, v6]] w fun e w' => e = .returned (.int .i64 2) ∧ Below w.heap.size w w' := by
  unfold granB at hw
  by_cases h8 : at_ % 8 = 0
  · have h1 : ((at_ : Int) % 8 != 0) = false := by simp; omega
    have h2 : decide ((65536 : Int) ≤ (at_ : Int)) = true := by simp [h8] at hw; simp; omega
    clear hw h8
    go_enter Try.func23, Try.ntmps23
    go_wp2_with fail
    go_ret
    exact ⟨rfl, (Below.refl _ _).alloc (Nat.le_refl _) _⟩
  · have h1 : ((at_ : Int) % 8 != 0) = true := by simp; omega
    clear hw h8
    go_enter Try.func23, Try.ntmps23
    go_wp2_with fail
    go_ret
    exact ⟨rfl, (Below.refl _ _).alloc (Nat.le_refl _) _⟩
end Go.Proofs.Ytleabbhoedddlaa
