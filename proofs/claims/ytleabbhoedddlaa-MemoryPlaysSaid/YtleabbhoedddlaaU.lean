import Derived.Test.YtleabbhoedddlaaS
import Derived.Test.YtleabbhoedddlaaT
namespace Go.Proofs.Ytleabbhoedddlaa
open Go.ChangeShapes Go.WideShapes Go.ChangeAt Go.RowKit
set_option linter.unusedVariables false
/-- may so many bytes from there on be asked for? -/
def spanB (a n : Int) : Bool := decide (0 ≤ a ∧ 0 ≤ n ∧ a ≤ 65536 ∧ n ≤ 65536 - a)
/-- how many granules that they touch have a tag -/
def tagsN (T : Nat → Bool) (a n : Nat) : Nat := if n = 0 then 0 else cntT T (a / 8) ((a + n - 1) / 8 + 1 - a / 8)
theorem mTags (b a n : Nat) (B : Nat → Nat) (T : Nat → Bool) (w : World) (hm : Mem w b B T) (h : a + n ≤ 65536) :
    Calls Try.prog 15 #[.pointer (some ⟨b, 0, none⟩), .int .i64 (a : Int), .int .i64 (n : Int)] w fun e w' => e = .returned (.tuple #[.int .i64 (tagsN T a n : Int), .int .i64 0]) ∧ w = w' := by
  obtain ⟨C, hb, r⟩ := hm
  unfold tagsN
  by_cases h0 : n = 0
  · subst h0
    rw [if_pos rfl]
    have KT := Lib.hid (Mem.me hb r).there
    have d1 : decide ((a : Int) < 0) = false := by simp
    have d3 : decide ((65536 : Int) < (a : Int)) = false := by simp; omega
    obtain ⟨ra, hra⟩ : ∃ ra : Nat, (65536 : Int) - (a : Int) = (ra : Int) := ⟨65536 - a, by omega⟩
    have bl : a ≤ 65536 := by omega
    have d4 : decide ((ra : Int) < 0) = false := by simp
    clear hb r h
    go_enter Try.func15, Try.ntmps15
    go_wp2_with fail
    refine KT.out.mono ?_
    rintro _ _ ⟨rfl, rfl⟩
    go_wp2_with fail
    go_ret2
    exact ⟨rfl, rfl⟩
  · rw [if_neg h0]
    exact tagsG b (a / 8) ((a + n - 1) / 8 + 1) _ a n (a + n) (a + n - 1) ((a + n - 1) / 8) (65536 - a) T C w (Mem.me hb r) r.tags (by omega) (by omega) (by omega) (by omega) (by omega) (by omega) (by omega) (by omega) (by omega) rfl (by omega) (by omega) (by omega)
theorem mTagsNo (b : Nat) (a n : Int) (B : Nat → Nat) (T : Nat → Bool) (w : World) (hm : Mem w b B T) (ha : -9223372036854775808 ≤ a) (ha2 : a ≤ 9223372036854775807) (hn : -9223372036854775808 ≤ n) (hn2 : n ≤ 9223372036854775807) (h : spanB a n = false) :
    Calls Try.prog 15 #[.pointer (some ⟨b, 0, none⟩), .int .i64 a, .int .i64 n] w fun e w' => e = .returned (.tuple #[.int .i64 0, .int .i64 2]) ∧ w = w' := by
  obtain ⟨C, hb, r⟩ := hm
  have KT := Lib.hid (Mem.me hb r).there
  unfold spanB at h
  rw [decide_eq_false_iff_not] at h
  clear hb r
  by_cases c1 : a < 0
  · have d1 : decide (a < 0) = true := by simpa using c1
    clear c1 h
    go_enter Try.func15, Try.ntmps15
    go_wp2_with fail
    refine KT.out.mono ?_
    rintro _ _ ⟨rfl, rfl⟩
    go_wp2_with fail
    go_ret2
    exact ⟨rfl, rfl⟩
  have d1 : decide (a < 0) = false := by simpa using c1
  by_cases c2 : n < 0
  · have d2 : decide (n < 0) = true := by simpa using c2
    clear c1 c2 h
    go_enter Try.func15, Try.ntmps15
    go_wp2_with fail
    refine KT.out.mono ?_
    rintro _ _ ⟨rfl, rfl⟩
    go_wp2_with fail
    go_ret2
    exact ⟨rfl, rfl⟩
  have d2 : decide (n < 0) = false := by simpa using c2
  by_cases c3 : 65536 < a
  · have d3 : decide (65536 < a) = true := by simpa using c3
    clear c1 c2 c3 h
    go_enter Try.func15, Try.ntmps15
    go_wp2_with fail
    refine KT.out.mono ?_
    rintro _ _ ⟨rfl, rfl⟩
    go_wp2_with fail
    go_ret2
    exact ⟨rfl, rfl⟩
  have d3 : decide (65536 < a) = false := by simpa using c3
  obtain ⟨ra, hra⟩ : ∃ ra : Nat, (65536 : Int) - a = (ra : Int) := ⟨(65536 - a).toNat, by omega⟩
  have c4 : (ra : Int) < n := by omega
  have d4 : decide ((ra : Int) < n) = true := by simpa using c4
  have bl : 0 ≤ a := by omega
  have bu : a ≤ 65536 := by omega
  clear c1 c2 c3 c4 h
  go_enter Try.func15, Try.ntmps15
  go_wp2_with fail
  refine KT.out.mono ?_
  rintro _ _ ⟨rfl, rfl⟩
  go_wp2_with fail
  go_ret2
  exact ⟨rfl, rfl⟩
end Go.Proofs.Ytleabbhoedddlaa
