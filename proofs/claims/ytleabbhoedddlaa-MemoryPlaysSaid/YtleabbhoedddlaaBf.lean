import Derived.Test.YtleabbhoedddlaaBe
namespace Go.Proofs.Ytleabbhoedddlaa
open Go.ChangeShapes Go.WideShapes Go.ChangeAt Go.RowKit
set_option linter.unusedVariables false
set_option maxHeartbeats 1000000 in
theorem rStoreBad (r at_ n : Nat) (s : Int) (w : World) (h1 : s ≠ 1) (h2 : s ≠ 2) (h4 : s ≠ 4) :
    Calls Try.prog 22 #[.pointer (some ⟨r, 0, none⟩), .int .u32 (at_ : Int), .int .i64 s, .int .u32 (n : Int)] w fun e w' => e = .returned (.int .i64 2) ∧ w = w' := by
  have t1 : (s != 1) = true := by simp; omega
  have t2 : (s != 2) = true := by simp; omega
  have t4 : (s != 4) = true := by simp; omega
  clear h1 h2 h4
  go_enter Try.func22, Try.ntmps22
  go_wp2_with fail
  go_ret
  exact ⟨rfl, rfl⟩
set_option maxHeartbeats 1000000 in
theorem rLoadBad (r at_ : Nat) (s : Int) (w : World) (h1 : s ≠ 1) (h2 : s ≠ 2) (h4 : s ≠ 4) :
    Calls Try.prog 26 #[.pointer (some ⟨r, 0, none⟩), .int .u32 (at_ : Int), .int .i64 s] w fun e w' => e = .returned (.tuple #[.int .u32 0, .int .i64 2]) ∧ w = w' := by
  have t1 : (s != 1) = true := by simp; omega
  have t2 : (s != 2) = true := by simp; omega
  have t4 : (s != 4) = true := by simp; omega
  clear h1 h2 h4
  go_enter Try.func26, Try.ntmps26
  go_wp2_with fail
  go_ret2
  exact ⟨rfl, rfl⟩
set_option maxHeartbeats 1000000 in
theorem rStoreFar1 (r at_ n : Nat) (w : World) (hat : at_ < 4294967296) (h0 : at_ % 1 = 0) (h : 65536 ≤ at_) :
    Calls Try.prog 22 #[.pointer (some ⟨r, 0, none⟩), .int .u32 (at_ : Int), .int .i64 1, .int .u32 (n : Int)] w fun e w' => e = .returned (.int .i64 2) ∧ w = w' := by
  obtain ⟨q, hq⟩ : ∃ q : Nat, (at_ : Int) + 1 = (q : Int) := ⟨at_ + 1, by omega⟩
  have hq2 : decide ((65536 : Int) < (q : Int)) = true := by simp; omega
  have hr : True := trivial
  clear h h0
  go_enter Try.func22, Try.ntmps22
  go_wp2_with fail
  go_ret
  exact ⟨rfl, rfl⟩
set_option maxHeartbeats 1000000 in
theorem rLoadFar1 (r at_ n : Nat) (w : World) (hat : at_ < 4294967296) (h0 : at_ % 1 = 0) (h : 65536 ≤ at_) :
    Calls Try.prog 26 #[.pointer (some ⟨r, 0, none⟩), .int .u32 (at_ : Int), .int .i64 1] w fun e w' => e = .returned (.tuple #[.int .u32 0, .int .i64 2]) ∧ w = w' := by
  obtain ⟨q, hq⟩ : ∃ q : Nat, (at_ : Int) + 1 = (q : Int) := ⟨at_ + 1, by omega⟩
  have hq2 : decide ((65536 : Int) < (q : Int)) = true := by simp; omega
  have hr : True := trivial
  clear h h0
  go_enter Try.func26, Try.ntmps26
  go_wp2_with fail
  go_ret2
  exact ⟨rfl, rfl⟩
set_option maxHeartbeats 1000000 in
theorem rStoreOdd2 (r at_ n : Nat) (w : World) (hat : at_ < 4294967296) (h : at_ % 2 ≠ 0) :
    Calls Try.prog 22 #[.pointer (some ⟨r, 0, none⟩), .int .u32 (at_ : Int), .int .i64 2, .int .u32 (n : Int)] w fun e w' => e = .returned (.int .i64 2) ∧ w = w' := by
  have t1 : ((at_ : Int) % 2 != 0) = true := by simp; omega
  clear h
  go_enter Try.func22, Try.ntmps22
  go_wp2_with fail
  go_ret
  exact ⟨rfl, rfl⟩
set_option maxHeartbeats 1000000 in
theorem rLoadOdd2 (r at_ n : Nat) (w : World) (hat : at_ < 4294967296) (h : at_ % 2 ≠ 0) :
    Calls Try.prog 26 #[.pointer (some ⟨r, 0, none⟩), .int .u32 (at_ : Int), .int .i64 2] w fun e w' => e = .returned (.tuple #[.int .u32 0, .int .i64 2]) ∧ w = w' := by
  have t1 : ((at_ : Int) % 2 != 0) = true := by simp; omega
  clear h
  go_enter Try.func26, Try.ntmps26
  go_wp2_with fail
  go_ret2
  exact ⟨rfl, rfl⟩
set_option maxHeartbeats 1000000 in
theorem rStoreFar2 (r at_ n : Nat) (w : World) (hat : at_ < 4294967296) (h0 : at_ % 2 = 0) (h : 65536 ≤ at_) :
    Calls Try.prog 22 #[.pointer (some ⟨r, 0, none⟩), .int .u32 (at_ : Int), .int .i64 2, .int .u32 (n : Int)] w fun e w' => e = .returned (.int .i64 2) ∧ w = w' := by
  obtain ⟨q, hq⟩ : ∃ q : Nat, (at_ : Int) + 2 = (q : Int) := ⟨at_ + 2, by omega⟩
  have hq2 : decide ((65536 : Int) < (q : Int)) = true := by simp; omega
  have hr : ((at_ : Int) % 2 != 0) = false := by simp; omega
  clear h h0
  go_enter Try.func22, Try.ntmps22
  go_wp2_with fail
  go_ret
  exact ⟨rfl, rfl⟩
set_option maxHeartbeats 1000000 in
theorem rLoadFar2 (r at_ n : Nat) (w : World) (hat : at_ < 4294967296) (h0 : at_ % 2 = 0) (h : 65536 ≤ at_) :
    Calls Try.prog 26 #[.pointer (some ⟨r, 0, none⟩), .int .u32 (at_ : Int), .int .i64 2] w fun e w' => e = .returned (.tuple #[.int .u32 0, .int .i64 2]) ∧ w = w' := by
  obtain ⟨q, hq⟩ : ∃ q : Nat, (at_ : Int) + 2 = (q : Int) := ⟨at_ + 2, by omega⟩
  have hq2 : decide ((65536 : Int) < (q : Int)) = true := by simp; omega
  have hr : ((at_ : Int) % 2 != 0) = false := by simp; omega
  clear h h0
  go_enter Try.func26, Try.ntmps26
  go_wp2_with fail
  go_ret2
  exact ⟨rfl, rfl⟩
set_option maxHeartbeats 1000000 in
theorem rStoreOdd4 (r at_ n : Nat) (w : World) (hat : at_ < 4294967296) (h : at_ % 4 ≠ 0) :
    Calls Try.prog 22 #[.pointer (some ⟨r, 0, none⟩), .int .u32 (at_ : Int), .int .i64 4, .int .u32 (n : Int)] w fun e w' => e = .returned (.int .i64 2) ∧ w = w' := by
  have t1 : ((at_ : Int) % 4 != 0) = true := by simp; omega
  clear h
  go_enter Try.func22, Try.ntmps22
  go_wp2_with fail
  go_ret
  exact ⟨rfl, rfl⟩
set_option maxHeartbeats 1000000 in
theorem rLoadOdd4 (r at_ n : Nat) (w : World) (hat : at_ < 4294967296) (h : at_ % 4 ≠ 0) :
    Calls Try.prog 26 #[.pointer (some ⟨r, 0, none⟩), .int .u32 (at_ : Int), .int .i64 4] w fun e w' => e = .returned (.tuple #[.int .u32 0, .int .i64 2]) ∧ w = w' := by
  have t1 : ((at_ : Int) % 4 != 0) = true := by simp; omega
  clear h
  go_enter Try.func26, Try.ntmps26
  go_wp2_with fail
  go_ret2
  exact ⟨rfl, rfl⟩
set_option maxHeartbeats 1000000 in
theorem rStoreFar4 (r at_ n : Nat) (w : World) (hat : at_ < 4294967296) (h0 : at_ % 4 = 0) (h : 65536 ≤ at_) :
    Calls Try.prog 22 #[.pointer (some ⟨r, 0, none⟩), .int .u32 (at_ : Int), .int .i64 4, .int .u32 (n : Int)] w fun e w' => e = .returned (.int .i64 2) ∧ w = w' := by
  obtain ⟨q, hq⟩ : ∃ q : Nat, (at_ : Int) + 4 = (q : Int) := ⟨at_ + 4, by omega⟩
  have hq2 : decide ((65536 : Int) < (q : Int)) = true := by simp; omega
  have hr : ((at_ : Int) % 4 != 0) = false := by simp; omega
  clear h h0
  go_enter Try.func22, Try.ntmps22
  go_wp2_with fail
  go_ret
  exact ⟨rfl, rfl⟩
set_option maxHeartbeats 1000000 in
theorem rLoadFar4 (r at_ n : Nat) (w : World) (hat : at_ < 4294967296) (h0 : at_ % 4 = 0) (h : 65536 ≤ at_) :
    Calls Try.prog 26 #[.pointer (some ⟨r, 0, none⟩), .int .u32 (at_ : Int), .int .i64 4] w fun e w' => e = .returned (.tuple #[.int .u32 0, .int .i64 2]) ∧ w = w' := by
  obtain ⟨q, hq⟩ : ∃ q : Nat, (at_ : Int) + 4 = (q : Int) := ⟨at_ + 4, by omega⟩
  have hq2 : decide ((65536 : Int) < (q : Int)) = true := by simp; omega
  have hr : ((at_ : Int) % 4 != 0) = false := by simp; omega
  clear h h0
  go_enter Try.func26, Try.ntmps26
  go_wp2_with fail
  go_ret2
  exact ⟨rfl, rfl⟩
/-- what may not be, is refused by the reference, too -/
theorem rStoreNo (r at_ n : Nat) (s : Int) (w : World) (hat : at_ < 4294967296) (hw : wordB at_ s = false) :
    Calls Try.prog 22 #[.pointer (some ⟨r, 0, none⟩), .int .u32 (at_ : Int), .int .i64 s, .int .u32 (n : Int)] w fun e w' => e = .returned (.int .i64 2) ∧ w = w' := by
  unfold wordB at hw
  rw [decide_eq_false_iff_not] at hw
  by_cases hs : s = 1 ∨ s = 2 ∨ s = 4
  · rcases hs with rfl | rfl | rfl
    · exact rStoreFar1 r at_ n w hat (by omega) (by omega)
    · by_cases c : at_ % 2 = 0
      · exact rStoreFar2 r at_ n w hat c (by omega)
      · exact rStoreOdd2 r at_ n w hat c
    · by_cases c : at_ % 4 = 0
      · exact rStoreFar4 r at_ n w hat c (by omega)
      · exact rStoreOdd4 r at_ n w hat c
  · exact rStoreBad r at_ n s w (fun h => hs (Or.inl h)) (fun h => hs (Or.inr (Or.inl h))) (fun h => hs (Or.inr (Or.inr h)))
theorem rLoadNo (r at_ : Nat) (s : Int) (w : World) (hat : at_ < 4294967296) (hw : wordB at_ s = false) :
    Calls Try.prog 26 #[.pointer (some ⟨r, 0, none⟩), .int .u32 (at_ : Int), .int .i64 s] w fun e w' => e = .returned (.tuple #[.int .u32 0, .int .i64 2]) ∧ w = w' := by
  unfold wordB at hw
  rw [decide_eq_false_iff_not] at hw
  by_cases hs : s = 1 ∨ s = 2 ∨ s = 4
  · rcases hs with rfl | rfl | rfl
    · exact rLoadFar1 r at_ 0 w hat (by omega) (by omega)
    · by_cases c : at_ % 2 = 0
      · exact rLoadFar2 r at_ 0 w hat c (by omega)
      · exact rLoadOdd2 r at_ 0 w hat c
    · by_cases c : at_ % 4 = 0
      · exact rLoadFar4 r at_ 0 w hat c (by omega)
      · exact rLoadOdd4 r at_ 0 w hat c
  · exact rLoadBad r at_ s w (fun h => hs (Or.inl h)) (fun h => hs (Or.inr (Or.inl h))) (fun h => hs (Or.inr (Or.inr h)))
theorem rStore (r x y c1 c2 at_ n : Nat) (s : Int) (B : Nat → Nat) (T : Nat → Bool) (w : World) (hm : RM w r x y c1 c2 B T) (hn : n < 4294967296) (hw : wordB at_ s = true) :
    Calls Try.prog 22 #[.pointer (some ⟨r, 0, none⟩), .int .u32 (at_ : Int), .int .i64 s, .int .u32 (n : Int)] w fun e w' => e = .returned (.int .i64 0) ∧ Only2 x y w w' ∧ RM w' r x y c1 c2 (stB B at_ s.toNat n) (stT T at_ false) := by
  unfold wordB at hw
  rw [decide_eq_true_eq] at hw
  obtain ⟨hs, h1, h2⟩ := hw
  rcases hs with rfl | rfl | rfl
  · exact rStore1 r x y c1 c2 at_ n B T w hm hn (by omega) (by omega)
  · exact rStore2 r x y c1 c2 at_ n B T w hm hn (by omega) (by omega)
  · exact rStore4 r x y c1 c2 at_ n B T w hm hn (by omega) (by omega)
end Go.Proofs.Ytleabbhoedddlaa
