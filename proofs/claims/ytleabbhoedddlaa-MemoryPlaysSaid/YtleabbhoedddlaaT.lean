import Derived.Test.YtleabbhoedddlaaQ
namespace Go.Proofs.Ytleabbhoedddlaa
open Go.ChangeShapes Go.WideShapes Go.ChangeAt Go.RowKit
set_option linter.unusedVariables false
/-- how many of so many granules, from one on, have a tag -/
def cntT (T : Nat → Bool) (lo : Nat) : Nat → Nat
  | 0 => 0
  | k + 1 => cntT T lo k + if T (lo + k) then 1 else 0
theorem cntT_le (T : Nat → Bool) (lo : Nat) : ∀ k, cntT T lo k ≤ k
  | 0 => Nat.le_refl _
  | k + 1 => by
    have := cntT_le T lo k
    unfold cntT
    split <;> omega
theorem sliceTg (b lo hi m : Nat) (h1 : lo < 8192) (h2 : lo ≤ hi) (h3 : hi ≤ 8192) (hm : m = hi - lo) (w : World) :
    (Instr.sliceAt 62 (.pointer (some ⟨b, 65537, none⟩)) (some (.int .i64 (lo : Int))) (some (.int .i64 (hi : Int))) none).run Try.prog w = .ok (.slice (some ⟨b, 65537 + lo, none⟩) m (8192 - lo)) w := by
  have e : Try.prog.arrayLen 62 = 8192 := by kernel_rfl
  rw [run_sliceAt_array_lh w 62 ⟨b, 65537, none⟩ (by kernel_rfl) .i64 .i64 _ _ (by omega) (by omega) (by rw [e]; omega)]
  rw [show (sizeOf (Try.prog.elem 62)).run Try.prog w = .ok 1 w by kernel_rfl, e]
  subst hm
  simp only [Result.andThen, slicedAt, Int.toNat_natCast, Addr.add, Nat.mul_one]
  rw [if_neg (by omega)]
  congr 2
  split
  · rename_i h; rw [h]
  · rfl
set_option maxHeartbeats 2000000 in
set_option maxRecDepth 100000 in
theorem tagsG (b lo hi m a n s s1 h1 ra : Nat) (T : Nat → Bool) (C : Array Value) (w : World) (hm : Me w b C) (hT : ∀ i, i < 8192 → C[65537 + i]? = some (.bool (T i)))
    (q1 : (a : Int) / 8 = (lo : Int)) (q2 : (a : Int) + (n : Int) = (s : Int)) (q3 : (s : Int) - 1 = (s1 : Int)) (q4 : (s1 : Int) / 8 = (h1 : Int)) (q5 : (h1 : Int) + 1 = (hi : Int)) (q6 : (65536 : Int) - (a : Int) = (ra : Int))
    (e1 : lo < 8192) (e2 : lo ≤ hi) (e3 : hi ≤ 8192) (e4 : m = hi - lo) (e5 : n ≤ ra) (e6 : a ≤ 65536) (e7 : 0 < n) :
    Calls Try.prog 15 #[.pointer (some ⟨b, 0, none⟩), .int .i64 (a : Int), .int .i64 (n : Int)] w fun e w' => e = .returned (.tuple #[.int .i64 (cntT T lo m : Int), .int .i64 0]) ∧ w = w' := by
  have KT := Lib.hid hm.there
  have hsl := sliceTg b lo hi m e1 e2 e3 e4
  have hc : ∀ k, k < m → w.cell? ⟨b, 65537 + lo + k, none⟩ = some (.bool (T (lo + k))) := fun k hk => by
    rw [hm.1.cell, Nat.add_assoc]; exact hT _ (by omega)
  have HC := Lib.hid hc
  have d1 : decide ((a : Int) < 0) = false := by simp
  have d2 : decide ((n : Int) < 0) = false := by simp
  have d3 : decide ((65536 : Int) < (a : Int)) = false := by simp; omega
  have d4 : decide ((ra : Int) < (n : Int)) = false := by simp; omega
  have d5 : ((n : Int) == 0) = false := by simp; omega
  have bm : m ≤ 8192 := by omega
  have bs : s ≤ 65536 := by omega
  have bh : hi ≤ 8192 := e3
  have ba : a ≤ 65536 := e6
  have bl : lo ≤ 8192 := by omega
  have bn : n ≤ 65536 := by omega
  clear hm hT hc e1 e2 e3 e4 e5 e6 e7
  go_enter Try.func15, Try.ntmps15
  go_wp2_with fail
  refine KT.out.mono ?_
  rintro _ _ ⟨rfl, rfl⟩
  go_wp2_with fail
  clear q1 q2 q3 q4 q5 q6 d1 d2 d3 d4 d5 hsl
  go_loop [8, 45] (fun t i => ∃ k : Nat, k ≤ m ∧ i = .int .i64 (k : Int) ∧ t = .int .i64 (cntT T lo k : Int)) (fun _ i => m - (intOf i).toNat)
  case atStart => exact ⟨0, by omega, rfl, rfl⟩
  case round =>
    obtain ⟨k, hk, rfl, rfl⟩ := hrel
    by_cases hlt : k < m
    · have c := HC.out k hlt
      have le := cntT_le T lo k
      obtain ⟨v, hv⟩ : ∃ v, v = cntT T lo k := ⟨_, rfl⟩
      have hs : Hid (cntT T lo (k + 1) = v + if T (lo + k) then 1 else 0) := Lib.hid (by rw [hv]; rfl)
      rw [← hv] at le ⊢
      clear hv
      generalize hg : T (lo + k) = g at *
      have HG := Lib.hid hg
      clear hg
      cases g
      · go_wp2_with fail
        go_round
        case rel => exact ⟨k + 1, by omega, by go_num, by rw [hs.out]; simp⟩
        case measure => simp [intOf]; omega
      · go_wp2_with fail
        go_round
        case rel => exact ⟨k + 1, by omega, by go_num, by rw [hs.out]; simp⟩
        case measure => simp [intOf]; omega
    · obtain rfl : k = m := by omega
      go_wp2_with fail
      go_ret2
      exact ⟨rfl, rfl⟩
end Go.Proofs.Ytleabbhoedddlaa
