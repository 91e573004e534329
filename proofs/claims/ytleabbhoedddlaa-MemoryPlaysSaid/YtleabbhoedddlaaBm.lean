import Derived.Test.YtleabbhoedddlaaBh
namespace Go.Proofs.Ytleabbhoedddlaa
open Go.ChangeShapes Go.WideShapes Go.ChangeAt Go.RowKit
set_option linter.unusedVariables false
/-- does a tag count? -/
def tq (T : Nat → Bool) (a n k : Nat) : Bool := T k && (decide (0 < n) && (decide (a < 8 * k + 8) && decide (8 * k < a + n)))
def rc (T : Nat → Bool) (a n : Nat) : Nat → Nat
  | 0 => 0
  | k + 1 => rc T a n k + if tq T a n k = true then 1 else 0
theorem rc_le (T : Nat → Bool) (a n : Nat) : ∀ k, rc T a n k ≤ k
  | 0 => Nat.le_refl _
  | k + 1 => by
    have := rc_le T a n k
    unfold rc
    split <;> omega
theorem rc_cnt (T : Nat → Bool) (a n : Nat) (hn : 0 < n) : ∀ k, rc T a n k = cntT T (a / 8) (min k ((a + n - 1) / 8 + 1) - a / 8)
  | 0 => by
    rw [Nat.zero_min, Nat.zero_sub]; rfl
  | k + 1 => by
    unfold rc
    rw [rc_cnt T a n hn k]
    unfold tq
    rw [decide_eq_true hn]
    by_cases h1 : k < a / 8
    · rw [show min (k + 1) ((a + n - 1) / 8 + 1) - a / 8 = 0 by omega, show min k ((a + n - 1) / 8 + 1) - a / 8 = 0 by omega, decide_eq_false (by omega : ¬ a < 8 * k + 8)]
      simp
    · by_cases h2 : (a + n - 1) / 8 < k
      · rw [show min (k + 1) ((a + n - 1) / 8 + 1) - a / 8 = min k ((a + n - 1) / 8 + 1) - a / 8 by omega, decide_eq_false (by omega : ¬ 8 * k < a + n)]
        simp
      · rw [show min (k + 1) ((a + n - 1) / 8 + 1) - a / 8 = (min k ((a + n - 1) / 8 + 1) - a / 8) + 1 by omega, decide_eq_true (by omega : a < 8 * k + 8), decide_eq_true (by omega : 8 * k < a + n)]
        have e : ∀ m, cntT T (a / 8) (m + 1) = cntT T (a / 8) m + if T (a / 8 + m) = true then 1 else 0 := fun _ => rfl
        rw [e, show a / 8 + (min k ((a + n - 1) / 8 + 1) - a / 8) = k by omega]
        simp
theorem rc_all (T : Nat → Bool) (a n : Nat) (h : a + n ≤ 65536) : rc T a n 8192 = tagsN T a n := by
  unfold tagsN
  by_cases h0 : n = 0
  · rw [if_pos h0]
    have : ∀ k, rc T a n k = 0 := by
      intro k
      induction k with
      | zero => rfl
      | succ k ih =>
        unfold rc tq
        rw [ih, decide_eq_false (by omega : ¬ 0 < n)]
        simp
    exact this _
  · rw [if_neg h0, rc_cnt T a n (by omega), show min 8192 ((a + n - 1) / 8 + 1) = (a + n - 1) / 8 + 1 by omega]
set_option maxRecDepth 100000 in
set_option maxHeartbeats 8000000 in
theorem rTags (r x y c1 a n : Nat) (B : Nat → Nat) (T : Nat → Bool) (w : World) (hm : RM w r x y c1 8192 B T) (h : a + n ≤ 65536) :
    Calls Try.prog 25 #[.pointer (some ⟨r, 0, none⟩), .int .i64 (a : Int), .int .i64 (n : Int)] w fun e w' => e = .returned (.tuple #[.int .i64 (tagsN T a n : Int), .int .i64 0]) ∧ w = w' := by
  have p1 := hm.box.cell 1
  simp only [List.getElem?_toArray, List.getElem?_cons_zero, List.getElem?_cons_succ] at p1
  have HT : Hid (∀ k, k < 8192 → w.cell? ⟨y, k, none⟩ = some (.bool (T k))) := Lib.hid fun k hk => (hm.tg.cell k hk).1
  have HR := Lib.hid (rc_all T a n h)
  obtain ⟨q, hq⟩ : ∃ q : Nat, a + n = q := ⟨_, rfl⟩
  have HQ := Lib.hid hq
  have hqi : (a : Int) + (n : Int) = (q : Int) := by omega
  have b1 : decide ((65536 : Int) < (a : Int)) = false := by simp; omega
  have b2 : decide ((65536 : Int) - (a : Int) < (n : Int)) = false := by simp; omega
  have ba : a ≤ 65536 := by omega
  have bn : n ≤ 65536 := by omega
  have bq : q ≤ 65536 := by omega
  have b3 : decide ((a : Int) < 0) = false := by simp
  have b4 : decide ((n : Int) < 0) = false := by simp
  clear hm h hq
  go_enter Try.func25, Try.ntmps25
  go_wp2_with fail
  clear b1 b2 b3 b4
  go_loopw [8, 9] (fun v i wr => ∃ k : Nat, k ≤ 8192 ∧ i = .int .i64 (k : Int) ∧ v = .int .i64 (rc T a n k : Int) ∧ wr = w) (fun _ i _ => 8192 - (intOf i).toNat)
  case atStart => exact ⟨0, by omega, rfl, rfl, rfl⟩
  case round =>
    obtain ⟨k, hk, rfl, rfl, rfl⟩ := hrel
    by_cases hlt : k < 8192
    · have hv := HT.out k hlt
      have d1 : decide ((k : Int) < 8192) = true := by simp; omega
      have hki : (k : Int) < 8192 := by omega
      obtain ⟨e, he⟩ : ∃ e : Nat, 8 * k = e := ⟨_, rfl⟩
      have hei : (8 : Int) * (k : Int) = (e : Int) := by omega
      obtain ⟨e8, he8⟩ : ∃ e8 : Nat, e + 8 = e8 := ⟨_, rfl⟩
      have he8i : (e : Int) + 8 = (e8 : Int) := by omega
      have be : e ≤ 65536 := by omega
      have be8 : e8 ≤ 65536 := by omega
      have hc := rc_le T a n k
      have hst : rc T a n (k + 1) = rc T a n k + if tq T a n k = true then 1 else 0 := rfl
      have htq : tq T a n k = (T k && (decide (0 < n) && (decide (a < e8) && decide (e < q)))) := by unfold tq; rw [he, he8, HQ.out]
      rw [htq] at hst
      generalize rc T a n k = c at *
      obtain ⟨c', hc1⟩ : ∃ c', rc T a n (k + 1) = c' := ⟨_, rfl⟩
      rw [hc1] at hst
      have HC1 := Lib.hid hc1
      clear hc1
      generalize T k = t at *
      have hcb : c ≤ 8192 := by omega
      have HK : Hid (k + 1 ≤ 8192) := Lib.hid hlt
      have HS := Lib.hid hst
      clear hst htq hc hk hlt he he8
      have no : ∀ b : Bool, b = false → c' = c + (if b = true then 1 else 0) → c' = c := fun b hb h => by rw [h, hb]; rfl
      cases t
      · have hc' : c' = c := no _ rfl HS.out
        clear no HS
        subst hc'
        go_wp2_with fail
        go_roundw
        case rel => exact ⟨_, HK.out, by go_num, by first | (rw [HC1.out]; done) | (rw [HC1.out]; rfl) | (rw [HC1.out]; go_num), trivial⟩
        case measure => simp [intOf]; have := HK.out; omega
      · by_cases h1 : 0 < n
        · by_cases h2 : a < e8
          · by_cases h3 : e < q
            · have hc' : c' = c + 1 := by have := HS.out; simpa [h1, h2, h3] using this
              have HC := Lib.hid hc'
              clear no HS hc'
              go_wp2_with fail
              go_roundw
              case rel => exact ⟨_, HK.out, by go_num, by first | (rw [HC1.out, HC.out]; done) | (rw [HC1.out, HC.out]; rfl) | (rw [HC1.out, HC.out]; go_num), trivial⟩
              case measure => simp [intOf]; have := HK.out; omega
            · have hc' : c' = c := by have := HS.out; simpa [h1, h2, h3] using this
              clear no HS
              subst hc'
              go_wp2_with fail
              go_roundw
              case rel => exact ⟨_, HK.out, by go_num, by first | (rw [HC1.out]; done) | (rw [HC1.out]; rfl) | (rw [HC1.out]; go_num), trivial⟩
              case measure => simp [intOf]; have := HK.out; omega
          · have hc' : c' = c := by have := HS.out; simpa [h1, h2] using this
            clear no HS
            subst hc'
            go_wp2_with fail
            go_roundw
            case rel => exact ⟨_, HK.out, by go_num, by first | (rw [HC1.out]; done) | (rw [HC1.out]; rfl) | (rw [HC1.out]; go_num), trivial⟩
            case measure => simp [intOf]; have := HK.out; omega
        · have hc' : c' = c := by have := HS.out; simpa [h1] using this
          clear no HS
          subst hc'
          go_wp2_with fail
          go_roundw
          case rel => exact ⟨_, HK.out, by go_num, by first | (rw [HC1.out]; done) | (rw [HC1.out]; rfl) | (rw [HC1.out]; go_num), trivial⟩
          case measure => simp [intOf]; have := HK.out; omega
    · have hk8 : k = 8192 := by omega
      subst hk8
      clear hk hlt
      go_wp2_with fail
      go_ret2
      exact ⟨by rw [← HR.out]; rfl, rfl⟩
end Go.Proofs.Ytleabbhoedddlaa
