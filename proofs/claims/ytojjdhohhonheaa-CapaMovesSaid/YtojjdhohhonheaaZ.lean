import Derived.Test.YtojjdhohhonheaaX
namespace Go.Proofs.Ytojjdhohhonheaa
open Go.ChangeShapes Go.WideShapes Go.ChangeAt Go.RowKit
set_option linter.unusedVariables false
theorem bit_and (p s k : Nat) : (p &&& s) / 2 ^ k % 2 = if p / 2 ^ k % 2 = 1 ∧ s / 2 ^ k % 2 = 1 then 1 else 0 := by
  have h := Nat.testBit_and p s k
  simp only [Nat.testBit_eq_decide_div_mod_eq] at h
  rw [Bool.eq_iff_iff] at h
  simp only [Bool.and_eq_true, decide_eq_true_eq] at h
  split <;> omega
theorem bitstep (p s k : Nat) : (p &&& s) % 2 ^ (k + 1) = (p &&& s) % 2 ^ k + (if p / 2 ^ k % 2 = 1 ∧ s / 2 ^ k % 2 = 1 then 2 ^ k else 0) := by
  rw [Nat.mod_pow_succ, bit_and]
  split <;> simp
set_option maxHeartbeats 8000000 in
theorem c23 (g : Bool) (a p y e b t s : Nat) (hp : p < 256) (hy : y < 256) (hs : s < 4294967296) (w : World) :
    Calls Try.prog 23 #[cp g a p y e b t, .int .u32 (s : Int)] w fun en w' => en = .returned (cp (g && decide (y = 0)) a (p &&& (s % 256)) y e b t) ∧ Below w.heap.size w w' := by
  have kr : (s : Int) % 256 = ((s % 256 : Nat) : Int) := rfl
  have hl : s % 256 < 256 := by omega
  have hm : p &&& (s % 256) < 256 := by have := Nat.and_le_left (n := p) (m := s % 256); omega
  generalize s % 256 = s' at *
  by_cases hy0 : y = 0
  · rw [decide_eq_true hy0, Bool.and_true]
    have hyb : ((y : Int) != 0) = false := by simp; omega
    clear hy0
    go_enter Try.func23, Try.ntmps23
    go_wp2
    go_loop [5, 6] (fun v i => ∃ k : Nat, k ≤ 8 ∧ i = .int .u8 (pw k : Int) ∧ v = .int .u8 (((p &&& s') % 2 ^ k : Nat) : Int)) (fun _ i => if intOf i = 0 then 0 else 256 - (intOf i).toNat)
    case atStart => exact ⟨0, by omega, rfl, by rw [Nat.pow_zero, Nat.mod_one]; rfl⟩
    case round =>
      obtain ⟨k, hk, rfl, rfl⟩ := hrel
      have hk' : k = 8 ∨ k = 0 ∨ k = 1 ∨ k = 2 ∨ k = 3 ∨ k = 4 ∨ k = 5 ∨ k = 6 ∨ k = 7 := by omega
      rcases hk' with rfl | rfl | rfl | rfl | rfl | rfl | rfl | rfl | rfl
      · rw [show ((pw 8 : Nat) : Int) = 0 from rfl, show (p &&& s') % 2 ^ 8 = p &&& s' from Nat.mod_eq_of_lt hm]
        generalize hmm : p &&& s' = m at *
        have HM := Lib.hid hmm
        clear hmm
        go_wp2
        exact bodyPost_ret (v := cp g a m y e b t) (by simp [results, Try.results23, go_sem]) rfl ⟨by rw [HM.out], ((Below.refl _ _).alloc (Nat.le_refl _) _).alloc (by simp) _⟩
      · rw [show ((pw 0 : Nat) : Int) = 1 from rfl]
        have hst := bitstep p s' 0
        have hAl : (p &&& s') % 2 ^ 0 < 1 := Nat.mod_lt _ (by decide)
        generalize hA : (p &&& s') % 2 ^ 0 = A at *
        by_cases h1 : p / 2 ^ 0 % 2 = 1
        · have f1 : (((p : Int) % 2 == 1)) = true := by simp at h1 ⊢; omega
          by_cases h2 : s' / 2 ^ 0 % 2 = 1
          · have f2 : (((s' : Int) % 2 == 1)) = true := by simp at h2 ⊢; omega
            rw [if_pos ⟨h1, h2⟩] at hst
            have HST := Lib.hid hst
            clear hst h1 h2 hA
            go_wp2
            go_round
            case rel => exact ⟨1, by omega, rfl, by rw [HST.out]; rfl⟩
            case measure => simp [intOf]
          · have f2 : (((s' : Int) % 2 == 1)) = false := by simp at h2 ⊢; omega
            rw [if_neg (fun h => h2 h.2)] at hst
            have HST := Lib.hid hst
            clear hst h1 h2 hA
            go_wp2
            go_round
            case rel => exact ⟨1, by omega, rfl, by rw [HST.out]; rfl⟩
            case measure => simp [intOf]
        · have f1 : (((p : Int) % 2 == 1)) = false := by simp at h1 ⊢; omega
          rw [if_neg (fun h => h1 h.1)] at hst
          have HST := Lib.hid hst
          clear hst h1 hA
          go_wp2
          go_round
          case rel => exact ⟨1, by omega, rfl, by rw [HST.out]; rfl⟩
          case measure => simp [intOf]
      · rw [show ((pw 1 : Nat) : Int) = 2 from rfl]
        have hst := bitstep p s' 1
        have hAl : (p &&& s') % 2 ^ 1 < 2 := Nat.mod_lt _ (by decide)
        generalize hA : (p &&& s') % 2 ^ 1 = A at *
        by_cases h1 : p / 2 ^ 1 % 2 = 1
        · have f1 : (((p : Int) / 2 % 2 == 1)) = true := by simp at h1 ⊢; omega
          by_cases h2 : s' / 2 ^ 1 % 2 = 1
          · have f2 : (((s' : Int) / 2 % 2 == 1)) = true := by simp at h2 ⊢; omega
            rw [if_pos ⟨h1, h2⟩] at hst
            have HST := Lib.hid hst
            clear hst h1 h2 hA
            go_wp2
            go_round
            case rel => exact ⟨2, by omega, rfl, by rw [HST.out]; rfl⟩
            case measure => simp [intOf]
          · have f2 : (((s' : Int) / 2 % 2 == 1)) = false := by simp at h2 ⊢; omega
            rw [if_neg (fun h => h2 h.2)] at hst
            have HST := Lib.hid hst
            clear hst h1 h2 hA
            go_wp2
            go_round
            case rel => exact ⟨2, by omega, rfl, by rw [HST.out]; rfl⟩
            case measure => simp [intOf]
        · have f1 : (((p : Int) / 2 % 2 == 1)) = false := by simp at h1 ⊢; omega
          rw [if_neg (fun h => h1 h.1)] at hst
          have HST := Lib.hid hst
          clear hst h1 hA
          go_wp2
          go_round
          case rel => exact ⟨2, by omega, rfl, by rw [HST.out]; rfl⟩
          case measure => simp [intOf]
      · rw [show ((pw 2 : Nat) : Int) = 4 from rfl]
        have hst := bitstep p s' 2
        have hAl : (p &&& s') % 2 ^ 2 < 4 := Nat.mod_lt _ (by decide)
        generalize hA : (p &&& s') % 2 ^ 2 = A at *
        by_cases h1 : p / 2 ^ 2 % 2 = 1
        · have f1 : (((p : Int) / 4 % 2 == 1)) = true := by simp at h1 ⊢; omega
          by_cases h2 : s' / 2 ^ 2 % 2 = 1
          · have f2 : (((s' : Int) / 4 % 2 == 1)) = true := by simp at h2 ⊢; omega
            rw [if_pos ⟨h1, h2⟩] at hst
            have HST := Lib.hid hst
            clear hst h1 h2 hA
            go_wp2
            go_round
            case rel => exact ⟨3, by omega, rfl, by rw [HST.out]; rfl⟩
            case measure => simp [intOf]
          · have f2 : (((s' : Int) / 4 % 2 == 1)) = false := by simp at h2 ⊢; omega
            rw [if_neg (fun h => h2 h.2)] at hst
            have HST := Lib.hid hst
            clear hst h1 h2 hA
            go_wp2
            go_round
            case rel => exact ⟨3, by omega, rfl, by rw [HST.out]; rfl⟩
            case measure => simp [intOf]
        · have f1 : (((p : Int) / 4 % 2 == 1)) = false := by simp at h1 ⊢; omega
          rw [if_neg (fun h => h1 h.1)] at hst
          have HST := Lib.hid hst
          clear hst h1 hA
          go_wp2
          go_round
          case rel => exact ⟨3, by omega, rfl, by rw [HST.out]; rfl⟩
          case measure => simp [intOf]
      · rw [show ((pw 3 : Nat) : Int) = 8 from rfl]
        have hst := bitstep p s' 3
        have hAl : (p &&& s') % 2 ^ 3 < 8 := Nat.mod_lt _ (by decide)
        generalize hA : (p &&& s') % 2 ^ 3 = A at *
        by_cases h1 : p / 2 ^ 3 % 2 = 1
        · have f1 : (((p : Int) / 8 % 2 == 1)) = true := by simp at h1 ⊢; omega
          by_cases h2 : s' / 2 ^ 3 % 2 = 1
          · have f2 : (((s' : Int) / 8 % 2 == 1)) = true := by simp at h2 ⊢; omega
            rw [if_pos ⟨h1, h2⟩] at hst
            have HST := Lib.hid hst
            clear hst h1 h2 hA
            go_wp2
            go_round
            case rel => exact ⟨4, by omega, rfl, by rw [HST.out]; rfl⟩
            case measure => simp [intOf]
          · have f2 : (((s' : Int) / 8 % 2 == 1)) = false := by simp at h2 ⊢; omega
            rw [if_neg (fun h => h2 h.2)] at hst
            have HST := Lib.hid hst
            clear hst h1 h2 hA
            go_wp2
            go_round
            case rel => exact ⟨4, by omega, rfl, by rw [HST.out]; rfl⟩
            case measure => simp [intOf]
        · have f1 : (((p : Int) / 8 % 2 == 1)) = false := by simp at h1 ⊢; omega
          rw [if_neg (fun h => h1 h.1)] at hst
          have HST := Lib.hid hst
          clear hst h1 hA
          go_wp2
          go_round
          case rel => exact ⟨4, by omega, rfl, by rw [HST.out]; rfl⟩
          case measure => simp [intOf]
      · rw [show ((pw 4 : Nat) : Int) = 16 from rfl]
        have hst := bitstep p s' 4
        have hAl : (p &&& s') % 2 ^ 4 < 16 := Nat.mod_lt _ (by decide)
        generalize hA : (p &&& s') % 2 ^ 4 = A at *
        by_cases h1 : p / 2 ^ 4 % 2 = 1
        · have f1 : (((p : Int) / 16 % 2 == 1)) = true := by simp at h1 ⊢; omega
          by_cases h2 : s' / 2 ^ 4 % 2 = 1
          · have f2 : (((s' : Int) / 16 % 2 == 1)) = true := by simp at h2 ⊢; omega
            rw [if_pos ⟨h1, h2⟩] at hst
            have HST := Lib.hid hst
            clear hst h1 h2 hA
            go_wp2
            go_round
            case rel => exact ⟨5, by omega, rfl, by rw [HST.out]; rfl⟩
            case measure => simp [intOf]
          · have f2 : (((s' : Int) / 16 % 2 == 1)) = false := by simp at h2 ⊢; omega
            rw [if_neg (fun h => h2 h.2)] at hst
            have HST := Lib.hid hst
            clear hst h1 h2 hA
            go_wp2
            go_round
            case rel => exact ⟨5, by omega, rfl, by rw [HST.out]; rfl⟩
            case measure => simp [intOf]
        · have f1 : (((p : Int) / 16 % 2 == 1)) = false := by simp at h1 ⊢; omega
          rw [if_neg (fun h => h1 h.1)] at hst
          have HST := Lib.hid hst
          clear hst h1 hA
          go_wp2
          go_round
          case rel => exact ⟨5, by omega, rfl, by rw [HST.out]; rfl⟩
          case measure => simp [intOf]
      · rw [show ((pw 5 : Nat) : Int) = 32 from rfl]
        have hst := bitstep p s' 5
        have hAl : (p &&& s') % 2 ^ 5 < 32 := Nat.mod_lt _ (by decide)
        generalize hA : (p &&& s') % 2 ^ 5 = A at *
        by_cases h1 : p / 2 ^ 5 % 2 = 1
        · have f1 : (((p : Int) / 32 % 2 == 1)) = true := by simp at h1 ⊢; omega
          by_cases h2 : s' / 2 ^ 5 % 2 = 1
          · have f2 : (((s' : Int) / 32 % 2 == 1)) = true := by simp at h2 ⊢; omega
            rw [if_pos ⟨h1, h2⟩] at hst
            have HST := Lib.hid hst
            clear hst h1 h2 hA
            go_wp2
            go_round
            case rel => exact ⟨6, by omega, rfl, by rw [HST.out]; rfl⟩
            case measure => simp [intOf]
          · have f2 : (((s' : Int) / 32 % 2 == 1)) = false := by simp at h2 ⊢; omega
            rw [if_neg (fun h => h2 h.2)] at hst
            have HST := Lib.hid hst
            clear hst h1 h2 hA
            go_wp2
            go_round
            case rel => exact ⟨6, by omega, rfl, by rw [HST.out]; rfl⟩
            case measure => simp [intOf]
        · have f1 : (((p : Int) / 32 % 2 == 1)) = false := by simp at h1 ⊢; omega
          rw [if_neg (fun h => h1 h.1)] at hst
          have HST := Lib.hid hst
          clear hst h1 hA
          go_wp2
          go_round
          case rel => exact ⟨6, by omega, rfl, by rw [HST.out]; rfl⟩
          case measure => simp [intOf]
      · rw [show ((pw 6 : Nat) : Int) = 64 from rfl]
        have hst := bitstep p s' 6
        have hAl : (p &&& s') % 2 ^ 6 < 64 := Nat.mod_lt _ (by decide)
        generalize hA : (p &&& s') % 2 ^ 6 = A at *
        by_cases h1 : p / 2 ^ 6 % 2 = 1
        · have f1 : (((p : Int) / 64 % 2 == 1)) = true := by simp at h1 ⊢; omega
          by_cases h2 : s' / 2 ^ 6 % 2 = 1
          · have f2 : (((s' : Int) / 64 % 2 == 1)) = true := by simp at h2 ⊢; omega
            rw [if_pos ⟨h1, h2⟩] at hst
            have HST := Lib.hid hst
            clear hst h1 h2 hA
            go_wp2
            go_round
            case rel => exact ⟨7, by omega, rfl, by rw [HST.out]; rfl⟩
            case measure => simp [intOf]
          · have f2 : (((s' : Int) / 64 % 2 == 1)) = false := by simp at h2 ⊢; omega
            rw [if_neg (fun h => h2 h.2)] at hst
            have HST := Lib.hid hst
            clear hst h1 h2 hA
            go_wp2
            go_round
            case rel => exact ⟨7, by omega, rfl, by rw [HST.out]; rfl⟩
            case measure => simp [intOf]
        · have f1 : (((p : Int) / 64 % 2 == 1)) = false := by simp at h1 ⊢; omega
          rw [if_neg (fun h => h1 h.1)] at hst
          have HST := Lib.hid hst
          clear hst h1 hA
          go_wp2
          go_round
          case rel => exact ⟨7, by omega, rfl, by rw [HST.out]; rfl⟩
          case measure => simp [intOf]
      · rw [show ((pw 7 : Nat) : Int) = 128 from rfl]
        have hst := bitstep p s' 7
        have hAl : (p &&& s') % 2 ^ 7 < 128 := Nat.mod_lt _ (by decide)
        generalize hA : (p &&& s') % 2 ^ 7 = A at *
        by_cases h1 : p / 2 ^ 7 % 2 = 1
        · have f1 : (((p : Int) / 128 % 2 == 1)) = true := by simp at h1 ⊢; omega
          by_cases h2 : s' / 2 ^ 7 % 2 = 1
          · have f2 : (((s' : Int) / 128 % 2 == 1)) = true := by simp at h2 ⊢; omega
            rw [if_pos ⟨h1, h2⟩] at hst
            have HST := Lib.hid hst
            clear hst h1 h2 hA
            go_wp2
            go_round
            case rel => exact ⟨8, by omega, rfl, by rw [HST.out]; rfl⟩
            case measure => simp [intOf]
          · have f2 : (((s' : Int) / 128 % 2 == 1)) = false := by simp at h2 ⊢; omega
            rw [if_neg (fun h => h2 h.2)] at hst
            have HST := Lib.hid hst
            clear hst h1 h2 hA
            go_wp2
            go_round
            case rel => exact ⟨8, by omega, rfl, by rw [HST.out]; rfl⟩
            case measure => simp [intOf]
        · have f1 : (((p : Int) / 128 % 2 == 1)) = false := by simp at h1 ⊢; omega
          rw [if_neg (fun h => h1 h.1)] at hst
          have HST := Lib.hid hst
          clear hst h1 hA
          go_wp2
          go_round
          case rel => exact ⟨8, by omega, rfl, by rw [HST.out]; rfl⟩
          case measure => simp [intOf]
  · rw [decide_eq_false hy0, Bool.and_false]
    have hyb : ((y : Int) != 0) = true := by simp; omega
    clear hy0
    go_enter Try.func23, Try.ntmps23
    go_wp2
    go_loop [5, 6] (fun v i => ∃ k : Nat, k ≤ 8 ∧ i = .int .u8 (pw k : Int) ∧ v = .int .u8 (((p &&& s') % 2 ^ k : Nat) : Int)) (fun _ i => if intOf i = 0 then 0 else 256 - (intOf i).toNat)
    case atStart => exact ⟨0, by omega, rfl, by rw [Nat.pow_zero, Nat.mod_one]; rfl⟩
    case round =>
      obtain ⟨k, hk, rfl, rfl⟩ := hrel
      have hk' : k = 8 ∨ k = 0 ∨ k = 1 ∨ k = 2 ∨ k = 3 ∨ k = 4 ∨ k = 5 ∨ k = 6 ∨ k = 7 := by omega
      rcases hk' with rfl | rfl | rfl | rfl | rfl | rfl | rfl | rfl | rfl
      · rw [show ((pw 8 : Nat) : Int) = 0 from rfl, show (p &&& s') % 2 ^ 8 = p &&& s' from Nat.mod_eq_of_lt hm]
        generalize hmm : p &&& s' = m at *
        have HM := Lib.hid hmm
        clear hmm
        go_wp2
        exact bodyPost_ret (v := cp false a m y e b t) (by simp [results, Try.results23, go_sem]) rfl ⟨by rw [HM.out], ((Below.refl _ _).alloc (Nat.le_refl _) _).alloc (by simp) _⟩
      · rw [show ((pw 0 : Nat) : Int) = 1 from rfl]
        have hst := bitstep p s' 0
        have hAl : (p &&& s') % 2 ^ 0 < 1 := Nat.mod_lt _ (by decide)
        generalize hA : (p &&& s') % 2 ^ 0 = A at *
        by_cases h1 : p / 2 ^ 0 % 2 = 1
        · have f1 : (((p : Int) % 2 == 1)) = true := by simp at h1 ⊢; omega
          by_cases h2 : s' / 2 ^ 0 % 2 = 1
          · have f2 : (((s' : Int) % 2 == 1)) = true := by simp at h2 ⊢; omega
            rw [if_pos ⟨h1, h2⟩] at hst
            have HST := Lib.hid hst
            clear hst h1 h2 hA
            go_wp2
            go_round
            case rel => exact ⟨1, by omega, rfl, by rw [HST.out]; rfl⟩
            case measure => simp [intOf]
          · have f2 : (((s' : Int) % 2 == 1)) = false := by simp at h2 ⊢; omega
            rw [if_neg (fun h => h2 h.2)] at hst
            have HST := Lib.hid hst
            clear hst h1 h2 hA
            go_wp2
            go_round
            case rel => exact ⟨1, by omega, rfl, by rw [HST.out]; rfl⟩
            case measure => simp [intOf]
        · have f1 : (((p : Int) % 2 == 1)) = false := by simp at h1 ⊢; omega
          rw [if_neg (fun h => h1 h.1)] at hst
          have HST := Lib.hid hst
          clear hst h1 hA
          go_wp2
          go_round
          case rel => exact ⟨1, by omega, rfl, by rw [HST.out]; rfl⟩
          case measure => simp [intOf]
      · rw [show ((pw 1 : Nat) : Int) = 2 from rfl]
        have hst := bitstep p s' 1
        have hAl : (p &&& s') % 2 ^ 1 < 2 := Nat.mod_lt _ (by decide)
        generalize hA : (p &&& s') % 2 ^ 1 = A at *
        by_cases h1 : p / 2 ^ 1 % 2 = 1
        · have f1 : (((p : Int) / 2 % 2 == 1)) = true := by simp at h1 ⊢; omega
          by_cases h2 : s' / 2 ^ 1 % 2 = 1
          · have f2 : (((s' : Int) / 2 % 2 == 1)) = true := by simp at h2 ⊢; omega
            rw [if_pos ⟨h1, h2⟩] at hst
            have HST := Lib.hid hst
            clear hst h1 h2 hA
            go_wp2
            go_round
            case rel => exact ⟨2, by omega, rfl, by rw [HST.out]; rfl⟩
            case measure => simp [intOf]
          · have f2 : (((s' : Int) / 2 % 2 == 1)) = false := by simp at h2 ⊢; omega
            rw [if_neg (fun h => h2 h.2)] at hst
            have HST := Lib.hid hst
            clear hst h1 h2 hA
            go_wp2
            go_round
            case rel => exact ⟨2, by omega, rfl, by rw [HST.out]; rfl⟩
            case measure => simp [intOf]
        · have f1 : (((p : Int) / 2 % 2 == 1)) = false := by simp at h1 ⊢; omega
          rw [if_neg (fun h => h1 h.1)] at hst
          have HST := Lib.hid hst
          clear hst h1 hA
          go_wp2
          go_round
          case rel => exact ⟨2, by omega, rfl, by rw [HST.out]; rfl⟩
          case measure => simp [intOf]
      · rw [show ((pw 2 : Nat) : Int) = 4 from rfl]
        have hst := bitstep p s' 2
        have hAl : (p &&& s') % 2 ^ 2 < 4 := Nat.mod_lt _ (by decide)
        generalize hA : (p &&& s') % 2 ^ 2 = A at *
        by_cases h1 : p / 2 ^ 2 % 2 = 1
        · have f1 : (((p : Int) / 4 % 2 == 1)) = true := by simp at h1 ⊢; omega
          by_cases h2 : s' / 2 ^ 2 % 2 = 1
          · have f2 : (((s' : Int) / 4 % 2 == 1)) = true := by simp at h2 ⊢; omega
            rw [if_pos ⟨h1, h2⟩] at hst
            have HST := Lib.hid hst
            clear hst h1 h2 hA
            go_wp2
            go_round
            case rel => exact ⟨3, by omega, rfl, by rw [HST.out]; rfl⟩
            case measure => simp [intOf]
          · have f2 : (((s' : Int) / 4 % 2 == 1)) = false := by simp at h2 ⊢; omega
            rw [if_neg (fun h => h2 h.2)] at hst
            have HST := Lib.hid hst
            clear hst h1 h2 hA
            go_wp2
            go_round
            case rel => exact ⟨3, by omega, rfl, by rw [HST.out]; rfl⟩
            case measure => simp [intOf]
        · have f1 : (((p : Int) / 4 % 2 == 1)) = false := by simp at h1 ⊢; omega
          rw [if_neg (fun h => h1 h.1)] at hst
          have HST := Lib.hid hst
          clear hst h1 hA
          go_wp2
          go_round
          case rel => exact ⟨3, by omega, rfl, by rw [HST.out]; rfl⟩
          case measure => simp [intOf]
      · rw [show ((pw 3 : Nat) : Int) = 8 from rfl]
        have hst := bitstep p s' 3
        have hAl : (p &&& s') % 2 ^ 3 < 8 := Nat.mod_lt _ (by decide)
        generalize hA : (p &&& s') % 2 ^ 3 = A at *
        by_cases h1 : p / 2 ^ 3 % 2 = 1
        · have f1 : (((p : Int) / 8 % 2 == 1)) = true := by simp at h1 ⊢; omega
          by_cases h2 : s' / 2 ^ 3 % 2 = 1
          · have f2 : (((s' : Int) / 8 % 2 == 1)) = true := by simp at h2 ⊢; omega
            rw [if_pos ⟨h1, h2⟩] at hst
            have HST := Lib.hid hst
            clear hst h1 h2 hA
            go_wp2
            go_round
            case rel => exact ⟨4, by omega, rfl, by rw [HST.out]; rfl⟩
            case measure => simp [intOf]
          · have f2 : (((s' : Int) / 8 % 2 == 1)) = false := by simp at h2 ⊢; omega
            rw [if_neg (fun h => h2 h.2)] at hst
            have HST := Lib.hid hst
            clear hst h1 h2 hA
            go_wp2
            go_round
            case rel => exact ⟨4, by omega, rfl, by rw [HST.out]; rfl⟩
            case measure => simp [intOf]
        · have f1 : (((p : Int) / 8 % 2 == 1)) = false := by simp at h1 ⊢; omega
          rw [if_neg (fun h => h1 h.1)] at hst
          have HST := Lib.hid hst
          clear hst h1 hA
          go_wp2
          go_round
          case rel => exact ⟨4, by omega, rfl, by rw [HST.out]; rfl⟩
          case measure => simp [intOf]
      · rw [show ((pw 4 : Nat) : Int) = 16 from rfl]
        have hst := bitstep p s' 4
        have hAl : (p &&& s') % 2 ^ 4 < 16 := Nat.mod_lt _ (by decide)
        generalize hA : (p &&& s') % 2 ^ 4 = A at *
        by_cases h1 : p / 2 ^ 4 % 2 = 1
        · have f1 : (((p : Int) / 16 % 2 == 1)) = true := by simp at h1 ⊢; omega
          by_cases h2 : s' / 2 ^ 4 % 2 = 1
          · have f2 : (((s' : Int) / 16 % 2 == 1)) = true := by simp at h2 ⊢; omega
            rw [if_pos ⟨h1, h2⟩] at hst
            have HST := Lib.hid hst
            clear hst h1 h2 hA
            go_wp2
            go_round
            case rel => exact ⟨5, by omega, rfl, by rw [HST.out]; rfl⟩
            case measure => simp [intOf]
          · have f2 : (((s' : Int) / 16 % 2 == 1)) = false := by simp at h2 ⊢; omega
            rw [if_neg (fun h => h2 h.2)] at hst
            have HST := Lib.hid hst
            clear hst h1 h2 hA
            go_wp2
            go_round
            case rel => exact ⟨5, by omega, rfl, by rw [HST.out]; rfl⟩
            case measure => simp [intOf]
        · have f1 : (((p : Int) / 16 % 2 == 1)) = false := by simp at h1 ⊢; omega
          rw [if_neg (fun h => h1 h.1)] at hst
          have HST := Lib.hid hst
          clear hst h1 hA
          go_wp2
          go_round
          case rel => exact ⟨5, by omega, rfl, by rw [HST.out]; rfl⟩
          case measure => simp [intOf]
      · rw [show ((pw 5 : Nat) : Int) = 32 from rfl]
        have hst := bitstep p s' 5
        have hAl : (p &&& s') % 2 ^ 5 < 32 := Nat.mod_lt _ (by decide)
        generalize hA : (p &&& s') % 2 ^ 5 = A at *
        by_cases h1 : p / 2 ^ 5 % 2 = 1
        · have f1 : (((p : Int) / 32 % 2 == 1)) = true := by simp at h1 ⊢; omega
          by_cases h2 : s' / 2 ^ 5 % 2 = 1
          · have f2 : (((s' : Int) / 32 % 2 == 1)) = true := by simp at h2 ⊢; omega
            rw [if_pos ⟨h1, h2⟩] at hst
            have HST := Lib.hid hst
            clear hst h1 h2 hA
            go_wp2
            go_round
            case rel => exact ⟨6, by omega, rfl, by rw [HST.out]; rfl⟩
            case measure => simp [intOf]
          · have f2 : (((s' : Int) / 32 % 2 == 1)) = false := by simp at h2 ⊢; omega
            rw [if_neg (fun h => h2 h.2)] at hst
            have HST := Lib.hid hst
            clear hst h1 h2 hA
            go_wp2
            go_round
            case rel => exact ⟨6, by omega, rfl, by rw [HST.out]; rfl⟩
            case measure => simp [intOf]
        · have f1 : (((p : Int) / 32 % 2 == 1)) = false := by simp at h1 ⊢; omega
          rw [if_neg (fun h => h1 h.1)] at hst
          have HST := Lib.hid hst
          clear hst h1 hA
          go_wp2
          go_round
          case rel => exact ⟨6, by omega, rfl, by rw [HST.out]; rfl⟩
          case measure => simp [intOf]
      · rw [show ((pw 6 : Nat) : Int) = 64 from rfl]
        have hst := bitstep p s' 6
        have hAl : (p &&& s') % 2 ^ 6 < 64 := Nat.mod_lt _ (by decide)
        generalize hA : (p &&& s') % 2 ^ 6 = A at *
        by_cases h1 : p / 2 ^ 6 % 2 = 1
        · have f1 : (((p : Int) / 64 % 2 == 1)) = true := by simp at h1 ⊢; omega
          by_cases h2 : s' / 2 ^ 6 % 2 = 1
          · have f2 : (((s' : Int) / 64 % 2 == 1)) = true := by simp at h2 ⊢; omega
            rw [if_pos ⟨h1, h2⟩] at hst
            have HST := Lib.hid hst
            clear hst h1 h2 hA
            go_wp2
            go_round
            case rel => exact ⟨7, by omega, rfl, by rw [HST.out]; rfl⟩
            case measure => simp [intOf]
          · have f2 : (((s' : Int) / 64 % 2 == 1)) = false := by simp at h2 ⊢; omega
            rw [if_neg (fun h => h2 h.2)] at hst
            have HST := Lib.hid hst
            clear hst h1 h2 hA
            go_wp2
            go_round
            case rel => exact ⟨7, by omega, rfl, by rw [HST.out]; rfl⟩
            case measure => simp [intOf]
        · have f1 : (((p : Int) / 64 % 2 == 1)) = false := by simp at h1 ⊢; omega
          rw [if_neg (fun h => h1 h.1)] at hst
          have HST := Lib.hid hst
          clear hst h1 hA
          go_wp2
          go_round
          case rel => exact ⟨7, by omega, rfl, by rw [HST.out]; rfl⟩
          case measure => simp [intOf]
      · rw [show ((pw 7 : Nat) : Int) = 128 from rfl]
        have hst := bitstep p s' 7
        have hAl : (p &&& s') % 2 ^ 7 < 128 := Nat.mod_lt _ (by decide)
        generalize hA : (p &&& s') % 2 ^ 7 = A at *
        by_cases h1 : p / 2 ^ 7 % 2 = 1
        · have f1 : (((p : Int) / 128 % 2 == 1)) = true := by simp at h1 ⊢; omega
          by_cases h2 : s' / 2 ^ 7 % 2 = 1
          · have f2 : (((s' : Int) / 128 % 2 == 1)) = true := by simp at h2 ⊢; omega
            rw [if_pos ⟨h1, h2⟩] at hst
            have HST := Lib.hid hst
            clear hst h1 h2 hA
            go_wp2
            go_round
            case rel => exact ⟨8, by omega, rfl, by rw [HST.out]; rfl⟩
            case measure => simp [intOf]
          · have f2 : (((s' : Int) / 128 % 2 == 1)) = false := by simp at h2 ⊢; omega
            rw [if_neg (fun h => h2 h.2)] at hst
            have HST := Lib.hid hst
            clear hst h1 h2 hA
            go_wp2
            go_round
            case rel => exact ⟨8, by omega, rfl, by rw [HST.out]; rfl⟩
            case measure => simp [intOf]
        · have f1 : (((p : Int) / 128 % 2 == 1)) = false := by simp at h1 ⊢; omega
          rw [if_neg (fun h => h1 h.1)] at hst
          have HST := Lib.hid hst
          clear hst h1 hA
          go_wp2
          go_round
          case rel => exact ⟨8, by omega, rfl, by rw [HST.out]; rfl⟩
          case measure => simp [intOf]
end Go.Proofs.Ytojjdhohhonheaa
