import Derived.Test.YtgmifaadlaigdaaGreatDoorE
namespace Go.Proofs.YtgmifaadlaigdaaGreatDoor
open Go.ChangeShapes Go.WideShapes Go.ChangeAt Go.RowKit
set_option linter.unusedVariables false
/-- a number of tens -/
def decN (f : Nat → Nat) : Nat → Nat
  | 0 => 0
  | k + 1 => 10 * decN f k + (f k - 48)
def digs (f : Nat → Nat) (m : Nat) : Prop := ∀ i, i < m → 48 ≤ f i ∧ f i ≤ 57
theorem decN_lt (f : Nat → Nat) : ∀ k, (∀ i, i < k → 48 ≤ f i ∧ f i ≤ 57) → decN f k < 10 ^ k
  | 0, _ => by rw [decN]; decide
  | k + 1, h => by
    have ih := decN_lt f k (fun i hi => h i (by omega))
    have := h k (by omega)
    rw [decN, Nat.pow_succ]
    omega
open Classical in
/-- a size of so many bytes: it, and whether it is one -/
noncomputable def szV (f : Nat → Nat) (m : Nat) : Nat × Bool := if (1 ≤ m ∧ ¬ (1 < m ∧ f 0 = 48)) ∧ digs f m then (decN f m, true) else (0, false)
theorem szV_no {f : Nat → Nat} {m : Nat} (h : ¬ ((1 ≤ m ∧ ¬ (1 < m ∧ f 0 = 48)) ∧ digs f m)) : szV f m = (0, false) := by unfold szV; rw [if_neg h]
theorem szV_yes {f : Nat → Nat} {m : Nat} (h : (1 ≤ m ∧ ¬ (1 < m ∧ f 0 = 48)) ∧ digs f m) : szV f m = (decN f m, true) := by unfold szV; rw [if_pos h]
theorem str_get (f : Nat → Nat) (m k : Nat) (hf : ∀ i, i < m → f i < 256) (hk : k < (strN f m).size) : ((strN f m)[k]'hk).toNat = f k := by
  have h : k < m := by rw [strN_size] at hk; exact hk
  rw [← bb_eq, bb_strN f m k h (hf k h)]
def R57 (f : Nat → Nat) (w : World) (m : Nat) (v i : Value) (wr : World) : Prop := w = wr ∧ ∃ k : Nat, k ≤ m ∧ v = .int .i64 (decN f k : Int) ∧ i = .int .i64 (k : Int) ∧ ∀ j, j < k → 48 ≤ f j ∧ f j ≤ 57
set_option maxRecDepth 100000 in
set_option maxHeartbeats 4000000 in
theorem c57 (b o n c : Nat) (f : Nat → Nat) (w : World) (hB : Bs w b o n f) (hn : n ≤ 16) (hc : n ≤ c) : Calls Tryz.prog 57 #[.slice (some ⟨b, o, none⟩) n c] w fun e w' => e = .returned (.tuple #[.int .i64 ((szV f (trimN f n)).1 : Int), .bool (szV f (trimN f n)).2]) ∧ w = w' := by
  have K58 := Lib.hid (c58 b o n c f w hB (by omega) hc)
  have hm := trimN_le f n
  have hf : ∀ i, i < trimN f n → f i < 256 := fun i hi => (hB.2 i (by omega)).1
  have hget := fun k hk => str_get f (trimN f n) k hf hk
  have hsz := strN_size f (trimN f n)
  clear hB
  generalize trimN f n = m at *
  generalize strN f m = s at *
  have hget2 : ∀ k (hk : k < s.size), (s[k]'hk).toNat = f k := hget
  clear hget
  have HG := Lib.hid hget2
  have HF := Lib.hid hf
  clear hget2 hf
  have hss : s.size ≤ 16 := by omega
  have hemp : (s.toList == []) = decide (m = 0) := by
    rw [ByteArray.toList_eq, Bool.eq_iff_iff]
    obtain ⟨⟨l⟩⟩ := s
    cases l with
    | nil => have : m = 0 := by rw [← hsz]; rfl
             simp [this]
    | cons x t => have : m ≠ 0 := by rw [← hsz]; simp [ByteArray.size]
                  simp [this]
  by_cases h0 : m = 0
  · have HW := Lib.hid (szV_no (f := f) (m := m) (fun h => by omega))
    rw [decide_eq_true h0] at hemp
    clear h0 hsz hm
    go_enter Tryz.func57, Tryz.ntmps57
    go_wp2_with fail
    refine (K58.out).mono ?_
    rintro _ _ ⟨rfl, rfl⟩
    go_wp2_with fail
    go_ret2
    exact ⟨by rw [HW.out]; rfl, rfl⟩
  · rw [decide_eq_false h0] at hemp
    have hpos : 0 < s.size := by omega
    have g0 := HG.out 0 hpos
    by_cases h1 : 1 < m ∧ f 0 = 48
    · have HW := Lib.hid (szV_no (f := f) (m := m) (fun h => h.1.2 h1))
      have b1 : decide ((1 : Int) < (s.size : Int)) = true := by rw [decide_eq_true]; omega
      have b2 : ((f 0 : Int) == 48) = true := by simp; omega
      clear h0 h1 hsz hm
      generalize f 0 = f0 at *
      go_enter Tryz.func57, Tryz.ntmps57
      go_wp2_with fail
      refine (K58.out).mono ?_
      rintro _ _ ⟨rfl, rfl⟩
      go_wp2_with fail
      go_ret2
      exact ⟨by rw [HW.out]; rfl, rfl⟩
    · have HY : Hid (digs f m → szV f m = (decN f m, true)) := Lib.hid fun h => szV_yes ⟨⟨by omega, h1⟩, h⟩
      have HNO : Hid (¬ digs f m → szV f m = (0, false)) := Lib.hid fun h => szV_no (fun q => h q.2)
      have HSZ := Lib.hid hsz
      have hb : (decide ((1 : Int) < (s.size : Int)) = false) ∨ (decide ((1 : Int) < (s.size : Int)) = true ∧ ((f 0 : Int) == 48) = false) := by
        by_cases h : 1 < m
        · exact Or.inr ⟨by rw [decide_eq_true]; omega, by
            have : f 0 ≠ 48 := fun e => h1 ⟨h, e⟩
            simp; omega⟩
        · exact Or.inl (by rw [decide_eq_false]; omega)
      have HR : Hid (∀ k, k < s.size → k < m) := Lib.hid fun k hk => by omega
      have HR2 : Hid (∀ k, ¬ k < s.size → k ≤ s.size → k = m) := Lib.hid fun k hk h => by omega
      clear h0 h1 hsz hm
      generalize f 0 = f0 at *
      rcases hb with b1 | ⟨b1, b2⟩
      all_goals
        go_enter Tryz.func57, Tryz.ntmps57
        go_wp2_with fail
        refine (K58.out).mono ?_
        rintro _ _ ⟨rfl, rfl⟩
        go_wp2_with fail
        go_loopw [5, 6] (fun v i wr => R57 f w s.size v i wr) (fun _ i _ => s.size - (intOf i).toNat)
        case atStart => exact ⟨rfl, 0, Nat.zero_le _, rfl, rfl, fun i hi => absurd hi (by omega)⟩
        case round =>
          obtain ⟨rfl, k, hk, rfl, rfl, hin⟩ := hrel
          have HIN := Lib.hid hin
          have hdn : decN f k ≤ 9999999999999999 := by
            have h1 := decN_lt f k hin
            have h2 : 10 ^ k ≤ 10 ^ 16 := Nat.pow_le_pow_right (by decide) (by omega)
            omega
          clear hin
          by_cases hlt : k < s.size
          · have gk := HG.out k hlt
            have HK := Lib.hid (HR.out k hlt)
            have HDN : Hid (decN f (k + 1) = 10 * decN f k + (f k - 48)) := Lib.hid rfl
            by_cases hd : 48 ≤ f k ∧ f k ≤ 57
            · have HS : Hid (∀ i, i < k + 1 → 48 ≤ f i ∧ f i ≤ 57) := Lib.hid fun i hi => by
                by_cases e : i = k
                · rw [e]; exact hd
                · exact HIN.out i (by omega)
              obtain ⟨d1, d2⟩ := hd
              have q1 : decide ((f k : Int) < 48) = false := by rw [decide_eq_false]; omega
              have q2 : decide ((57 : Int) < (f k : Int)) = false := by rw [decide_eq_false]; omega
              have HLT := Lib.hid hlt
              generalize decN f k = dk at *
              generalize f k = fk at *
              go_wp2_with fail
              go_roundw
              case rel => exact ⟨rfl, k + 1, HLT.out, by rw [HDN.out]; go_num, by go_num, HS.out⟩
              case measure => simp [intOf]; have := HLT.out; omega
            · have HW := Lib.hid (HNO.out (fun h => hd (h k HK.out)))
              have hq : decide ((f k : Int) < 48) = true ∨ (decide ((f k : Int) < 48) = false ∧ decide ((57 : Int) < (f k : Int)) = true) := by
                by_cases h : f k < 48
                · exact Or.inl (by rw [decide_eq_true]; omega)
                · exact Or.inr ⟨by rw [decide_eq_false]; omega, by rw [decide_eq_true]; omega⟩
              clear hd
              generalize f k = fk at *
              rcases hq with q1 | ⟨q1, q2⟩
              all_goals
                go_wp2_with fail
                go_ret2
                exact ⟨by rw [HW.out]; rfl, rfl⟩
          · have hkm := HR2.out k hlt hk
            have HW := Lib.hid (HY.out (fun i hi => HIN.out i (by omega)))
            have HE : Hid (decN f k = decN f m) := Lib.hid (by rw [hkm])
            clear hkm
            go_wp2_with fail
            go_ret2
            exact ⟨by rw [HW.out, ← HE.out]; rfl, rfl⟩
end Go.Proofs.YtgmifaadlaigdaaGreatDoor
