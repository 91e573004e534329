import Derived.Test.YtgmifaadlaigdaaGreatDoorOf
import Derived.Lib.IndexLaws
namespace Go.Proofs.YtgmifaadlaigdaaGreatDoor
open Go.ChangeShapes Go.WideShapes Go.ChangeAt Go.RowKit
set_option linter.unusedVariables false
/-- has the text that byte? -/
def hasB (s : ByteArray) (c : UInt8) : Bool := decide (0 ≤ Lib.indexByte s.data.toList c)
theorem bb_list (s : ByteArray) (i : Nat) (h : i < s.size) : s.data.toList[i]? = some (s[i]'h) := by
  have h2 : i < s.data.toList.length := by simpa using h
  rw [List.getElem?_eq_getElem h2]
  rfl
theorem has_no {s : ByteArray} {c : UInt8} (h : hasB s c = false) (i : Nat) (hi : i < s.size) : bb s i ≠ c.toNat := by
  have h1 : Lib.indexByte s.data.toList c = -1 := by
    have := Lib.indexByte_ge s.data.toList c
    have h2 : ¬ 0 ≤ Lib.indexByte s.data.toList c := of_decide_eq_false h
    omega
  have h2 := Lib.indexByte_none h1 i
  rw [bb_list s i hi] at h2
  rw [bb_eq s i hi]
  intro e
  exact h2 (by rw [UInt8.toNat_inj.mp e])
theorem has_yes {s : ByteArray} {c : UInt8} (h : hasB s c = true) : ∃ i, i < s.size ∧ bb s i = c.toNat := by
  have h2 : 0 ≤ Lib.indexByte s.data.toList c := of_decide_eq_true h
  obtain ⟨o, ho⟩ := Int.eq_ofNat_of_zero_le h2
  have h3 := (Lib.indexByte_some ho).1
  have h4 : o < s.size := by
    obtain ⟨h5, _⟩ := List.getElem?_eq_some_iff.mp h3
    simpa using h5
  rw [bb_list s o h4] at h3
  exact ⟨o, h4, by rw [bb_eq s o h4, Option.some.inj h3]⟩
theorem c60 (s : ByteArray) (c : UInt8) (w : World) : Calls Tryz.prog 60 #[.string s, .string ⟨#[c]⟩] w fun e w' => e = .returned (.bool (hasB s c)) ∧ w = w' :=
  (Tryz.strings_Contains_one s c w).mono fun _ _ ⟨h1, h2⟩ => ⟨h1, h2.symm⟩
theorem zeB_has (s : ByteArray) : zeB s = hasB s 0 := by
  unfold zeB
  cases h : hasB s 0
  · exact decide_eq_false (fun ⟨i, h1, h2⟩ => has_no h i h1 h2)
  · exact decide_eq_true (has_yes h)
set_option maxHeartbeats 4000000 in
theorem c39 (s : ByteArray) (w : World) : Calls Tryz.prog 39 #[.string s] w fun e w' => e = .returned (.bool (!decide (s.toList = []) && !zeB s)) ∧ w = w' := by
  have K60 := Lib.hid (c60 s 0)
  have HZ := Lib.hid (zeB_has s)
  go_enter Tryz.func39, Tryz.ntmps39
  rcases Bool.eq_false_or_eq_true (s.toList == []) with b0 | b0
  · have e0 : decide (s.toList = []) = true := by simpa using b0
    have E0 := Lib.hid e0
    clear e0
    go_wp2_with fail
    go_ret
    exact ⟨by rw [E0.out]; rfl, rfl⟩
  · have e0 : decide (s.toList = []) = false := by simpa using b0
    have E0 := Lib.hid e0
    clear e0
    generalize hasB s 0 = q at *
    go_wp2_with fail
    refine (K60.out _).mono ?_
    rintro _ _ ⟨rfl, rfl⟩
    go_wp2_with fail
    go_ret
    exact ⟨by rw [E0.out, HZ.out]; rfl, rfl⟩
theorem empty_size (s : ByteArray) : (s.toList == []) = decide (s.size = 0) := by
  have h : s.toList.length = s.size := by
    rw [ByteArray.toList_eq]; exact Array.length_toList
  cases hs : s.toList with
  | nil => rw [hs] at h; simp only [List.length_nil] at h; rw [← h]; rfl
  | cons a r =>
    rw [hs] at h
    simp only [List.length_cons] at h
    have e1 : (a :: r == []) = false := rfl
    rw [e1, decide_eq_false (by omega)]
set_option maxHeartbeats 4000000 in
theorem c38 (s : ByteArray) (hs : s.size ≤ 9223372036854775807) (w : World) : Calls Tryz.prog 38 #[.string s] w fun e w' => e = .returned (.bool (nmB s)) ∧ ∃ q, w' = w.drewN q := by
  have K60 := Lib.hid (c60 s 47)
  have HE := Lib.hid (empty_size s)
  have HN0 : Hid (¬ (1 ≤ s.size ∧ s.size ≤ 15) → nmB s = false) := Lib.hid (fun h => by unfold nmB; exact decide_eq_false (fun q => h q.1))
  have HN1 : Hid (∀ i, i < s.size → inN (bb s i) = false → nmB s = false) := Lib.hid (fun i hi h => by unfold nmB; exact decide_eq_false (fun q => by rw [q.2 i hi] at h; cases h))
  have HN2 : Hid ((1 ≤ s.size ∧ s.size ≤ 15) → (∀ i, i < s.size → inN (bb s i) = true) → nmB s = true) := Lib.hid (fun h1 h2 => by unfold nmB; exact decide_eq_true ⟨h1, h2⟩)
  have HH : Hid (hasB s 47 = true → nmB s = false) := Lib.hid (fun h => by
    obtain ⟨i, hi, e⟩ := has_yes h
    exact HN1.out i hi (by rw [e]; rfl))
  have HH2 : Hid (hasB s 47 = false → ∀ i, i < s.size → bb s i ≠ 47) := Lib.hid (fun h i hi => has_no h i hi)
  go_enter Tryz.func38, Tryz.ntmps38
  by_cases h0 : s.size = 0
  · have b0 : (s.toList == []) = true := by rw [HE.out]; exact decide_eq_true h0
    have HW := Lib.hid (HN0.out (by omega))
    clear h0
    go_wp2_with fail
    go_ret
    exact ⟨by rw [HW.out]; rfl, 0, rfl⟩
  · have b0 : (s.toList == []) = false := by rw [HE.out]; exact decide_eq_false h0
    by_cases h1 : 15 < s.size
    · have HW := Lib.hid (HN0.out (by omega))
      go_wp2_with fail
      go_ret
      exact ⟨by rw [HW.out]; rfl, 0, rfl⟩
    · obtain ⟨q, hq⟩ : ∃ q, hasB s 47 = q := ⟨_, rfl⟩
      rw [hq] at K60 HH HH2
      clear hq
      cases q
      · have HNO := Lib.hid (HH2.out rfl)
        go_wp2_with fail
        refine (K60.out _).mono ?_
        rintro _ _ ⟨rfl, rfl⟩
        go_wp2_with fail
        go_loopw [17] (fun i wr => wr = w ∧ ∃ k : Nat, k ≤ s.size ∧ i = .int .i64 (k : Int) ∧ ∀ j, j < k → inN (bb s j) = true) (fun i _ => s.size - (intOf i).toNat)
        case atStart => exact ⟨rfl, 0, by omega, rfl, fun i hi => absurd hi (by omega)⟩
        case round =>
          obtain ⟨rfl, k, hk, rfl, hin⟩ := hrel
          have HIN := Lib.hid hin
          clear hin
          by_cases hlt : k < s.size
          · have he : (s[k]'hlt).toNat = bb s k := (bb_eq s k hlt).symm
            have h47 := HNO.out k hlt
            by_cases hok : inN (bb s k) = true
            · have HS : Hid (∀ i, i < k + 1 → inN (bb s i) = true) := Lib.hid fun i hi => by
                by_cases e : i = k
                · rw [e]; exact hok
                · exact HIN.out i (by omega)
              have b1 : decide ((bb s k : Int) < 33) = false := by unfold inN at hok; simp at hok; simp; omega
              have b2 : decide ((126 : Int) < (bb s k : Int)) = false := by unfold inN at hok; simp at hok; simp; omega
              generalize bb s k = v at *
              clear hok h47
              go_wp2_with fail
              go_roundw
              case rel => exact ⟨trivial, k + 1, hlt, by go_num, HS.out⟩
              case measure => simp [intOf]; omega
            · have HW := Lib.hid (HN1.out k hlt (by simpa using hok))
              have hb : decide ((bb s k : Int) < 33) = true ∨ (decide ((bb s k : Int) < 33) = false ∧ decide ((126 : Int) < (bb s k : Int)) = true) := by
                unfold inN at hok; simp at hok
                by_cases h : bb s k < 33
                · exact Or.inl (by simp; omega)
                · exact Or.inr ⟨by simp; omega, by simp; omega⟩
              generalize bb s k = v at *
              clear hok h47
              rcases hb with b1 | ⟨b0', b1⟩
              all_goals
                go_wp2_with fail
                go_ret
                exact ⟨by rw [HW.out]; rfl, 0, rfl⟩
          · have HW := Lib.hid (HN2.out ⟨by omega, by omega⟩ (fun i hi => HIN.out i (by omega)))
            go_wp2_with fail
            go_ret
            exact ⟨by rw [HW.out]; rfl, 0, rfl⟩
      · have HW := Lib.hid (HH.out rfl)
        go_wp2_with fail
        refine (K60.out _).mono ?_
        rintro _ _ ⟨rfl, rfl⟩
        go_wp2_with fail
        go_ret
        exact ⟨by rw [HW.out]; rfl, 0, rfl⟩
end Go.Proofs.YtgmifaadlaigdaaGreatDoor
