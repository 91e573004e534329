import Derived.Test.YtblfnjdbihhglaaGreatDoorLB
namespace Go.Proofs.YtblfnjdbihhglaaGreatDoor
open Go.ChangeShapes Go.WideShapes Go.ChangeAt Go.RowKit
open Li (bb bb_lt bb_eq wd inW size0)
set_option linter.unusedVariables false
set_option linter.unusedSimpArgs false
def smB (b : Nat) : Bool := decide (97 ≤ b) && decide (b ≤ 122)
def dgB (b : Nat) : Bool := decide (48 ≤ b) && decide (b ≤ 57)
/-- may a byte stand in a name? -/
def nmc (b : Nat) : Bool := smB b || (dgB b || decide (b = 95))
open Classical in
/-- is a text a name? -/
noncomputable def nameB (s : ByteArray) : Bool := decide (1 ≤ s.size ∧ s.size ≤ 16 ∧ smB (bb s 0) = true ∧ ∀ i, i < s.size → nmc (bb s i) = true)
/-- .. a symbol? -/
noncomputable def symB (s : ByteArray) : Bool := wd s && decide (s.size ≤ 32)
theorem c50 (b : Nat) (w : World) : Calls Tryz.prog 50 #[.int .u8 (b : Int)] w fun e w' => e = .returned (.bool (smB b)) ∧ w = w' := by
  have hq : smB b = (decide ((97 : Int) ≤ (b : Int)) && decide ((b : Int) ≤ 122)) := by unfold smB; rw [Bool.eq_iff_iff]; simp; omega
  rw [hq]
  obtain ⟨b1, e1⟩ : ∃ x, decide ((97 : Int) ≤ (b : Int)) = x := ⟨_, rfl⟩
  obtain ⟨b2, e2⟩ : ∃ x, decide ((b : Int) ≤ 122) = x := ⟨_, rfl⟩
  rw [e1, e2]
  clear hq
  cases b1
  all_goals
    go_enter Tryz.func50, Tryz.ntmps50
    go_wp2
    go_ret
    exact ⟨rfl, rfl⟩
theorem c51 (b : Nat) (w : World) : Calls Tryz.prog 51 #[.int .u8 (b : Int)] w fun e w' => e = .returned (.bool (dgB b)) ∧ w = w' := by
  have hq : dgB b = (decide ((48 : Int) ≤ (b : Int)) && decide ((b : Int) ≤ 57)) := by unfold dgB; rw [Bool.eq_iff_iff]; simp; omega
  rw [hq]
  obtain ⟨b1, e1⟩ : ∃ x, decide ((48 : Int) ≤ (b : Int)) = x := ⟨_, rfl⟩
  obtain ⟨b2, e2⟩ : ∃ x, decide ((b : Int) ≤ 57) = x := ⟨_, rfl⟩
  rw [e1, e2]
  clear hq
  cases b1
  all_goals
    go_enter Tryz.func51, Tryz.ntmps51
    go_wp2
    go_ret
    exact ⟨rfl, rfl⟩
theorem nameB_no (s : ByteArray) (h : ¬ (1 ≤ s.size ∧ s.size ≤ 16 ∧ smB (bb s 0) = true ∧ ∀ i, i < s.size → nmc (bb s i) = true)) : nameB s = false := by
  unfold nameB; exact decide_eq_false h
theorem nameB_yes (s : ByteArray) (h : 1 ≤ s.size ∧ s.size ≤ 16 ∧ smB (bb s 0) = true ∧ ∀ i, i < s.size → nmc (bb s i) = true) : nameB s = true := by
  unfold nameB; exact decide_eq_true h
set_option maxHeartbeats 4000000 in
theorem c28 (s : ByteArray) (hs : s.size ≤ 9223372036854775807) (w : World) : Calls Tryz.prog 28 #[.string s] w fun e w' => e = .returned (.bool (nameB s)) ∧ w = w' := by
  have K50 := Lib.hid c50
  have K51 := Lib.hid c51
  by_cases h0 : s.size < 1
  · have HW := Lib.hid (nameB_no s (fun h => by omega))
    have t0 : decide ((s.size : Int) < 1) = true := by simp; omega
    clear h0
    go_enter Tryz.func28, Tryz.ntmps28
    go_wp2_with fail
    go_ret
    exact ⟨by rw [HW.out]; rfl, rfl⟩
  have t0 : decide ((s.size : Int) < 1) = false := by simp; omega
  by_cases h16 : 16 < s.size
  · have HW := Lib.hid (nameB_no s (fun h => by omega))
    have t1 : decide ((16 : Int) < (s.size : Int)) = true := by simp; omega
    clear h0 h16
    go_enter Tryz.func28, Tryz.ntmps28
    go_wp2_with fail
    go_ret
    exact ⟨by rw [HW.out]; rfl, rfl⟩
  have t1 : decide ((16 : Int) < (s.size : Int)) = false := by simp; omega
  have hpos : 0 < s.size := by omega
  have he : (s[0]'hpos).toNat = bb s 0 := (bb_eq s 0 hpos).symm
  obtain ⟨v0, hv0⟩ : ∃ v, bb s 0 = v := ⟨_, rfl⟩
  rw [hv0] at he
  have HP := Lib.hid hpos
  have H16 := Lib.hid h16
  clear h16 h0
  cases hsm : smB v0
  · have HW := Lib.hid (nameB_no s (fun h => by rw [hv0, hsm] at h; cases h.2.2.1))
    have HSM := Lib.hid hsm
    clear hv0 hsm
    go_enter Tryz.func28, Tryz.ntmps28
    go_wp2_with fail
    refine (K50.out _ _).mono ?_
    rintro _ _ ⟨rfl, rfl⟩
    rw [HSM.out]
    go_wp2_with fail
    go_ret
    exact ⟨by rw [HW.out]; rfl, rfl⟩
  have HSM := Lib.hid hsm
  have HV0 := Lib.hid hv0
  clear hv0 hsm
  go_enter Tryz.func28, Tryz.ntmps28
  go_wp2_with fail
  refine (K50.out _ _).mono ?_
  rintro _ _ ⟨rfl, rfl⟩
  rw [HSM.out]
  clear he hpos
  go_wp2_with fail
  go_loopw [20] (fun i wr => wr = w ∧ ∃ k : Nat, k ≤ s.size ∧ i = .int .i64 (k : Int) ∧ ∀ j, j < k → nmc (bb s j) = true) (fun i _ => s.size - (intOf i).toNat)
  case atStart => exact ⟨rfl, 0, by omega, rfl, fun i hi => absurd hi (by omega)⟩
  case round =>
    obtain ⟨rfl, k, hk, rfl, hin⟩ := hrel
    have HIN := Lib.hid hin
    clear hin
    by_cases hlt : k < s.size
    · have he : (s[k]'hlt).toNat = bb s k := (bb_eq s k hlt).symm
      have HS : Hid (nmc (bb s k) = true → ∀ i, i < k + 1 → nmc (bb s i) = true) := Lib.hid fun h i hi => by
        by_cases e : i = k
        · rw [e]; exact h
        · exact HIN.out i (by omega)
      have HN : Hid (nmc (bb s k) = false → nameB s = false) := Lib.hid fun h => nameB_no s (fun hh => by have := hh.2.2.2 k hlt; rw [h] at this; cases this)
      obtain ⟨v, hv⟩ : ∃ v, bb s k = v := ⟨_, rfl⟩
      rw [hv] at he HS HN
      have HLT := Lib.hid hlt
      clear hv hk
      cases h1 : smB v
      · cases h2 : dgB v
        · by_cases h3 : v = 95
          · have b1 : ((v : Int) != 95) = false := by simp [h3]
            have HX := Lib.hid (HS.out (by unfold nmc; rw [h1, h2, h3]; rfl))
            have H1 := Lib.hid h1
            have H2 := Lib.hid h2
            clear h1 h2 h3
            go_wp2_with fail
            refine (K50.out _ _).mono ?_
            rintro _ _ ⟨rfl, rfl⟩
            rw [H1.out]
            go_wp2_with fail
            refine (K51.out _ _).mono ?_
            rintro _ _ ⟨rfl, rfl⟩
            rw [H2.out]
            go_wp2_with fail
            go_roundw
            case rel => exact ⟨trivial, k + 1, HLT.out, by go_num, HX.out⟩
            case measure => simp [intOf]; have := HLT.out; omega
          · have b1 : ((v : Int) != 95) = true := by simp; omega
            have HX := Lib.hid (HN.out (by unfold nmc; rw [h1, h2, decide_eq_false h3]; rfl))
            have H1 := Lib.hid h1
            have H2 := Lib.hid h2
            clear h1 h2 h3
            go_wp2_with fail
            refine (K50.out _ _).mono ?_
            rintro _ _ ⟨rfl, rfl⟩
            rw [H1.out]
            go_wp2_with fail
            refine (K51.out _ _).mono ?_
            rintro _ _ ⟨rfl, rfl⟩
            rw [H2.out]
            go_wp2_with fail
            go_ret
            exact ⟨by rw [HX.out]; rfl, rfl⟩
        · have HX := Lib.hid (HS.out (by unfold nmc; rw [h1, h2]; rfl))
          have H1 := Lib.hid h1
          have H2 := Lib.hid h2
          clear h1 h2
          go_wp2_with fail
          refine (K50.out _ _).mono ?_
          rintro _ _ ⟨rfl, rfl⟩
          rw [H1.out]
          go_wp2_with fail
          refine (K51.out _ _).mono ?_
          rintro _ _ ⟨rfl, rfl⟩
          rw [H2.out]
          go_wp2_with fail
          go_roundw
          case rel => exact ⟨trivial, k + 1, HLT.out, by go_num, HX.out⟩
          case measure => simp [intOf]; have := HLT.out; omega
      · have HX := Lib.hid (HS.out (by unfold nmc; rw [h1]; rfl))
        have H1 := Lib.hid h1
        clear h1
        go_wp2_with fail
        refine (K50.out _ _).mono ?_
        rintro _ _ ⟨rfl, rfl⟩
        rw [H1.out]
        go_wp2_with fail
        go_roundw
        case rel => exact ⟨trivial, k + 1, HLT.out, by go_num, HX.out⟩
        case measure => simp [intOf]; have := HLT.out; omega
    · have HW := Lib.hid (nameB_yes s ⟨HP.out, Nat.le_of_not_lt H16.out, by rw [HV0.out]; exact HSM.out, fun i hi => HIN.out i (by omega)⟩)
      clear hk
      go_wp2_with fail
      go_ret
      exact ⟨by rw [HW.out]; rfl, rfl⟩
end Go.Proofs.YtblfnjdbihhglaaGreatDoor
