import Derived.Test.YtblfnjdbihhglaaGreatDoorLB
import Derived.Laws.BitsAllLaws
namespace Go.Proofs.YtblfnjdbihhglaaGreatDoor
open Go.ChangeShapes Go.WideShapes Go.ChangeAt Go.RowKit
open Li (bb bb_lt bb_eq wd inW size0)
set_option linter.unusedVariables false
set_option linter.unusedSimpArgs false
def smB (b : Nat) : Bool := decide (97 ≤ b) && decide (b ≤ 122)
def dgB (b : Nat) : Bool := decide (48 ≤ b) && decide (b ≤ 57)
/-- may a byte stand in a name? -/
def nmc (b : Nat) : Bool := smB b || (dgB b || decide (b = 95))
open Classical in
/-- is a text a name? -/
noncomputable def nameB (s : ByteArray) : Bool := decide (1 ≤ s.size ∧ s.size ≤ 16 ∧ smB (bb s 0) = true ∧ ∀ i, i < s.size → nmc (bb s i) = true)
/-- .. a symbol? -/
noncomputable def symB (s : ByteArray) : Bool := wd s && decide (s.size ≤ 32)
theorem c50 (b : Nat) (w : World) : Calls Tryz.prog 50 #[.int .u8 (b : Int)] w fun e w' => e = .returned (.bool (smB b)) ∧ w = w' := by
  have hq : smB b = (decide ((97 : Int) ≤ (b : Int)) && decide ((b : Int) ≤ 122)) := by unfold smB; rw [Bool.eq_iff_iff]; simp; omega
  rw [hq]
  obtain ⟨b1, e1⟩ : ∃ x, decide ((97 : Int) ≤ (b : Int)) = x := ⟨_, rfl⟩
  obtain ⟨b2, e2⟩ : ∃ x, decide ((b : Int) ≤ 122) = x := ⟨_, rfl⟩
  rw [e1, e2]
  clear hq
  cases b1
  all_goals
    go_enter Tryz.func50, Tryz.ntmps50
    go_wp2
    go_ret
    exact ⟨rfl, rfl⟩
theorem c51 (b : Nat) (w : World) : Calls Tryz.prog 51 #[.int .u8 (b : Int)] w fun e w' => e = .returned (.bool (dgB b)) ∧ w = w' := by
  have hq : dgB b = (decide ((48 : Int) ≤ (b : Int)) && decide ((b : Int) ≤ 57)) := by unfold dgB; rw [Bool.eq_iff_iff]; simp; omega
  rw [hq]
  obtain ⟨b1, e1⟩ : ∃ x, decide ((48 : Int) ≤ (b : Int)) = x := ⟨_, rfl⟩
  obtain ⟨b2, e2⟩ : ∃ x, decide ((b : Int) ≤ 57) = x := ⟨_, rfl⟩
  rw [e1, e2]
  clear hq
  cases b1
  all_goals
    go_enter Tryz.func51, Tryz.ntmps51
    go_wp2
    go_ret
    exact ⟨rfl, rfl⟩
theorem nameB_no (s : ByteArray) (h : ¬ (1 ≤ s.size ∧ s.size ≤ 16 ∧ smB (bb s 0) = true ∧ ∀ i, i < s.size → nmc (bb s i) = true)) : nameB s = false := by
  unfold nameB; exact decide_eq_false h
theorem nameB_yes (s : ByteArray) (h : 1 ≤ s.size ∧ s.size ≤ 16 ∧ smB (bb s 0) = true ∧ ∀ i, i < s.size → nmc (bb s i) = true) : nameB s = true := by
  unfold nameB; exact decide_eq_true h
set_option maxHeartbeats 4000000 in
theorem c28 (s : ByteArray) (hs : s.size ≤ 9223372036854775807) (w : World) : Calls Tryz.prog 28 #[.string s] w fun e w' => e = .returned (.bool (nameB s)) ∧ w = w' := by
  have K50 := Lib.hid c50
  have K51 := Lib.hid c51
  by_cases h0 : s.size < 1
  · have HW := Lib.hid (nameB_no s (fun h => by omega))
    have t0 : decide ((s.size : Int) < 1) = true := by simp; omega
    clear h0
    go_enter Tryz.func28, Tryz.ntmps28
    go_wp2_with fail
    go_ret
    exact ⟨by rw [HW.out]; rfl, rfl⟩
  have t0 : decide ((s.size : Int) < 1) = false := by simp; omega
  by_cases h16 : 16 < s.size
  · have HW := Lib.hid (nameB_no s (fun h => by omega))
    have t1 : decide ((16 : Int) < (s.size : Int)) = true := by simp; omega
    clear h0 h16
    go_enter Tryz.func28, Tryz.ntmps28
    go_wp2_with fail
    go_ret
    exact ⟨by rw [HW.out]; rfl, rfl⟩
  have t1 : decide ((16 : Int) < (s.size : Int)) = false := by simp; omega
  have hpos : 0 < s.size := by omega
  have he : (s[0]'hpos).toNat = bb s 0 := (bb_eq s 0 hpos).symm
  obtain ⟨v0, hv0⟩ : ∃ v, bb s 0 = v := ⟨_, rfl⟩
  rw [hv0] at he
  have HP := Lib.hid hpos
  have H16 := Lib.hid h16
  clear h16 h0
  cases hsm : smB v0
  · have HW := Lib.hid (nameB_no s (fun h => by rw [hv0, hsm] at h; cases h.2.2.1))
    have HSM := Lib.hid hsm
    clear hv0 hsm
    go_enter Tryz.func28, Tryz.ntmps28
    go_wp2_with fail
    refine (K50.out _ _).mono ?_
    rintro _ _ ⟨rfl, rfl⟩
    rw [HSM.out]
    go_wp2_with fail
    go_ret
    exact ⟨by rw [HW.out]; rfl, rfl⟩
  have HSM := Lib.hid hsm
  have HV0 := Lib.hid hv0
  clear hv0 hsm
  go_enter Tryz.func28, Tryz.ntmps28
  go_wp2_with fail
  refine (K50.out _ _).mono ?_
  rintro _ _ ⟨rfl, rfl⟩
  rw [HSM.out]
  clear he hpos
  go_wp2_with fail
  go_loopw [20] (fun i wr => wr = w ∧ ∃ k : Nat, k ≤ s.size ∧ i = .int .i64 (k : Int) ∧ ∀ j, j < k → nmc (bb s j) = true) (fun i _ => s.size - (intOf i).toNat)
  case atStart => exact ⟨rfl, 0, by omega, rfl, fun i hi => absurd hi (by omega)⟩
  case round =>
    obtain ⟨rfl, k, hk, rfl, hin⟩ := hrel
    have HIN := Lib.hid hin
    clear hin
    by_cases hlt : k < s.size
    · have he : (s[k]'hlt).toNat = bb s k := (bb_eq s k hlt).symm
      have HS : Hid (nmc (bb s k) = true → ∀ i, i < k + 1 → nmc (bb s i) = true) := Lib.hid fun h i hi => by
        by_cases e : i = k
        · rw [e]; exact h
        · exact HIN.out i (by omega)
      have HN : Hid (nmc (bb s k) = false → nameB s = false) := Lib.hid fun h => nameB_no s (fun hh => by have := hh.2.2.2 k hlt; rw [h] at this; cases this)
      obtain ⟨v, hv⟩ : ∃ v, bb s k = v := ⟨_, rfl⟩
      rw [hv] at he HS HN
      have HLT := Lib.hid hlt
      clear hv hk
      cases h1 : smB v
      · cases h2 : dgB v
        · by_cases h3 : v = 95
          · have b1 : ((v : Int) != 95) = false := by simp [h3]
            have HX := Lib.hid (HS.out (by unfold nmc; rw [h1, h2, h3]; rfl))
            have H1 := Lib.hid h1
            have H2 := Lib.hid h2
            clear h1 h2 h3
            go_wp2_with fail
            refine (K50.out _ _).mono ?_
            rintro _ _ ⟨rfl, rfl⟩
            rw [H1.out]
            go_wp2_with fail
            refine (K51.out _ _).mono ?_
            rintro _ _ ⟨rfl, rfl⟩
            rw [H2.out]
            go_wp2_with fail
            go_roundw
            case rel => exact ⟨trivial, k + 1, HLT.out, by go_num, HX.out⟩
            case measure => simp [intOf]; have := HLT.out; omega
          · have b1 : ((v : Int) != 95) = true := by simp; omega
            have HX := Lib.hid (HN.out (by unfold nmc; rw [h1, h2, decide_eq_false h3]; rfl))
            have H1 := Lib.hid h1
            have H2 := Lib.hid h2
            clear h1 h2 h3
            go_wp2_with fail
            refine (K50.out _ _).mono ?_
            rintro _ _ ⟨rfl, rfl⟩
            rw [H1.out]
            go_wp2_with fail
            refine (K51.out _ _).mono ?_
            rintro _ _ ⟨rfl, rfl⟩
            rw [H2.out]
            go_wp2_with fail
            go_ret
            exact ⟨by rw [HX.out]; rfl, rfl⟩
        · have HX := Lib.hid (HS.out (by unfold nmc; rw [h1, h2]; rfl))
          have H1 := Lib.hid h1
          have H2 := Lib.hid h2
          clear h1 h2
          go_wp2_with fail
          refine (K50.out _ _).mono ?_
          rintro _ _ ⟨rfl, rfl⟩
          rw [H1.out]
          go_wp2_with fail
          refine (K51.out _ _).mono ?_
          rintro _ _ ⟨rfl, rfl⟩
          rw [H2.out]
          go_wp2_with fail
          go_roundw
          case rel => exact ⟨trivial, k + 1, HLT.out, by go_num, HX.out⟩
          case measure => simp [intOf]; have := HLT.out; omega
      · have HX := Lib.hid (HS.out (by unfold nmc; rw [h1]; rfl))
        have H1 := Lib.hid h1
        clear h1
        go_wp2_with fail
        refine (K50.out _ _).mono ?_
        rintro _ _ ⟨rfl, rfl⟩
        rw [H1.out]
        go_wp2_with fail
        go_roundw
        case rel => exact ⟨trivial, k + 1, HLT.out, by go_num, HX.out⟩
        case measure => simp [intOf]; have := HLT.out; omega
    · have HW := Lib.hid (nameB_yes s ⟨HP.out, Nat.le_of_not_lt H16.out, by rw [HV0.out]; exact HSM.out, fun i hi => HIN.out i (by omega)⟩)
      clear hk
      go_wp2_with fail
      go_ret
      exact ⟨by rw [HW.out]; rfl, rfl⟩
end Go.Proofs.YtblfnjdbihhglaaGreatDoor
namespace Go.Proofs.YtblfnjdbihhglaaGreatDoor
open Go.ChangeShapes Go.WideShapes Go.ChangeAt Go.RowKit
set_option linter.unusedVariables false
set_option linter.unusedSimpArgs false
def w1 (a q : Nat) : Bool := decide (a ≤ 6) && (decide (q ≤ 4088) && decide (q % 8 = 0))
def w3 (a q : Nat) : Bool := decide (65280 ≤ a) && (decide (a % 4 = 0) && (decide (4 ≤ q) && (decide (q % 4 = 0) && decide (a + q ≤ 65536))))
/-- may an edge of a kind have that What? -/
def whatB (k wh : Nat) : Bool := if k = 1 then w1 (wh % 256) (wh / 256) else if k = 3 then w3 (wh % 65536) (wh / 65536) else if k = 4 then decide (wh = 1 ∨ wh = 3) else decide (wh = 0)
/-- .. that name? -/
noncomputable def nmB (k : Nat) (s : ByteArray) : Bool := if k = 3 ∨ k = 4 then nameB s else symB s
theorem mask8 (n : Nat) (h : n < 4294967296) : bits .and .u32 (n : Int) 255 = ((n % 256 : Nat) : Int) := by
  have := u32_and_nat n 255 h (by decide)
  rw [show ((255 : Nat) : Int) = 255 from rfl] at this
  rw [this, Nat.and_two_pow_sub_one_eq_mod n 8]
theorem mask16 (n : Nat) (h : n < 4294967296) : bits .and .u32 (n : Int) 65535 = ((n % 65536 : Nat) : Int) := by
  have := u32_and_nat n 65535 h (by decide)
  rw [show ((65535 : Nat) : Int) = 65535 from rfl] at this
  rw [this, Nat.and_two_pow_sub_one_eq_mod n 16]
theorem c53_1 (wh : Nat) (h : wh < 4294967296) (w : World) : Calls Tryz.prog 53 #[.int .u8 1, .int .u32 (wh : Int)] w fun e w' => e = .returned (.bool (w1 (wh % 256) (wh / 256))) ∧ w = w' := by
  have ha := mask8 wh h
  have hq : (wh : Int) / 256 = ((wh / 256 : Nat) : Int) := by omega
  have hql : wh / 256 < 16777216 := by omega
  have hal : wh % 256 < 256 := by omega
  generalize wh % 256 = a at *
  generalize wh / 256 = q at *
  go_enter Tryz.func53, Tryz.ntmps53
  go_wp2_with fail
  all_goals
    go_ret
    refine ⟨congrArg Ending.returned (congrArg Value.bool ?_), rfl⟩
    rw [Bool.eq_iff_iff]
    simp [w1]
    try omega
theorem c53_3 (wh : Nat) (h : wh < 4294967296) (w : World) : Calls Tryz.prog 53 #[.int .u8 3, .int .u32 (wh : Int)] w fun e w' => e = .returned (.bool (w3 (wh % 65536) (wh / 65536))) ∧ w = w' := by
  have ha := mask16 wh h
  have hq : (wh : Int) / 65536 = ((wh / 65536 : Nat) : Int) := by omega
  have hql : wh / 65536 < 65536 := by omega
  have hal : wh % 65536 < 65536 := by omega
  generalize wh % 65536 = a at *
  generalize wh / 65536 = q at *
  have hsum : IntKind.u32.wrap ((a : Int) + (q : Int)) = ((a + q : Nat) : Int) := by rw [IntKind.wrap_u32]; omega
  generalize hs : a + q = z at *
  go_enter Tryz.func53, Tryz.ntmps53
  go_wp2_with fail
  all_goals
    go_ret
    refine ⟨congrArg Ending.returned (congrArg Value.bool ?_), rfl⟩
    rw [Bool.eq_iff_iff]
    simp [w3]
    try omega
theorem c53 (k wh : Nat) (hk : k < 256) (h : wh < 4294967296) (w : World) : Calls Tryz.prog 53 #[.int .u8 (k : Int), .int .u32 (wh : Int)] w fun e w' => e = .returned (.bool (whatB k wh)) ∧ w = w' := by
  by_cases h1 : k = 1
  · subst h1; exact c53_1 wh h w
  by_cases h3 : k = 3
  · subst h3; exact c53_3 wh h w
  by_cases h4 : k = 4
  · subst h4
    have hq : whatB 4 wh = (decide (wh = 1 ∨ wh = 3)) := rfl
    rw [hq]
    clear hq
    go_enter Tryz.func53, Tryz.ntmps53
    go_wp2_with fail
    all_goals
      go_ret
      refine ⟨congrArg Ending.returned (congrArg Value.bool ?_), rfl⟩
      rw [Bool.eq_iff_iff]
      simp
      try omega
  have t1 : ((k : Int) == 1) = false := by simp; omega
  have t3 : ((k : Int) == 3) = false := by simp; omega
  have t4 : ((k : Int) == 4) = false := by simp; omega
  have hq : whatB k wh = decide (wh = 0) := by unfold whatB; rw [if_neg h1, if_neg h3, if_neg h4]
  rw [hq]
  clear hq h1 h3 h4
  go_enter Tryz.func53, Tryz.ntmps53
  go_wp2_with fail
  all_goals
    go_ret
    refine ⟨congrArg Ending.returned (congrArg Value.bool ?_), rfl⟩
    rw [Bool.eq_iff_iff]
    simp
    try omega
theorem c52 (k : Nat) (s : ByteArray) (hk : k < 256) (hs : s.size ≤ 9223372036854775807) (K28 : Hid (∀ w, Calls Tryz.prog 28 #[.string s] w fun e w' => e = .returned (.bool (nameB s)) ∧ w = w'))
    (K72 : Hid (∀ w, Calls Tryz.prog 72 #[.string s] w fun e w' => e = .returned (.bool (symB s)) ∧ w = w')) (w : World) : Calls Tryz.prog 52 #[.int .u8 (k : Int), .string s] w fun e w' => e = .returned (.bool (nmB k s)) ∧ w = w' := by
  have hn : Hid ((k = 3 ∨ k = 4) → nmB k s = nameB s) := Lib.hid fun h => by unfold nmB; rw [if_pos h]
  have hm : Hid (¬ (k = 3 ∨ k = 4) → nmB k s = symB s) := Lib.hid fun h => by unfold nmB; rw [if_neg h]
  generalize nmB k s = z at *
  generalize nameB s = y at *
  generalize symB s = x at *
  by_cases h3 : k = 3
  · have HE := Lib.hid (hn.out (Or.inl h3))
    subst h3
    go_enter Tryz.func52, Tryz.ntmps52
    go_wp2_with fail
    refine (K28.out _).mono ?_
    rintro _ _ ⟨rfl, rfl⟩
    go_wp2_with fail
    go_ret
    exact ⟨by rw [HE.out]; rfl, rfl⟩
  by_cases h4 : k = 4
  · have HE := Lib.hid (hn.out (Or.inr h4))
    subst h4
    go_enter Tryz.func52, Tryz.ntmps52
    go_wp2_with fail
    refine (K28.out _).mono ?_
    rintro _ _ ⟨rfl, rfl⟩
    go_wp2_with fail
    go_ret
    exact ⟨by rw [HE.out]; rfl, rfl⟩
  have HE := Lib.hid (hm.out (by omega))
  have t3 : ((k : Int) == 3) = false := by simp; omega
  have t4 : ((k : Int) == 4) = false := by simp; omega
  clear h3 h4
  go_enter Tryz.func52, Tryz.ntmps52
  go_wp2_with fail
  refine (K72.out _).mono ?_
  rintro _ _ ⟨rfl, rfl⟩
  go_wp2_with fail
  go_ret
  exact ⟨by rw [HE.out]; rfl, rfl⟩
end Go.Proofs.YtblfnjdbihhglaaGreatDoor
namespace Go.Proofs.YtblfnjdbihhglaaGreatDoor
open Go.ChangeShapes Go.WideShapes Go.ChangeAt Go.RowKit
open Li (bb bb_lt bb_eq wd inW size0)
set_option linter.unusedVariables false
set_option linter.unusedSimpArgs false
theorem symB_no (s : ByteArray) (h : ¬ (0 < s.size ∧ s.size ≤ 32 ∧ bb s 0 ≠ 35 ∧ ∀ i, i < s.size → inW (bb s i) = true)) : symB s = false := by
  unfold symB
  rw [Bool.and_eq_false_iff]
  by_cases h32 : s.size ≤ 32
  · left; unfold wd; exact decide_eq_false (fun hh => h ⟨hh.1, h32, hh.2⟩)
  · right; exact decide_eq_false h32
theorem symB_yes (s : ByteArray) (h : 0 < s.size ∧ s.size ≤ 32 ∧ bb s 0 ≠ 35 ∧ ∀ i, i < s.size → inW (bb s i) = true) : symB s = true := by
  unfold symB wd
  rw [decide_eq_true ⟨h.1, h.2.2⟩, decide_eq_true h.2.1]; rfl
set_option maxHeartbeats 4000000 in
theorem c72 (s : ByteArray) (hs : s.size ≤ 9223372036854775807) (w : World) : Calls Tryz.prog 72 #[.string s] w fun e w' => e = .returned (.bool (symB s)) ∧ w = w' := by
  by_cases h0 : s.size < 1
  · have HW := Lib.hid (symB_no s (fun h => by omega))
    have t0 : decide ((s.size : Int) < 1) = true := by simp; omega
    clear h0
    go_enter Tryz.func72, Tryz.ntmps72
    go_wp2_with fail
    go_ret
    exact ⟨by rw [HW.out]; rfl, rfl⟩
  have t0 : decide ((s.size : Int) < 1) = false := by simp; omega
  by_cases h16 : 32 < s.size
  · have HW := Lib.hid (symB_no s (fun h => by omega))
    have t1 : decide ((32 : Int) < (s.size : Int)) = true := by simp; omega
    clear h0 h16
    go_enter Tryz.func72, Tryz.ntmps72
    go_wp2_with fail
    go_ret
    exact ⟨by rw [HW.out]; rfl, rfl⟩
  have t1 : decide ((32 : Int) < (s.size : Int)) = false := by simp; omega
  have hpos : 0 < s.size := by omega
  have he : (s[0]'hpos).toNat = bb s 0 := (bb_eq s 0 hpos).symm
  obtain ⟨v0, hv0⟩ : ∃ v, bb s 0 = v := ⟨_, rfl⟩
  rw [hv0] at he
  have HP := Lib.hid hpos
  have H16 := Lib.hid h16
  clear h16 h0
  by_cases h35 : v0 = 35
  · have HW := Lib.hid (symB_no s (fun h => h.2.2.1 (by rw [hv0, h35])))
    have b0 : ((v0 : Int) == 35) = true := by simp [h35]
    clear hv0 h35
    go_enter Tryz.func72, Tryz.ntmps72
    go_wp2_with fail
    go_ret
    exact ⟨by rw [HW.out]; rfl, rfl⟩
  have b0 : ((v0 : Int) == 35) = false := by simp; omega
  have H35 := Lib.hid h35
  have HV0 := Lib.hid hv0
  clear hv0 h35
  go_enter Tryz.func72, Tryz.ntmps72
  go_wp2_with fail
  clear he hpos b0
  go_loopw [19] (fun i wr => wr = w ∧ ∃ k : Nat, k ≤ s.size ∧ i = .int .i64 (k : Int) ∧ ∀ j, j < k → inW (bb s j) = true) (fun i _ => s.size - (intOf i).toNat)
  case atStart => exact ⟨rfl, 0, by omega, rfl, fun i hi => absurd hi (by omega)⟩
  case round =>
    obtain ⟨rfl, k, hk, rfl, hin⟩ := hrel
    have HIN := Lib.hid hin
    clear hin
    by_cases hlt : k < s.size
    · have he : (s[k]'hlt).toNat = bb s k := (bb_eq s k hlt).symm
      have HS : Hid (inW (bb s k) = true → ∀ i, i < k + 1 → inW (bb s i) = true) := Lib.hid fun h i hi => by
        by_cases e : i = k
        · rw [e]; exact h
        · exact HIN.out i (by omega)
      have HN : Hid (inW (bb s k) = false → symB s = false) := Lib.hid fun h => symB_no s (fun hh => by have := hh.2.2.2 k hlt; rw [h] at this; cases this)
      obtain ⟨v, hv⟩ : ∃ v, bb s k = v := ⟨_, rfl⟩
      rw [hv] at he HS HN
      have HLT := Lib.hid hlt
      clear hv hk
      by_cases h1 : v < 33
      · have b1 : decide ((v : Int) < 33) = true := by simp; omega
        have HX := Lib.hid (HN.out (by unfold inW; simp; omega))
        clear h1
        go_wp2_with fail
        go_ret
        exact ⟨by rw [HX.out]; rfl, rfl⟩
      · have b1 : decide ((v : Int) < 33) = false := by simp; omega
        by_cases h2 : 126 < v
        · have b2 : decide ((126 : Int) < (v : Int)) = true := by simp; omega
          have HX := Lib.hid (HN.out (by unfold inW; simp; omega))
          clear h1 h2
          go_wp2_with fail
          go_ret
          exact ⟨by rw [HX.out]; rfl, rfl⟩
        · have b2 : decide ((126 : Int) < (v : Int)) = false := by simp; omega
          have HX := Lib.hid (HS.out (by unfold inW; simp; omega))
          clear h1 h2
          go_wp2_with fail
          go_roundw
          case rel => exact ⟨trivial, k + 1, HLT.out, by go_num, HX.out⟩
          case measure => simp [intOf]; have := HLT.out; omega
    · have HW := Lib.hid (symB_yes s ⟨HP.out, Nat.le_of_not_lt H16.out, by rw [HV0.out]; exact H35.out, fun i hi => HIN.out i (by omega)⟩)
      clear hk
      go_wp2_with fail
      go_ret
      exact ⟨by rw [HW.out]; rfl, rfl⟩
set_option maxHeartbeats 4000000 in
theorem c22 (s : ByteArray) (hs : s.size ≤ 9223372036854775807) (w : World) : Calls Tryz.prog 22 #[.string s] w fun e w' => e = .returned (.bool (nameB s)) ∧ w = w' := by
  go_enter Tryz.func22, Tryz.ntmps22
  go_wp2_with fail
  go_loopw [3] (fun i wr => wr = w ∧ ∃ k : Nat, k ≤ s.size ∧ i = .int .i64 (k : Int) ∧ ∀ j, j < k → nmc (bb s j) = true ∧ (j = 0 → smB (bb s 0) = true)) (fun i _ => s.size - (intOf i).toNat)
  case atStart => exact ⟨rfl, 0, by omega, rfl, fun i hi => absurd hi (by omega)⟩
  case round =>
    obtain ⟨rfl, k, hk, rfl, hin⟩ := hrel
    have HIN := Lib.hid hin
    clear hin
    by_cases hlt : k < s.size
    · have he : (s[k]'hlt).toNat = bb s k := (bb_eq s k hlt).symm
      have HS : Hid (nmc (bb s k) = true → (k = 0 → smB (bb s k) = true) → ∀ i, i < k + 1 → nmc (bb s i) = true ∧ (i = 0 → smB (bb s 0) = true)) := Lib.hid fun h h2 i hi => by
        by_cases e : i = k
        · rw [e]; exact ⟨h, fun e0 => by have := h2 e0; rw [e0] at this; exact this⟩
        · exact HIN.out i (by omega)
      have HN : Hid (nmc (bb s k) = false → nameB s = false) := Lib.hid fun h => nameB_no s (fun hh => by have := hh.2.2.2 k hlt; rw [h] at this; cases this)
      have HN0 : Hid (k = 0 → smB (bb s k) = false → nameB s = false) := Lib.hid fun h0 h => nameB_no s (fun hh => by have := hh.2.2.1; rw [h0] at h; rw [h] at this; cases this)
      obtain ⟨v, hv⟩ : ∃ v, bb s k = v := ⟨_, rfl⟩
      rw [hv] at he HS HN HN0
      have HLT := Lib.hid hlt
      clear hv hk
      have e1 : smB v = (decide (97 ≤ (v : Int)) && decide ((v : Int) ≤ 122)) := by unfold smB; rw [Bool.eq_iff_iff]; simp; omega
      have e2 : dgB v = (decide (48 ≤ (v : Int)) && decide ((v : Int) ≤ 57)) := by unfold dgB; rw [Bool.eq_iff_iff]; simp; omega
      have e3 : nmc v = (smB v || (dgB v || ((v : Int) == 95))) := by unfold nmc; congr 2; rw [Bool.eq_iff_iff]; simp; omega
      rw [e3] at HS HN
      rw [e1] at HS HN HN0
      rw [e2] at HS HN
      obtain ⟨x1, f1⟩ : ∃ x, decide (97 ≤ (v : Int)) = x := ⟨_, rfl⟩
      obtain ⟨x2, f2⟩ : ∃ x, decide ((v : Int) ≤ 122) = x := ⟨_, rfl⟩
      obtain ⟨x3, f3⟩ : ∃ x, decide (48 ≤ (v : Int)) = x := ⟨_, rfl⟩
      obtain ⟨x4, f4⟩ : ∃ x, decide ((v : Int) ≤ 57) = x := ⟨_, rfl⟩
      obtain ⟨x5, f5⟩ : ∃ x, ((v : Int) == 95) = x := ⟨_, rfl⟩
      rw [f1, f2, f3, f4, f5] at HS
      rw [f1, f2, f3, f4, f5] at HN
      rw [f1, f2] at HN0
      clear e1 e2 e3
      by_cases hk0 : k = 0
      · subst hk0
        have g0 : (((0 : Nat) : Int) == 0) = true := rfl
        cases x1 <;> cases x2 <;> cases x3 <;> cases x4 <;> cases x5
        all_goals first
          | (have HX := Lib.hid (HN0.out rfl rfl)
             go_wp2_with fail
             go_ret
             exact ⟨by rw [HX.out]; rfl, rfl⟩)
          | (have HX := Lib.hid (HS.out rfl (fun _ => rfl))
             go_wp2_with fail
             go_roundw
             case rel => exact ⟨trivial, 0 + 1, HLT.out, by go_num, HX.out⟩
             case measure => simp [intOf]; have := HLT.out; omega)
      · have g0 : ((k : Int) == 0) = false := by simp; omega
        cases x1 <;> cases x2 <;> cases x3 <;> cases x4 <;> cases x5
        all_goals first
          | (have HX := Lib.hid (HN.out rfl)
             go_wp2_with fail
             go_ret
             exact ⟨by rw [HX.out]; rfl, rfl⟩)
          | (have HX := Lib.hid (HS.out rfl (fun e => absurd e hk0))
             go_wp2_with fail
             go_roundw
             case rel => exact ⟨trivial, k + 1, HLT.out, by go_num, HX.out⟩
             case measure => simp [intOf]; have := HLT.out; omega)
    · have hks : k = s.size := by omega
      subst hks
      have HW : Hid (nameB s = (decide (1 ≤ (s.size : Int)) && decide ((s.size : Int) ≤ 16))) := Lib.hid (by
        by_cases h : 1 ≤ s.size ∧ s.size ≤ 16
        · rw [nameB_yes s ⟨h.1, h.2, (HIN.out 0 (by omega)).2 rfl, fun i hi => (HIN.out i hi).1⟩, decide_eq_true (by omega), decide_eq_true (by omega)]; rfl
        · rw [nameB_no s (fun hh => h ⟨hh.1, hh.2.1⟩)]
          symm
          rw [Bool.and_eq_false_iff]
          by_cases h1 : 1 ≤ s.size
          · right; exact decide_eq_false (by omega)
          · left; exact decide_eq_false (by omega))
      obtain ⟨x1, f1⟩ : ∃ x, decide (1 ≤ (s.size : Int)) = x := ⟨_, rfl⟩
      obtain ⟨x2, f2⟩ : ∃ x, decide ((s.size : Int) ≤ 16) = x := ⟨_, rfl⟩
      rw [f1, f2] at HW
      clear hk hlt
      cases x1 <;> cases x2
      all_goals
        go_wp2_with fail
        go_ret
        exact ⟨by rw [HW.out]; rfl, rfl⟩
theorem c49 (s : ByteArray) (hs : s.size ≤ 9223372036854775807) (w : World) : Calls Tryz.prog 49 #[.string s] w fun e w' => e = .returned (.bool (symB s)) ∧ w = w' := by
  have K := Lib.hid (Li.c30 s hs)
  have HQ : Hid (symB s = (wd s && decide ((s.size : Int) ≤ 32))) := Lib.hid (by unfold symB; congr 1; rw [Bool.eq_iff_iff]; simp; omega)
  obtain ⟨q, hq⟩ : ∃ q, wd s = q := ⟨_, rfl⟩
  rw [hq] at K HQ
  obtain ⟨x2, f2⟩ : ∃ x, decide ((s.size : Int) ≤ 32) = x := ⟨_, rfl⟩
  rw [f2] at HQ
  clear hq
  cases q
  all_goals
    go_enter Tryz.func49, Tryz.ntmps49
    go_wp2_with fail
    refine (K.out _).mono ?_
    rintro _ _ ⟨rfl, rfl⟩
    go_wp2_with fail
    go_ret
    exact ⟨by rw [HQ.out]; rfl, rfl⟩
end Go.Proofs.YtblfnjdbihhglaaGreatDoor
