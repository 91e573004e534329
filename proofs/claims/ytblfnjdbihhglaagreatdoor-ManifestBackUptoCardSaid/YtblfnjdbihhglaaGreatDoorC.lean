import Derived.Test.YtblfnjdbihhglaaGreatDoorA
import Derived.Laws.BitsAllLaws
namespace Go.Proofs.YtblfnjdbihhglaaGreatDoor
open Go.ChangeShapes Go.WideShapes Go.ChangeAt Go.RowKit
set_option linter.unusedVariables false
set_option linter.unusedSimpArgs false
def w1 (a q : Nat) : Bool := decide (a ≤ 6) && (decide (q ≤ 4088) && decide (q % 8 = 0))
def w3 (a q : Nat) : Bool := decide (65280 ≤ a) && (decide (a % 4 = 0) && (decide (4 ≤ q) && (decide (q % 4 = 0) && decide (a + q ≤ 65536))))
/-- may an edge of a kind have that What? -/
def whatB (k wh : Nat) : Bool := if k = 1 then w1 (wh % 256) (wh / 256) else if k = 3 then w3 (wh % 65536) (wh / 65536) else if k = 4 then decide (wh = 1 ∨ wh = 3) else decide (wh = 0)
/-- .. that name? -/
noncomputable def nmB (k : Nat) (s : ByteArray) : Bool := if k = 3 ∨ k = 4 then nameB s else symB s
theorem mask8 (n : Nat) (h : n < 4294967296) : bits .and .u32 (n : Int) 255 = ((n % 256 : Nat) : Int) := by
  have := u32_and_nat n 255 h (by decide)
  rw [show ((255 : Nat) : Int) = 255 from rfl] at this
  rw [this, Nat.and_two_pow_sub_one_eq_mod n 8]
theorem mask16 (n : Nat) (h : n < 4294967296) : bits .and .u32 (n : Int) 65535 = ((n % 65536 : Nat) : Int) := by
  have := u32_and_nat n 65535 h (by decide)
  rw [show ((65535 : Nat) : Int) = 65535 from rfl] at this
  rw [this, Nat.and_two_pow_sub_one_eq_mod n 16]
theorem c53_1 (wh : Nat) (h : wh < 4294967296) (w : World) : Calls Tryz.prog 53 #[.int .u8 1, .int .u32 (wh : Int)] w fun e w' => e = .returned (.bool (w1 (wh % 256) (wh / 256))) ∧ w = w' := by
  have ha := mask8 wh h
  have hq : (wh : Int) / 256 = ((wh / 256 : Nat) : Int) := by omega
  have hql : wh / 256 < 16777216 := by omega
  have hal : wh % 256 < 256 := by omega
  generalize wh % 256 = a at *
  generalize wh / 256 = q at *
  go_enter Tryz.func53, Tryz.ntmps53
  go_wp2_with fail
  all_goals
    go_ret
    refine ⟨congrArg Ending.returned (congrArg Value.bool ?_), rfl⟩
    rw [Bool.eq_iff_iff]
    simp [w1]
    try omega
theorem c53_3 (wh : Nat) (h : wh < 4294967296) (w : World) : Calls Tryz.prog 53 #[.int .u8 3, .int .u32 (wh : Int)] w fun e w' => e = .returned (.bool (w3 (wh % 65536) (wh / 65536))) ∧ w = w' := by
  have ha := mask16 wh h
  have hq : (wh : Int) / 65536 = ((wh / 65536 : Nat) : Int) := by omega
  have hql : wh / 65536 < 65536 := by omega
  have hal : wh % 65536 < 65536 := by omega
  generalize wh % 65536 = a at *
  generalize wh / 65536 = q at *
  have hsum : IntKind.u32.wrap ((a : Int) + (q : Int)) = ((a + q : Nat) : Int) := by rw [IntKind.wrap_u32]; omega
  generalize hs : a + q = z at *
  go_enter Tryz.func53, Tryz.ntmps53
  go_wp2_with fail
  all_goals
    go_ret
    refine ⟨congrArg Ending.returned (congrArg Value.bool ?_), rfl⟩
    rw [Bool.eq_iff_iff]
    simp [w3]
    try omega
theorem c53 (k wh : Nat) (hk : k < 256) (h : wh < 4294967296) (w : World) : Calls Tryz.prog 53 #[.int .u8 (k : Int), .int .u32 (wh : Int)] w fun e w' => e = .returned (.bool (whatB k wh)) ∧ w = w' := by
  by_cases h1 : k = 1
  · subst h1; exact c53_1 wh h w
  by_cases h3 : k = 3
  · subst h3; exact c53_3 wh h w
  by_cases h4 : k = 4
  · subst h4
    have hq : whatB 4 wh = (decide (wh = 1 ∨ wh = 3)) := rfl
    rw [hq]
    clear hq
    go_enter Tryz.func53, Tryz.ntmps53
    go_wp2_with fail
    all_goals
      go_ret
      refine ⟨congrArg Ending.returned (congrArg Value.bool ?_), rfl⟩
      rw [Bool.eq_iff_iff]
      simp
      try omega
  have t1 : ((k : Int) == 1) = false := by simp; omega
  have t3 : ((k : Int) == 3) = false := by simp; omega
  have t4 : ((k : Int) == 4) = false := by simp; omega
  have hq : whatB k wh = decide (wh = 0) := by unfold whatB; rw [if_neg h1, if_neg h3, if_neg h4]
  rw [hq]
  clear hq h1 h3 h4
  go_enter Tryz.func53, Tryz.ntmps53
  go_wp2_with fail
  all_goals
    go_ret
    refine ⟨congrArg Ending.returned (congrArg Value.bool ?_), rfl⟩
    rw [Bool.eq_iff_iff]
    simp
    try omega
theorem c52 (k : Nat) (s : ByteArray) (hk : k < 256) (hs : s.size ≤ 9223372036854775807) (K28 : Hid (∀ w, Calls Tryz.prog 28 #[.string s] w fun e w' => e = .returned (.bool (nameB s)) ∧ w = w'))
    (K72 : Hid (∀ w, Calls Tryz.prog 72 #[.string s] w fun e w' => e = .returned (.bool (symB s)) ∧ w = w')) (w : World) : Calls Tryz.prog 52 #[.int .u8 (k : Int), .string s] w fun e w' => e = .returned (.bool (nmB k s)) ∧ w = w' := by
  have hn : Hid ((k = 3 ∨ k = 4) → nmB k s = nameB s) := Lib.hid fun h => by unfold nmB; rw [if_pos h]
  have hm : Hid (¬ (k = 3 ∨ k = 4) → nmB k s = symB s) := Lib.hid fun h => by unfold nmB; rw [if_neg h]
  generalize nmB k s = z at *
  generalize nameB s = y at *
  generalize symB s = x at *
  by_cases h3 : k = 3
  · have HE := Lib.hid (hn.out (Or.inl h3))
    subst h3
    go_enter Tryz.func52, Tryz.ntmps52
    go_wp2_with fail
    refine (K28.out _).mono ?_
    rintro _ _ ⟨rfl, rfl⟩
    go_wp2_with fail
    go_ret
    exact ⟨by rw [HE.out]; rfl, rfl⟩
  by_cases h4 : k = 4
  · have HE := Lib.hid (hn.out (Or.inr h4))
    subst h4
    go_enter Tryz.func52, Tryz.ntmps52
    go_wp2_with fail
    refine (K28.out _).mono ?_
    rintro _ _ ⟨rfl, rfl⟩
    go_wp2_with fail
    go_ret
    exact ⟨by rw [HE.out]; rfl, rfl⟩
  have HE := Lib.hid (hm.out (by omega))
  have t3 : ((k : Int) == 3) = false := by simp; omega
  have t4 : ((k : Int) == 4) = false := by simp; omega
  clear h3 h4
  go_enter Tryz.func52, Tryz.ntmps52
  go_wp2_with fail
  refine (K72.out _).mono ?_
  rintro _ _ ⟨rfl, rfl⟩
  go_wp2_with fail
  go_ret
  exact ⟨by rw [HE.out]; rfl, rfl⟩
end Go.Proofs.YtblfnjdbihhglaaGreatDoor
