import Derived.Test.YtblfnjdbihhglaaGreatDoorLA
namespace Go.Proofs.YtblfnjdbihhglaaGreatDoor.Li
open Go.ChangeShapes Go.WideShapes Go.ChangeAt Go.RowKit
set_option linter.unusedVariables false
theorem bb_eq (s : ByteArray) (k : Nat) (h : k < s.size) : bb s k = (s[k]'h).toNat := by unfold bb; rw [dif_pos h]
set_option maxHeartbeats 4000000 in
theorem c30 (s : ByteArray) (hs : s.size ≤ 9223372036854775807) (w : World) : Calls Tryz.prog 38 #[.string s] w fun e w' => e = .returned (.bool (wd s)) ∧ w = w' := by
  go_enter Tryz.func38, Tryz.ntmps38
  go_wp2_with fail
  go_loopw [3] (fun i wr => wr = w ∧ ∃ k : Nat, k ≤ s.size ∧ i = .int .i64 (k : Int) ∧ ∀ j, j < k → inW (bb s j) = true) (fun i _ => s.size - (intOf i).toNat)
  case atStart => exact ⟨rfl, 0, by omega, rfl, fun i hi => absurd hi (by omega)⟩
  case round =>
    obtain ⟨rfl, k, hk, rfl, hin⟩ := hrel
    have HIN := Lib.hid hin
    clear hin
    by_cases hlt : k < s.size
    · have he : (s[k]'hlt).toNat = bb s k := (bb_eq s k hlt).symm
      by_cases hok : inW (bb s k) = true
      · have HS : Hid (∀ i, i < k + 1 → inW (bb s i) = true) := Lib.hid fun i hi => by
          by_cases e : i = k
          · rw [e]; exact hok
          · exact HIN.out i (by omega)
        have b1 : decide ((bb s k : Int) < 33) = false := by unfold inW at hok; simp at hok; simp; omega
        have b2 : decide ((126 : Int) < (bb s k : Int)) = false := by unfold inW at hok; simp at hok; simp; omega
        generalize bb s k = v at *
        clear hok
        go_wp2_with fail
        go_roundw
        case rel => exact ⟨trivial, k + 1, hlt, by go_num, HS.out⟩
        case measure => simp [intOf]; omega
      · have hwd : wd s = false := by unfold wd; exact decide_eq_false (fun h => hok (h.2.2 k hlt))
        have HW := Lib.hid hwd
        have hb : decide ((bb s k : Int) < 33) = true ∨ (decide ((bb s k : Int) < 33) = false ∧ decide ((126 : Int) < (bb s k : Int)) = true) := by
          unfold inW at hok; simp at hok
          by_cases h : bb s k < 33
          · exact Or.inl (by simp; omega)
          · exact Or.inr ⟨by simp; omega, by simp; omega⟩
        generalize bb s k = v at *
        clear hok hwd
        rcases hb with b1 | ⟨b0, b1⟩
        all_goals
          go_wp2_with fail
          go_ret
          exact ⟨by rw [HW.out]; rfl, rfl⟩
    · have hks : k = s.size := by omega
      by_cases h0 : s.size = 0
      · have hw : wd s = false := by unfold wd; exact decide_eq_false (fun h => by omega)
        have HW := Lib.hid hw
        have hne : (s.toList == []) = true := by rw [size0 h0, ByteArray.toList_eq]; rfl
        clear hw
        subst hks
        go_wp2_with fail
        go_ret
        exact ⟨by rw [HW.out]; rfl, rfl⟩
      · have hne : (s.toList == []) = false := by
          rw [ByteArray.toList_eq]
          obtain ⟨⟨l⟩⟩ := s
          cases l with
          | nil => exact absurd rfl h0
          | cons c t => rfl
        have hpos : 0 < s.size := by omega
        have he : (s[0]'hpos).toNat = bb s 0 := (bb_eq s 0 hpos).symm
        have hw : wd s = !decide (bb s 0 = 35) := by
          unfold wd
          by_cases h35 : bb s 0 = 35
          · rw [decide_eq_false (fun h => h.2.1 h35), decide_eq_true h35]; rfl
          · rw [decide_eq_true (⟨hpos, h35, fun i hi => HIN.out i (by omega)⟩), decide_eq_false h35]; rfl
        have HW := Lib.hid hw
        have hv : bb s 0 = 35 ∨ bb s 0 ≠ 35 := by omega
        generalize bb s 0 = v at *
        clear hw
        rcases hv with hv | hv
        · have b1 : ((v : Int) != 35) = false := by simp; omega
          have HV := Lib.hid hv
          clear hv
          go_wp2_with fail
          go_ret
          exact ⟨by rw [HW.out, HV.out]; rfl, rfl⟩
        · have b1 : ((v : Int) != 35) = true := by simp; omega
          have HV : Hid (decide (v = 35) = false) := Lib.hid (decide_eq_false hv)
          clear hv
          go_wp2_with fail
          go_ret
          exact ⟨by rw [HW.out, HV.out]; rfl, rfl⟩
theorem c17 (r : Int) (w : World) : Calls Tryz.prog 39 #[.int .i32 r] w fun e w' => e = .returned (.bool (decide (r = 9 ∨ r = 10 ∨ (32 ≤ r ∧ r ≤ 126)))) ∧ w = w' := by
  by_cases h9 : r = 9
  · subst h9
    go_enter Tryz.func39, Tryz.ntmps39
    go_wp2
    go_ret
    exact ⟨rfl, rfl⟩
  by_cases h10 : r = 10
  · subst h10
    go_enter Tryz.func39, Tryz.ntmps39
    go_wp2
    go_ret
    exact ⟨rfl, rfl⟩
  have a1 : (r == 9) = false := by simpa using h9
  have a2 : (r == 10) = false := by simpa using h10
  have hq : decide (r = 9 ∨ r = 10 ∨ (32 ≤ r ∧ r ≤ 126)) = (decide (32 ≤ r) && decide (r ≤ 126)) := by
    rw [Bool.eq_iff_iff]; simp; omega
  rw [hq]
  obtain ⟨b1, e1⟩ : ∃ b, decide (32 ≤ r) = b := ⟨_, rfl⟩
  obtain ⟨b2, e2⟩ : ∃ b, decide (r ≤ 126) = b := ⟨_, rfl⟩
  rw [e1, e2]
  clear hq h9 h10
  cases b1
  all_goals
    go_enter Tryz.func39, Tryz.ntmps39
    go_wp2
    go_ret
    exact ⟨rfl, rfl⟩
theorem c33 (r : Int) (w : World) : Calls Tryz.prog 66 #[.int .i32 r] w fun e w' => e = .returned (.bool (decide (r = 32 ∨ r = 9))) ∧ w = w' := by
  by_cases h32 : r = 32
  · subst h32
    go_enter Tryz.func66, Tryz.ntmps66
    go_wp2
    go_ret
    exact ⟨rfl, rfl⟩
  have a1 : (r == 32) = false := by simpa using h32
  have hq : decide (r = 32 ∨ r = 9) = (r == 9) := by rw [Bool.eq_iff_iff]; simp [h32]
  rw [hq]
  generalize hb : (r == 9) = b
  clear h32 hq
  go_enter Tryz.func66, Tryz.ntmps66
  go_wp2
  go_ret
  exact ⟨rfl, rfl⟩
end Go.Proofs.YtblfnjdbihhglaaGreatDoor.Li
