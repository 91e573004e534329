import Derived.Test.YtblfnjdbihhglaaGreatDoorLI
namespace Go.Proofs.YtblfnjdbihhglaaGreatDoor.Li
open Go.ChangeShapes Go.WideShapes Go.ChangeAt Go.RowKit
set_option linter.unusedVariables false
theorem numN_16 (s : ByteArray) (k : Nat) (hk : k ≤ 8) (h : ∀ j, j < k → dg (bb s j) < 16) : numN 16 s k < 4294967296 := by
  have h1 := numN_lt 16 s k h
  have h2 : 16 ^ k ≤ 16 ^ 8 := Nat.pow_le_pow_right (by decide) hk
  omega
set_option maxRecDepth 100000 in
set_option maxHeartbeats 4000000 in
theorem c11_16 (s0 s : ByteArray) (ht : s0.extract 2 s0.size = s) (hsz : s.size = s0.size - 2) (h1 : 2 < s0.size) (hs : s0.size ≤ 10) (hb0 : bb s0 0 = 48) (hb1 : bb s0 1 = 120) (w : World) : Calls Tryz.prog 71 #[.string s0] w fun e w' => e = .returned (finV 16 s) ∧ w = w' := by
  have HS : Hid (s.size ≤ 8) := Lib.hid (by omega)
  have d1 : ∀ h : 0 < s0.size, ((s0[0]'h).toNat : Int) = 48 := fun h => by rw [← bb_eq s0 0 h, hb0]; rfl
  have d2 : ∀ h : 1 < s0.size, ((s0[1]'h).toNat : Int) = 120 := fun h => by rw [← bb_eq s0 1 h, hb1]; rfl
  have HE : Hid ((∀ j, j < s.size → dg (bb s j) < 16) → numN 16 s s.size < 4294967296 → s.size ≠ 0 → finV 16 s = .tuple #[.int .u32 (numN 16 s s.size : Int), .bool true]) := Lib.hid fun h1 h2 h3 => fin_yes 16 s (by
    rintro (h | ⟨i, hi, hd⟩ | h)
    · exact h3 h
    · have := h1 i hi; omega
    · omega)
  have HN : Hid (badN 16 s → finV 16 s = noN) := Lib.hid (fin_no 16 s)
  have HT := Lib.hid ht
  have hp : 0 < s.size := by omega
  have HP := Lib.hid hp
  have HZ := Lib.hid hsz
  clear hb0 hb1 ht hsz hp
  go_enter Tryz.func71, Tryz.ntmps71
  have ht := HT.out
  go_wp2_with fail
  go_loopw [5, 6] (fun n i wr => wr = w ∧ ∃ k : Nat, k ≤ s.size ∧ i = .int .i64 (k : Int) ∧ n = .int .u64 (numN 16 s k : Int) ∧ ∀ j, j < k → dg (bb s j) < 16) (fun _ i _ => s.size - (intOf i).toNat)
  case atStart => exact ⟨rfl, 0, by omega, rfl, rfl, fun i hi => absurd hi (by omega)⟩
  case round =>
    obtain ⟨rfl, k, hk, rfl, rfl, hin⟩ := hrel
    have HIN := Lib.hid hin
    have hlt10 := numN_16 s k (by have := HS.out; omega) hin
    clear hin
    have hz8 := HS.out
    have hp := HP.out
    by_cases hlt : k < s.size
    · have he : (s[k]'hlt).toNat = bb s k := (bb_eq s k hlt).symm
      have K := Lib.hid (c24 (bb s k) (bb_lt s k) wr)
      have HST : Hid (dg (bb s k) < 16 → ∀ j, j < k + 1 → dg (bb s j) < 16) := Lib.hid fun hl j hj => by
        by_cases e : j = k
        · rw [e]; exact hl
        · exact HIN.out j (by omega)
      have HBD : Hid (16 ≤ dg (bb s k) → finV 16 s = noN) := Lib.hid fun h => HN.out (Or.inr (Or.inl ⟨k, hlt, h⟩))
      obtain ⟨m', hm'⟩ : ∃ m', numN 16 s (k + 1) = m' := ⟨_, rfl⟩
      have HNN : Hid (m' = 16 * numN 16 s k + dg (bb s k)) := Lib.hid (by rw [← hm']; rfl)
      have HM := Lib.hid hm'
      clear hm'
      have hd := dg_le (bb s k)
      generalize numN 16 s k = m at *
      generalize dg (bb s k) = d at *
      go_wp2_with fail
      refine (K.out).mono ?_
      rintro _ w4 ⟨rfl, rfl⟩
      by_cases hdd : d < 16
      · have HS3 := Lib.hid (HST.out hdd)
        go_wp2_with fail
        go_roundw
        case rel => exact ⟨trivial, k + 1, hlt, by go_num, by rw [HM.out, HNN.out]; first | go_num | (congr 1; omega), HS3.out⟩
        case measure => simp [intOf]; omega
      · have HW := Lib.hid (HBD.out (by omega))
        go_wp2_with fail
        go_ret2
        exact ⟨by rw [HW.out]; rfl, rfl⟩
    · have hks : k = s.size := by omega
      subst hks
      by_cases h0 : s.size = 0
      · have HW := Lib.hid (HN.out (Or.inl h0))
        have hne : (s.toList == []) = true := by rw [size0 h0, ByteArray.toList_eq]; rfl
        go_wp2_with fail
        go_ret2
        exact ⟨by rw [HW.out]; rfl, rfl⟩
      · have hne : (s.toList == []) = false := by
          rw [ByteArray.toList_eq]
          obtain ⟨⟨l⟩⟩ := s
          cases l with
          | nil => exact absurd rfl h0
          | cons c t => rfl
        by_cases hbig : 4294967296 ≤ numN 16 s s.size
        · have HW := Lib.hid (HN.out (Or.inr (Or.inr hbig)))
          generalize numN 16 s s.size = m at *
          have hbi : (4294967296 : Int) ≤ (m : Int) := by omega
          have hbd : decide ((4294967296 : Int) ≤ (m : Int)) = true := decide_eq_true hbi
          clear hbig
          go_wp2_with fail
          go_ret2
          exact ⟨by rw [HW.out]; rfl, rfl⟩
        · have HW := Lib.hid (HE.out HIN.out (by omega) h0)
          generalize numN 16 s s.size = m at *
          have hbi : (m : Int) < 4294967296 := by omega
          have hbd : decide ((4294967296 : Int) ≤ (m : Int)) = false := decide_eq_false (by omega)
          clear hbig
          go_wp2_with fail
          go_ret2
          exact ⟨by rw [HW.out]; first | rfl | go_num, rfl⟩
end Go.Proofs.YtblfnjdbihhglaaGreatDoor.Li
