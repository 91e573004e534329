import Derived.Test.YtblfnjdbihhglaaGreatDoorLJ
namespace Go.Proofs.YtblfnjdbihhglaaGreatDoor.Li
open Go.ChangeShapes Go.WideShapes Go.ChangeAt Go.RowKit
set_option linter.unusedVariables false
/-- does a word stand for a number in sixteens? -/
def hexP (s : ByteArray) : Prop := 2 < s.size ∧ bb s 0 = 48 ∧ bb s 1 = 120
open Classical in
noncomputable def refV (s : ByteArray) : Value :=
  if hexP s then (if 10 < s.size then noN else finV 16 (s.extract 2 s.size)) else if (1 < s.size ∧ bb s 0 = 48) ∨ 10 < s.size then noN else finV 10 s
theorem no_a (s : ByteArray) (h : 10 < s.size) (hs : s.size ≤ 9223372036854775807) (hb0 : bb s 0 = 48) (hb1 : bb s 1 = 120) (w : World) : Calls Tryz.prog 71 #[.string s] w fun e w' => e = .returned noN ∧ w = w' := by
  have d1 : ∀ h : 0 < s.size, ((s[0]'h).toNat : Int) = 48 := fun h => by rw [← bb_eq s 0 h, hb0]; rfl
  have d2 : ∀ h : 1 < s.size, ((s[1]'h).toNat : Int) = 120 := fun h => by rw [← bb_eq s 1 h, hb1]; rfl
  have hn : Hid (noN = .tuple #[.int .u32 0, .bool false]) := Lib.hid rfl
  clear hb0 hb1
  go_enter Tryz.func71, Tryz.ntmps71
  go_wp2_with fail
  go_ret2
  exact ⟨by rw [hn.out]; rfl, rfl⟩
theorem no_b (s : ByteArray) (h : 10 < s.size) (hs : s.size ≤ 9223372036854775807) (hb0 : bb s 0 ≠ 48) (w : World) : Calls Tryz.prog 71 #[.string s] w fun e w' => e = .returned noN ∧ w = w' := by
  have d1 : ∀ h : 0 < s.size, ((s[0]'h).toNat : Int) = (bb s 0 : Int) := fun h => by rw [bb_eq s 0 h]
  have e1 : ((bb s 0 : Int) == 48) = false := by simpa using (fun h3 => hb0 (by omega))
  have hn : Hid (noN = .tuple #[.int .u32 0, .bool false]) := Lib.hid rfl
  clear hb0
  go_enter Tryz.func71, Tryz.ntmps71
  go_wp2_with fail
  go_ret2
  exact ⟨by rw [hn.out]; rfl, rfl⟩
theorem no_c (s : ByteArray) (h : s.size = 2) (hb0 : bb s 0 = 48) (w : World) : Calls Tryz.prog 71 #[.string s] w fun e w' => e = .returned noN ∧ w = w' := by
  have d1 : ∀ h : 0 < s.size, ((s[0]'h).toNat : Int) = 48 := fun h => by rw [← bb_eq s 0 h, hb0]; rfl
  have hn : Hid (noN = .tuple #[.int .u32 0, .bool false]) := Lib.hid rfl
  clear hb0
  go_enter Tryz.func71, Tryz.ntmps71
  go_wp2_with fail
  go_ret2
  exact ⟨by rw [hn.out]; rfl, rfl⟩
theorem no_d (s : ByteArray) (h : 2 < s.size) (hs : s.size ≤ 9223372036854775807) (hb0 : bb s 0 = 48) (hb1 : bb s 1 ≠ 120) (w : World) : Calls Tryz.prog 71 #[.string s] w fun e w' => e = .returned noN ∧ w = w' := by
  have d1 : ∀ h : 0 < s.size, ((s[0]'h).toNat : Int) = 48 := fun h => by rw [← bb_eq s 0 h, hb0]; rfl
  have d2 : ∀ h : 1 < s.size, ((s[1]'h).toNat : Int) = (bb s 1 : Int) := fun h => by rw [bb_eq s 1 h]
  have e1 : ((bb s 1 : Int) == 120) = false := by simpa using (fun h3 => hb1 (by omega))
  have hn : Hid (noN = .tuple #[.int .u32 0, .bool false]) := Lib.hid rfl
  clear hb0 hb1
  go_enter Tryz.func71, Tryz.ntmps71
  go_wp2_with fail
  go_ret2
  exact ⟨by rw [hn.out]; rfl, rfl⟩
theorem c11 (s : ByteArray) (hs : s.size ≤ 9223372036854775807) (w : World) : Calls Tryz.prog 71 #[.string s] w fun e w' => e = .returned (refV s) ∧ w = w' := by
  by_cases hx : hexP s
  · obtain ⟨h1, h2, h3⟩ := hx
    by_cases hl : 10 < s.size
    · have : refV s = noN := by unfold refV; rw [if_pos ⟨h1, h2, h3⟩, if_pos hl]
      rw [this]; exact no_a s hl hs h2 h3 w
    · have : refV s = finV 16 (s.extract 2 s.size) := by unfold refV; rw [if_pos ⟨h1, h2, h3⟩, if_neg hl]
      rw [this]; exact c11_16 s (s.extract 2 s.size) rfl (by simp) h1 (by omega) h2 h3 w
  · by_cases hn : (1 < s.size ∧ bb s 0 = 48) ∨ 10 < s.size
    · have : refV s = noN := by unfold refV; rw [if_neg hx, if_pos hn]
      rw [this]
      by_cases h0 : bb s 0 = 48
      · by_cases h2 : s.size = 2
        · exact no_c s h2 h0 w
        · have h3 : 2 < s.size := by omega
          exact no_d s h3 hs h0 (fun h => hx ⟨h3, h0, h⟩) w
      · exact no_b s (by omega) hs h0 w
    · have : refV s = finV 10 s := by unfold refV; rw [if_neg hx, if_neg hn]
      rw [this]; exact c11_10 s (by omega) (fun h h0 => hn (Or.inl ⟨h, h0⟩)) w
end Go.Proofs.YtblfnjdbihhglaaGreatDoor.Li
