import Derived.Test.YtblfnjdbihhglaaGreatDoorLK
namespace Go.Proofs.YtblfnjdbihhglaaGreatDoor.Li
open Go.ChangeShapes Go.WideShapes Go.ChangeAt Go.RowKit
set_option linter.unusedVariables false
/-- does a word begin with the prefix of sixteens? -/
def px (s : ByteArray) : Bool := decide (2 ≤ s.size) && (decide (bb s 0 = 48) && decide (bb s 1 = 120))
theorem dec8 (c : UInt8) (n : Nat) (hn : n < 256) (d : UInt8) (hd : d.toNat = n) : (c == d) = decide (c.toNat = n) := by
  rw [Bool.eq_iff_iff]
  simp
  constructor
  · intro e; rw [e]; exact hd
  · intro e; exact UInt8.toNat_inj.1 (e.trans hd.symm)
theorem preX (s : ByteArray) (h : 2 ≤ s.size) : ((s.extract 0 2).toList == [48, 120]) = (decide (bb s 0 = 48) && decide (bb s 1 = 120)) := by
  rw [ByteArray.toList_eq, Lib.extract_from_zero]
  unfold bb
  rw [dif_pos (by omega), dif_pos (by omega)]
  obtain ⟨⟨l⟩⟩ := s
  cases l with
  | nil => exact absurd h (by simp [ByteArray.size])
  | cons c t =>
    cases t with
    | nil => exact absurd h (by simp [ByteArray.size])
    | cons d u =>
      show ([c, d] == [48, 120]) = (decide (c.toNat = 48) && decide (d.toNat = 120))
      rw [← dec8 c 48 (by omega) 48 rfl, ← dec8 d 120 (by omega) 120 rfl]
      simp
theorem cX44 (s : ByteArray) (hs : s.size ≤ 9223372036854775807) (w : World) : Calls Tryz.prog 82 #[.string s, .string ⟨#[48, 120]⟩] w fun e w' => e = .returned (.bool (px s)) ∧ w = w' := by
  go_enter Tryz.func82, Tryz.ntmps82
  go_wp2
  · rename_i h
    go_ret
    refine ⟨?_, rfl⟩
    show Ending.returned (Value.bool ((s.extract 0 2).toList == [48, 120])) = _
    unfold px
    rw [preX s (by omega), decide_eq_true (by omega : 2 ≤ s.size), Bool.true_and]
  · rename_i h
    go_ret
    refine ⟨?_, rfl⟩
    show Ending.returned (Value.bool false) = _
    unfold px
    rw [decide_eq_false (by omega), Bool.false_and]
theorem px_size (s : ByteArray) (h : px s = true) : 2 ≤ s.size := by unfold px at h; simp at h; exact h.1
theorem c36 (s : ByteArray) (hs : s.size ≤ 9223372036854775807) (w : World) : Calls Tryz.prog 114 #[.string s, .string ⟨#[48, 120]⟩] w fun e w' => e = .returned (.tuple #[.string (if px s = true then s.extract 2 s.size else s), .bool (px s)]) ∧ w = w' := by
  have K := Lib.hid (cX44 s hs)
  have HP := Lib.hid (px_size s)
  generalize px s = q at *
  go_enter Tryz.func114, Tryz.ntmps114
  go_wp2_with fail
  refine (K.out _).mono ?_
  rintro _ _ ⟨rfl, rfl⟩
  cases q
  · go_wp2_with fail
    go_ret2
    exact ⟨rfl, rfl⟩
  · have h2 := HP.out rfl
    go_wp2_with fail
    go_ret2
    exact ⟨rfl, rfl⟩
theorem c21 (s : ByteArray) (hs : s.size ≤ 9223372036854775807) (w : World) : Calls Tryz.prog 104 #[.string s, .string ⟨#[48, 120]⟩] w fun e w' => e = .returned (.tuple #[.string (if px s = true then s.extract 2 s.size else s), .bool (px s)]) ∧ w = w' := by
  have K := Lib.hid (c36 s hs)
  generalize (if px s = true then s.extract 2 s.size else s) = t at *
  generalize px s = q at *
  go_enter Tryz.func104, Tryz.ntmps104
  go_wp2_with fail
  refine (K.out _).mono ?_
  rintro _ _ ⟨rfl, rfl⟩
  go_wp2_with fail
  go_ret2
  exact ⟨rfl, rfl⟩
end Go.Proofs.YtblfnjdbihhglaaGreatDoor.Li
