import Derived.Test.YtblfnjdbihhglaaGreatDoorProg
import Derived.WalkKit
import Derived.ProofKit
import Derived.OpenShut
import Derived.Below
import Derived.WalkSmall
import Derived.BigQuiet
import Derived.Deep.QuietTactic
import Derived.Deep.RegionHeld3
import Derived.LoopTactic
import Derived.Lib.Hide
import Derived.Laws.BitsAllLaws
import Derived.Laws.RangeString
import Derived.Laws.RangeAny
import Derived.Laws.Strings
import Derived.Laws.Strings2
import Derived.Laws.Strings3
import Derived.Lib.Split
namespace Go.Proofs.YtblfnjdbihhglaaGreatDoor.Li
open Go.ChangeShapes Go.WideShapes Go.ChangeAt Go.RowKit
set_option linter.unusedVariables false
/-- a byte of a text -/
def bb (s : ByteArray) (i : Nat) : Nat := if h : i < s.size then (s[i]'h).toNat else 0
theorem bb_lt (s : ByteArray) (i : Nat) : bb s i < 256 := by
  unfold bb
  split
  · exact UInt8.toNat_lt _
  · omega
/-- is a byte one of a word? -/
def inW (n : Nat) : Bool := decide (33 ≤ n) && decide (n ≤ 126)
open Classical in
noncomputable def wd (s : ByteArray) : Bool := decide (0 < s.size ∧ bb s 0 ≠ 35 ∧ ∀ i, i < s.size → inW (bb s i) = true)
theorem dec_bb (s : ByteArray) (i : Nat) (h : i < s.size) (ha : bb s i < 128) : Utf8.decode s i = (bb s i, 1) := by
  have e : bb s i = (s[i]'h).toNat := by unfold bb; rw [dif_pos h]
  rw [e] at ha ⊢
  exact decode_ascii s i h ha
theorem dec_hi (s : ByteArray) (i : Nat) (h : i < s.size) (ha : ¬ bb s i < 128) : 128 ≤ (Utf8.decode s i).1 ∧ 1 ≤ (Utf8.decode s i).2 := by
  have e : bb s i = (s[i]'h).toNat := by unfold bb; rw [dif_pos h]
  rw [e] at ha
  exact decode_high s i h (by omega)
theorem iter_below (w : World) (s : ByteArray) (p : Nat) : Below w.heap.size w (w.iter s p) := (Below.refl _ _).alloc (Nat.le_refl _) _
theorem pre35 (s : ByteArray) (h : 0 < s.size) : ((s.extract 0 1).toList == [35]) = decide (bb s 0 = 35) := by
  rw [ByteArray.toList_eq, Lib.extract_from_zero]
  unfold bb
  rw [dif_pos h]
  obtain ⟨⟨l⟩⟩ := s
  cases l with
  | nil => exact absurd h (by simp [ByteArray.size])
  | cons c t =>
    show ([c] == [35]) = decide (c.toNat = 35)
    rw [Bool.eq_iff_iff]
    simp
    constructor
    · intro e; subst e; rfl
    · intro e; exact UInt8.toNat_inj.1 e
theorem c44 (s : ByteArray) (hs : s.size ≤ 9223372036854775807) (w : World) : Calls Tryz.prog 82 #[.string s, .string ⟨#[35]⟩] w fun e w' => e = .returned (.bool (decide (0 < s.size) && decide (bb s 0 = 35))) ∧ w = w' := by
  go_enter Tryz.func82, Tryz.ntmps82
  go_wp2
  · rename_i h
    go_ret
    refine ⟨?_, rfl⟩
    show Ending.returned (Value.bool ((s.extract 0 1).toList == [35])) = _
    rw [pre35 s (by omega), decide_eq_true (by omega : 0 < s.size), Bool.true_and]
  · rename_i h
    go_ret
    refine ⟨?_, rfl⟩
    show Ending.returned (Value.bool false) = _
    rw [decide_eq_false (by omega), Bool.false_and]
theorem c34 (s : ByteArray) (hs : s.size ≤ 9223372036854775807) (w : World) : Calls Tryz.prog 67 #[.string s, .string ⟨#[35]⟩] w fun e w' => e = .returned (.bool (decide (0 < s.size) && decide (bb s 0 = 35))) ∧ w = w' := by
  have K := Lib.hid (c44 s hs)
  generalize (decide (0 < s.size) && decide (bb s 0 = 35)) = q at *
  go_enter Tryz.func67, Tryz.ntmps67
  go_wp2_with fail
  refine (K.out _).mono ?_
  rintro _ _ ⟨rfl, rfl⟩
  go_wp2_with fail
  go_ret
  exact ⟨rfl, rfl⟩
theorem size0 {s : ByteArray} (h : s.size = 0) : s = ⟨#[]⟩ := by
  obtain ⟨l⟩ := s
  have : l = #[] := Array.eq_empty_of_size_eq_zero h
  rw [this]
def LW (s : ByteArray) (w : World) (wr : World) : Prop := ∃ k : Nat, k ≤ s.size ∧ wr = w.iter s k ∧ ∀ i, i < k → inW (bb s i) = true
set_option maxHeartbeats 4000000 in
theorem c40 (s : ByteArray) (hs : s.size ≤ 9223372036854775807) (w : World) : Calls Tryz.prog 60 #[.string s] w fun e w' => e = .returned (.bool (wd s)) ∧ Below w.heap.size w w' := by
  by_cases h0 : s.size = 0
  · have hw : wd s = false := by unfold wd; exact decide_eq_false (fun h => by omega)
    rw [hw]
    obtain rfl := size0 h0
    clear h0 hs hw
    go_enter Tryz.func60, Tryz.ntmps60
    go_wp2
    go_ret
    exact ⟨rfl, Below.refl _ _⟩
  · have hne : (s.toList == []) = false := by
      rw [ByteArray.toList_eq]
      obtain ⟨⟨l⟩⟩ := s
      cases l with
      | nil => exact absurd rfl h0
      | cons c t => rfl
    have K := Lib.hid (c34 s hs)
    go_enter Tryz.func60, Tryz.ntmps60
    go_wp2_with fail
    refine (K.out _).mono ?_
    rintro _ _ ⟨rfl, rfl⟩
    have hpos : 0 < s.size := by omega
    by_cases h35 : bb s 0 = 35
    · have hq : (decide (0 < s.size) && decide (bb s 0 = 35)) = true := by simp [hpos, h35]
      have hwd : wd s = false := by unfold wd; exact decide_eq_false (fun h => h.2.1 h35)
      rw [hq]
      have HW := Lib.hid hwd
      clear hq hwd h35
      go_wp2_with fail
      go_ret
      exact ⟨by rw [HW.out]; rfl, Below.refl _ _⟩
    · have hq : (decide (0 < s.size) && decide (bb s 0 = 35)) = false := by simp [h35]
      rw [hq]
      have H35 := Lib.hid h35
      have HP := Lib.hid hpos
      clear hq h35 hpos hne K h0
      go_wp2
      go_loopw [4] (fun _ wr => LW s w wr) (fun _ wr => s.size - wr.iterPos w.heap.size)
      case atStart => exact ⟨0, by omega, rfl, fun i hi => absurd hi (by omega)⟩
      case round =>
        obtain ⟨k, hk, rfl, hin⟩ := hrel
        have HIN := Lib.hid hin
        clear hin
        by_cases hlt : k < s.size
        · by_cases ha : bb s k < 128
          · have hd := dec_bb s k hlt ha
            have hnx : ∀ ty, (Instr.next (.pointer (some ⟨w.heap.size, 0, none⟩)) true ty).run Tryz.prog (w.iter s k) = .ok (.tuple #[.bool true, .int .i64 k, .int .i32 (bb s k : Int)]) (w.iter s (k + 1)) := fun ty => by
              rw [run_next_any w s k ty hlt, hd]
            by_cases hok : inW (bb s k) = true
            · have HS : Hid (LW s w (w.iter s (k + 1))) := Lib.hid ⟨k + 1, hlt, rfl, fun i hi => by
                by_cases e : i = k
                · rw [e]; exact hok
                · exact HIN.out i (by omega)⟩
              have b1 : decide ((bb s k : Int) < 33) = false := by unfold inW at hok; simp at hok; simp; omega
              have b2 : decide ((126 : Int) < (bb s k : Int)) = false := by unfold inW at hok; simp at hok; simp; omega
              generalize bb s k = v at *
              clear hd hok ha
              have HLT := Lib.hid hlt
              go_wp2_with fail
              go_roundw
              case rel => exact HS.out
              case measure => simp; have := HLT.out; omega
            · have hwd : wd s = false := by unfold wd; exact decide_eq_false (fun h => hok (h.2.2 k hlt))
              have HW := Lib.hid hwd
              have hb : bb s k < 33 ∨ (33 ≤ bb s k ∧ 126 < bb s k) := by unfold inW at hok; simp at hok; omega
              generalize bb s k = v at *
              clear hd hok ha hwd
              have hb2 : decide ((v : Int) < 33) = true ∨ (decide ((v : Int) < 33) = false ∧ decide ((126 : Int) < (v : Int)) = true) := by
                rcases hb with h | ⟨h, h2⟩
                · exact Or.inl (by simp; omega)
                · exact Or.inr ⟨by simp; omega, by simp; omega⟩
              clear hb
              rcases hb2 with b1 | ⟨b0, b1⟩
              all_goals
                go_wp2_with fail
                go_ret
                exact ⟨by rw [HW.out]; rfl, iter_below _ _ _⟩
          · obtain ⟨hd1, hd2⟩ := dec_hi s k hlt ha
            have hnx : ∀ ty, (Instr.next (.pointer (some ⟨w.heap.size, 0, none⟩)) true ty).run Tryz.prog (w.iter s k) = _ := fun ty => run_next_any w s k ty hlt
            have hwd : wd s = false := by unfold wd; exact decide_eq_false (fun h => by have := h.2.2 k hlt; unfold inW at this; simp at this; omega)
            have HW := Lib.hid hwd
            generalize (Utf8.decode s k).1 = v at *
            generalize (Utf8.decode s k).2 = v2 at *
            have b0 : decide ((v : Int) < 33) = false := by simp; omega
            have b1 : decide ((126 : Int) < (v : Int)) = true := by simp; omega
            clear hwd ha hd1
            go_wp2_with fail
            go_ret
            exact ⟨by rw [HW.out]; rfl, iter_below _ _ _⟩
        · have hnx : ∀ ty, (Instr.next (.pointer (some ⟨w.heap.size, 0, none⟩)) true ty).run Tryz.prog (w.iter s k) = _ := fun ty => run_next_end w s k ty hlt
          have hwd : wd s = true := by unfold wd; exact decide_eq_true ⟨HP.out, H35.out, fun i hi => HIN.out i (by omega)⟩
          have HW := Lib.hid hwd
          clear hwd
          go_wp2_with fail
          go_ret
          exact ⟨by rw [HW.out]; rfl, iter_below _ _ _⟩
end Go.Proofs.YtblfnjdbihhglaaGreatDoor.Li
