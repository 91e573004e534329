import Derived.Test.YtapdiionikfgpaaGreatDoorProg
import Derived.WalkKit
import Derived.ProofKit
import Derived.OpenShut
import Derived.Below
import Derived.WalkSmall
import Derived.BigQuiet
import Derived.Deep.QuietTactic
import Derived.Deep.RegionHeld3
import Derived.LoopTactic
import Derived.Lib.Hide
import Derived.Laws.BitsAllLaws
import Derived.Laws.RangeString
import Derived.Laws.RangeAny
import Derived.Laws.Strings
import Derived.Laws.Strings2
import Derived.Laws.Strings3
import Derived.Lib.Split
namespace Go.Proofs.YtapdiionikfgpaaGreatDoor.Li
open Go.ChangeShapes Go.WideShapes Go.ChangeAt Go.RowKit
set_option linter.unusedVariables false
/-- a byte of a text -/
def bb (s : ByteArray) (i : Nat) : Nat := if h : i < s.size then (s[i]'h).toNat else 0
theorem bb_lt (s : ByteArray) (i : Nat) : bb s i < 256 := by
  unfold bb
  split
  · exact UInt8.toNat_lt _
  · omega
/-- is a byte one of a word? -/
def inW (n : Nat) : Bool := decide (33 ≤ n) && decide (n ≤ 126)
open Classical in
noncomputable def wd (s : ByteArray) : Bool := decide (0 < s.size ∧ bb s 0 ≠ 35 ∧ ∀ i, i < s.size → inW (bb s i) = true)
theorem dec_bb (s : ByteArray) (i : Nat) (h : i < s.size) (ha : bb s i < 128) : Utf8.decode s i = (bb s i, 1) := by
  have e : bb s i = (s[i]'h).toNat := by unfold bb; rw [dif_pos h]
  rw [e] at ha ⊢
  exact decode_ascii s i h ha
theorem dec_hi (s : ByteArray) (i : Nat) (h : i < s.size) (ha : ¬ bb s i < 128) : 128 ≤ (Utf8.decode s i).1 ∧ 1 ≤ (Utf8.decode s i).2 := by
  have e : bb s i = (s[i]'h).toNat := by unfold bb; rw [dif_pos h]
  rw [e] at ha
  exact decode_high s i h (by omega)
theorem iter_below (w : World) (s : ByteArray) (p : Nat) : Below w.heap.size w (w.iter s p) := (Below.refl _ _).alloc (Nat.le_refl _) _
theorem pre35 (s : ByteArray) (h : 0 < s.size) : ((s.extract 0 1).toList == [35]) = decide (bb s 0 = 35) := by
  rw [ByteArray.toList_eq, Lib.extract_from_zero]
  unfold bb
  rw [dif_pos h]
  obtain ⟨⟨l⟩⟩ := s
  cases l with
  | nil => exact absurd h (by simp [ByteArray.size])
  | cons c t =>
    show ([c] == [35]) = decide (c.toNat = 35)
    rw [Bool.eq_iff_iff]
    simp
    constructor
    · intro e; subst e; rfl
    · intro e; exact UInt8.toNat_inj.1 e
theorem c44 (s : ByteArray) (hs : s.size ≤ 9223372036854775807) (w : World) : Calls Tryz.prog 113 #[.string s, .string ⟨#[35]⟩] w fun e w' => e = .returned (.bool (decide (0 < s.size) && decide (bb s 0 = 35))) ∧ w = w' := by
  go_enter Tryz.func113, Tryz.ntmps113
  go_wp2
  · rename_i h
    go_ret
    refine ⟨?_, rfl⟩
    show Ending.returned (Value.bool ((s.extract 0 1).toList == [35])) = _
    rw [pre35 s (by omega), decide_eq_true (by omega : 0 < s.size), Bool.true_and]
  · rename_i h
    go_ret
    refine ⟨?_, rfl⟩
    show Ending.returned (Value.bool false) = _
    rw [decide_eq_false (by omega), Bool.false_and]
theorem c34 (s : ByteArray) (hs : s.size ≤ 9223372036854775807) (w : World) : Calls Tryz.prog 72 #[.string s, .string ⟨#[35]⟩] w fun e w' => e = .returned (.bool (decide (0 < s.size) && decide (bb s 0 = 35))) ∧ w = w' := by
  have K := Lib.hid (c44 s hs)
  generalize (decide (0 < s.size) && decide (bb s 0 = 35)) = q at *
  go_enter Tryz.func72, Tryz.ntmps72
  go_wp2_with fail
  refine (K.out _).mono ?_
  rintro _ _ ⟨rfl, rfl⟩
  go_wp2_with fail
  go_ret
  exact ⟨rfl, rfl⟩
theorem size0 {s : ByteArray} (h : s.size = 0) : s = ⟨#[]⟩ := by
  obtain ⟨l⟩ := s
  have : l = #[] := Array.eq_empty_of_size_eq_zero h
  rw [this]
def LW (s : ByteArray) (w : World) (wr : World) : Prop := ∃ k : Nat, k ≤ s.size ∧ wr = w.iter s k ∧ ∀ i, i < k → inW (bb s i) = true
set_option maxHeartbeats 4000000 in
theorem c40 (s : ByteArray) (hs : s.size ≤ 9223372036854775807) (w : World) : Calls Tryz.prog 126 #[.string s] w fun e w' => e = .returned (.bool (wd s)) ∧ Below w.heap.size w w' := by
  by_cases h0 : s.size = 0
  · have hw : wd s = false := by unfold wd; exact decide_eq_false (fun h => by omega)
    rw [hw]
    obtain rfl := size0 h0
    clear h0 hs hw
    go_enter Tryz.func126, Tryz.ntmps126
    go_wp2
    go_ret
    exact ⟨rfl, Below.refl _ _⟩
  · have hne : (s.toList == []) = false := by
      rw [ByteArray.toList_eq]
      obtain ⟨⟨l⟩⟩ := s
      cases l with
      | nil => exact absurd rfl h0
      | cons c t => rfl
    have K := Lib.hid (c34 s hs)
    go_enter Tryz.func126, Tryz.ntmps126
    go_wp2_with fail
    refine (K.out _).mono ?_
    rintro _ _ ⟨rfl, rfl⟩
    have hpos : 0 < s.size := by omega
    by_cases h35 : bb s 0 = 35
    · have hq : (decide (0 < s.size) && decide (bb s 0 = 35)) = true := by simp [hpos, h35]
      have hwd : wd s = false := by unfold wd; exact decide_eq_false (fun h => h.2.1 h35)
      rw [hq]
      have HW := Lib.hid hwd
      clear hq hwd h35
      go_wp2_with fail
      go_ret
      exact ⟨by rw [HW.out]; rfl, Below.refl _ _⟩
    · have hq : (decide (0 < s.size) && decide (bb s 0 = 35)) = false := by simp [h35]
      rw [hq]
      have H35 := Lib.hid h35
      have HP := Lib.hid hpos
      clear hq h35 hpos hne K h0
      go_wp2
      go_loopw [4] (fun _ wr => LW s w wr) (fun _ wr => s.size - wr.iterPos w.heap.size)
      case atStart => exact ⟨0, by omega, rfl, fun i hi => absurd hi (by omega)⟩
      case round =>
        obtain ⟨k, hk, rfl, hin⟩ := hrel
        have HIN := Lib.hid hin
        clear hin
        by_cases hlt : k < s.size
        · by_cases ha : bb s k < 128
          · have hd := dec_bb s k hlt ha
            have hnx : ∀ ty, (Instr.next (.pointer (some ⟨w.heap.size, 0, none⟩)) true ty).run Tryz.prog (w.iter s k) = .ok (.tuple #[.bool true, .int .i64 k, .int .i32 (bb s k : Int)]) (w.iter s (k + 1)) := fun ty => by
              rw [run_next_any w s k ty hlt, hd]
            by_cases hok : inW (bb s k) = true
            · have HS : Hid (LW s w (w.iter s (k + 1))) := Lib.hid ⟨k + 1, hlt, rfl, fun i hi => by
                by_cases e : i = k
                · rw [e]; exact hok
                · exact HIN.out i (by omega)⟩
              have b1 : decide ((bb s k : Int) < 33) = false := by unfold inW at hok; simp at hok; simp; omega
              have b2 : decide ((126 : Int) < (bb s k : Int)) = false := by unfold inW at hok; simp at hok; simp; omega
              generalize bb s k = v at *
              clear hd hok ha
              have HLT := Lib.hid hlt
              go_wp2_with fail
              go_roundw
              case rel => exact HS.out
              case measure => simp; have := HLT.out; omega
            · have hwd : wd s = false := by unfold wd; exact decide_eq_false (fun h => hok (h.2.2 k hlt))
              have HW := Lib.hid hwd
              have hb : bb s k < 33 ∨ (33 ≤ bb s k ∧ 126 < bb s k) := by unfold inW at hok; simp at hok; omega
              generalize bb s k = v at *
              clear hd hok ha hwd
              have hb2 : decide ((v : Int) < 33) = true ∨ (decide ((v : Int) < 33) = false ∧ decide ((126 : Int) < (v : Int)) = true) := by
                rcases hb with h | ⟨h, h2⟩
                · exact Or.inl (by simp; omega)
                · exact Or.inr ⟨by simp; omega, by simp; omega⟩
              clear hb
              rcases hb2 with b1 | ⟨b0, b1⟩
              all_goals
                go_wp2_with fail
                go_ret
                exact ⟨by rw [HW.out]; rfl, iter_below _ _ _⟩
          · obtain ⟨hd1, hd2⟩ := dec_hi s k hlt ha
            have hnx : ∀ ty, (Instr.next (.pointer (some ⟨w.heap.size, 0, none⟩)) true ty).run Tryz.prog (w.iter s k) = _ := fun ty => run_next_any w s k ty hlt
            have hwd : wd s = false := by unfold wd; exact decide_eq_false (fun h => by have := h.2.2 k hlt; unfold inW at this; simp at this; omega)
            have HW := Lib.hid hwd
            generalize (Utf8.decode s k).1 = v at *
            generalize (Utf8.decode s k).2 = v2 at *
            have b0 : decide ((v : Int) < 33) = false := by simp; omega
            have b1 : decide ((126 : Int) < (v : Int)) = true := by simp; omega
            clear hwd ha hd1
            go_wp2_with fail
            go_ret
            exact ⟨by rw [HW.out]; rfl, iter_below _ _ _⟩
        · have hnx : ∀ ty, (Instr.next (.pointer (some ⟨w.heap.size, 0, none⟩)) true ty).run Tryz.prog (w.iter s k) = _ := fun ty => run_next_end w s k ty hlt
          have hwd : wd s = true := by unfold wd; exact decide_eq_true ⟨HP.out, H35.out, fun i hi => HIN.out i (by omega)⟩
          have HW := Lib.hid hwd
          clear hwd
          go_wp2_with fail
          go_ret
          exact ⟨by rw [HW.out]; rfl, iter_below _ _ _⟩
end Go.Proofs.YtapdiionikfgpaaGreatDoor.Li
namespace Go.Proofs.YtapdiionikfgpaaGreatDoor.Li
open Go.ChangeShapes Go.WideShapes Go.ChangeAt Go.RowKit
set_option linter.unusedVariables false
theorem bb_eq (s : ByteArray) (k : Nat) (h : k < s.size) : bb s k = (s[k]'h).toNat := by unfold bb; rw [dif_pos h]
set_option maxHeartbeats 4000000 in
theorem c30 (s : ByteArray) (hs : s.size ≤ 9223372036854775807) (w : World) : Calls Tryz.prog 33 #[.string s] w fun e w' => e = .returned (.bool (wd s)) ∧ w = w' := by
  go_enter Tryz.func33, Tryz.ntmps33
  go_wp2_with fail
  go_loopw [3] (fun i wr => wr = w ∧ ∃ k : Nat, k ≤ s.size ∧ i = .int .i64 (k : Int) ∧ ∀ j, j < k → inW (bb s j) = true) (fun i _ => s.size - (intOf i).toNat)
  case atStart => exact ⟨rfl, 0, by omega, rfl, fun i hi => absurd hi (by omega)⟩
  case round =>
    obtain ⟨rfl, k, hk, rfl, hin⟩ := hrel
    have HIN := Lib.hid hin
    clear hin
    by_cases hlt : k < s.size
    · have he : (s[k]'hlt).toNat = bb s k := (bb_eq s k hlt).symm
      by_cases hok : inW (bb s k) = true
      · have HS : Hid (∀ i, i < k + 1 → inW (bb s i) = true) := Lib.hid fun i hi => by
          by_cases e : i = k
          · rw [e]; exact hok
          · exact HIN.out i (by omega)
        have b1 : decide ((bb s k : Int) < 33) = false := by unfold inW at hok; simp at hok; simp; omega
        have b2 : decide ((126 : Int) < (bb s k : Int)) = false := by unfold inW at hok; simp at hok; simp; omega
        generalize bb s k = v at *
        clear hok
        go_wp2_with fail
        go_roundw
        case rel => exact ⟨trivial, k + 1, hlt, by go_num, HS.out⟩
        case measure => simp [intOf]; omega
      · have hwd : wd s = false := by unfold wd; exact decide_eq_false (fun h => hok (h.2.2 k hlt))
        have HW := Lib.hid hwd
        have hb : decide ((bb s k : Int) < 33) = true ∨ (decide ((bb s k : Int) < 33) = false ∧ decide ((126 : Int) < (bb s k : Int)) = true) := by
          unfold inW at hok; simp at hok
          by_cases h : bb s k < 33
          · exact Or.inl (by simp; omega)
          · exact Or.inr ⟨by simp; omega, by simp; omega⟩
        generalize bb s k = v at *
        clear hok hwd
        rcases hb with b1 | ⟨b0, b1⟩
        all_goals
          go_wp2_with fail
          go_ret
          exact ⟨by rw [HW.out]; rfl, rfl⟩
    · have hks : k = s.size := by omega
      by_cases h0 : s.size = 0
      · have hw : wd s = false := by unfold wd; exact decide_eq_false (fun h => by omega)
        have HW := Lib.hid hw
        have hne : (s.toList == []) = true := by rw [size0 h0, ByteArray.toList_eq]; rfl
        clear hw
        subst hks
        go_wp2_with fail
        go_ret
        exact ⟨by rw [HW.out]; rfl, rfl⟩
      · have hne : (s.toList == []) = false := by
          rw [ByteArray.toList_eq]
          obtain ⟨⟨l⟩⟩ := s
          cases l with
          | nil => exact absurd rfl h0
          | cons c t => rfl
        have hpos : 0 < s.size := by omega
        have he : (s[0]'hpos).toNat = bb s 0 := (bb_eq s 0 hpos).symm
        have hw : wd s = !decide (bb s 0 = 35) := by
          unfold wd
          by_cases h35 : bb s 0 = 35
          · rw [decide_eq_false (fun h => h.2.1 h35), decide_eq_true h35]; rfl
          · rw [decide_eq_true (⟨hpos, h35, fun i hi => HIN.out i (by omega)⟩), decide_eq_false h35]; rfl
        have HW := Lib.hid hw
        have hv : bb s 0 = 35 ∨ bb s 0 ≠ 35 := by omega
        generalize bb s 0 = v at *
        clear hw
        rcases hv with hv | hv
        · have b1 : ((v : Int) != 35) = false := by simp; omega
          have HV := Lib.hid hv
          clear hv
          go_wp2_with fail
          go_ret
          exact ⟨by rw [HW.out, HV.out]; rfl, rfl⟩
        · have b1 : ((v : Int) != 35) = true := by simp; omega
          have HV : Hid (decide (v = 35) = false) := Lib.hid (decide_eq_false hv)
          clear hv
          go_wp2_with fail
          go_ret
          exact ⟨by rw [HW.out, HV.out]; rfl, rfl⟩
theorem c17 (r : Int) (w : World) : Calls Tryz.prog 34 #[.int .i32 r] w fun e w' => e = .returned (.bool (decide (r = 9 ∨ r = 10 ∨ (32 ≤ r ∧ r ≤ 126)))) ∧ w = w' := by
  by_cases h9 : r = 9
  · subst h9
    go_enter Tryz.func34, Tryz.ntmps34
    go_wp2
    go_ret
    exact ⟨rfl, rfl⟩
  by_cases h10 : r = 10
  · subst h10
    go_enter Tryz.func34, Tryz.ntmps34
    go_wp2
    go_ret
    exact ⟨rfl, rfl⟩
  have a1 : (r == 9) = false := by simpa using h9
  have a2 : (r == 10) = false := by simpa using h10
  have hq : decide (r = 9 ∨ r = 10 ∨ (32 ≤ r ∧ r ≤ 126)) = (decide (32 ≤ r) && decide (r ≤ 126)) := by
    rw [Bool.eq_iff_iff]; simp; omega
  rw [hq]
  obtain ⟨b1, e1⟩ : ∃ b, decide (32 ≤ r) = b := ⟨_, rfl⟩
  obtain ⟨b2, e2⟩ : ∃ b, decide (r ≤ 126) = b := ⟨_, rfl⟩
  rw [e1, e2]
  clear hq h9 h10
  cases b1
  all_goals
    go_enter Tryz.func34, Tryz.ntmps34
    go_wp2
    go_ret
    exact ⟨rfl, rfl⟩
theorem c33 (r : Int) (w : World) : Calls Tryz.prog 71 #[.int .i32 r] w fun e w' => e = .returned (.bool (decide (r = 32 ∨ r = 9))) ∧ w = w' := by
  by_cases h32 : r = 32
  · subst h32
    go_enter Tryz.func71, Tryz.ntmps71
    go_wp2
    go_ret
    exact ⟨rfl, rfl⟩
  have a1 : (r == 32) = false := by simpa using h32
  have hq : decide (r = 32 ∨ r = 9) = (r == 9) := by rw [Bool.eq_iff_iff]; simp [h32]
  rw [hq]
  generalize hb : (r == 9) = b
  clear h32 hq
  go_enter Tryz.func71, Tryz.ntmps71
  go_wp2
  go_ret
  exact ⟨rfl, rfl⟩
end Go.Proofs.YtapdiionikfgpaaGreatDoor.Li
namespace Go.Proofs.YtapdiionikfgpaaGreatDoor
open Go.ChangeShapes Go.WideShapes Go.ChangeAt Go.RowKit
open Li (bb bb_lt bb_eq wd inW size0)
set_option linter.unusedVariables false
set_option linter.unusedSimpArgs false
def smB (b : Nat) : Bool := decide (97 ≤ b) && decide (b ≤ 122)
def dgB (b : Nat) : Bool := decide (48 ≤ b) && decide (b ≤ 57)
/-- may a byte stand in a name? -/
def nmc (b : Nat) : Bool := smB b || (dgB b || decide (b = 95))
open Classical in
/-- is a text a name? -/
noncomputable def nameB (s : ByteArray) : Bool := decide (1 ≤ s.size ∧ s.size ≤ 16 ∧ smB (bb s 0) = true ∧ ∀ i, i < s.size → nmc (bb s i) = true)
/-- .. a symbol? -/
noncomputable def symB (s : ByteArray) : Bool := wd s && decide (s.size ≤ 32)
theorem c50 (b : Nat) (w : World) : Calls Tryz.prog 115 #[.int .u8 (b : Int)] w fun e w' => e = .returned (.bool (smB b)) ∧ w = w' := by
  have hq : smB b = (decide ((97 : Int) ≤ (b : Int)) && decide ((b : Int) ≤ 122)) := by unfold smB; rw [Bool.eq_iff_iff]; simp; omega
  rw [hq]
  obtain ⟨b1, e1⟩ : ∃ x, decide ((97 : Int) ≤ (b : Int)) = x := ⟨_, rfl⟩
  obtain ⟨b2, e2⟩ : ∃ x, decide ((b : Int) ≤ 122) = x := ⟨_, rfl⟩
  rw [e1, e2]
  clear hq
  cases b1
  all_goals
    go_enter Tryz.func115, Tryz.ntmps115
    go_wp2
    go_ret
    exact ⟨rfl, rfl⟩
theorem c51 (b : Nat) (w : World) : Calls Tryz.prog 116 #[.int .u8 (b : Int)] w fun e w' => e = .returned (.bool (dgB b)) ∧ w = w' := by
  have hq : dgB b = (decide ((48 : Int) ≤ (b : Int)) && decide ((b : Int) ≤ 57)) := by unfold dgB; rw [Bool.eq_iff_iff]; simp; omega
  rw [hq]
  obtain ⟨b1, e1⟩ : ∃ x, decide ((48 : Int) ≤ (b : Int)) = x := ⟨_, rfl⟩
  obtain ⟨b2, e2⟩ : ∃ x, decide ((b : Int) ≤ 57) = x := ⟨_, rfl⟩
  rw [e1, e2]
  clear hq
  cases b1
  all_goals
    go_enter Tryz.func116, Tryz.ntmps116
    go_wp2
    go_ret
    exact ⟨rfl, rfl⟩
theorem nameB_no (s : ByteArray) (h : ¬ (1 ≤ s.size ∧ s.size ≤ 16 ∧ smB (bb s 0) = true ∧ ∀ i, i < s.size → nmc (bb s i) = true)) : nameB s = false := by
  unfold nameB; exact decide_eq_false h
theorem nameB_yes (s : ByteArray) (h : 1 ≤ s.size ∧ s.size ≤ 16 ∧ smB (bb s 0) = true ∧ ∀ i, i < s.size → nmc (bb s i) = true) : nameB s = true := by
  unfold nameB; exact decide_eq_true h
set_option maxHeartbeats 4000000 in
theorem c28 (s : ByteArray) (hs : s.size ≤ 9223372036854775807) (w : World) : Calls Tryz.prog 75 #[.string s] w fun e w' => e = .returned (.bool (nameB s)) ∧ w = w' := by
  have K50 := Lib.hid c50
  have K51 := Lib.hid c51
  by_cases h0 : s.size < 1
  · have HW := Lib.hid (nameB_no s (fun h => by omega))
    have t0 : decide ((s.size : Int) < 1) = true := by simp; omega
    clear h0
    go_enter Tryz.func75, Tryz.ntmps75
    go_wp2_with fail
    go_ret
    exact ⟨by rw [HW.out]; rfl, rfl⟩
  have t0 : decide ((s.size : Int) < 1) = false := by simp; omega
  by_cases h16 : 16 < s.size
  · have HW := Lib.hid (nameB_no s (fun h => by omega))
    have t1 : decide ((16 : Int) < (s.size : Int)) = true := by simp; omega
    clear h0 h16
    go_enter Tryz.func75, Tryz.ntmps75
    go_wp2_with fail
    go_ret
    exact ⟨by rw [HW.out]; rfl, rfl⟩
  have t1 : decide ((16 : Int) < (s.size : Int)) = false := by simp; omega
  have hpos : 0 < s.size := by omega
  have he : (s[0]'hpos).toNat = bb s 0 := (bb_eq s 0 hpos).symm
  obtain ⟨v0, hv0⟩ : ∃ v, bb s 0 = v := ⟨_, rfl⟩
  rw [hv0] at he
  have HP := Lib.hid hpos
  have H16 := Lib.hid h16
  clear h16 h0
  cases hsm : smB v0
  · have HW := Lib.hid (nameB_no s (fun h => by rw [hv0, hsm] at h; cases h.2.2.1))
    have HSM := Lib.hid hsm
    clear hv0 hsm
    go_enter Tryz.func75, Tryz.ntmps75
    go_wp2_with fail
    refine (K50.out _ _).mono ?_
    rintro _ _ ⟨rfl, rfl⟩
    rw [HSM.out]
    go_wp2_with fail
    go_ret
    exact ⟨by rw [HW.out]; rfl, rfl⟩
  have HSM := Lib.hid hsm
  have HV0 := Lib.hid hv0
  clear hv0 hsm
  go_enter Tryz.func75, Tryz.ntmps75
  go_wp2_with fail
  refine (K50.out _ _).mono ?_
  rintro _ _ ⟨rfl, rfl⟩
  rw [HSM.out]
  clear he hpos
  go_wp2_with fail
  go_loopw [20] (fun i wr => wr = w ∧ ∃ k : Nat, k ≤ s.size ∧ i = .int .i64 (k : Int) ∧ ∀ j, j < k → nmc (bb s j) = true) (fun i _ => s.size - (intOf i).toNat)
  case atStart => exact ⟨rfl, 0, by omega, rfl, fun i hi => absurd hi (by omega)⟩
  case round =>
    obtain ⟨rfl, k, hk, rfl, hin⟩ := hrel
    have HIN := Lib.hid hin
    clear hin
    by_cases hlt : k < s.size
    · have he : (s[k]'hlt).toNat = bb s k := (bb_eq s k hlt).symm
      have HS : Hid (nmc (bb s k) = true → ∀ i, i < k + 1 → nmc (bb s i) = true) := Lib.hid fun h i hi => by
        by_cases e : i = k
        · rw [e]; exact h
        · exact HIN.out i (by omega)
      have HN : Hid (nmc (bb s k) = false → nameB s = false) := Lib.hid fun h => nameB_no s (fun hh => by have := hh.2.2.2 k hlt; rw [h] at this; cases this)
      obtain ⟨v, hv⟩ : ∃ v, bb s k = v := ⟨_, rfl⟩
      rw [hv] at he HS HN
      have HLT := Lib.hid hlt
      clear hv hk
      cases h1 : smB v
      · cases h2 : dgB v
        · by_cases h3 : v = 95
          · have b1 : ((v : Int) != 95) = false := by simp [h3]
            have HX := Lib.hid (HS.out (by unfold nmc; rw [h1, h2, h3]; rfl))
            have H1 := Lib.hid h1
            have H2 := Lib.hid h2
            clear h1 h2 h3
            go_wp2_with fail
            refine (K50.out _ _).mono ?_
            rintro _ _ ⟨rfl, rfl⟩
            rw [H1.out]
            go_wp2_with fail
            refine (K51.out _ _).mono ?_
            rintro _ _ ⟨rfl, rfl⟩
            rw [H2.out]
            go_wp2_with fail
            go_roundw
            case rel => exact ⟨trivial, k + 1, HLT.out, by go_num, HX.out⟩
            case measure => simp [intOf]; have := HLT.out; omega
          · have b1 : ((v : Int) != 95) = true := by simp; omega
            have HX := Lib.hid (HN.out (by unfold nmc; rw [h1, h2, decide_eq_false h3]; rfl))
            have H1 := Lib.hid h1
            have H2 := Lib.hid h2
            clear h1 h2 h3
            go_wp2_with fail
            refine (K50.out _ _).mono ?_
            rintro _ _ ⟨rfl, rfl⟩
            rw [H1.out]
            go_wp2_with fail
            refine (K51.out _ _).mono ?_
            rintro _ _ ⟨rfl, rfl⟩
            rw [H2.out]
            go_wp2_with fail
            go_ret
            exact ⟨by rw [HX.out]; rfl, rfl⟩
        · have HX := Lib.hid (HS.out (by unfold nmc; rw [h1, h2]; rfl))
          have H1 := Lib.hid h1
          have H2 := Lib.hid h2
          clear h1 h2
          go_wp2_with fail
          refine (K50.out _ _).mono ?_
          rintro _ _ ⟨rfl, rfl⟩
          rw [H1.out]
          go_wp2_with fail
          refine (K51.out _ _).mono ?_
          rintro _ _ ⟨rfl, rfl⟩
          rw [H2.out]
          go_wp2_with fail
          go_roundw
          case rel => exact ⟨trivial, k + 1, HLT.out, by go_num, HX.out⟩
          case measure => simp [intOf]; have := HLT.out; omega
      · have HX := Lib.hid (HS.out (by unfold nmc; rw [h1]; rfl))
        have H1 := Lib.hid h1
        clear h1
        go_wp2_with fail
        refine (K50.out _ _).mono ?_
        rintro _ _ ⟨rfl, rfl⟩
        rw [H1.out]
        go_wp2_with fail
        go_roundw
        case rel => exact ⟨trivial, k + 1, HLT.out, by go_num, HX.out⟩
        case measure => simp [intOf]; have := HLT.out; omega
    · have HW := Lib.hid (nameB_yes s ⟨HP.out, Nat.le_of_not_lt H16.out, by rw [HV0.out]; exact HSM.out, fun i hi => HIN.out i (by omega)⟩)
      clear hk
      go_wp2_with fail
      go_ret
      exact ⟨by rw [HW.out]; rfl, rfl⟩
end Go.Proofs.YtapdiionikfgpaaGreatDoor
namespace Go.Proofs.YtapdiionikfgpaaGreatDoor
open Go.ChangeShapes Go.WideShapes Go.ChangeAt Go.RowKit
open Li (bb bb_lt bb_eq wd inW size0)
set_option linter.unusedVariables false
set_option linter.unusedSimpArgs false
theorem symB_no (s : ByteArray) (h : ¬ (0 < s.size ∧ s.size ≤ 32 ∧ bb s 0 ≠ 35 ∧ ∀ i, i < s.size → inW (bb s i) = true)) : symB s = false := by
  unfold symB
  rw [Bool.and_eq_false_iff]
  by_cases h32 : s.size ≤ 32
  · left; unfold wd; exact decide_eq_false (fun hh => h ⟨hh.1, h32, hh.2⟩)
  · right; exact decide_eq_false h32
theorem symB_yes (s : ByteArray) (h : 0 < s.size ∧ s.size ≤ 32 ∧ bb s 0 ≠ 35 ∧ ∀ i, i < s.size → inW (bb s i) = true) : symB s = true := by
  unfold symB wd
  rw [decide_eq_true ⟨h.1, h.2.2⟩, decide_eq_true h.2.1]; rfl
set_option maxHeartbeats 4000000 in
theorem c72 (s : ByteArray) (hs : s.size ≤ 9223372036854775807) (w : World) : Calls Tryz.prog 78 #[.string s] w fun e w' => e = .returned (.bool (symB s)) ∧ w = w' := by
  by_cases h0 : s.size < 1
  · have HW := Lib.hid (symB_no s (fun h => by omega))
    have t0 : decide ((s.size : Int) < 1) = true := by simp; omega
    clear h0
    go_enter Tryz.func78, Tryz.ntmps78
    go_wp2_with fail
    go_ret
    exact ⟨by rw [HW.out]; rfl, rfl⟩
  have t0 : decide ((s.size : Int) < 1) = false := by simp; omega
  by_cases h16 : 32 < s.size
  · have HW := Lib.hid (symB_no s (fun h => by omega))
    have t1 : decide ((32 : Int) < (s.size : Int)) = true := by simp; omega
    clear h0 h16
    go_enter Tryz.func78, Tryz.ntmps78
    go_wp2_with fail
    go_ret
    exact ⟨by rw [HW.out]; rfl, rfl⟩
  have t1 : decide ((32 : Int) < (s.size : Int)) = false := by simp; omega
  have hpos : 0 < s.size := by omega
  have he : (s[0]'hpos).toNat = bb s 0 := (bb_eq s 0 hpos).symm
  obtain ⟨v0, hv0⟩ : ∃ v, bb s 0 = v := ⟨_, rfl⟩
  rw [hv0] at he
  have HP := Lib.hid hpos
  have H16 := Lib.hid h16
  clear h16 h0
  by_cases h35 : v0 = 35
  · have HW := Lib.hid (symB_no s (fun h => h.2.2.1 (by rw [hv0, h35])))
    have b0 : ((v0 : Int) == 35) = true := by simp [h35]
    clear hv0 h35
    go_enter Tryz.func78, Tryz.ntmps78
    go_wp2_with fail
    go_ret
    exact ⟨by rw [HW.out]; rfl, rfl⟩
  have b0 : ((v0 : Int) == 35) = false := by simp; omega
  have H35 := Lib.hid h35
  have HV0 := Lib.hid hv0
  clear hv0 h35
  go_enter Tryz.func78, Tryz.ntmps78
  go_wp2_with fail
  clear he hpos b0
  go_loopw [19] (fun i wr => wr = w ∧ ∃ k : Nat, k ≤ s.size ∧ i = .int .i64 (k : Int) ∧ ∀ j, j < k → inW (bb s j) = true) (fun i _ => s.size - (intOf i).toNat)
  case atStart => exact ⟨rfl, 0, by omega, rfl, fun i hi => absurd hi (by omega)⟩
  case round =>
    obtain ⟨rfl, k, hk, rfl, hin⟩ := hrel
    have HIN := Lib.hid hin
    clear hin
    by_cases hlt : k < s.size
    · have he : (s[k]'hlt).toNat = bb s k := (bb_eq s k hlt).symm
      have HS : Hid (inW (bb s k) = true → ∀ i, i < k + 1 → inW (bb s i) = true) := Lib.hid fun h i hi => by
        by_cases e : i = k
        · rw [e]; exact h
        · exact HIN.out i (by omega)
      have HN : Hid (inW (bb s k) = false → symB s = false) := Lib.hid fun h => symB_no s (fun hh => by have := hh.2.2.2 k hlt; rw [h] at this; cases this)
      obtain ⟨v, hv⟩ : ∃ v, bb s k = v := ⟨_, rfl⟩
      rw [hv] at he HS HN
      have HLT := Lib.hid hlt
      clear hv hk
      by_cases h1 : v < 33
      · have b1 : decide ((v : Int) < 33) = true := by simp; omega
        have HX := Lib.hid (HN.out (by unfold inW; simp; omega))
        clear h1
        go_wp2_with fail
        go_ret
        exact ⟨by rw [HX.out]; rfl, rfl⟩
      · have b1 : decide ((v : Int) < 33) = false := by simp; omega
        by_cases h2 : 126 < v
        · have b2 : decide ((126 : Int) < (v : Int)) = true := by simp; omega
          have HX := Lib.hid (HN.out (by unfold inW; simp; omega))
          clear h1 h2
          go_wp2_with fail
          go_ret
          exact ⟨by rw [HX.out]; rfl, rfl⟩
        · have b2 : decide ((126 : Int) < (v : Int)) = false := by simp; omega
          have HX := Lib.hid (HS.out (by unfold inW; simp; omega))
          clear h1 h2
          go_wp2_with fail
          go_roundw
          case rel => exact ⟨trivial, k + 1, HLT.out, by go_num, HX.out⟩
          case measure => simp [intOf]; have := HLT.out; omega
    · have HW := Lib.hid (symB_yes s ⟨HP.out, Nat.le_of_not_lt H16.out, by rw [HV0.out]; exact H35.out, fun i hi => HIN.out i (by omega)⟩)
      clear hk
      go_wp2_with fail
      go_ret
      exact ⟨by rw [HW.out]; rfl, rfl⟩
set_option maxHeartbeats 4000000 in
theorem c22 (s : ByteArray) (hs : s.size ≤ 9223372036854775807) (w : World) : Calls Tryz.prog 49 #[.string s] w fun e w' => e = .returned (.bool (nameB s)) ∧ w = w' := by
  go_enter Tryz.func49, Tryz.ntmps49
  go_wp2_with fail
  go_loopw [3] (fun i wr => wr = w ∧ ∃ k : Nat, k ≤ s.size ∧ i = .int .i64 (k : Int) ∧ ∀ j, j < k → nmc (bb s j) = true ∧ (j = 0 → smB (bb s 0) = true)) (fun i _ => s.size - (intOf i).toNat)
  case atStart => exact ⟨rfl, 0, by omega, rfl, fun i hi => absurd hi (by omega)⟩
  case round =>
    obtain ⟨rfl, k, hk, rfl, hin⟩ := hrel
    have HIN := Lib.hid hin
    clear hin
    by_cases hlt : k < s.size
    · have he : (s[k]'hlt).toNat = bb s k := (bb_eq s k hlt).symm
      have HS : Hid (nmc (bb s k) = true → (k = 0 → smB (bb s k) = true) → ∀ i, i < k + 1 → nmc (bb s i) = true ∧ (i = 0 → smB (bb s 0) = true)) := Lib.hid fun h h2 i hi => by
        by_cases e : i = k
        · rw [e]; exact ⟨h, fun e0 => by have := h2 e0; rw [e0] at this; exact this⟩
        · exact HIN.out i (by omega)
      have HN : Hid (nmc (bb s k) = false → nameB s = false) := Lib.hid fun h => nameB_no s (fun hh => by have := hh.2.2.2 k hlt; rw [h] at this; cases this)
      have HN0 : Hid (k = 0 → smB (bb s k) = false → nameB s = false) := Lib.hid fun h0 h => nameB_no s (fun hh => by have := hh.2.2.1; rw [h0] at h; rw [h] at this; cases this)
      obtain ⟨v, hv⟩ : ∃ v, bb s k = v := ⟨_, rfl⟩
      rw [hv] at he HS HN HN0
      have HLT := Lib.hid hlt
      clear hv hk
      have e1 : smB v = (decide (97 ≤ (v : Int)) && decide ((v : Int) ≤ 122)) := by unfold smB; rw [Bool.eq_iff_iff]; simp; omega
      have e2 : dgB v = (decide (48 ≤ (v : Int)) && decide ((v : Int) ≤ 57)) := by unfold dgB; rw [Bool.eq_iff_iff]; simp; omega
      have e3 : nmc v = (smB v || (dgB v || ((v : Int) == 95))) := by unfold nmc; congr 2; rw [Bool.eq_iff_iff]; simp; omega
      rw [e3] at HS HN
      rw [e1] at HS HN HN0
      rw [e2] at HS HN
      obtain ⟨x1, f1⟩ : ∃ x, decide (97 ≤ (v : Int)) = x := ⟨_, rfl⟩
      obtain ⟨x2, f2⟩ : ∃ x, decide ((v : Int) ≤ 122) = x := ⟨_, rfl⟩
      obtain ⟨x3, f3⟩ : ∃ x, decide (48 ≤ (v : Int)) = x := ⟨_, rfl⟩
      obtain ⟨x4, f4⟩ : ∃ x, decide ((v : Int) ≤ 57) = x := ⟨_, rfl⟩
      obtain ⟨x5, f5⟩ : ∃ x, ((v : Int) == 95) = x := ⟨_, rfl⟩
      rw [f1, f2, f3, f4, f5] at HS
      rw [f1, f2, f3, f4, f5] at HN
      rw [f1, f2] at HN0
      clear e1 e2 e3
      by_cases hk0 : k = 0
      · subst hk0
        have g0 : (((0 : Nat) : Int) == 0) = true := rfl
        cases x1 <;> cases x2 <;> cases x3 <;> cases x4 <;> cases x5
        all_goals first
          | (have HX := Lib.hid (HN0.out rfl rfl)
             go_wp2_with fail
             go_ret
             exact ⟨by rw [HX.out]; rfl, rfl⟩)
          | (have HX := Lib.hid (HS.out rfl (fun _ => rfl))
             go_wp2_with fail
             go_roundw
             case rel => exact ⟨trivial, 0 + 1, HLT.out, by go_num, HX.out⟩
             case measure => simp [intOf]; have := HLT.out; omega)
      · have g0 : ((k : Int) == 0) = false := by simp; omega
        cases x1 <;> cases x2 <;> cases x3 <;> cases x4 <;> cases x5
        all_goals first
          | (have HX := Lib.hid (HN.out rfl)
             go_wp2_with fail
             go_ret
             exact ⟨by rw [HX.out]; rfl, rfl⟩)
          | (have HX := Lib.hid (HS.out rfl (fun e => absurd e hk0))
             go_wp2_with fail
             go_roundw
             case rel => exact ⟨trivial, k + 1, HLT.out, by go_num, HX.out⟩
             case measure => simp [intOf]; have := HLT.out; omega)
    · have hks : k = s.size := by omega
      subst hks
      have HW : Hid (nameB s = (decide (1 ≤ (s.size : Int)) && decide ((s.size : Int) ≤ 16))) := Lib.hid (by
        by_cases h : 1 ≤ s.size ∧ s.size ≤ 16
        · rw [nameB_yes s ⟨h.1, h.2, (HIN.out 0 (by omega)).2 rfl, fun i hi => (HIN.out i hi).1⟩, decide_eq_true (by omega), decide_eq_true (by omega)]; rfl
        · rw [nameB_no s (fun hh => h ⟨hh.1, hh.2.1⟩)]
          symm
          rw [Bool.and_eq_false_iff]
          by_cases h1 : 1 ≤ s.size
          · right; exact decide_eq_false (by omega)
          · left; exact decide_eq_false (by omega))
      obtain ⟨x1, f1⟩ : ∃ x, decide (1 ≤ (s.size : Int)) = x := ⟨_, rfl⟩
      obtain ⟨x2, f2⟩ : ∃ x, decide ((s.size : Int) ≤ 16) = x := ⟨_, rfl⟩
      rw [f1, f2] at HW
      clear hk hlt
      cases x1 <;> cases x2
      all_goals
        go_wp2_with fail
        go_ret
        exact ⟨by rw [HW.out]; rfl, rfl⟩
theorem c49 (s : ByteArray) (hs : s.size ≤ 9223372036854775807) (w : World) : Calls Tryz.prog 52 #[.string s] w fun e w' => e = .returned (.bool (symB s)) ∧ w = w' := by
  have K := Lib.hid (Li.c30 s hs)
  have HQ : Hid (symB s = (wd s && decide ((s.size : Int) ≤ 32))) := Lib.hid (by unfold symB; congr 1; rw [Bool.eq_iff_iff]; simp; omega)
  obtain ⟨q, hq⟩ : ∃ q, wd s = q := ⟨_, rfl⟩
  rw [hq] at K HQ
  obtain ⟨x2, f2⟩ : ∃ x, decide ((s.size : Int) ≤ 32) = x := ⟨_, rfl⟩
  rw [f2] at HQ
  clear hq
  cases q
  all_goals
    go_enter Tryz.func52, Tryz.ntmps52
    go_wp2_with fail
    refine (K.out _).mono ?_
    rintro _ _ ⟨rfl, rfl⟩
    go_wp2_with fail
    go_ret
    exact ⟨by rw [HQ.out]; rfl, rfl⟩
end Go.Proofs.YtapdiionikfgpaaGreatDoor
namespace Go.Proofs.YtapdiionikfgpaaGreatDoor.Li
open Go.ChangeShapes Go.WideShapes Go.ChangeAt Go.RowKit
set_option linter.unusedVariables false
/-- a digit's worth -/
def dg (b : Nat) : Nat := if 48 ≤ b ∧ b ≤ 57 then b - 48 else if 97 ≤ b ∧ b ≤ 102 then b - 97 + 10 else 99
theorem dg_le (b : Nat) : dg b ≤ 99 := by unfold dg; split <;> (try split) <;> omega
/-- so many digits' number -/
def numN (base : Nat) (s : ByteArray) : Nat → Nat
  | 0 => 0
  | k + 1 => base * numN base s k + dg (bb s k)
theorem c24_1 (b : Nat) (h1 : 48 ≤ b) (h2 : b ≤ 57) (w : World) : Calls Tryz.prog 124 #[.int .u8 (b : Int)] w fun e w' => e = .returned (.int .u64 (dg b : Int)) ∧ w = w' := by
  have hd : Hid ((dg b : Int) = (b : Int) - 48) := Lib.hid (by unfold dg; rw [if_pos ⟨h1, h2⟩]; omega)
  go_enter Tryz.func124, Tryz.ntmps124
  go_wp2_with fail
  go_ret
  exact ⟨by rw [hd.out]; first | rfl | go_num, rfl⟩
theorem c24_2 (b : Nat) (h1 : 97 ≤ b) (h2 : b ≤ 102) (w : World) : Calls Tryz.prog 124 #[.int .u8 (b : Int)] w fun e w' => e = .returned (.int .u64 (dg b : Int)) ∧ w = w' := by
  have hd : Hid ((dg b : Int) = (b : Int) - 97 + 10) := Lib.hid (by unfold dg; rw [if_neg (by omega), if_pos ⟨h1, h2⟩]; omega)
  go_enter Tryz.func124, Tryz.ntmps124
  go_wp2_with fail
  go_ret
  exact ⟨by rw [hd.out]; first | rfl | go_num, rfl⟩
theorem c24_3 (b : Nat) (h1 : b < 48) (w : World) : Calls Tryz.prog 124 #[.int .u8 (b : Int)] w fun e w' => e = .returned (.int .u64 (dg b : Int)) ∧ w = w' := by
  have hd : Hid ((dg b : Int) = 99) := Lib.hid (by unfold dg; rw [if_neg (by omega), if_neg (by omega)]; rfl)
  go_enter Tryz.func124, Tryz.ntmps124
  go_wp2_with fail
  go_ret
  exact ⟨by rw [hd.out]; first | rfl | go_num, rfl⟩
theorem c24_4 (b : Nat) (h1 : 57 < b) (h2 : b < 97) (w : World) : Calls Tryz.prog 124 #[.int .u8 (b : Int)] w fun e w' => e = .returned (.int .u64 (dg b : Int)) ∧ w = w' := by
  have hd : Hid ((dg b : Int) = 99) := Lib.hid (by unfold dg; rw [if_neg (by omega), if_neg (by omega)]; rfl)
  go_enter Tryz.func124, Tryz.ntmps124
  go_wp2_with fail
  go_ret
  exact ⟨by rw [hd.out]; first | rfl | go_num, rfl⟩
theorem c24_5 (b : Nat) (h1 : 102 < b) (h2 : b < 256) (w : World) : Calls Tryz.prog 124 #[.int .u8 (b : Int)] w fun e w' => e = .returned (.int .u64 (dg b : Int)) ∧ w = w' := by
  have hd : Hid ((dg b : Int) = 99) := Lib.hid (by unfold dg; rw [if_neg (by omega), if_neg (by omega)]; rfl)
  go_enter Tryz.func124, Tryz.ntmps124
  go_wp2_with fail
  go_ret
  exact ⟨by rw [hd.out]; first | rfl | go_num, rfl⟩
theorem c24 (b : Nat) (h : b < 256) (w : World) : Calls Tryz.prog 124 #[.int .u8 (b : Int)] w fun e w' => e = .returned (.int .u64 (dg b : Int)) ∧ w = w' := by
  by_cases h1 : b < 48
  · exact c24_3 b h1 w
  · by_cases h2 : b ≤ 57
    · exact c24_1 b (by omega) h2 w
    · by_cases h3 : b < 97
      · exact c24_4 b (by omega) h3 w
      · by_cases h4 : b ≤ 102
        · exact c24_2 b (by omega) h4 w
        · exact c24_5 b (by omega) h w
end Go.Proofs.YtapdiionikfgpaaGreatDoor.Li
namespace Go.Proofs.YtapdiionikfgpaaGreatDoor.Li
open Go.ChangeShapes Go.WideShapes Go.ChangeAt Go.RowKit
set_option linter.unusedVariables false
/-- no number -/
def noN : Value := .tuple #[.int .u32 0, .bool false]
/-- the number of digits of a base, if it is one -/
def badN (base : Nat) (s : ByteArray) : Prop := s.size = 0 ∨ (∃ i, i < s.size ∧ base ≤ dg (bb s i)) ∨ 4294967296 ≤ numN base s s.size
open Classical in
noncomputable def finV (base : Nat) (s : ByteArray) : Value := if badN base s then noN else .tuple #[.int .u32 (numN base s s.size : Int), .bool true]
theorem fin_no (base : Nat) (s : ByteArray) (h : badN base s) : finV base s = noN := by unfold finV; rw [if_pos h]
theorem fin_yes (base : Nat) (s : ByteArray) (h : ¬ badN base s) : finV base s = .tuple #[.int .u32 (numN base s s.size : Int), .bool true] := by unfold finV; rw [if_neg h]
theorem numN_lt (base : Nat) (s : ByteArray) : ∀ k, (∀ j, j < k → dg (bb s j) < base) → numN base s k < base ^ k := by
  intro k
  induction k with
  | zero => intro _; simp [numN]
  | succ k ih =>
    intro h
    have h1 := ih (fun j hj => h j (by omega))
    have h2 := h k (by omega)
    rw [numN, Nat.pow_succ, Nat.mul_comm (base ^ k)]
    have h3 : base * (numN base s k + 1) ≤ base * base ^ k := Nat.mul_le_mul_left _ h1
    rw [Nat.mul_add] at h3
    omega
theorem numN_10 (s : ByteArray) (k : Nat) (hk : k ≤ 10) (h : ∀ j, j < k → dg (bb s j) < 10) : numN 10 s k < 10000000000 := by
  have h1 := numN_lt 10 s k h
  have h2 : 10 ^ k ≤ 10 ^ 10 := Nat.pow_le_pow_right (by decide) hk
  omega
set_option maxRecDepth 100000 in
set_option maxHeartbeats 4000000 in
theorem c11_10 (s : ByteArray) (hs : s.size ≤ 10) (hz : 1 < s.size → bb s 0 ≠ 48) (w : World) : Calls Tryz.prog 97 #[.string s] w fun e w' => e = .returned (finV 10 s) ∧ w = w' := by
  have HS := Lib.hid hs
  have d1 : ∀ h : 0 < s.size, ((s[0]'h).toNat : Int) = (bb s 0 : Int) := fun h => by rw [bb_eq s 0 h]
  have hcase : s.size ≤ 1 ∨ (s.size = 2 ∧ bb s 0 ≠ 48) ∨ (2 < s.size ∧ bb s 0 ≠ 48) := by
    by_cases h : 1 < s.size
    · by_cases h2 : s.size = 2
      · exact Or.inr (Or.inl ⟨h2, hz h⟩)
      · exact Or.inr (Or.inr ⟨by omega, hz h⟩)
    · exact Or.inl (by omega)
  have HE : Hid ((∀ j, j < s.size → dg (bb s j) < 10) → numN 10 s s.size < 4294967296 → s.size ≠ 0 → finV 10 s = .tuple #[.int .u32 (numN 10 s s.size : Int), .bool true]) := Lib.hid fun h1 h2 h3 => fin_yes 10 s (by
    rintro (h | ⟨i, hi, hd⟩ | h)
    · exact h3 h
    · have := h1 i hi; omega
    · omega)
  have HN : Hid (badN 10 s → finV 10 s = noN) := Lib.hid (fin_no 10 s)
  clear hz
  have e2 : ∀ h : bb s 0 ≠ 48, ((bb s 0 : Int) == 48) = false := fun h => by simpa using (fun h3 => h (by omega))
  rcases hcase with h1 | ⟨h1, h2⟩ | ⟨h1, h2⟩
  case' inr.inl => have e1 := e2 h2
  case' inr.inr => have e1 := e2 h2
  all_goals
    clear e2
    go_enter Tryz.func97, Tryz.ntmps97
    go_wp2_with fail
    go_loopw [5, 6] (fun n i wr => wr = w ∧ ∃ k : Nat, k ≤ s.size ∧ i = .int .i64 (k : Int) ∧ n = .int .u64 (numN 10 s k : Int) ∧ ∀ j, j < k → dg (bb s j) < 10) (fun _ i _ => s.size - (intOf i).toNat)
    case atStart => exact ⟨rfl, 0, by omega, rfl, rfl, fun i hi => absurd hi (by omega)⟩
    case round =>
      obtain ⟨rfl, k, hk, rfl, rfl, hin⟩ := hrel
      have HIN := Lib.hid hin
      have hlt10 := numN_10 s k (by have := HS.out; omega) hin
      clear hin
      by_cases hlt : k < s.size
      · have he : (s[k]'hlt).toNat = bb s k := (bb_eq s k hlt).symm
        have K := Lib.hid (c24 (bb s k) (bb_lt s k) wr)
        have HST : Hid (dg (bb s k) < 10 → ∀ j, j < k + 1 → dg (bb s j) < 10) := Lib.hid fun hl j hj => by
          by_cases e : j = k
          · rw [e]; exact hl
          · exact HIN.out j (by omega)
        have HBD : Hid (10 ≤ dg (bb s k) → finV 10 s = noN) := Lib.hid fun h => HN.out (Or.inr (Or.inl ⟨k, hlt, h⟩))
        obtain ⟨m', hm'⟩ : ∃ m', numN 10 s (k + 1) = m' := ⟨_, rfl⟩
        have HNN : Hid (m' = 10 * numN 10 s k + dg (bb s k)) := Lib.hid (by rw [← hm']; rfl)
        have HM := Lib.hid hm'
        clear hm'
        have hd := dg_le (bb s k)
        generalize numN 10 s k = m at *
        generalize dg (bb s k) = d at *
        go_wp2_with fail
        refine (K.out).mono ?_
        rintro _ w4 ⟨rfl, rfl⟩
        by_cases hdd : d < 10
        · have HS3 := Lib.hid (HST.out hdd)
          go_wp2_with fail
          go_roundw
          case rel => exact ⟨trivial, k + 1, hlt, by go_num, by rw [HM.out, HNN.out]; first | go_num | (congr 1; omega), HS3.out⟩
          case measure => simp [intOf]; omega
        · have HW := Lib.hid (HBD.out (by omega))
          go_wp2_with fail
          go_ret2
          exact ⟨by rw [HW.out]; rfl, rfl⟩
      · have hks : k = s.size := by omega
        subst hks
        by_cases h0 : s.size = 0
        · have HW := Lib.hid (HN.out (Or.inl h0))
          have hne : (s.toList == []) = true := by rw [size0 h0, ByteArray.toList_eq]; rfl
          go_wp2_with fail
          go_ret2
          exact ⟨by rw [HW.out]; rfl, rfl⟩
        · have hne : (s.toList == []) = false := by
            rw [ByteArray.toList_eq]
            obtain ⟨⟨l⟩⟩ := s
            cases l with
            | nil => exact absurd rfl h0
            | cons c t => rfl
          by_cases hbig : 4294967296 ≤ numN 10 s s.size
          · have HW := Lib.hid (HN.out (Or.inr (Or.inr hbig)))
            generalize numN 10 s s.size = m at *
            have hbi : (4294967296 : Int) ≤ (m : Int) := by omega
            have hbd : decide ((4294967296 : Int) ≤ (m : Int)) = true := decide_eq_true hbi
            clear hbig
            go_wp2_with fail
            go_ret2
            exact ⟨by rw [HW.out]; rfl, rfl⟩
          · have HW := Lib.hid (HE.out HIN.out (by omega) h0)
            generalize numN 10 s s.size = m at *
            have hbi : (m : Int) < 4294967296 := by omega
            have hbd : decide ((4294967296 : Int) ≤ (m : Int)) = false := decide_eq_false (by omega)
            clear hbig
            go_wp2_with fail
            go_ret2
            exact ⟨by rw [HW.out]; first | rfl | go_num, rfl⟩
end Go.Proofs.YtapdiionikfgpaaGreatDoor.Li
namespace Go.Proofs.YtapdiionikfgpaaGreatDoor.Li
open Go.ChangeShapes Go.WideShapes Go.ChangeAt Go.RowKit
set_option linter.unusedVariables false
theorem numN_16 (s : ByteArray) (k : Nat) (hk : k ≤ 8) (h : ∀ j, j < k → dg (bb s j) < 16) : numN 16 s k < 4294967296 := by
  have h1 := numN_lt 16 s k h
  have h2 : 16 ^ k ≤ 16 ^ 8 := Nat.pow_le_pow_right (by decide) hk
  omega
set_option maxRecDepth 100000 in
set_option maxHeartbeats 4000000 in
theorem c11_16 (s0 s : ByteArray) (ht : s0.extract 2 s0.size = s) (hsz : s.size = s0.size - 2) (h1 : 2 < s0.size) (hs : s0.size ≤ 10) (hb0 : bb s0 0 = 48) (hb1 : bb s0 1 = 120) (w : World) : Calls Tryz.prog 97 #[.string s0] w fun e w' => e = .returned (finV 16 s) ∧ w = w' := by
  have HS : Hid (s.size ≤ 8) := Lib.hid (by omega)
  have d1 : ∀ h : 0 < s0.size, ((s0[0]'h).toNat : Int) = 48 := fun h => by rw [← bb_eq s0 0 h, hb0]; rfl
  have d2 : ∀ h : 1 < s0.size, ((s0[1]'h).toNat : Int) = 120 := fun h => by rw [← bb_eq s0 1 h, hb1]; rfl
  have HE : Hid ((∀ j, j < s.size → dg (bb s j) < 16) → numN 16 s s.size < 4294967296 → s.size ≠ 0 → finV 16 s = .tuple #[.int .u32 (numN 16 s s.size : Int), .bool true]) := Lib.hid fun h1 h2 h3 => fin_yes 16 s (by
    rintro (h | ⟨i, hi, hd⟩ | h)
    · exact h3 h
    · have := h1 i hi; omega
    · omega)
  have HN : Hid (badN 16 s → finV 16 s = noN) := Lib.hid (fin_no 16 s)
  have HT := Lib.hid ht
  have hp : 0 < s.size := by omega
  have HP := Lib.hid hp
  have HZ := Lib.hid hsz
  clear hb0 hb1 ht hsz hp
  go_enter Tryz.func97, Tryz.ntmps97
  have ht := HT.out
  go_wp2_with fail
  go_loopw [5, 6] (fun n i wr => wr = w ∧ ∃ k : Nat, k ≤ s.size ∧ i = .int .i64 (k : Int) ∧ n = .int .u64 (numN 16 s k : Int) ∧ ∀ j, j < k → dg (bb s j) < 16) (fun _ i _ => s.size - (intOf i).toNat)
  case atStart => exact ⟨rfl, 0, by omega, rfl, rfl, fun i hi => absurd hi (by omega)⟩
  case round =>
    obtain ⟨rfl, k, hk, rfl, rfl, hin⟩ := hrel
    have HIN := Lib.hid hin
    have hlt10 := numN_16 s k (by have := HS.out; omega) hin
    clear hin
    have hz8 := HS.out
    have hp := HP.out
    by_cases hlt : k < s.size
    · have he : (s[k]'hlt).toNat = bb s k := (bb_eq s k hlt).symm
      have K := Lib.hid (c24 (bb s k) (bb_lt s k) wr)
      have HST : Hid (dg (bb s k) < 16 → ∀ j, j < k + 1 → dg (bb s j) < 16) := Lib.hid fun hl j hj => by
        by_cases e : j = k
        · rw [e]; exact hl
        · exact HIN.out j (by omega)
      have HBD : Hid (16 ≤ dg (bb s k) → finV 16 s = noN) := Lib.hid fun h => HN.out (Or.inr (Or.inl ⟨k, hlt, h⟩))
      obtain ⟨m', hm'⟩ : ∃ m', numN 16 s (k + 1) = m' := ⟨_, rfl⟩
      have HNN : Hid (m' = 16 * numN 16 s k + dg (bb s k)) := Lib.hid (by rw [← hm']; rfl)
      have HM := Lib.hid hm'
      clear hm'
      have hd := dg_le (bb s k)
      generalize numN 16 s k = m at *
      generalize dg (bb s k) = d at *
      go_wp2_with fail
      refine (K.out).mono ?_
      rintro _ w4 ⟨rfl, rfl⟩
      by_cases hdd : d < 16
      · have HS3 := Lib.hid (HST.out hdd)
        go_wp2_with fail
        go_roundw
        case rel => exact ⟨trivial, k + 1, hlt, by go_num, by rw [HM.out, HNN.out]; first | go_num | (congr 1; omega), HS3.out⟩
        case measure => simp [intOf]; omega
      · have HW := Lib.hid (HBD.out (by omega))
        go_wp2_with fail
        go_ret2
        exact ⟨by rw [HW.out]; rfl, rfl⟩
    · have hks : k = s.size := by omega
      subst hks
      by_cases h0 : s.size = 0
      · have HW := Lib.hid (HN.out (Or.inl h0))
        have hne : (s.toList == []) = true := by rw [size0 h0, ByteArray.toList_eq]; rfl
        go_wp2_with fail
        go_ret2
        exact ⟨by rw [HW.out]; rfl, rfl⟩
      · have hne : (s.toList == []) = false := by
          rw [ByteArray.toList_eq]
          obtain ⟨⟨l⟩⟩ := s
          cases l with
          | nil => exact absurd rfl h0
          | cons c t => rfl
        by_cases hbig : 4294967296 ≤ numN 16 s s.size
        · have HW := Lib.hid (HN.out (Or.inr (Or.inr hbig)))
          generalize numN 16 s s.size = m at *
          have hbi : (4294967296 : Int) ≤ (m : Int) := by omega
          have hbd : decide ((4294967296 : Int) ≤ (m : Int)) = true := decide_eq_true hbi
          clear hbig
          go_wp2_with fail
          go_ret2
          exact ⟨by rw [HW.out]; rfl, rfl⟩
        · have HW := Lib.hid (HE.out HIN.out (by omega) h0)
          generalize numN 16 s s.size = m at *
          have hbi : (m : Int) < 4294967296 := by omega
          have hbd : decide ((4294967296 : Int) ≤ (m : Int)) = false := decide_eq_false (by omega)
          clear hbig
          go_wp2_with fail
          go_ret2
          exact ⟨by rw [HW.out]; first | rfl | go_num, rfl⟩
end Go.Proofs.YtapdiionikfgpaaGreatDoor.Li
namespace Go.Proofs.YtapdiionikfgpaaGreatDoor.Li
open Go.ChangeShapes Go.WideShapes Go.ChangeAt Go.RowKit
set_option linter.unusedVariables false
/-- does a word stand for a number in sixteens? -/
def hexP (s : ByteArray) : Prop := 2 < s.size ∧ bb s 0 = 48 ∧ bb s 1 = 120
open Classical in
noncomputable def refV (s : ByteArray) : Value :=
  if hexP s then (if 10 < s.size then noN else finV 16 (s.extract 2 s.size)) else if (1 < s.size ∧ bb s 0 = 48) ∨ 10 < s.size then noN else finV 10 s
theorem no_a (s : ByteArray) (h : 10 < s.size) (hs : s.size ≤ 9223372036854775807) (hb0 : bb s 0 = 48) (hb1 : bb s 1 = 120) (w : World) : Calls Tryz.prog 97 #[.string s] w fun e w' => e = .returned noN ∧ w = w' := by
  have d1 : ∀ h : 0 < s.size, ((s[0]'h).toNat : Int) = 48 := fun h => by rw [← bb_eq s 0 h, hb0]; rfl
  have d2 : ∀ h : 1 < s.size, ((s[1]'h).toNat : Int) = 120 := fun h => by rw [← bb_eq s 1 h, hb1]; rfl
  have hn : Hid (noN = .tuple #[.int .u32 0, .bool false]) := Lib.hid rfl
  clear hb0 hb1
  go_enter Tryz.func97, Tryz.ntmps97
  go_wp2_with fail
  go_ret2
  exact ⟨by rw [hn.out]; rfl, rfl⟩
theorem no_b (s : ByteArray) (h : 10 < s.size) (hs : s.size ≤ 9223372036854775807) (hb0 : bb s 0 ≠ 48) (w : World) : Calls Tryz.prog 97 #[.string s] w fun e w' => e = .returned noN ∧ w = w' := by
  have d1 : ∀ h : 0 < s.size, ((s[0]'h).toNat : Int) = (bb s 0 : Int) := fun h => by rw [bb_eq s 0 h]
  have e1 : ((bb s 0 : Int) == 48) = false := by simpa using (fun h3 => hb0 (by omega))
  have hn : Hid (noN = .tuple #[.int .u32 0, .bool false]) := Lib.hid rfl
  clear hb0
  go_enter Tryz.func97, Tryz.ntmps97
  go_wp2_with fail
  go_ret2
  exact ⟨by rw [hn.out]; rfl, rfl⟩
theorem no_c (s : ByteArray) (h : s.size = 2) (hb0 : bb s 0 = 48) (w : World) : Calls Tryz.prog 97 #[.string s] w fun e w' => e = .returned noN ∧ w = w' := by
  have d1 : ∀ h : 0 < s.size, ((s[0]'h).toNat : Int) = 48 := fun h => by rw [← bb_eq s 0 h, hb0]; rfl
  have hn : Hid (noN = .tuple #[.int .u32 0, .bool false]) := Lib.hid rfl
  clear hb0
  go_enter Tryz.func97, Tryz.ntmps97
  go_wp2_with fail
  go_ret2
  exact ⟨by rw [hn.out]; rfl, rfl⟩
theorem no_d (s : ByteArray) (h : 2 < s.size) (hs : s.size ≤ 9223372036854775807) (hb0 : bb s 0 = 48) (hb1 : bb s 1 ≠ 120) (w : World) : Calls Tryz.prog 97 #[.string s] w fun e w' => e = .returned noN ∧ w = w' := by
  have d1 : ∀ h : 0 < s.size, ((s[0]'h).toNat : Int) = 48 := fun h => by rw [← bb_eq s 0 h, hb0]; rfl
  have d2 : ∀ h : 1 < s.size, ((s[1]'h).toNat : Int) = (bb s 1 : Int) := fun h => by rw [bb_eq s 1 h]
  have e1 : ((bb s 1 : Int) == 120) = false := by simpa using (fun h3 => hb1 (by omega))
  have hn : Hid (noN = .tuple #[.int .u32 0, .bool false]) := Lib.hid rfl
  clear hb0 hb1
  go_enter Tryz.func97, Tryz.ntmps97
  go_wp2_with fail
  go_ret2
  exact ⟨by rw [hn.out]; rfl, rfl⟩
theorem c11 (s : ByteArray) (hs : s.size ≤ 9223372036854775807) (w : World) : Calls Tryz.prog 97 #[.string s] w fun e w' => e = .returned (refV s) ∧ w = w' := by
  by_cases hx : hexP s
  · obtain ⟨h1, h2, h3⟩ := hx
    by_cases hl : 10 < s.size
    · have : refV s = noN := by unfold refV; rw [if_pos ⟨h1, h2, h3⟩, if_pos hl]
      rw [this]; exact no_a s hl hs h2 h3 w
    · have : refV s = finV 16 (s.extract 2 s.size) := by unfold refV; rw [if_pos ⟨h1, h2, h3⟩, if_neg hl]
      rw [this]; exact c11_16 s (s.extract 2 s.size) rfl (by simp) h1 (by omega) h2 h3 w
  · by_cases hn : (1 < s.size ∧ bb s 0 = 48) ∨ 10 < s.size
    · have : refV s = noN := by unfold refV; rw [if_neg hx, if_pos hn]
      rw [this]
      by_cases h0 : bb s 0 = 48
      · by_cases h2 : s.size = 2
        · exact no_c s h2 h0 w
        · have h3 : 2 < s.size := by omega
          exact no_d s h3 hs h0 (fun h => hx ⟨h3, h0, h⟩) w
      · exact no_b s (by omega) hs h0 w
    · have : refV s = finV 10 s := by unfold refV; rw [if_neg hx, if_neg hn]
      rw [this]; exact c11_10 s (by omega) (fun h h0 => hn (Or.inl ⟨h, h0⟩)) w
end Go.Proofs.YtapdiionikfgpaaGreatDoor.Li
namespace Go.Proofs.YtapdiionikfgpaaGreatDoor
open Go.ChangeShapes Go.WideShapes Go.ChangeAt Go.RowKit
open Li (bb refV finV noN badN numN hexP fin_no fin_yes)
set_option linter.unusedVariables false
open Classical in
noncomputable def valO (s : ByteArray) : Option Nat := if h : ∃ n : Nat, n < 4294967296 ∧ refV s = .tuple #[.int .u32 (n : Int), .bool true] then some h.choose else none
theorem fin_lt (base : Nat) (s : ByteArray) (h : ¬ badN base s) : numN base s s.size < 4294967296 := by
  rcases Nat.lt_or_ge (numN base s s.size) 4294967296 with h1 | h1
  · exact h1
  · exact absurd (Or.inr (Or.inr h1)) h
theorem refV_eq (s : ByteArray) : (refV s = .tuple #[.int .u32 (((valO s).getD 0 : Nat) : Int), .bool (valO s).isSome]) ∧ ∀ n, valO s = some n → n < 4294967296 := by
  have key : refV s = noN ∨ ∃ n : Nat, n < 4294967296 ∧ refV s = .tuple #[.int .u32 (n : Int), .bool true] := by
    have fin : ∀ base t, finV base t = noN ∨ ∃ n : Nat, n < 4294967296 ∧ finV base t = .tuple #[.int .u32 (n : Int), .bool true] := fun base t => by
      by_cases h : badN base t
      · exact Or.inl (fin_no _ _ h)
      · exact Or.inr ⟨_, fin_lt _ _ h, fin_yes _ _ h⟩
    unfold refV
    split
    · split
      · exact Or.inl rfl
      · exact fin _ _
    · split
      · exact Or.inl rfl
      · exact fin _ _
  rcases key with h | ⟨n, hn, h⟩
  · have hv : valO s = none := by
      unfold valO
      rw [dif_neg]
      rintro ⟨n, _, e⟩
      rw [h] at e
      simp [noN] at e
    rw [hv]
    exact ⟨h, fun n h => by cases h⟩
  · have hx : ∃ n : Nat, n < 4294967296 ∧ refV s = .tuple #[.int .u32 (n : Int), .bool true] := ⟨n, hn, h⟩
    have hv : valO s = some hx.choose := by unfold valO; rw [dif_pos hx]
    have hc := hx.choose_spec
    rw [hv]
    refine ⟨hc.2, fun m hm => ?_⟩
    cases hm
    exact hc.1
noncomputable section
/-- plans as plain data: what both readers make of words -/
structure Co where
  nm : ByteArray
  fs : List (ByteArray × Bool)
  es : List (ByteArray × Nat × Nat)
  is : List (Nat × ByteArray)
  ds : List (ByteArray × Nat × Nat)
  gs : List (Nat × Bool)
def Co.new (s : ByteArray) : Co := ⟨s, [], [], [], [], []⟩
structure Pm where
  st : Nat
  tr : Nat
  ss : List (ByteArray × Nat)
  cs : List Co
  s0 : Nat
  mn : ByteArray
def Pm.zero : Pm := ⟨0, 0, [], [], 0, ⟨#[]⟩⟩
/-- the first one that is so -/
def fnd {α : Type} (p : α → Bool) : List α → Option Nat
  | [] => none
  | x :: l => if p x = true then some 0 else (fnd p l).map (· + 1)
theorem fnd_some {α : Type} {p : α → Bool} : ∀ {l : List α} {k : Nat}, fnd p l = some k → ∃ h : k < l.length, p l[k] = true ∧ ∀ j, (hj : j < k) → p (l[j]'(by omega)) = false
  | [], k, h => by cases h
  | x :: l, k, h => by
    unfold fnd at h
    split at h
    · rename_i hp
      cases h
      exact ⟨by simp, by simpa using hp, fun j hj => by omega⟩
    · rename_i hp
      cases hf : fnd p l with
      | none => rw [hf] at h; cases h
      | some i =>
        rw [hf] at h
        cases h
        obtain ⟨h1, h2, h3⟩ := fnd_some hf
        refine ⟨by simpa using h1, by simpa using h2, fun j hj => ?_⟩
        cases j with
        | zero => simpa using hp
        | succ j => exact h3 j (Nat.lt_of_succ_lt_succ hj)
theorem fnd_none {α : Type} {p : α → Bool} : ∀ {l : List α}, fnd p l = none → ∀ j, (hj : j < l.length) → p l[j] = false
  | [], _, j, hj => by simp at hj
  | x :: l, h, j, hj => by
    unfold fnd at h
    split at h
    · cases h
    · rename_i hp
      cases hf : fnd p l with
      | some i => rw [hf] at h; cases h
      | none =>
        cases j with
        | zero => simpa using hp
        | succ j => exact fnd_none hf j (by simpa using hj)
theorem fnd_hit {α : Type} {p : α → Bool} : ∀ {l : List α} {k : Nat} (h : k < l.length), p l[k] = true → (∀ j, (hj : j < k) → p (l[j]'(by omega)) = false) → fnd p l = some k
  | [], k, h, _, _ => by simp at h
  | x :: l, 0, h, h1, _ => by unfold fnd; rw [if_pos (by simpa using h1)]
  | x :: l, k + 1, h, h1, h2 => by
    have hx : p x = false := h2 0 (by omega)
    unfold fnd
    rw [if_neg (by simp [hx]), fnd_hit (k := k) (by simpa using h) (by simpa using h1) (fun j hj => h2 (j + 1) (by omega))]
    rfl
theorem fnd_miss {α : Type} {p : α → Bool} : ∀ {l : List α}, (∀ j, (hj : j < l.length) → p l[j] = false) → fnd p l = none
  | [], _ => rfl
  | x :: l, h => by
    have hx : p x = false := h 0 (by simp)
    unfold fnd
    rw [if_neg (by simp [hx]), fnd_miss (fun j hj => h (j + 1) (by simpa using hj))]
    rfl
def kStack : ByteArray := ⟨#[115, 116, 97, 99, 107]⟩
def kTrusted : ByteArray := ⟨#[116, 114, 117, 115, 116, 101, 100]⟩
def kComp : ByteArray := ⟨#[99, 111, 109, 112, 97, 114, 116, 109, 101, 110, 116]⟩
def kShare : ByteArray := ⟨#[115, 104, 97, 114, 101]⟩
def kStart : ByteArray := ⟨#[115, 116, 97, 114, 116]⟩
def kObject : ByteArray := ⟨#[111, 98, 106, 101, 99, 116]⟩
def kArchive : ByteArray := ⟨#[97, 114, 99, 104, 105, 118, 101]⟩
def kExport : ByteArray := ⟨#[101, 120, 112, 111, 114, 116]⟩
def kImport : ByteArray := ⟨#[105, 109, 112, 111, 114, 116]⟩
def kDevice : ByteArray := ⟨#[100, 101, 118, 105, 99, 101]⟩
def kGive : ByteArray := ⟨#[103, 105, 118, 101]⟩
def kR : ByteArray := ⟨#[114]⟩
def kRw : ByteArray := ⟨#[114, 119]⟩
/-- a word's number, from a least to a most, a multiple -/
def numO (s : ByteArray) (lo hi of : Nat) : Option Nat :=
  (valO s).bind fun n => if lo ≤ n ∧ n ≤ hi ∧ n % of = 0 then some n else none
theorem numO_none {s : ByteArray} {lo hi of : Nat} (h : valO s = none) : numO s lo hi of = none := by
  unfold numO
  rw [h]
  exact Option.bind_none _
theorem numO_some {s : ByteArray} {lo hi of n : Nat} (h : valO s = some n) : numO s lo hi of = if lo ≤ n ∧ n ≤ hi ∧ n % of = 0 then some n else none := by
  unfold numO
  rw [h]
  exact Option.bind_some _ _
def byName (s : ByteArray) (c : Co) : Bool := decide (c.nm = s)
def upd (p : Pm) (k : Nat) (c : Co) : Pm := { p with cs := p.cs.set k c }
/-- a number that stands once -/
def onceV (old : Nat) (n : Option Nat) (set : Nat → Pm) (p : Pm) : Nat × Pm :=
  match n with
  | none => (5, p)
  | some x => if old ≠ 0 then (7, p) else (0, set x)
def addV {α : Type} (l : List α) (x : α) (same : α → Bool) (lim : Nat) (set : List α → Pm) (p : Pm) : Nat × Pm :=
  if (fnd same l).isSome = true then (7, p) else if lim ≤ l.length then (3, p) else (0, set (l ++ [x]))
def two (p : Pm) (k a : ByteArray) : Nat × Pm :=
  if k = kStack then onceV p.st (numO a 64 4088 8) (fun n => { p with st := n }) p
  else if k = kTrusted then onceV p.tr (numO a 1 60 1) (fun n => { p with tr := n }) p
  else if k = kComp then
    if nameB a = true then addV p.cs (Co.new a) (byName a) 12 (fun l => { p with cs := l }) p else (5, p)
  else (5, p)
def fileV (p : Pm) (arch : Bool) (a b : ByteArray) : Nat × Pm :=
  if nameB a = true ∧ symB b = true then
    match fnd (byName a) p.cs with
    | none => (6, p)
    | some k => match p.cs[k]? with
      | none => (6, p)
      | some c => addV c.fs (b, arch) (fun x => decide (x.1 = b)) 16 (fun l => upd p k { c with fs := l }) p
  else (5, p)
def shareO (o : Option Nat) (p : Pm) (a : ByteArray) : Nat × Pm :=
  match o with
  | none => (5, p)
  | some n => if nameB a = true then addV p.ss (a, n) (fun x => decide (x.1 = a)) 8 (fun l => { p with ss := l }) p else (5, p)
def shareV (p : Pm) (a b : ByteArray) : Nat × Pm := shareO (numO b 1 4096 1) p a
def startV (p : Pm) (a b : ByteArray) : Nat × Pm :=
  if nameB a = true ∧ symB b = true then
    match fnd (byName a) p.cs with
    | none => (6, p)
    | some k => if p.mn ≠ ⟨#[]⟩ then (7, p) else (0, { p with s0 := k, mn := b })
  else (5, p)
def three (p : Pm) (k a b : ByteArray) : Nat × Pm :=
  if k = kShare then shareV p a b
  else if k = kStart then startV p a b
  else if k = kObject then fileV p false a b
  else if k = kArchive then fileV p true a b
  else (5, p)
def importV (p : Pm) (a b c : ByteArray) : Nat × Pm :=
  if nameB a = true ∧ nameB b = true ∧ symB c = true then
    match fnd (byName a) p.cs, fnd (byName b) p.cs with
    | some k, some d => match p.cs[k]? with
      | none => (6, p)
      | some x => addV x.is (d, c) (fun y => decide (y = (d, c))) 16 (fun l => upd p k { x with is := l }) p
    | _, _ => (6, p)
  else (5, p)
def giveV (p : Pm) (a b c : ByteArray) : Nat × Pm :=
  if nameB a = true ∧ nameB b = true ∧ (c = kR ∨ c = kRw) then
    match fnd (byName a) p.cs, fnd (fun x => decide (x.1 = b)) p.ss with
    | some k, some d => match p.cs[k]? with
      | none => (6, p)
      | some x => addV x.gs (d, decide (c = kRw)) (fun y => decide (y.1 = d)) 16 (fun l => upd p k { x with gs := l }) p
    | _, _ => (6, p)
  else (5, p)
def four (p : Pm) (k a b c : ByteArray) : Nat × Pm :=
  if k = kImport then importV p a b c
  else if k = kGive then giveV p a b c
  else (5, p)
def exportO (o1 o2 : Option Nat) (p : Pm) (a b : ByteArray) : Nat × Pm :=
  match o1, o2 with
  | some n, some m => if nameB a = true ∧ symB b = true then
      match fnd (byName a) p.cs with
      | none => (6, p)
      | some k => match p.cs[k]? with
        | none => (6, p)
        | some x => addV x.es (b, n, m) (fun y => decide (y.1 = b)) 16 (fun l => upd p k { x with es := l }) p
    else (5, p)
  | _, _ => (5, p)
def exportV (p : Pm) (a b c d : ByteArray) : Nat × Pm := exportO (numO c 0 6 1) (numO d 0 4088 8) p a b
def deviceO (o1 o2 : Option Nat) (p : Pm) (a b : ByteArray) : Nat × Pm :=
  match o1, o2 with
  | some n, some m => if nameB a = true ∧ nameB b = true ∧ n + m ≤ 65536 then
      match fnd (byName a) p.cs with
      | none => (6, p)
      | some k => match p.cs[k]? with
        | none => (6, p)
        | some x => addV x.ds (b, n, m) (fun y => decide (y.1 = b)) 16 (fun l => upd p k { x with ds := l }) p
    else (5, p)
  | _, _ => (5, p)
def deviceV (p : Pm) (a b c d : ByteArray) : Nat × Pm := deviceO (numO c 65280 65532 4) (numO d 4 256 4) p a b
def five (p : Pm) (k a b c d : ByteArray) : Nat × Pm :=
  if k = kExport then exportV p a b c d
  else if k = kDevice then deviceV p a b c d
  else (5, p)
/-- what a line does -/
def lineV (p : Pm) : List ByteArray → Nat × Pm
  | [k, a] => two p k a
  | [k, a, b] => three p k a b
  | [k, a, b, c] => four p k a b c
  | [k, a, b, c, d] => five p k a b c d
  | _ => (5, p)
/-- lines, one behind the other: the first that is wrong -/
def linesV : Pm → List (Nat × List ByteArray) → Nat × Nat × Pm
  | p, [] => (0, 0, p)
  | p, (n, w) :: r => match lineV p w with
    | (0, q) => linesV q r
    | (e + 1, _) => (n, e + 1, p)
def exported (c : Co) (s : ByteArray) : Option Nat := fnd (fun y => decide (y.1 = s)) c.es
def expB (p : Pm) (k : Nat) (s : ByteArray) : Bool := match p.cs[k]? with
  | none => false
  | some c => (exported c s).isSome
def noArgs (p : Pm) : Bool := match p.cs[p.s0]? with
  | none => false
  | some c => match exported c p.mn with
    | none => false
    | some i => match c.es[i]? with
      | none => false
      | some e => decide (e.2.1 = 0)
/-- is all there? -/
def wholeB (p : Pm) : Bool := decide (p.st ≠ 0) && decide (p.tr ≠ 0) && decide (p.mn ≠ ⟨#[]⟩) && p.cs.all (fun c => c.is.all fun x => expB p x.1 x.2) && noArgs p
end
end Go.Proofs.YtapdiionikfgpaaGreatDoor
