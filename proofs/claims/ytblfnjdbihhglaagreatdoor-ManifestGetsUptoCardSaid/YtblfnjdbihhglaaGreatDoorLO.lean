import Derived.Test.YtblfnjdbihhglaaGreatDoorLN
import Derived.Test.YtblfnjdbihhglaaGreatDoorLL
import Derived.Test.YtblfnjdbihhglaaGreatDoorLSi
import Derived.Shelf.Strings.SlTrimAscii
namespace Go.Proofs.YtblfnjdbihhglaaGreatDoor.Li
open Go.ChangeShapes Go.WideShapes Go.ChangeAt Go.RowKit
set_option linter.unusedVariables false
theorem dropWhile_nil {α : Type} (p : α → Bool) : ∀ l : List α, l.dropWhile p = [] ↔ ∀ x ∈ l, p x = true
  | [] => by simp
  | a :: t => by
    rw [List.dropWhile_cons]
    split
    · rename_i h
      rw [dropWhile_nil p t]
      simp [h]
    · rename_i h
      simp [h]
theorem dw_head {α : Type} (p : α → Bool) : ∀ (l : List α) (a : α) (t : List α), l.dropWhile p = a :: t → p a = false
  | [], _, _, h => by simp at h
  | b :: l, a, t, h => by
    rw [List.dropWhile_cons] at h
    split at h
    · exact dw_head p l a t h
    · rename_i hb
      cases h
      simpa using hb
theorem trimS_nil (l cs : List UInt8) : Lib.trimS l cs = [] ↔ ∀ x ∈ l, cs.contains x = true := by
  unfold Lib.trimS Lib.trimLeftS Lib.trimRightS
  rw [dropWhile_nil]
  constructor
  · intro h
    by_cases he : (l.reverse.dropWhile (cs.contains ·)) = []
    · rw [dropWhile_nil] at he
      intro x hx
      exact he x (by simpa using hx)
    · exfalso
      cases hd : l.reverse.dropWhile (cs.contains ·) with
      | nil => exact he hd
      | cons a t =>
        have h0 := dw_head (cs.contains ·) l.reverse a t hd
        rw [hd] at h
        have h1 := h a (by simp)
        rw [h1] at h0
        cases h0
  · intro h x hx
    have : x ∈ l.reverse := (List.dropWhile_sublist (fun x => cs.contains x)).subset (by simpa using hx)
    exact h x (by simpa using this)
open Classical in
noncomputable def dA (base : Nat) (s : ByteArray) : Bool := decide (0 < s.size ∧ ∀ i, i < s.size → dg (bb s i) < base)
theorem mem_bb (s : ByteArray) (p : UInt8 → Prop) : (∀ x ∈ s.data.toList, p x) ↔ ∀ i, (h : i < s.size) → p (s[i]'h) := by
  constructor
  · intro h i hi
    exact h _ (by
      have : s[i] = s.data.toList[i]'hi := rfl
      rw [this]; exact List.getElem_mem _)
  · intro h x hx
    obtain ⟨i, hi, rfl⟩ := List.getElem_of_mem hx
    exact h i hi
theorem u8_all (P : UInt8 → Bool) (h : (List.range 256).all (fun n => P (UInt8.ofNat n)) = true) (x : UInt8) : P x = true := by
  have := List.all_eq_true.1 h x.toNat (List.mem_range.2 x.toNat_lt)
  simpa using this
def digs10 : ByteArray := ⟨#[48, 49, 50, 51, 52, 53, 54, 55, 56, 57]⟩
def digs16 : ByteArray := ⟨#[48, 49, 50, 51, 52, 53, 54, 55, 56, 57, 97, 98, 99, 100, 101, 102]⟩
theorem in10 (x : UInt8) : digs10.data.toList.contains x = decide (dg x.toNat < 10) := by
  have := u8_all (fun x => digs10.data.toList.contains x == decide (dg x.toNat < 10)) (by decide +kernel) x
  simpa using this
theorem in16 (x : UInt8) : digs16.data.toList.contains x = decide (dg x.toNat < 16) := by
  have := u8_all (fun x => digs16.data.toList.contains x == decide (dg x.toNat < 16)) (by decide +kernel) x
  simpa using this
theorem dA_trim (base : Nat) (cs s : ByteArray) (hin : ∀ x : UInt8, cs.data.toList.contains x = decide (dg x.toNat < base)) (h0 : 0 < s.size) :
    ((⟨(Lib.trimS s.data.toList cs.data.toList).toArray⟩ : ByteArray).toList == []) = dA base s := by
  have e : ((⟨(Lib.trimS s.data.toList cs.data.toList).toArray⟩ : ByteArray).toList == []) = decide (Lib.trimS s.data.toList cs.data.toList = []) := by
    rw [ByteArray.toList_eq, Bool.eq_iff_iff]
    simp
  rw [e]
  unfold dA
  rw [decide_eq_decide, trimS_nil, mem_bb s]
  constructor
  · intro h
    refine ⟨h0, fun i hi => ?_⟩
    have := h i hi
    rw [hin] at this
    rw [bb_eq s i hi]
    simpa using this
  · intro h i hi
    have := h.2 i hi
    rw [bb_eq s i hi] at this
    rw [hin]
    simpa using this
theorem c22 (base : Nat) (cs s : ByteArray) (hin : ∀ x : UInt8, cs.data.toList.contains x = decide (dg x.toNat < base)) (ha : cs.data.toList.all (fun b => decide (b.toNat < 128)) = true) (hcs : cs.size ≤ 16) (hs : s.size ≤ 9223372036854775807) (w : World) :
    Calls Tryz.prog 105 #[.string s, .string cs] w fun e w' => e = .returned (.bool (dA base s)) ∧ Below w.heap.size w w' := by
  by_cases h0 : s.size = 0
  · have hw : dA base s = false := by unfold dA; exact decide_eq_false (fun h => by omega)
    rw [hw]
    obtain rfl := size0 h0
    clear h0 hs hw hin ha
    go_enter Tryz.func105, Tryz.ntmps105
    go_wp2
    go_ret
    exact ⟨rfl, Below.refl _ _⟩
  · have hne : (s.toList == []) = false := by
      rw [ByteArray.toList_eq]
      obtain ⟨⟨l⟩⟩ := s
      cases l with
      | nil => exact absurd rfl h0
      | cons c t => rfl
    have K := Lib.hid (Any.strings_Trim_laid Tryz.lays160 (by kernel_rfl) s cs w hs (by omega) (ascii_of_all ha))
    have HE := dA_trim base cs s hin (by omega)
    generalize (⟨(Lib.trimS s.data.toList cs.data.toList).toArray⟩ : ByteArray) = t at *
    generalize dA base s = q at *
    clear hin ha hcs h0
    go_enter Tryz.func105, Tryz.ntmps105
    go_wp2_with fail
    refine (K.out).mono ?_
    rintro _ w1 ⟨rfl, b1⟩
    have HB := Lib.hid b1
    clear b1
    go_wp2_with fail
    go_ret
    exact ⟨rfl, HB.out⟩
theorem c22_10 (s : ByteArray) (hs : s.size ≤ 9223372036854775807) (w : World) :
    Calls Tryz.prog 105 #[.string s, .string ⟨#[48, 49, 50, 51, 52, 53, 54, 55, 56, 57]⟩] w fun e w' => e = .returned (.bool (dA 10 s)) ∧ Below w.heap.size w w' :=
  c22 10 digs10 s in10 (by decide +kernel) (by decide +kernel) hs w
theorem c22_16 (s : ByteArray) (hs : s.size ≤ 9223372036854775807) (w : World) :
    Calls Tryz.prog 105 #[.string s, .string ⟨#[48, 49, 50, 51, 52, 53, 54, 55, 56, 57, 97, 98, 99, 100, 101, 102]⟩] w fun e w' => e = .returned (.bool (dA 16 s)) ∧ Below w.heap.size w w' :=
  c22 16 digs16 s in16 (by decide +kernel) (by decide +kernel) hs w
end Go.Proofs.YtblfnjdbihhglaaGreatDoor.Li
