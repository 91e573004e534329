import Derived.Test.YtgmifaadlaigdaaGreatDoorB
namespace Go.Proofs.YtgmifaadlaigdaaGreatDoor
open Go.ChangeShapes Go.WideShapes Go.ChangeAt Go.RowKit
set_option linter.unusedVariables false
def R49 (w : World) (n : Nat) (v s : Value) (wr : World) : Prop := ∃ (k : Nat) (t : ByteArray), k ≤ n ∧ v = .int .i64 (k : Int) ∧ s = .string t ∧ tens k ++ t = tens n ∧ Below w.heap.size w wr
set_option maxRecDepth 100000 in
set_option maxHeartbeats 4000000 in
theorem c49 (n : Nat) (hn : n ≤ 16777216) (w : World) : Calls Tryz.prog 49 #[.int .i64 (n : Int)] w fun e w' => e = .returned (.string (tens n)) ∧ Below w.heap.size w w' := by
  go_enter Tryz.func49, Tryz.ntmps49
  go_wp2_with fail
  go_loopw [0, 3] (fun v s wr => R49 w n v s wr) (fun v _ _ => (intOf v).toNat)
  case atStart => exact ⟨n, ⟨#[]⟩, Nat.le_refl _, rfl, rfl, ByteArray.append_empty, Below.refl _ _⟩
  case round =>
    obtain ⟨k, t, hk, rfl, rfl, ht, hb⟩ := hrel
    have hts : t.size ≤ 16777217 := by
      have h1 := congrArg ByteArray.size ht
      rw [ByteArray.size_append] at h1
      have h2 := (tens_size n).2
      omega
    have HT := Lib.hid ht
    have HB := Lib.hid hb
    clear ht hb
    have hcv : (convert 24 9 (.slice (some ⟨wr.heap.size, 0, none⟩) 1 1)).run Tryz.prog (wr.alloc (.cells #[.int .u8 (48 + (k : Int) % 10)] 5)) = .ok (.string ⟨#[UInt8.ofNat (48 + k % 10)]⟩) (wr.alloc (.cells #[.int .u8 (48 + (k : Int) % 10)] 5)) := by
      have h := cv1 wr (48 + k % 10) (by omega)
      have e : ((48 + k % 10 : Nat) : Int) = 48 + (k : Int) % 10 := by omega
      rw [e] at h
      exact h
    by_cases hlt : k < 10
    · have b0 : ((k : Int) / 10 == 0) = true := by simp; omega
      have HR : Hid (⟨#[UInt8.ofNat (48 + k % 10)]⟩ ++ t = tens n) := Lib.hid (by rw [← HT.out, tens_lt hlt])
      have h1 := one_size (UInt8.ofNat (48 + k % 10))
      generalize (⟨#[UInt8.ofNat (48 + k % 10)]⟩ : ByteArray) = d at *
      clear hlt
      go_wp2_with fail
      go_ret
      exact ⟨by rw [← HR.out]; rfl, HB.out.alloc HB.out.size _⟩
    · have b0 : ((k : Int) / 10 == 0) = false := by simp; omega
      have HR : Hid (tens (k / 10) ++ (⟨#[UInt8.ofNat (48 + k % 10)]⟩ ++ t) = tens n) := Lib.hid (by rw [← HT.out, tens_ge hlt, ByteArray.append_assoc])
      have h1 := one_size (UInt8.ofNat (48 + k % 10))
      have HK : Hid (10 ≤ k) := Lib.hid (by omega)
      generalize (⟨#[UInt8.ofNat (48 + k % 10)]⟩ : ByteArray) = d at *
      clear hlt
      go_wp2_with fail
      go_roundw
      case rel => exact ⟨k / 10, _, by omega, by go_num, rfl, HR.out, HB.out.alloc HB.out.size _⟩
      case measure => simp [intOf]; have := HK.out; omega
/-- what head answers -/
def headB (s : ByteArray) (n : Nat) : ByteArray := wideB s 16 ++ wideB ⟨#[48]⟩ 12 ++ wideB ⟨#[48]⟩ 6 ++ wideB ⟨#[48]⟩ 6 ++ wideB ⟨#[48]⟩ 8 ++ wideB (tens n) 10 ++ ⟨#[96, 10]⟩
theorem wideB_size (s : ByteArray) (n : Nat) : (wideB s n).size = s.size + (n - s.size) := blk_size s _
end Go.Proofs.YtgmifaadlaigdaaGreatDoor
