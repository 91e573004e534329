import Derived.Test.YtgmifaadlaigdaaGreatDoorA
import Derived.Laws.BytesArg
import Derived.Laws.IdiomStrings
namespace Go.Proofs.YtgmifaadlaigdaaGreatDoor
open Go.ChangeShapes Go.WideShapes Go.ChangeAt Go.RowKit
set_option linter.unusedVariables false
/-- string([]byte{v}) -/
theorem cv1 (w : World) (v : Nat) (hv : v < 256) : (convert 24 9 (.slice (some ⟨w.heap.size, 0, none⟩) 1 1)).run Tryz.prog (w.alloc (.cells #[.int .u8 (v : Int)] 5)) = .ok (.string ⟨#[UInt8.ofNat v]⟩) (w.alloc (.cells #[.int .u8 (v : Int)] 5)) := by
  have h := run_convert_bytes_back (P := Tryz.prog) (w.alloc (.cells #[.int .u8 (v : Int)] 5)) 24 9 5 ⟨w.heap.size, 0, none⟩ 1 [UInt8.ofNat v] Tryz.underlying24 Tryz.underlying5 Tryz.underlying9 (fun j hj => by
    obtain rfl : j = 0 := by simpa using hj
    have e : (UInt8.ofNat v).toNat = v := by rw [UInt8.toNat_ofNat']; omega
    show (w.alloc _).cell? ((⟨w.heap.size, 0, none⟩ : Addr).add 0) = some (.int .u8 ((UInt8.ofNat v).toNat : Int))
    rw [e]
    have e0 : (⟨w.heap.size, 0, none⟩ : Addr).add 0 = ⟨w.heap.size, 0, none⟩ := by simp [Addr.add]
    rw [e0]
    exact World.cell?_alloc_at _ _ _ _ (by simp))
  exact h
theorem cv2 (w : World) : (convert 24 9 (.slice (some ⟨w.heap.size, 0, none⟩) 2 2)).run Tryz.prog (w.alloc (.cells #[.int .u8 96, .int .u8 10] 5)) = .ok (.string ⟨#[96, 10]⟩) (w.alloc (.cells #[.int .u8 96, .int .u8 10] 5)) := by
  have h := run_convert_bytes_back (P := Tryz.prog) (w.alloc (.cells #[.int .u8 96, .int .u8 10] 5)) 24 9 5 ⟨w.heap.size, 0, none⟩ 2 [96, 10] Tryz.underlying24 Tryz.underlying5 Tryz.underlying9 (fun j hj => by
    have hj2 : j < 2 := by simpa using hj
    have ea : (⟨w.heap.size, 0, none⟩ : Addr).add j = ⟨w.heap.size, j, none⟩ := by
      unfold Addr.add
      split <;> simp_all
    rw [ea]
    rcases (by omega : j = 0 ∨ j = 1) with rfl | rfl
    · exact World.cell?_alloc_at _ _ _ _ (by simp)
    · exact World.cell?_alloc_at _ _ _ _ (by simp))
  exact h
def magicB : ByteArray := ⟨#[33, 60, 97, 114, 99, 104, 62, 10]⟩
set_option maxRecDepth 100000 in
set_option maxHeartbeats 4000000 in
theorem c29 (w : World) : Calls Tryz.prog 29 #[] w fun e w' => e = .returned (.string magicB) ∧ Below w.heap.size w w' := by
  have hcv : (convert 24 9 (.slice (some ⟨w.heap.size, 0, none⟩) 1 1)).run Tryz.prog (w.alloc (.cells #[.int .u8 10] 5)) = .ok (.string ⟨#[10]⟩) (w.alloc (.cells #[.int .u8 10] 5)) := cv1 w 10 (by decide)
  go_enter Tryz.func29, Tryz.ntmps29
  go_wp2_with fail
  go_ret
  exact ⟨rfl, (Below.refl _ _).alloc (Nat.le_refl _) _⟩
/-- blanks behind a text -/
def blk (s : ByteArray) : Nat → ByteArray
  | 0 => s
  | k + 1 => blk s k ++ ⟨#[32]⟩
theorem blk_size (s : ByteArray) : ∀ k, (blk s k).size = s.size + k
  | 0 => rfl
  | k + 1 => by
    rw [blk, ByteArray.size_append, blk_size s k]
    show s.size + k + 1 = _
    omega
/-- a text as wide as that -/
def wideB (s : ByteArray) (n : Nat) : ByteArray := blk s (n - s.size)
set_option maxHeartbeats 4000000 in
theorem c48 (s : ByteArray) (n : Nat) (hs : s.size ≤ 16777216) (hn : n ≤ 16777216) (w : World) : Calls Tryz.prog 48 #[.string s, .int .i64 (n : Int)] w fun e w' => e = .returned (.string (wideB s n)) ∧ w = w' := by
  go_enter Tryz.func48, Tryz.ntmps48
  go_wp2_with fail
  go_loopw [0] (fun v wr => wr = w ∧ ∃ k : Nat, k ≤ n - s.size ∧ v = .string (blk s k)) (fun v _ => n - (match v with | .string t => t.size | _ => 0))
  case atStart => exact ⟨rfl, 0, by omega, rfl⟩
  case round =>
    obtain ⟨rfl, k, hk, rfl⟩ := hrel
    have hz := blk_size s k
    have HB : Hid (blk s (k + 1) = blk s k ++ ⟨#[32]⟩) := Lib.hid rfl
    have HE : Hid (k = n - s.size → blk s k = wideB s n) := Lib.hid fun h => by rw [h]; rfl
    generalize blk s k = t at *
    by_cases hlt : t.size < n
    · have hk2 : Hid (k + 1 ≤ n - s.size) := Lib.hid (by omega)
      have HLT := Lib.hid hlt
      have hts : t.size ≤ 16777216 := by omega
      go_wp2_with fail
      go_roundw
      case rel => exact ⟨trivial, k + 1, hk2.out, by rw [HB.out]⟩
      case measure => simp; have := HLT.out; have e : (⟨#[32]⟩ : ByteArray).size = 1 := rfl; omega
    · have HK := Lib.hid (HE.out (by omega))
      go_wp2_with fail
      go_ret
      exact ⟨by rw [← HK.out]; rfl, rfl⟩
/-- a number's digits -/
def tens (n : Nat) : ByteArray := if n < 10 then ⟨#[UInt8.ofNat (48 + n % 10)]⟩ else tens (n / 10) ++ ⟨#[UInt8.ofNat (48 + n % 10)]⟩
termination_by n
decreasing_by omega
theorem tens_lt {n : Nat} (h : n < 10) : tens n = ⟨#[UInt8.ofNat (48 + n % 10)]⟩ := by rw [tens, if_pos h]
theorem tens_ge {n : Nat} (h : ¬ n < 10) : tens n = tens (n / 10) ++ ⟨#[UInt8.ofNat (48 + n % 10)]⟩ := by rw [tens, if_neg h]
theorem one_size (x : UInt8) : (⟨#[x]⟩ : ByteArray).size = 1 := rfl
theorem tens_size (n : Nat) : 1 ≤ (tens n).size ∧ (tens n).size ≤ n + 1 := by
  induction n using Nat.strongRecOn with
  | _ n ih =>
    by_cases h : n < 10
    · rw [tens_lt h, one_size]; omega
    · rw [tens_ge h, ByteArray.size_append, one_size]
      have := ih (n / 10) (by omega)
      omega
end Go.Proofs.YtgmifaadlaigdaaGreatDoor
