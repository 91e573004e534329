import Derived.Test.YtgmifaadlaigdaaGreatDoorC
namespace Go.Proofs.YtgmifaadlaigdaaGreatDoor
open Go.ChangeShapes Go.WideShapes Go.ChangeAt Go.RowKit
set_option linter.unusedVariables false
/-- four bytes, the highest first -/
def fourA (n : Nat) : Array Value := #[.int .u8 ((n / 16777216 : Nat) : Int), .int .u8 ((n / 65536 % 256 : Nat) : Int), .int .u8 ((n / 256 % 256 : Nat) : Int), .int .u8 ((n % 256 : Nat) : Int)]
set_option maxHeartbeats 4000000 in
theorem c30 (n : Nat) (hn : n < 4294967296) (w : World) : Calls Tryz.prog 30 #[.int .i64 (n : Int)] w fun e w' => e = .returned (.slice (some ⟨w.heap.size, 0, none⟩) 4 4) ∧ w' = w.alloc (.cells (fourA n) 5) := by
  go_enter Tryz.func30, Tryz.ntmps30
  go_wp2_with fail
  go_ret
  exact ⟨rfl, by unfold fourA; rfl⟩
/-- so many bytes stand there -/
def Bs (w : World) (b o n : Nat) (f : Nat → Nat) : Prop := b < w.heap.size ∧ ∀ k, k < n → f k < 256 ∧ w.cell? ⟨b, o + k, none⟩ = some (.int .u8 (f k : Int))
theorem Bs.below {w w' : World} {b o n : Nat} {f : Nat → Nat} (h : Bs w b o n f) (hb : Below w.heap.size w w') : Bs w' b o n f :=
  ⟨Nat.lt_of_lt_of_le h.1 hb.size, fun k hk => ⟨(h.2 k hk).1, by rw [hb.cell (p := ⟨b, o + k, none⟩) h.1]; exact (h.2 k hk).2⟩⟩
theorem Bs.less {w : World} {b o n m : Nat} {f : Nat → Nat} (h : Bs w b o n f) (hm : m ≤ n) : Bs w b o m f := ⟨h.1, fun k hk => h.2 k (by omega)⟩
/-- bytes as a text -/
def strN (f : Nat → Nat) (n : Nat) : ByteArray := ⟨((List.range n).map fun k => UInt8.ofNat (f k)).toArray⟩
theorem strN_size (f : Nat → Nat) (n : Nat) : (strN f n).size = n := by
  show ((List.range n).map fun k => UInt8.ofNat (f k)).toArray.size = n
  simp
theorem bb_strN (f : Nat → Nat) (n k : Nat) (hk : k < n) (hf : f k < 256) : bb (strN f n) k = f k := by
  have h : k < (strN f n).size := by rw [strN_size]; exact hk
  rw [bb_eq _ _ h]
  have hd : (strN f n).data = ((List.range n).map fun k => UInt8.ofNat (f k)).toArray := rfl
  have e : (strN f n)[k]'h = UInt8.ofNat (f k) := by
    have e1 : (strN f n)[k]'h = (strN f n).data[k]'h := rfl
    rw [e1]
    apply Option.some.inj
    rw [← Array.getElem?_eq_getElem, hd]
    simp [hk]
  rw [e, UInt8.toNat_ofNat']
  omega
theorem cvB (w : World) (b o n c : Nat) (f : Nat → Nat) (h : Bs w b o n f) : (convert 24 9 (.slice (some ⟨b, o, none⟩) n c)).run Tryz.prog w = .ok (.string (strN f n)) w := by
  have hl : ((List.range n).map fun k => UInt8.ofNat (f k)).length = n := by simp
  have h1 := run_convert_bytes_back (P := Tryz.prog) w 24 9 5 ⟨b, o, none⟩ c ((List.range n).map fun k => UInt8.ofNat (f k)) Tryz.underlying24 Tryz.underlying5 Tryz.underlying9 (fun j hj => by
    rw [hl] at hj
    have ea : (⟨b, o, none⟩ : Addr).add j = ⟨b, o + j, none⟩ := by
      unfold Addr.add
      split <;> simp_all
    obtain ⟨h2, h3⟩ := h.2 j hj
    rw [ea, h3]
    simp only [List.getElem_map, List.getElem_range]
    rw [UInt8.toNat_ofNat']
    have : f j % 2 ^ 8 = f j := by omega
    rw [this])
  rw [hl] at h1
  exact h1
/-- a text without the blanks at its end: how long -/
def trimN (f : Nat → Nat) : Nat → Nat
  | 0 => 0
  | n + 1 => if f n = 32 then trimN f n else n + 1
theorem trimN_le (f : Nat → Nat) : ∀ n, trimN f n ≤ n
  | 0 => Nat.le_refl _
  | n + 1 => by
    have := trimN_le f n
    unfold trimN
    split <;> omega
set_option maxHeartbeats 4000000 in
theorem c58 (b o n c : Nat) (f : Nat → Nat) (w : World) (hB : Bs w b o n f) (hn : n ≤ 16777216) (hc : n ≤ c) : Calls Tryz.prog 58 #[.slice (some ⟨b, o, none⟩) n c] w fun e w' => e = .returned (.string (strN f (trimN f n))) ∧ w = w' := by
  have HB := Lib.hid hB
  clear hB
  go_enter Tryz.func58, Tryz.ntmps58
  go_wp2_with fail
  go_loopw [3] (fun v wr => wr = w ∧ ∃ k : Nat, k ≤ n ∧ v = .int .i64 (k : Int) ∧ trimN f k = trimN f n) (fun v _ => (intOf v).toNat)
  case atStart => exact ⟨rfl, n, Nat.le_refl _, rfl, rfl⟩
  case round =>
    obtain ⟨rfl, k, hk, rfl, ht⟩ := hrel
    have HT := Lib.hid ht
    clear ht
    cases k with
    | zero =>
      have hcv := cvB wr b o 0 c f (HB.out.less (Nat.zero_le _))
      have HE : Hid (trimN f n = 0) := Lib.hid HT.out.symm
      have b0 : decide ((0 : Int) < ((0 : Nat) : Int)) = false := rfl
      go_wp2_with fail
      go_ret
      exact ⟨by rw [HE.out]; rfl, rfl⟩
    | succ k =>
      obtain ⟨hf, hcell⟩ := HB.out.2 k (by omega)
      by_cases h32 : f k = 32
      · have HS : Hid (trimN f k = trimN f n) := Lib.hid (by rw [← HT.out]; conv => rhs; unfold trimN; rw [if_pos h32])
        have b1 : ((f k : Int) == 32) = true := by simp; omega
        generalize f k = v at *
        have e1 : (((k + 1 : Nat) : Int) - 1) = (k : Int) := by omega
        go_wp2_with fail
        go_roundw
        case rel => exact ⟨trivial, k, by omega, rfl, HS.out⟩
        case measure => simp [intOf]
      · have HS : Hid (k + 1 = trimN f n) := Lib.hid (by rw [← HT.out]; conv => rhs; unfold trimN; rw [if_neg h32])
        have b1 : ((f k : Int) == 32) = false := by simp; omega
        have hcv := cvB wr b o (k + 1) c f (HB.out.less hk)
        generalize hv : f k = v at hcell b1
        go_wp2_with fail
        go_ret
        exact ⟨by rw [← HS.out]; rfl, rfl⟩
end Go.Proofs.YtgmifaadlaigdaaGreatDoor
