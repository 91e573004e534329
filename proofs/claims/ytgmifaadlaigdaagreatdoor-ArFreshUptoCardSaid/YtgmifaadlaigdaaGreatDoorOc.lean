import Derived.Test.YtgmifaadlaigdaaGreatDoorOb
import Derived.Test.YtgmifaadlaigdaaGreatDoorM
namespace Go.Proofs.YtgmifaadlaigdaaGreatDoor
open Go.ChangeShapes Go.WideShapes Go.ChangeAt Go.RowKit
set_option linter.unusedVariables false
/-- so many of the four bytes of a number -/
def fb (n : Nat) : Nat → ByteArray
  | 0 => ⟨#[]⟩
  | k + 1 => fb n k ++ ⟨#[UInt8.ofNat (n / 256 ^ (3 - k) % 256)]⟩
theorem fb_size (n : Nat) : ∀ k, (fb n k).size = k
  | 0 => rfl
  | k + 1 => by rw [fb, ByteArray.size_append, fb_size n k]; rfl
theorem fb_four (n : Nat) (hn : n < 4294967296) : fb n 4 = fourB n := by
  have e : n / 16777216 % 256 = n / 16777216 := by omega
  simp only [fb, fourB, Nat.reduceSub, Nat.reducePow, Nat.div_one, e]
  rfl
def R43 (N : Nat) (w0 : World) (t : ByteArray) (n : Nat) (v : Value) (wr : World) : Prop := ∃ k : Nat, k ≤ 4 ∧ v = .int .i64 (24 - 8 * (k : Int)) ∧ Bu N w0 wr (t ++ fb n k)
theorem ba_empty (t : ByteArray) : t ++ ⟨#[]⟩ = t := ByteArray.append_empty
set_option maxRecDepth 100000 in
set_option maxHeartbeats 4000000 in
/-- word -/
theorem c43 {N : Nat} {w0 w : World} {t : ByteArray} (h : Bu N w0 w t) (n : Nat) (ht : t.size ≤ 8388608) (hn : n < 4294967296) :
    Calls Tryz.prog 43 #[.pointer (some ⟨N, 0, none⟩), .int .i64 (n : Int)] w fun e w' => e = .returned (.tuple #[]) ∧ Bu N w0 w' (t ++ fourB n) := by
  have H4 := Lib.hid (fb_four n hn)
  have H0 : Hid (Bu N w0 w (t ++ fb n 0)) := Lib.hid (by show Bu N w0 w (t ++ ⟨#[]⟩); rw [ba_empty]; exact h)
  have HS : Hid (∀ k, k ≤ 4 → (t ++ fb n k).size ≤ 33554432) := Lib.hid (fun k hk => by rw [ByteArray.size_append, fb_size]; omega)
  have HF : Hid (∀ k, fb n (k + 1) = fb n k ++ ⟨#[UInt8.ofNat (n / 256 ^ (3 - k) % 256)]⟩) := Lib.hid (fun _ => rfl)
  clear h
  go_enter Tryz.func43, Tryz.ntmps43
  go_wp2_with fail
  go_loopw [4] (fun v wr => R43 N w0 t n v wr) (fun v _ => (8 + intOf v).toNat)
  case atStart => exact ⟨0, by decide, rfl, H0.out⟩
  case round =>
    obtain ⟨k, hk, rfl, hu⟩ := hrel
    have HU := Lib.hid hu
    clear hu
    by_cases hlt : k < 4
    · have hk4 : k = 0 ∨ k = 1 ∨ k = 2 ∨ k = 3 := by omega
      rcases hk4 with rfl | rfl | rfl | rfl
      · have K44 := Lib.hid (bw44 (bu_drew HU.out) (n / 16777216 % 256) (HS.out 0 (by decide)) (by omega))
        go_wp2_with fail
        go_region_law (go_simp; go_at_call 44; refine K44.out.mono ?_; rintro _ w2 ⟨rfl, hu2⟩)
        all_goals
          have HU2 := Lib.hid hu2
          clear hu2
          go_wp2_with fail
          go_roundw
          case rel => exact ⟨1, by decide, by first | rfl | go_num, by rw [HF.out, ← ba_assoc]; simp only [Nat.reduceSub, Nat.reducePow]; exact HU2.out⟩
          case measure => simp [intOf]
      · have K44 := Lib.hid (bw44 (bu_drew HU.out) (n / 65536 % 256) (HS.out 1 (by decide)) (by omega))
        go_wp2_with fail
        go_region_law (go_simp; go_at_call 44; refine K44.out.mono ?_; rintro _ w2 ⟨rfl, hu2⟩)
        all_goals
          have HU2 := Lib.hid hu2
          clear hu2
          go_wp2_with fail
          go_roundw
          case rel => exact ⟨2, by decide, by first | rfl | go_num, by rw [HF.out, ← ba_assoc]; simp only [Nat.reduceSub, Nat.reducePow]; exact HU2.out⟩
          case measure => simp [intOf]
      · have K44 := Lib.hid (bw44 (bu_drew HU.out) (n / 256 % 256) (HS.out 2 (by decide)) (by omega))
        go_wp2_with fail
        go_region_law (go_simp; go_at_call 44; refine K44.out.mono ?_; rintro _ w2 ⟨rfl, hu2⟩)
        all_goals
          have HU2 := Lib.hid hu2
          clear hu2
          go_wp2_with fail
          go_roundw
          case rel => exact ⟨3, by decide, by first | rfl | go_num, by rw [HF.out, ← ba_assoc]; simp only [Nat.reduceSub, Nat.reducePow]; exact HU2.out⟩
          case measure => simp [intOf]
      · have K44 := Lib.hid (bw44 (bu_drew HU.out) (n % 256) (HS.out 3 (by decide)) (by omega))
        go_wp2_with fail
        go_region_law (go_simp; go_at_call 44; refine K44.out.mono ?_; rintro _ w2 ⟨rfl, hu2⟩)
        all_goals
          have HU2 := Lib.hid hu2
          clear hu2
          go_wp2_with fail
          go_roundw
          case rel => exact ⟨4, by decide, by first | rfl | go_num, by rw [HF.out, ← ba_assoc]; simp only [Nat.reduceSub, Nat.reducePow, Nat.div_one]; exact HU2.out⟩
          case measure => simp [intOf]
    · obtain rfl : k = 4 := by omega
      go_wp2_with fail
      go_end0
      exact ⟨rfl, by rw [← H4.out]; exact HU.out⟩
end Go.Proofs.YtgmifaadlaigdaaGreatDoor
