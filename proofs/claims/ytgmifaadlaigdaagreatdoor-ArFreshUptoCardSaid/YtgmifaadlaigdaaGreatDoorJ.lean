import Derived.Test.YtgmifaadlaigdaaGreatDoorI
namespace Go.Proofs.YtgmifaadlaigdaaGreatDoor
open Go.ChangeShapes Go.WideShapes Go.ChangeAt Go.RowKit
set_option linter.unusedVariables false
/-- a number, or the next one, so that it is even -/
def evn (n : Nat) : Nat := n + n % 2
theorem c41 (n : Nat) (hn : n ≤ 4611686018427387904) (w : World) : Calls Tryz.prog 41 #[.int .i64 (n : Int)] w fun e w' => e = .returned (.int .i64 (evn n : Int)) ∧ w = w' := by
  have HE : Hid ((evn n : Int) = (n : Int) + (n : Int) % 2) := Lib.hid (by unfold evn; omega)
  go_enter Tryz.func41, Tryz.ntmps41
  go_wp2_with fail
  go_ret
  exact ⟨by rw [HE.out]; rfl, rfl⟩
/-- the letters of so many entries' names, and one more each -/
def lgN (g : Nat → Ix) : Nat → Nat
  | 0 => 0
  | k + 1 => lgN g k + ((g k).nm.size + 1)
theorem lgN_mono (g : Nat → Ix) (m : Nat) : ∀ d, lgN g m ≤ lgN g (m + d)
  | 0 => Nat.le_refl _
  | d + 1 => by
    have := lgN_mono g m d
    rw [← Nat.add_assoc, lgN]
    omega
theorem lgN_le (g : Nat → Ix) {m n : Nat} (h : m ≤ n) : lgN g m ≤ lgN g n := by
  obtain ⟨d, rfl⟩ := Nat.exists_eq_add_of_le h
  exact lgN_mono g m d
theorem lgN_n (g : Nat → Ix) : ∀ n, n ≤ lgN g n
  | 0 => Nat.le_refl _
  | n + 1 => by have := lgN_n g n; rw [lgN]; omega
/-- how long the index is -/
def ixS (g : Nat → Ix) (n : Nat) : Nat := 4 + 4 * n + lgN g n
def R40 (w : World) (g : Nat → Ix) (n : Nat) (v i : Value) (wr : World) : Prop := ∃ k : Nat, k ≤ n ∧ i = .int .i64 (k : Int) ∧ v = .int .i64 ((4 + 4 * k + lgN g k : Nat) : Int) ∧ Below w.heap.size w wr
set_option maxRecDepth 100000 in
set_option maxHeartbeats 4000000 in
theorem c40 (A : Option Addr) (n c : Nat) (g : Nat → Ix) (w : World) (hA : Is w A n g) (hb : lgN g n ≤ 16777216) : Calls Tryz.prog 40 #[.slice A n c] w fun e w' => e = .returned (.int .i64 (ixS g n : Int)) ∧ Below w.heap.size w w' := by
  have HA := Lib.hid hA
  have hn := lgN_n g n
  have HLE := Lib.hid (fun k (h : k ≤ n) => lgN_le g h)
  clear hA
  go_enter Tryz.func40, Tryz.ntmps40
  go_wp2_with fail
  go_loopw [3, 8] (fun v i wr => R40 w g n v i wr) (fun _ i _ => n - (intOf i).toNat)
  case atStart => exact ⟨0, Nat.zero_le _, rfl, rfl, Below.refl _ _⟩
  case round =>
    obtain ⟨k, hk, rfl, rfl, hb1⟩ := hrel
    have HB := Lib.hid hb1
    have hlk := HLE.out k hk
    by_cases hlt : k < n
    · obtain ⟨b, o, rfl, hbl, hc⟩ := HA.out (by omega)
      obtain ⟨q0, q1, hs, -, -⟩ := hc k hlt
      have z : ∀ j, wr.cell? ⟨b, j, none⟩ = w.cell? ⟨b, j, none⟩ := fun j => hb1.cell (p := ⟨b, j, none⟩) hbl
      rw [← z] at q0 q1
      have HLT := Lib.hid hlt
      have hlk2 := HLE.out (k + 1) hlt
      have HS : Hid (lgN g (k + 1) = lgN g k + ((g k).nm.size + 1)) := Lib.hid rfl
      rw [lgN] at hlk2
      have hzs := hb1.size
      clear hc z hb1 hk
      generalize lgN g k = L at *
      generalize lgN g n = Ln at *
      generalize (g k).nm = s at *
      generalize (g k).m = m at *
      go_wp2_with fail
      go_roundw
      case rel => exact ⟨k + 1, HLT.out, by go_num, by rw [HS.out]; go_num, HB.out.alloc HB.out.size _⟩
      case measure => simp [intOf]; have := HLT.out; omega
    · obtain rfl : k = n := by omega
      clear hb1
      have HQ : Hid (ixS g k = 4 + 4 * k + lgN g k) := Lib.hid rfl
      generalize lgN g k = L at *
      go_wp2_with fail
      go_ret
      exact ⟨by rw [HQ.out]; rfl, HB.out⟩
end Go.Proofs.YtgmifaadlaigdaaGreatDoor
