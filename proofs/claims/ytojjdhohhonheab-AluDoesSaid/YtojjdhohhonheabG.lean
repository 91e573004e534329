import Derived.Test.YtojjdhohhonheabA
import Derived.Deep.Draws
namespace Go.Proofs.Ytojjdhohhonheab
open Go.ChangeShapes Go.WideShapes Go.ChangeAt Go.RowKit
set_option linter.unusedVariables false
theorem rW (a : Nat) (ha : a < 4294967296) (w : World) : Calls Try.prog 14 #[.int .u32 (a : Int)] w fun en w' => en = .returned (.int .i64 (wrap32 (a : Int))) ∧ w = w' := by
  by_cases h : 2147483648 ≤ a
  · have e : wrap32 (a : Int) = (a : Int) - 4294967296 := by unfold wrap32; omega
    have q : decide (2147483648 ≤ a) = true := by simpa using h
    have q2 : decide ((2147483648 : Int) ≤ (a : Int)) = true := by simp; omega
    rw [e]
    clear e
    go_enter Try.func14, Try.ntmps14
    go_wp2
    go_ret
    exact ⟨rfl, rfl⟩
  · have e : wrap32 (a : Int) = (a : Int) := by unfold wrap32; omega
    have q : decide (2147483648 ≤ a) = false := by simpa using h
    have q2 : decide ((2147483648 : Int) ≤ (a : Int)) = false := by simp; omega
    rw [e]
    clear e
    go_enter Try.func14, Try.ntmps14
    go_wp2
    go_ret
    exact ⟨rfl, rfl⟩
theorem rOne (p : Bool) (w : World) : Calls Try.prog 16 #[.bool p] w fun en w' => en = .returned (.int .u32 (b2i p)) ∧ w = w' := by
  cases p
  · go_enter Try.func16, Try.ntmps16
    go_wp2
    go_ret
    exact ⟨rfl, rfl⟩
  · go_enter Try.func16, Try.ntmps16
    go_wp2
    go_ret
    exact ⟨rfl, rfl⟩
def PR (w : World) (m : Nat) (i v : Value) (wr : World) : Prop := ∃ k q : Nat, k ≤ m ∧ i = .int .u32 (k : Int) ∧ v = .int .i64 (q : Int) ∧ q = 2 ^ k ∧ wr = w
theorem rPow (n : Nat) (hn : n < 4294967296) (w : World) : Calls Try.prog 17 #[.int .u32 (n : Int)] w fun en w' => en = .returned (.int .i64 ((2 ^ (n % 32) : Nat) : Int)) ∧ w = w' := by
  obtain ⟨m, hm⟩ : ∃ m, m = n % 32 := ⟨_, rfl⟩
  have hm32 : m < 32 := by omega
  have e1 : (n : Int) % 32 = (m : Int) := by omega
  have e2 : (n : Int).tmod 32 = (m : Int) := by rw [Int.tmod_eq_emod_of_nonneg (by omega)]; exact e1
  rw [← hm]
  clear hm
  go_enter Try.func17, Try.ntmps17
  go_wp2_with fail
  go_loopw [4, 3] (PR w m) (fun i _ _ => m - (intOf i).toNat)
  case atStart => exact ⟨0, 1, Nat.zero_le _, rfl, rfl, rfl, rfl⟩
  case round =>
    obtain ⟨k, q, hk, rfl, rfl, hq, rfl⟩ := hrel
    by_cases hlt : k < m
    · have hql : q ≤ 2147483648 := by
        rw [hq]
        exact Nat.le_trans (Nat.pow_le_pow_right (by omega) (by omega : k ≤ 31)) (by decide)
      have HQ := Lib.hid hq
      clear hq
      go_wp2
      go_roundw
      case rel => exact ⟨k + 1, 2 * q, hlt, by go_num, by go_num, by rw [HQ.out, Nat.pow_succ, Nat.mul_comm], rfl⟩
      case measure => simp [intOf]; omega
    · obtain rfl : k = m := by omega
      have HQ := Lib.hid hq
      clear hq
      go_wp2
      go_ret
      exact ⟨by rw [← HQ.out]; rfl, rfl⟩
theorem rDown (a : Int) (d : Nat) (hd : 0 < d) (hd2 : d ≤ 4294967296) (ha : -9223372036854775808 ≤ a ∧ a ≤ 9223372036854775807) (w : World) : Calls Try.prog 18 #[.int .i64 a, .int .i64 (d : Int)] w fun en w' => en = .returned (.int .i64 (a / (d : Int))) ∧ w = w' := by
  obtain ⟨q, hq⟩ : ∃ q, q = a.tdiv (d : Int) := ⟨_, rfl⟩
  obtain ⟨r, hr⟩ : ∃ r, r = a.tmod (d : Int) := ⟨_, rfl⟩
  have hz : ((d : Int) == 0) = false := by simp; omega
  have hdi : (0 : Int) < (d : Int) := by omega
  have h1 : a / (d : Int) = if r < 0 then q - 1 else q := by
    have e := Int.tmod_add_mul_tdiv a (d : Int)
    rw [← hq, ← hr] at e
    have hb : r < 0 ∨ 0 ≤ r := by omega
    have hlt : -(d : Int) < r ∧ r < (d : Int) := by
      rw [hr]
      refine ⟨?_, Int.tmod_lt_of_pos a hdi⟩
      have := Int.lt_tmod_of_pos a hdi
      omega
    rcases hb with hb | hb
    · rw [if_pos hb]
      refine (Int.ediv_eq_iff_of_pos hdi).2 ?_
      rw [Int.sub_mul, Int.one_mul]
      constructor <;> rw [Int.mul_comm q] <;> omega
    · rw [if_neg (by omega)]
      refine (Int.ediv_eq_iff_of_pos hdi).2 ?_
      constructor <;> rw [Int.mul_comm q] <;> omega
  have hqn : q.natAbs = a.natAbs / d := by rw [hq, Int.natAbs_tdiv]; rfl
  have hqs : q.natAbs ≤ a.natAbs := by rw [hqn]; exact Nat.div_le_self _ _
  have hqb : -9223372036854775808 ≤ q ∧ q ≤ 9223372036854775807 ∨ q = 9223372036854775808 := by omega
  have hqb : -9223372036854775808 ≤ q ∧ q ≤ 9223372036854775807 := by
    refine ⟨by omega, ?_⟩
    rcases Int.lt_or_le a 0 with h | h
    · have e := Int.tmod_add_mul_tdiv a (d : Int)
      rw [← hq, ← hr] at e
      have e2 := Int.lt_tmod_of_pos a hdi
      rw [← hr] at e2
      by_cases hq1 : 1 ≤ q
      · have := Int.mul_le_mul_of_nonneg_left hq1 (show (0 : Int) ≤ (d : Int) by omega)
        omega
      · omega
    · omega
  have hrb : r < 0 ∨ 0 ≤ r := by omega
  rw [h1]
  clear h1
  rcases hrb with hrb | hrb
  · rw [if_pos hrb]
    have q1 : decide (r < 0) = true := by simpa using hrb
    have q2 : -9223372036854775808 ≤ q - 1 := by
      by_cases hd1 : d = 1
      · subst hd1
        have : r = 0 := by rw [hr]; exact Int.tmod_one a
        omega
      · have : a.natAbs / d ≤ a.natAbs / 2 := Nat.div_le_div_left (by omega) (by omega)
        omega
    have q3 : q - 1 ≤ 9223372036854775807 := by omega
    obtain ⟨g1, g2⟩ := hqb
    have hq' := hq.symm
    have hr' := hr.symm
    clear hq hr hqn hqs
    go_enter Try.func18, Try.ntmps18
    go_wp2
    go_ret
    exact ⟨rfl, rfl⟩
  · rw [if_neg (by omega)]
    have q1 : decide (r < 0) = false := by simpa using hrb
    have hq' := hq.symm
    have hr' := hr.symm
    obtain ⟨g1, g2⟩ := hqb
    clear hq hr hqn hqs
    go_enter Try.func18, Try.ntmps18
    go_wp2
    go_ret
    exact ⟨rfl, rfl⟩
theorem hi32 (p1 p2 p3 p4 : Nat) : (p4 * 4294967296 + (p2 + p3) * 65536 + p1) / 4294967296 = p4 + p2 / 65536 + p3 / 65536 + (p1 / 65536 + p2 % 65536 + p3 % 65536) / 65536 := by omega
theorem rHigh (a b : Nat) (ha : a < 4294967296) (hb : b < 4294967296) (w : World) : Calls Try.prog 19 #[.int .u32 (a : Int), .int .u32 (b : Int)] w fun en w' => en = .returned (.int .u32 ((a : Int) * (b : Int) / 4294967296)) ∧ w = w' := by
  obtain ⟨al, hal⟩ : ∃ m, m = a % 65536 := ⟨_, rfl⟩
  obtain ⟨ah, hah⟩ : ∃ m, m = a / 65536 := ⟨_, rfl⟩
  obtain ⟨bl, hbl⟩ : ∃ m, m = b % 65536 := ⟨_, rfl⟩
  obtain ⟨bh, hbh⟩ : ∃ m, m = b / 65536 := ⟨_, rfl⟩
  have l1 : al ≤ 65535 ∧ ah ≤ 65535 ∧ bl ≤ 65535 ∧ bh ≤ 65535 := by omega
  have e1 : (a : Int) % 65536 = (al : Int) := by omega
  have e1' : (a : Int).tmod 65536 = (al : Int) := by rw [Int.tmod_eq_emod_of_nonneg (by omega)]; exact e1
  have e2 : (a : Int) / 65536 = (ah : Int) := by omega
  have e2' : (a : Int).tdiv 65536 = (ah : Int) := by rw [Int.tdiv_eq_ediv_of_nonneg (by omega)]; exact e2
  have e3 : (b : Int) % 65536 = (bl : Int) := by omega
  have e3' : (b : Int).tmod 65536 = (bl : Int) := by rw [Int.tmod_eq_emod_of_nonneg (by omega)]; exact e3
  have e4 : (b : Int) / 65536 = (bh : Int) := by omega
  have e4' : (b : Int).tdiv 65536 = (bh : Int) := by rw [Int.tdiv_eq_ediv_of_nonneg (by omega)]; exact e4
  obtain ⟨p1, h1⟩ : ∃ m, m = al * bl := ⟨_, rfl⟩
  obtain ⟨p2, h2⟩ : ∃ m, m = ah * bl := ⟨_, rfl⟩
  obtain ⟨p3, h3⟩ : ∃ m, m = al * bh := ⟨_, rfl⟩
  obtain ⟨p4, h4⟩ : ∃ m, m = ah * bh := ⟨_, rfl⟩
  have c1 : p1 ≤ 4294836225 := by rw [h1]; exact Nat.mul_le_mul l1.1 l1.2.2.1
  have c2 : p2 ≤ 4294836225 := by rw [h2]; exact Nat.mul_le_mul l1.2.1 l1.2.2.1
  have c3 : p3 ≤ 4294836225 := by rw [h3]; exact Nat.mul_le_mul l1.1 l1.2.2.2
  have c4 : p4 ≤ 4294836225 := by rw [h4]; exact Nat.mul_le_mul l1.2.1 l1.2.2.2
  have hab : a * b = p4 * 4294967296 + (p2 + p3) * 65536 + p1 := by
    have ea : a = ah * 65536 + al := by omega
    have eb : b = bh * 65536 + bl := by omega
    rw [ea, eb, h1, h2, h3, h4, Nat.add_mul, Nat.mul_add, Nat.mul_add]
    have s1 : ah * 65536 * (bh * 65536) = ah * bh * 4294967296 := by
      rw [Nat.mul_assoc, Nat.mul_comm bh 65536, ← Nat.mul_assoc 65536, Nat.mul_comm (65536 * 65536) bh, ← Nat.mul_assoc]
    have s2 : ah * 65536 * bl = ah * bl * 65536 := by rw [Nat.mul_right_comm]
    have s3 : al * (bh * 65536) = al * bh * 65536 := by rw [Nat.mul_assoc]
    rw [s1, s2, s3]
    omega
  have hres : (a : Int) * (b : Int) / 4294967296 = ((p4 + p2 / 65536 + p3 / 65536 + (p1 / 65536 + p2 % 65536 + p3 % 65536) / 65536 : Nat) : Int) := by
    rw [← Int.natCast_mul, hab, ← hi32]; omega
  have hlt : p4 + p2 / 65536 + p3 / 65536 + (p1 / 65536 + p2 % 65536 + p3 % 65536) / 65536 < 4294967296 := by omega
  have m1 : (al : Int) * (bl : Int) = (p1 : Int) := by rw [h1, Int.natCast_mul]
  have m2 : (ah : Int) * (bl : Int) = (p2 : Int) := by rw [h2, Int.natCast_mul]
  have m3 : (al : Int) * (bh : Int) = (p3 : Int) := by rw [h3, Int.natCast_mul]
  have m4 : (ah : Int) * (bh : Int) = (p4 : Int) := by rw [h4, Int.natCast_mul]
  obtain ⟨d1, k1⟩ : ∃ m, m = p1 / 65536 := ⟨_, rfl⟩
  obtain ⟨d2, k2⟩ : ∃ m, m = p2 / 65536 := ⟨_, rfl⟩
  obtain ⟨d3, k3⟩ : ∃ m, m = p3 / 65536 := ⟨_, rfl⟩
  obtain ⟨r2, k4⟩ : ∃ m, m = p2 % 65536 := ⟨_, rfl⟩
  obtain ⟨r3, k5⟩ : ∃ m, m = p3 % 65536 := ⟨_, rfl⟩
  rw [← k1, ← k2, ← k3, ← k4, ← k5] at hlt hres
  obtain ⟨md, k6⟩ : ∃ m, m = d1 + r2 + r3 := ⟨_, rfl⟩
  obtain ⟨mh, k7⟩ : ∃ m, m = md / 65536 := ⟨_, rfl⟩
  rw [← k6, ← k7] at hlt hres
  obtain ⟨R, k8⟩ : ∃ m, m = p4 + d2 + d3 + mh := ⟨_, rfl⟩
  rw [← k8] at hlt hres
  have n1 : (p1 : Int) / 65536 = (d1 : Int) := by omega
  have n1' : (p1 : Int).tdiv 65536 = (d1 : Int) := by rw [Int.tdiv_eq_ediv_of_nonneg (by omega)]; exact n1
  have n2 : (p2 : Int) / 65536 = (d2 : Int) := by omega
  have n2' : (p2 : Int).tdiv 65536 = (d2 : Int) := by rw [Int.tdiv_eq_ediv_of_nonneg (by omega)]; exact n2
  have n3 : (p3 : Int) / 65536 = (d3 : Int) := by omega
  have n3' : (p3 : Int).tdiv 65536 = (d3 : Int) := by rw [Int.tdiv_eq_ediv_of_nonneg (by omega)]; exact n3
  have n4 : (p2 : Int) % 65536 = (r2 : Int) := by omega
  have n4' : (p2 : Int).tmod 65536 = (r2 : Int) := by rw [Int.tmod_eq_emod_of_nonneg (by omega)]; exact n4
  have n5 : (p3 : Int) % 65536 = (r3 : Int) := by omega
  have n5' : (p3 : Int).tmod 65536 = (r3 : Int) := by rw [Int.tmod_eq_emod_of_nonneg (by omega)]; exact n5
  have n6 : (d1 : Int) + (r2 : Int) + (r3 : Int) = (md : Int) := by omega
  have n7 : (md : Int) / 65536 = (mh : Int) := by omega
  have n7' : (md : Int).tdiv 65536 = (mh : Int) := by rw [Int.tdiv_eq_ediv_of_nonneg (by omega)]; exact n7
  have n8 : (p4 : Int) + (d2 : Int) + (d3 : Int) + (mh : Int) = (R : Int) := by omega
  have o1 : d1 ≤ 65535 ∧ d2 ≤ 65535 ∧ d3 ≤ 65535 ∧ r2 ≤ 65535 ∧ r3 ≤ 65535 ∧ mh ≤ 65535 ∧ md ≤ 200000 := by omega
  obtain ⟨o1, o2, o3, o4, o5, o6, o7⟩ := o1
  obtain ⟨l1, l2, l3, l4⟩ := l1
  rw [hres]
  clear hal hah hbl hbh h1 h2 h3 h4 hab hres k1 k2 k3 k4 k5 k6 k7 k8
  go_enter Try.func19, Try.ntmps19
  go_wp2
  go_ret
  exact ⟨rfl, rfl⟩
end Go.Proofs.Ytojjdhohhonheab
