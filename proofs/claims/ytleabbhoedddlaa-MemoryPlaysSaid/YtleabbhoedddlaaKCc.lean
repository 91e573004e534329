import Derived.Test.YtleabbhoedddlaaKCb
namespace Go.Proofs.Ytleabbhoedddlaa.Cp
open Go.ChangeShapes Go.WideShapes Go.ChangeAt Go.RowKit
set_option linter.unusedVariables false
def yc (n i k : Nat) : Value := if i < k then .int .u8 (En.bt n i : Int) else .int .u8 0
def Yk (a M k : Nat) : Array Value := #[yc a 0 k, yc a 1 k, yc a 2 k, yc a 3 k, yc M 0 k, yc M 1 k, yc M 2 k, yc M 3 k]
def RB (w : World) (C X : Array Value) (a M : Nat) (i q r : Value) (wr : World) : Prop := ∃ k : Nat, k ≤ 4 ∧ i = .int .i64 (k : Int) ∧ q = .int .u64 ((a / 256 ^ k : Nat) : Int) ∧ r = .int .u64 ((M / 256 ^ k : Nat) : Int) ∧ B3 w wr C X (Yk a M k)
theorem B3.set2 {w wa : World} {C X Y : Array Value} (h : B3 w wa C X Y) (i j : Nat) (u v : Value) : B3 w ((wa.setCell ⟨w.heap.size + 2, i, none⟩ u).setCell ⟨w.heap.size + 2, j, none⟩ v) C X ((Y.setIfInBounds i u).setIfInBounds j v) :=
  ⟨(h.1.setCell (by simp) u).setCell (by simp) v, (h.2.1.far (by simp) u).far (by simp) v, (h.2.2.1.far (by simp) u).far (by simp) v, (h.2.2.2.set_ i u).set_ j v⟩
theorem RB.step {w wr : World} {C X : Array Value} {a M k q r : Nat} (hk : k < 4) (h : B3 w wr C X (Yk a M k)) (hq : q = a / 256 ^ k) (hr : r = M / 256 ^ k) (j : Nat) (hj : j = 4 + k) :
    RB w C X a M (.int .i64 ((k + 1 : Nat) : Int)) (.int .u64 ((q / 256 : Nat) : Int)) (.int .u64 ((r / 256 : Nat) : Int)) ((wr.setCell ⟨w.heap.size + 2, k, none⟩ (.int .u8 ((q % 256 : Nat) : Int))).setCell ⟨w.heap.size + 2, j, none⟩ (.int .u8 ((r % 256 : Nat) : Int))) := by
  subst hq hr hj
  refine ⟨k + 1, hk, rfl, by rw [Nat.pow_succ, Nat.div_div_eq_div_mul], by rw [Nat.pow_succ, Nat.div_div_eq_div_mul], ?_⟩
  have h2 := h.set2 k (4 + k) (.int .u8 ((a / 256 ^ k % 256 : Nat) : Int)) (.int .u8 ((M / 256 ^ k % 256 : Nat) : Int))
  have e : ((Yk a M k).setIfInBounds k (.int .u8 ((a / 256 ^ k % 256 : Nat) : Int))).setIfInBounds (4 + k) (.int .u8 ((M / 256 ^ k % 256 : Nat) : Int)) = Yk a M (k + 1) := by
    have hk4 : k = 0 ∨ k = 1 ∨ k = 2 ∨ k = 3 := by omega
    rcases hk4 with rfl | rfl | rfl | rfl <;> simp [Yk, yc, En.bt]
  rw [e] at h2
  exact h2
theorem Yk.at_ {w : World} {g a M k : Nat} (h : Blk w g 58 (Yk a M k)) (hk : k < 4) : w.cell? ⟨g, k, none⟩ = some (.int .u8 0) ∧ w.cell? ⟨g, 4 + k, none⟩ = some (.int .u8 0) ∧ w.frozen? ⟨g, k, none⟩ = false ∧ w.frozen? ⟨g, 4 + k, none⟩ = false := by
  have h1 := h.cell k
  have h2 := h.cell (4 + k)
  have hk4 : k = 0 ∨ k = 1 ∨ k = 2 ∨ k = 3 := by omega
  refine ⟨?_, ?_, h.frozen k, h.frozen (4 + k)⟩
  · rw [h1]; rcases hk4 with rfl | rfl | rfl | rfl <;> simp [Yk, yc]
  · rw [h2]; rcases hk4 with rfl | rfl | rfl | rfl <;> simp [Yk, yc]
set_option maxHeartbeats 4000000 in
theorem cb12 (g : Bool) (a p y e b t : Nat) (ha : a < 4294967296) (hp : p < 256) (hy : y < 256) (he : e < 256) (hb : b < 65536) (ht : t < 65536) (w : World) :
    Calls Try.prog 21 #[cp g a p y e b t] w fun en w' => en = .returned (arr (En.bt a 0) (En.bt a 1) (En.bt a 2) (En.bt a 3) (En.bt (mt p y e b t) 0) (En.bt (mt p y e b t) 1) (En.bt (mt p y e b t) 2) (En.bt (mt p y e b t) 3)) ∧ Below w.heap.size w w' := by
  obtain ⟨P, hP⟩ : ∃ n, n = p % 128 := ⟨_, rfl⟩
  obtain ⟨Y, hY⟩ : ∃ n, n = y % 8 := ⟨_, rfl⟩
  obtain ⟨E, hE⟩ : ∃ n, n = e % 16 := ⟨_, rfl⟩
  obtain ⟨B, hB⟩ : ∃ n, n = b % 512 := ⟨_, rfl⟩
  obtain ⟨T, hT⟩ : ∃ n, n = t % 512 := ⟨_, rfl⟩
  have l1 : P < 128 ∧ Y < 8 ∧ E < 16 ∧ B < 512 ∧ T < 512 := by omega
  obtain ⟨l1, l2, l3, l4, l5⟩ := l1
  have a1 : (p : Int) % 128 = (P : Int) := by omega
  have a1' : (p : Int).tmod 128 = (P : Int) := by rw [Int.tmod_eq_emod_of_nonneg (by omega)]; exact a1
  have a2 : (y : Int) % 8 = (Y : Int) := by omega
  have a2' : (y : Int).tmod 8 = (Y : Int) := by rw [Int.tmod_eq_emod_of_nonneg (by omega)]; exact a2
  have a3 : (e : Int) % 16 = (E : Int) := by omega
  have a3' : (e : Int).tmod 16 = (E : Int) := by rw [Int.tmod_eq_emod_of_nonneg (by omega)]; exact a3
  have a4 : (b : Int) % 512 = (B : Int) := by omega
  have a4' : (b : Int).tmod 512 = (B : Int) := by rw [Int.tmod_eq_emod_of_nonneg (by omega)]; exact a4
  have a5 : (t : Int) % 512 = (T : Int) := by omega
  have a5' : (t : Int).tmod 512 = (T : Int) := by rw [Int.tmod_eq_emod_of_nonneg (by omega)]; exact a5
  have hM : mt p y e b t = P + 128 * Y + 1024 * E + 16384 * B + 8388608 * T := by unfold mt; omega
  have hMl := mt_lt p y e b t
  rw [hM] at hMl ⊢
  clear hP hY hE hB hT hM
  obtain ⟨M, hM⟩ : ∃ M, M = P + 128 * Y + 1024 * E + 16384 * B + 8388608 * T := ⟨_, rfl⟩
  rw [← hM] at hMl ⊢
  have m5 : (P : Int) + 128 * (Y : Int) + 1024 * (E : Int) + 16384 * (B : Int) + 8388608 * (T : Int) = (M : Int) := by omega
  have hst := B3.start w #[.bool g, .int .u32 (a : Int), .int .u8 (p : Int), .int .u8 (y : Int), .int .u8 (e : Int), .int .u16 (b : Int), .int .u16 (t : Int)] Z8 Z8
  have hst2 : RB w #[.bool g, .int .u32 (a : Int), .int .u8 (p : Int), .int .u8 (y : Int), .int .u8 (e : Int), .int .u16 (b : Int), .int .u16 (t : Int)] Z8 a M (.int .i64 0) (.int .u64 (a : Int)) (.int .u64 (M : Int)) _ := ⟨0, by omega, rfl, by simp, by simp, hst⟩
  have HST := Lib.hid hst2
  clear hst hst2 hM
  unfold Z8 at HST
  go_enter Try.func21, Try.ntmps21
  go_wp2_with fail
  go_loopw [6, 4, 3] (RB w #[.bool g, .int .u32 (a : Int), .int .u8 (p : Int), .int .u8 (y : Int), .int .u8 (e : Int), .int .u16 (b : Int), .int .u16 (t : Int)] #[.int .u8 0, .int .u8 0, .int .u8 0, .int .u8 0, .int .u8 0, .int .u8 0, .int .u8 0, .int .u8 0] a M) (fun i _ _ _ => 4 - (intOf i).toNat)
  case atStart => exact HST.out
  case round =>
    obtain ⟨k, hk, rfl, rfl, rfl, hb3⟩ := hrel
    have HB := Lib.hid hb3
    clear hb3 HST
    by_cases hlt : k < 4
    · obtain ⟨u0, u1, u2, u3⟩ := Yk.at_ HB.out.2.2.2 hlt
      obtain ⟨q, hq⟩ : ∃ q, q = a / 256 ^ k := ⟨_, rfl⟩
      obtain ⟨r, hr⟩ : ∃ r, r = M / 256 ^ k := ⟨_, rfl⟩
      have hql : q < 18446744073709551616 := by rw [hq]; exact Nat.lt_of_le_of_lt (Nat.div_le_self _ _) (by omega)
      have hrl : r < 18446744073709551616 := by rw [hr]; exact Nat.lt_of_le_of_lt (Nat.div_le_self _ _) (by omega)
      rw [← hq, ← hr]
      have HQ := Lib.hid hq
      have HR := Lib.hid hr
      clear hq hr
      have h4 : k = 0 ∨ k = 1 ∨ k = 2 ∨ k = 3 := by omega
      rcases h4 with rfl | rfl | rfl | rfl
      all_goals
        simp only [Nat.add_zero, Nat.reduceAdd] at u0 u1 u2 u3
        go_wp2
        go_roundw
        case rel => exact RB.step (by omega) HB.out HQ.out HR.out _ rfl
        case measure => simp [intOf]
    · obtain rfl : k = 4 := by omega
      obtain ⟨hb5, hC5, hX5, hY5⟩ := HB.out
      obtain ⟨y0, y1, y2, y3, y4, y5, y6, y7⟩ := (show Blk wr (w.heap.size + 1 + 1) 58 #[.int .u8 (En.bt a 0 : Int), .int .u8 (En.bt a 1 : Int), .int .u8 (En.bt a 2 : Int), .int .u8 (En.bt a 3 : Int), .int .u8 (En.bt M 0 : Int), .int .u8 (En.bt M 1 : Int), .int .u8 (En.bt M 2 : Int), .int .u8 (En.bt M 3 : Int)] from hY5).cells8
      obtain ⟨z0, z1, z2, z3, z4, z5, z6, z7⟩ := hX5.cells8
      obtain ⟨f0, f1, f2, f3, f4, f5, f6, f7⟩ := hX5.frozen8
      clear hC5 hX5 hY5 hb5
      go_wp2
      exact bodyPost_ret (v := arr (En.bt a 0) (En.bt a 1) (En.bt a 2) (En.bt a 3) (En.bt M 0) (En.bt M 1) (En.bt M 2) (En.bt M 3)) (by simp [results, Try.results21, go_sem, z0, z1, z2, z3, z4, z5, z6, z7]) rfl ⟨rfl, below8 HB.out.1 (by omega) _ _ _ _ _ _ _ _⟩
end Go.Proofs.Ytleabbhoedddlaa.Cp
