import Derived.Test.YtnkoknfihhdelaaGreatDoorKI
namespace Go.Proofs.YtnkoknfihhdelaaGreatDoor.Ca
open Go.ChangeShapes Go.WideShapes Go.ChangeAt Go.RowKit
set_option linter.unusedVariables false
set_option maxRecDepth 100000
def may (g : Bool) (a p y e b t q x n : Nat) : Bool := g && (decide (y = 0) && (decide (p &&& q = q) && wi (e % 16) (b % 512) (t % 512) a x n))
theorem init7 {w w1 : World} {v0 v1 v2 v3 v4 v5 v6 : Value} {T : TypeId} (hb : Below (w.alloc (.cells #[v0, v1, v2, v3, v4, v5, v6] T)).heap.size (w.alloc (.cells #[v0, v1, v2, v3, v4, v5, v6] T)) w1) :
    Below w.heap.size w w1 ∧ w.heap.size < w1.heap.size ∧ w1.cell? ⟨w.heap.size, 0, none⟩ = some v0 ∧ w1.cell? ⟨w.heap.size, 1, none⟩ = some v1 ∧ w1.cell? ⟨w.heap.size, 2, none⟩ = some v2 ∧ w1.cell? ⟨w.heap.size, 3, none⟩ = some v3 ∧ w1.cell? ⟨w.heap.size, 4, none⟩ = some v4 ∧ w1.cell? ⟨w.heap.size, 5, none⟩ = some v5 ∧ w1.cell? ⟨w.heap.size, 6, none⟩ = some v6 :=
  keep7 (start7 w v0 v1 v2 v3 v4 v5 v6 T) hb
set_option maxHeartbeats 1000000 in
theorem c36 (g : Bool) (a p y e b t q x n : Nat) (ha : a < 4294967296) (hp : p < 256) (hy : y < 256) (he : e < 256) (hb : b < 65536) (ht : t < 65536) (hq : q < 256) (hx : x < 18446744073709551616) (hn : n < 18446744073709551616) (w : World) :
    Calls Tryz.prog 87 #[cp g a p y e b t, .int .u8 (q : Int), .int .u64 (x : Int), .int .u64 (n : Int)] w fun en w' => en = .returned (.bool (may g a p y e b t q x n)) ∧ Below w.heap.size w w' := by
  unfold may
  have k1 := c47 g a p y e b t hy
  have k2 := c15 e b t a x n he hb ht ha hx hn
  generalize wi (e % 16) (b % 512) (t % 512) a x n = W at *
  generalize decide (y = 0) = r at *
  have ka := u8_and_nat p q hp hq
  have hm : p &&& q < 256 := Nat.and_lt_two_pow (n := 8) _ hq
  generalize p &&& q = m at *
  have K1 := Lib.hid k1
  have K2 := Lib.hid k2
  clear k1 k2
  cases g
  · go_enter Tryz.func87, Tryz.ntmps87
    go_wp2_with fail
    go_ret
    exact ⟨rfl, (Below.refl _ _).alloc (Nat.le_refl _) _⟩
  cases r
  · go_enter Tryz.func87, Tryz.ntmps87
    go_wp2_with fail
    refine (K1.out _).mono ?_
    rintro en w1 ⟨rfl, hb1⟩
    obtain ⟨hB, hz, q0, q1, q2, q3, q4, q5, q6⟩ := init7 hb1
    clear hb1
    go_wp2_with fail
    go_ret
    exact ⟨rfl, hB⟩
  by_cases hmq : m = q
  · have hmb : ((m : Int) == (q : Int)) = true := by simp; omega
    rw [decide_eq_true hmq]
    clear hmq
    go_enter Tryz.func87, Tryz.ntmps87
    go_wp2_with fail
    refine (K1.out _).mono ?_
    rintro en w1 ⟨rfl, hb1⟩
    obtain ⟨hB, hz, q0, q1, q2, q3, q4, q5, q6⟩ := init7 hb1
    clear hb1
    go_wp2_with fail
    refine (K2.out _).mono ?_
    rintro en w2 ⟨rfl, hb2⟩
    have hB2 := hB.trans (hb2.mono hB.size)
    clear hb2
    go_wp2_with fail
    go_ret
    exact ⟨rfl, hB2⟩
  · have hmb : ((m : Int) == (q : Int)) = false := by simp; omega
    rw [decide_eq_false hmq]
    clear hmq
    go_enter Tryz.func87, Tryz.ntmps87
    go_wp2_with fail
    refine (K1.out _).mono ?_
    rintro en w1 ⟨rfl, hb1⟩
    obtain ⟨hB, hz, q0, q1, q2, q3, q4, q5, q6⟩ := init7 hb1
    clear hb1
    go_wp2_with fail
    go_ret
    exact ⟨rfl, hB⟩
theorem c46 (w : World) : Calls Tryz.prog 28 #[] w fun en w' => en = .returned (.agg #[.bool false, .int .u32 0, .int .u8 0, .int .u8 0, .int .u8 0, .int .u16 0, .int .u16 0]) ∧ Below w.heap.size w w' := by
  go_enter Tryz.func28, Tryz.ntmps28
  go_wp2
  exact bodyPost_ret (v := .agg #[.bool false, .int .u32 0, .int .u8 0, .int .u8 0, .int .u8 0, .int .u16 0, .int .u16 0]) (by simp [results, Tryz.results28, go_sem]) rfl ⟨rfl, (Below.refl _ _).alloc (Nat.le_refl _) _⟩
theorem c15n (n : Nat) (w : World) : Calls Tryz.prog 132 #[.int .u32 (n : Int)] w fun en w' => en = .returned (.agg #[.bool false, .int .u32 (n : Int), .int .u8 0, .int .u8 0, .int .u8 0, .int .u16 0, .int .u16 0]) ∧ Below w.heap.size w w' := by
  go_enter Tryz.func132, Tryz.ntmps132
  go_wp2
  exact bodyPost_ret (v := .agg #[.bool false, .int .u32 (n : Int), .int .u8 0, .int .u8 0, .int .u8 0, .int .u16 0, .int .u16 0]) (by simp [results, Tryz.results132, go_sem]) rfl ⟨rfl, (Below.refl _ _).alloc (Nat.le_refl _) _⟩
end Go.Proofs.YtnkoknfihhdelaaGreatDoor.Ca
