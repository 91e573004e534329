import Derived.Test.YtliimbidkkpegaaDoorL5a
namespace Go.Proofs.YtliimbidkkpegaaDoor
open Go.ChangeShapes Go.WideShapes Go.ChangeAt Go.RowKit
set_option linter.unusedVariables false
theorem get_b (w : Nat) (hw : w < 4294967296) (i : Ins) (h : get w = (i, 0)) : i.o < 256 ∧ i.d < 256 ∧ i.a < 256 ∧ i.b < 256 ∧ i32 i.m := by
  have hob := opL_b w 68 (by omega)
  unfold get at h
  split at h
  · exact absurd (Prod.mk.inj h).2 (by decide)
  · split at h
    · rw [← (Prod.mk.inj h).1]
      exact ⟨by show opL w 68 - 1 + 1 < 256; omega, regN_lt _ _ _, regN_lt _ _ _, regN_lt _ _ _, getF_b _ _ hw⟩
    · exact absurd (Prod.mk.inj h).2 (by decide)
theorem eqSame (o d a b : Nat) (n : Int) (wz : World) : (Op.equalIn 10000 24 (.agg #[.int .u8 (o : Int), .int .u8 (d : Int), .int .u8 (a : Int), .int .u8 (b : Int), .int .i32 n]) (.agg #[.int .u8 (o : Int), .int .u8 (d : Int), .int .u8 (a : Int), .int .u8 (b : Int), .int .i32 n])).run Tryd.prog wz = .ok true wz := by go_simp
theorem eqZero (wz : World) : (Op.equalIn 10000 24 (.agg #[.int .u8 0, .int .u8 0, .int .u8 0, .int .u8 0, .int .i32 0]) (.agg #[.int .u8 0, .int .u8 0, .int .u8 0, .int .u8 0, .int .i32 0])).run Tryd.prog wz = .ok true wz := by go_simp
theorem eqNot (o d a b o2 d2 a2 b2 : Nat) (n n2 : Int) (h : ¬(o = o2 ∧ d = d2 ∧ a = a2 ∧ b = b2 ∧ n = n2)) (wz : World) : (Op.equalIn 10000 24 (.agg #[.int .u8 (o : Int), .int .u8 (d : Int), .int .u8 (a : Int), .int .u8 (b : Int), .int .i32 n]) (.agg #[.int .u8 (o2 : Int), .int .u8 (d2 : Int), .int .u8 (a2 : Int), .int .u8 (b2 : Int), .int .i32 n2])).run Tryd.prog wz = .ok false wz := by
  go_simp
  intro h1 h2 h3 h4 h5
  exact h ⟨by omega, by omega, by omega, by omega, h5⟩
theorem law5 (o d a b : Nat) (n : Int) (m : Nat) (ho : o < 256) (hd : d < 256) (ha : a < 256) (hb : b < 256) (hn : i32 n) (hm : m < 4294967296) (w : World) (hg : Glob w) :
    Calls Tryd.prog 5 #[.agg #[.int .u8 (o : Int), .int .u8 (d : Int), .int .u8 (a : Int), .int .u8 (b : Int), .int .i32 n], .int .u32 (m : Int)] w fun en w' => en = .returned (.bool true) ∧ Below w.heap.size w w' := by
  have hP := c7 o d a b n ho hd ha hb hn
  have hM := c9 m hm
  rcases put_err o d a b n with ⟨x, hx⟩ | hx
  · rw [hx] at hP
    obtain ⟨hxl, hgx⟩ := put_get o d a b n hn x hx
    have hG := c9 x hxl
    rw [hgx] at hG
    rcases get_err m with ⟨i2, hi⟩ | hi
    · rw [hi] at hM
      obtain ⟨g1, g2, g3, g4, g5⟩ := get_b m hm i2 hi
      have hQ := c7 i2.o i2.d i2.a i2.b i2.m g1 g2 g3 g4 g5
      have hp2 : put i2.o i2.d i2.a i2.b i2.m = (m, 0) := get_put m i2 hi
      rw [hp2] at hQ
      exact w5AA o d a b m x n hm w hg i2.o i2.d i2.a i2.b i2.m (Lib.hid hP) (Lib.hid hG) (Lib.hid (eqSame o d a b n)) (Lib.hid hM) (Lib.hid hQ)
    · rw [hi] at hM
      exact w5AB o d a b m x n hm w hg (Lib.hid hP) (Lib.hid hG) (Lib.hid (eqSame o d a b n)) (Lib.hid hM) (Lib.hid eqZero)
  · rw [hx] at hP
    rcases get_err m with ⟨i2, hi⟩ | hi
    · rw [hi] at hM
      obtain ⟨g1, g2, g3, g4, g5⟩ := get_b m hm i2 hi
      have hQ := c7 i2.o i2.d i2.a i2.b i2.m g1 g2 g3 g4 g5
      have hp2 : put i2.o i2.d i2.a i2.b i2.m = (m, 0) := get_put m i2 hi
      rw [hp2] at hQ
      exact w5BA o d a b m 0 n hm w hg i2.o i2.d i2.a i2.b i2.m (Lib.hid hP) (Lib.hid hM) (Lib.hid hQ)
    · rw [hi] at hM
      exact w5BB o d a b m 0 n hm w hg (Lib.hid hP) (Lib.hid hM) (Lib.hid eqZero)
set_option maxHeartbeats 1000000 in
theorem w6B (o d a b m x k P y : Nat) (n : Int) (w : World) (hg : Glob w) (hm2 : (m : Int) % 32 = (k : Int)) (hml : k < 32) (h2 : (2 : Int) ^ k = (P : Int)) (hpl : P ≤ 2147483648) (hX : bits .xor .u32 (x : Int) (P : Int) = (y : Int)) (o2 d2 a2 b2 : Nat) (n2 : Int)
    (KP : Hid (∀ w : World, Glob w → Calls Tryd.prog 7 #[.agg #[.int .u8 (o : Int), .int .u8 (d : Int), .int .u8 (a : Int), .int .u8 (b : Int), .int .i32 n]] w fun en w' => en = .returned (.tuple #[.int .u32 (x : Int), .int .i64 0]) ∧ Below w.heap.size w w'))
    (KM : Hid (∀ w : World, Glob w → Calls Tryd.prog 9 #[.int .u32 (y : Int)] w fun en w' => en = .returned (.tuple #[.agg #[.int .u8 (o2 : Int), .int .u8 (d2 : Int), .int .u8 (a2 : Int), .int .u8 (b2 : Int), .int .i32 n2], .int .i64 0]) ∧ Below w.heap.size w w')) (KE : Hid (∀ wz : World, (Op.equalIn 10000 24 (.agg #[.int .u8 (o2 : Int), .int .u8 (d2 : Int), .int .u8 (a2 : Int), .int .u8 (b2 : Int), .int .i32 n2]) (.agg #[.int .u8 (o : Int), .int .u8 (d : Int), .int .u8 (a : Int), .int .u8 (b : Int), .int .i32 n])).run Tryd.prog wz = .ok false wz))
    : Calls Tryd.prog 6 #[.agg #[.int .u8 (o : Int), .int .u8 (d : Int), .int .u8 (a : Int), .int .u8 (b : Int), .int .i32 n], .int .u8 (m : Int)] w fun en w' => en = .returned (.bool true) ∧ Below w.heap.size w w' := by
  have H := Lib.hid hg
  have hs := hg.size
  clear hg
  go_enter Tryd.func6, Tryd.ntmps6
  go_wp2_with fail
  refine (KP.out _ (H.out.below ((Below.refl _ _).alloc (Nat.le_refl _) _) hs)).mono ?_
  rintro _ w1 ⟨rfl, b1⟩
  have G1 := Lib.hid (H.out.below (((Below.refl _ _).alloc (Nat.le_refl _) _).trans (b1.mono (by simp))) hs)
  have q1 := b1.size
  simp at q1
  have e1 : Below w.heap.size w w1 := ((Below.refl _ _).alloc (Nat.le_refl _) _).trans (b1.mono (by simp))
  have l1 : w.heap.size < w1.heap.size := by omega
  have l0 : w.heap.size < w.heap.size + 1 := by omega
  obtain ⟨hc1, hf1⟩ := bcell b1
  clear b1
  go_wp2_with fail
  refine (KM.out _ G1.out).mono ?_
  rintro _ w2 ⟨rfl, bb⟩
  have G2 := Lib.hid (G1.out.below (bb.alloc bb.size (.cells #[.int .u8 (o2 : Int), .int .u8 (d2 : Int), .int .u8 (a2 : Int), .int .u8 (b2 : Int), .int .i32 n2] 24)) G1.out.size)
  have q2 := bb.size
  have l2 : w.heap.size < w2.heap.size := by omega
  obtain ⟨hc2, hf2⟩ := bcell bb
  have e2 : Below w.heap.size w w2 := e1.trans (bb.mono (by omega))
  clear bb
  have kE := KE.out
  go_wp2_with fail
  refine (works _ G2.out).mono ?_
  rintro _ w3 ⟨rfl, b3⟩
  go_wp2_with fail
  go_ret
  exact ⟨rfl, (e2.alloc (by omega) _).trans (b3.mono (e2.alloc (by omega) _).size)⟩
set_option maxHeartbeats 1000000 in
theorem w6A (o d a b m x k P y : Nat) (n : Int) (w : World) (hg : Glob w) (hm2 : (m : Int) % 32 = (k : Int)) (hml : k < 32) (h2 : (2 : Int) ^ k = (P : Int)) (hpl : P ≤ 2147483648) (hX : bits .xor .u32 (x : Int) (P : Int) = (y : Int))
    (KP : Hid (∀ w : World, Glob w → Calls Tryd.prog 7 #[.agg #[.int .u8 (o : Int), .int .u8 (d : Int), .int .u8 (a : Int), .int .u8 (b : Int), .int .i32 n]] w fun en w' => en = .returned (.tuple #[.int .u32 (x : Int), .int .i64 0]) ∧ Below w.heap.size w w'))
    (KM : Hid (∀ w : World, Glob w → Calls Tryd.prog 9 #[.int .u32 (y : Int)] w fun en w' => en = .returned (.tuple #[.agg #[.int .u8 0, .int .u8 0, .int .u8 0, .int .u8 0, .int .i32 0], .int .i64 5]) ∧ Below w.heap.size w w'))
    : Calls Tryd.prog 6 #[.agg #[.int .u8 (o : Int), .int .u8 (d : Int), .int .u8 (a : Int), .int .u8 (b : Int), .int .i32 n], .int .u8 (m : Int)] w fun en w' => en = .returned (.bool true) ∧ Below w.heap.size w w' := by
  have H := Lib.hid hg
  have hs := hg.size
  clear hg
  go_enter Tryd.func6, Tryd.ntmps6
  go_wp2_with fail
  refine (KP.out _ (H.out.below ((Below.refl _ _).alloc (Nat.le_refl _) _) hs)).mono ?_
  rintro _ w1 ⟨rfl, b1⟩
  have G1 := Lib.hid (H.out.below (((Below.refl _ _).alloc (Nat.le_refl _) _).trans (b1.mono (by simp))) hs)
  have q1 := b1.size
  simp at q1
  have e1 : Below w.heap.size w w1 := ((Below.refl _ _).alloc (Nat.le_refl _) _).trans (b1.mono (by simp))
  have l1 : w.heap.size < w1.heap.size := by omega
  have l0 : w.heap.size < w.heap.size + 1 := by omega
  obtain ⟨hc1, hf1⟩ := bcell b1
  clear b1
  go_wp2_with fail
  refine (KM.out _ G1.out).mono ?_
  rintro _ w2 ⟨rfl, b2⟩
  have G2 := Lib.hid (G1.out.below (b2.alloc b2.size (.cells #[.int .u8 0, .int .u8 0, .int .u8 0, .int .u8 0, .int .i32 0] 24)) G1.out.size)
  have q2 := b2.size
  have l2 : w.heap.size < w2.heap.size := by omega
  obtain ⟨hc2, hf2⟩ := bcell b2
  have e2 : Below w.heap.size w w2 := e1.trans (b2.mono (by omega))
  clear b2
  go_wp2_with fail
  refine (works _ G2.out).mono ?_
  rintro _ w3 ⟨rfl, b3⟩
  go_wp2_with fail
  go_ret
  exact ⟨rfl, (e2.alloc (by omega) _).trans (b3.mono (e2.alloc (by omega) _).size)⟩
theorem w6C (o d a b m : Nat) (n : Int) (w : World) (hg : Glob w)
    (KP : Hid (∀ w : World, Glob w → Calls Tryd.prog 7 #[.agg #[.int .u8 (o : Int), .int .u8 (d : Int), .int .u8 (a : Int), .int .u8 (b : Int), .int .i32 n]] w fun en w' => en = .returned (.tuple #[.int .u32 0, .int .i64 2]) ∧ Below w.heap.size w w'))
    : Calls Tryd.prog 6 #[.agg #[.int .u8 (o : Int), .int .u8 (d : Int), .int .u8 (a : Int), .int .u8 (b : Int), .int .i32 n], .int .u8 (m : Int)] w fun en w' => en = .returned (.bool true) ∧ Below w.heap.size w w' := by
  have H := Lib.hid hg
  have hs := hg.size
  clear hg
  go_enter Tryd.func6, Tryd.ntmps6
  go_wp2_with fail
  refine (KP.out _ (H.out.below ((Below.refl _ _).alloc (Nat.le_refl _) _) hs)).mono ?_
  rintro _ w1 ⟨rfl, b1⟩
  have G1 := Lib.hid (H.out.below (((Below.refl _ _).alloc (Nat.le_refl _) _).trans (b1.mono (by simp))) hs)
  have q1 := b1.size
  simp at q1
  have e1 : Below w.heap.size w w1 := ((Below.refl _ _).alloc (Nat.le_refl _) _).trans (b1.mono (by simp))
  have l1 : w.heap.size < w1.heap.size := by omega
  have l0 : w.heap.size < w.heap.size + 1 := by omega
  obtain ⟨hc1, hf1⟩ := bcell b1
  clear b1
  go_wp2_with fail
  refine (works _ G1.out).mono ?_
  rintro _ w3 ⟨rfl, b3⟩
  go_wp2_with fail
  go_ret
  exact ⟨rfl, e1.trans (b3.mono e1.size)⟩
theorem law6 (o d a b : Nat) (n : Int) (m : Nat) (ho : o < 256) (hd : d < 256) (ha : a < 256) (hb : b < 256) (hn : i32 n) (hm : m < 256) (w : World) (hg : Glob w) :
    Calls Tryd.prog 6 #[.agg #[.int .u8 (o : Int), .int .u8 (d : Int), .int .u8 (a : Int), .int .u8 (b : Int), .int .i32 n], .int .u8 (m : Int)] w fun en w' => en = .returned (.bool true) ∧ Below w.heap.size w w' := by
  have hP := c7 o d a b n ho hd ha hb hn
  have H := Lib.hid hg
  have hs := hg.size
  clear hg
  rcases put_err o d a b n with ⟨x, hx⟩ | hx
  · rw [hx] at hP
    obtain ⟨hxl, hgx⟩ := put_get o d a b n hn x hx
    have hm2 : (m : Int) % 32 = ((m % 32 : Nat) : Int) := rfl
    have hml : m % 32 < 32 := Nat.mod_lt _ (by omega)
    have h2 : (2 : Int) ^ (m % 32) = ((2 ^ (m % 32) : Nat) : Int) := by simp
    have hpl : (2 : Nat) ^ (m % 32) ≤ 2 ^ 31 := Nat.pow_le_pow_right (by omega) (by omega)
    have hp0 : 1 ≤ (2 : Nat) ^ (m % 32) := Nat.one_le_two_pow
    generalize (2 : Nat) ^ (m % 32) = P at *
    generalize m % 32 = k at *
    have hX := u32_xor_nat x P hxl (by omega)
    have hyl : x ^^^ P < 4294967296 := Nat.xor_lt_two_pow (n := 32) hxl (by omega)
    have hne : x ^^^ P ≠ x := by
      intro h
      have h3 : x ^^^ (x ^^^ P) = x ^^^ x := by rw [h]
      rw [← Nat.xor_assoc, Nat.xor_self, Nat.zero_xor] at h3
      omega
    generalize x ^^^ P = y at *
    have hM := c9 y hyl
    have KP := Lib.hid hP
    rcases get_err y with ⟨i2, hi⟩ | hi
    · rw [hi] at hM
      have hp2 : put i2.o i2.d i2.a i2.b i2.m = (y, 0) := get_put y i2 hi
      have hno : ¬(i2.o = o ∧ i2.d = d ∧ i2.a = a ∧ i2.b = b ∧ i2.m = n) := by
        rintro ⟨h1, h2, h3, h4, h5⟩
        rw [h1, h2, h3, h4, h5, hx] at hp2
        exact hne (Prod.mk.inj hp2).1.symm
      have KE := Lib.hid (eqNot i2.o i2.d i2.a i2.b o d a b i2.m n hno)
      have KM := Lib.hid hM
      exact w6B o d a b m x k P y n w H.out hm2 hml h2 hpl hX i2.o i2.d i2.a i2.b i2.m KP KM KE
    · rw [hi] at hM
      have KM := Lib.hid hM
      exact w6A o d a b m x k P y n w H.out hm2 hml h2 hpl hX KP KM
  · rw [hx] at hP
    have KP := Lib.hid hP
    exact w6C o d a b m n w H.out KP
end Go.Proofs.YtliimbidkkpegaaDoor
