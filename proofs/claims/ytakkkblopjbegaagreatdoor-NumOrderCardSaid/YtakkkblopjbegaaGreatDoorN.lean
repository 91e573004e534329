import Derived.Test.YtakkkblopjbegaaGreatDoorM
namespace Go.Proofs.YtakkkblopjbegaaGreatDoor
open Go.ChangeShapes Go.WideShapes Go.ChangeAt Go.RowKit
set_option linter.unusedVariables false
set_option linter.unusedSimpArgs false
theorem int_beq (x y : Nat) : ((x : Int) == (y : Int)) = (x == y) := by
  rw [Bool.eq_iff_iff]
  simp
  omega
set_option maxRecDepth 100000 in
theorem k10 (x y : Nat) (w : World) : Calls Tryz.prog 10 #[.float .f64 x, .float .f64 y] w fun e w' => e = .returned (.bool (smB x y)) ∧ w' = w := by
  cases hx : nanB x <;> cases hy : nanB y
  · have es : smB x y = ((x : Int) == (y : Int)) := by unfold smB; rw [hx, hy, int_beq]; rfl
    have ex : (FloatKind.f64.format.order x x != some Ordering.eq) = false := hx
    have ey : (FloatKind.f64.format.order y y != some Ordering.eq) = false := hy
    have h16 := x16
    rw [es]
    clear hx hy es
    go_enter Tryz.func10, Tryz.ntmps10
    go_wp2
    go_ret
    exact ⟨rfl, rfl⟩
  · have es : smB x y = false := by unfold smB; rw [hx, hy]; rfl
    have ex : (FloatKind.f64.format.order x x != some Ordering.eq) = false := hx
    have ey : (FloatKind.f64.format.order y y != some Ordering.eq) = true := hy
    have h16 := x16
    rw [es]
    clear hx hy es
    go_enter Tryz.func10, Tryz.ntmps10
    go_wp2
    go_ret
    exact ⟨rfl, rfl⟩
  · have es : smB x y = false := by unfold smB; rw [hx, hy]; rfl
    have ex : (FloatKind.f64.format.order x x != some Ordering.eq) = true := hx
    have ey : (FloatKind.f64.format.order y y != some Ordering.eq) = false := hy
    have h16 := x16
    rw [es]
    clear hx hy es
    go_enter Tryz.func10, Tryz.ntmps10
    go_wp2
    go_ret
    exact ⟨rfl, rfl⟩
  · have es : smB x y = true := by unfold smB; rw [hx, hy]; rfl
    have ex : (FloatKind.f64.format.order x x != some Ordering.eq) = true := hx
    have ey : (FloatKind.f64.format.order y y != some Ordering.eq) = true := hy
    have h16 := x16
    rw [es]
    clear hx hy es
    go_enter Tryz.func10, Tryz.ntmps10
    go_wp2
    go_ret
    exact ⟨rfl, rfl⟩
set_option maxRecDepth 100000 in
theorem k12 (x y : Nat) (w : World) : Calls Tryz.prog 12 #[.float .f64 x, .float .f64 y] w fun e w' => e = .returned (.bool (smB x y)) ∧ w' = w := by
  cases hx : nanB x <;> cases hy : nanB y
  · have es : smB x y = ((x : Int) == (y : Int)) := by unfold smB; rw [hx, hy, int_beq]; rfl
    have ex : (FloatKind.f64.format.order x x != some Ordering.eq) = false := hx
    have ey : (FloatKind.f64.format.order y y != some Ordering.eq) = false := hy
    have h16 := x16
    rw [es]
    clear hx hy es
    go_enter Tryz.func12, Tryz.ntmps12
    go_wp2
    go_ret
    exact ⟨rfl, rfl⟩
  · have es : smB x y = false := by unfold smB; rw [hx, hy]; rfl
    have ex : (FloatKind.f64.format.order x x != some Ordering.eq) = false := hx
    have ey : (FloatKind.f64.format.order y y != some Ordering.eq) = true := hy
    have h16 := x16
    rw [es]
    clear hx hy es
    go_enter Tryz.func12, Tryz.ntmps12
    go_wp2
    go_ret
    exact ⟨rfl, rfl⟩
  · have es : smB x y = false := by unfold smB; rw [hx, hy]; rfl
    have ex : (FloatKind.f64.format.order x x != some Ordering.eq) = true := hx
    have ey : (FloatKind.f64.format.order y y != some Ordering.eq) = false := hy
    have h16 := x16
    rw [es]
    clear hx hy es
    go_enter Tryz.func12, Tryz.ntmps12
    go_wp2
    go_ret
    exact ⟨rfl, rfl⟩
  · have es : smB x y = true := by unfold smB; rw [hx, hy]; rfl
    have ex : (FloatKind.f64.format.order x x != some Ordering.eq) = true := hx
    have ey : (FloatKind.f64.format.order y y != some Ordering.eq) = true := hy
    have h16 := x16
    rw [es]
    clear hx hy es
    go_enter Tryz.func12, Tryz.ntmps12
    go_wp2
    go_ret
    exact ⟨rfl, rfl⟩
set_option maxRecDepth 100000 in
theorem k6_1 (x y : Nat) (w : World) : Calls Tryz.prog 6 #[.int .u8 1, .float .f64 x, .float .f64 y] w fun e w' => ∃ r, e = .returned (.tuple #[.float .f64 r, .int .i64 0]) ∧ ArP (FloatKind.f64.format.add x y) r ∧ Below w.heap.size w w' := by
  obtain ⟨r, w1, hr, har, hb⟩ := run_add 25 x y w
  have HAR := Lib.hid har
  have HB := Lib.hid hb
  clear har hb
  go_enter Tryz.func6, Tryz.ntmps6
  go_wp2
  go_ret2
  exact ⟨r, rfl, HAR.out, HB.out⟩
set_option maxRecDepth 100000 in
theorem k6_2 (x y : Nat) (w : World) : Calls Tryz.prog 6 #[.int .u8 2, .float .f64 x, .float .f64 y] w fun e w' => ∃ r, e = .returned (.tuple #[.float .f64 r, .int .i64 0]) ∧ ArP (FloatKind.f64.format.sub x y) r ∧ Below w.heap.size w w' := by
  obtain ⟨r, w1, hr, har, hb⟩ := run_sub 25 x y w
  have HAR := Lib.hid har
  have HB := Lib.hid hb
  clear har hb
  go_enter Tryz.func6, Tryz.ntmps6
  go_wp2
  go_ret2
  exact ⟨r, rfl, HAR.out, HB.out⟩
set_option maxRecDepth 100000 in
theorem k6_3 (x y : Nat) (w : World) : Calls Tryz.prog 6 #[.int .u8 3, .float .f64 x, .float .f64 y] w fun e w' => ∃ r, e = .returned (.tuple #[.float .f64 r, .int .i64 0]) ∧ ArP (FloatKind.f64.format.mul x y) r ∧ Below w.heap.size w w' := by
  obtain ⟨r, w1, hr, har, hb⟩ := run_mul 25 x y w
  have HAR := Lib.hid har
  have HB := Lib.hid hb
  clear har hb
  go_enter Tryz.func6, Tryz.ntmps6
  go_wp2
  go_ret2
  exact ⟨r, rfl, HAR.out, HB.out⟩
set_option maxRecDepth 100000 in
theorem k6_4 (x y : Nat) (w : World) : Calls Tryz.prog 6 #[.int .u8 4, .float .f64 x, .float .f64 y] w fun e w' => ∃ r, e = .returned (.tuple #[.float .f64 r, .int .i64 0]) ∧ ArP (FloatKind.f64.format.div x y) r ∧ Below w.heap.size w w' := by
  obtain ⟨r, w1, hr, har, hb⟩ := run_quo 25 x y w
  have HAR := Lib.hid har
  have HB := Lib.hid hb
  clear har hb
  go_enter Tryz.func6, Tryz.ntmps6
  go_wp2
  go_ret2
  exact ⟨r, rfl, HAR.out, HB.out⟩
set_option maxRecDepth 100000 in
theorem k6_0 (o x y : Nat) (ho : o = 0 ∨ 6 < o) (w : World) : Calls Tryz.prog 6 #[.int .u8 (o : Int), .float .f64 x, .float .f64 y] w fun e w' => e = .returned (.tuple #[.float .f64 0, .int .i64 2]) ∧ w' = w := by
  have t1 : ((o : Int) == 1) = false := by simp; omega
  have t2 : ((o : Int) == 2) = false := by simp; omega
  have t3 : ((o : Int) == 3) = false := by simp; omega
  have t4 : ((o : Int) == 4) = false := by simp; omega
  have t5 : ((o : Int) == 5) = false := by simp; omega
  have t6 : ((o : Int) == 6) = false := by simp; omega
  clear ho
  go_enter Tryz.func6, Tryz.ntmps6
  go_wp2
  go_ret2
  exact ⟨rfl, rfl⟩
set_option maxRecDepth 100000 in
theorem k7_1 (x y : Nat) (w : World) : Calls Tryz.prog 7 #[.int .u8 1, .float .f64 x, .float .f64 y] w fun e w' => ∃ r, e = .returned (.tuple #[.float .f64 r, .int .i64 0]) ∧ ArP (FloatKind.f64.format.add x y) r ∧ Below w.heap.size w w' := by
  obtain ⟨r, w1, hr, har, hb⟩ := run_add 25 x y w
  have HAR := Lib.hid har
  have HB := Lib.hid hb
  clear har hb
  go_enter Tryz.func7, Tryz.ntmps7
  go_wp2
  go_ret2
  exact ⟨r, rfl, HAR.out, HB.out⟩
set_option maxRecDepth 100000 in
theorem k7_2 (x y : Nat) (w : World) : Calls Tryz.prog 7 #[.int .u8 2, .float .f64 x, .float .f64 y] w fun e w' => ∃ r, e = .returned (.tuple #[.float .f64 r, .int .i64 0]) ∧ ArP (FloatKind.f64.format.sub x y) r ∧ Below w.heap.size w w' := by
  obtain ⟨r, w1, hr, har, hb⟩ := run_sub 25 x y w
  have HAR := Lib.hid har
  have HB := Lib.hid hb
  clear har hb
  go_enter Tryz.func7, Tryz.ntmps7
  go_wp2
  go_ret2
  exact ⟨r, rfl, HAR.out, HB.out⟩
set_option maxRecDepth 100000 in
theorem k7_3 (x y : Nat) (w : World) : Calls Tryz.prog 7 #[.int .u8 3, .float .f64 x, .float .f64 y] w fun e w' => ∃ r, e = .returned (.tuple #[.float .f64 r, .int .i64 0]) ∧ ArP (FloatKind.f64.format.mul x y) r ∧ Below w.heap.size w w' := by
  obtain ⟨r, w1, hr, har, hb⟩ := run_mul 25 x y w
  have HAR := Lib.hid har
  have HB := Lib.hid hb
  clear har hb
  go_enter Tryz.func7, Tryz.ntmps7
  go_wp2
  go_ret2
  exact ⟨r, rfl, HAR.out, HB.out⟩
set_option maxRecDepth 100000 in
theorem k7_4 (x y : Nat) (w : World) : Calls Tryz.prog 7 #[.int .u8 4, .float .f64 x, .float .f64 y] w fun e w' => ∃ r, e = .returned (.tuple #[.float .f64 r, .int .i64 0]) ∧ ArP (FloatKind.f64.format.div x y) r ∧ Below w.heap.size w w' := by
  obtain ⟨r, w1, hr, har, hb⟩ := run_quo 25 x y w
  have HAR := Lib.hid har
  have HB := Lib.hid hb
  clear har hb
  go_enter Tryz.func7, Tryz.ntmps7
  go_wp2
  go_ret2
  exact ⟨r, rfl, HAR.out, HB.out⟩
set_option maxRecDepth 100000 in
theorem k7_0 (o x y : Nat) (ho : o = 0 ∨ 6 < o) (w : World) : Calls Tryz.prog 7 #[.int .u8 (o : Int), .float .f64 x, .float .f64 y] w fun e w' => e = .returned (.tuple #[.float .f64 0, .int .i64 2]) ∧ w' = w := by
  have t1 : ((o : Int) == 1) = false := by simp; omega
  have t2 : ((o : Int) == 2) = false := by simp; omega
  have t3 : ((o : Int) == 3) = false := by simp; omega
  have t4 : ((o : Int) == 4) = false := by simp; omega
  have t5 : ((o : Int) == 5) = false := by simp; omega
  have t6 : ((o : Int) == 6) = false := by simp; omega
  clear ho
  go_enter Tryz.func7, Tryz.ntmps7
  go_wp2
  go_ret2
  exact ⟨rfl, rfl⟩
theorem sgn_eq (x : Nat) (hx : x < 18446744073709551616) : decide (wrap64 (x : Int) < 0) = decide (9223372036854775808 ≤ x) := by
  unfold wrap64
  rw [decide_eq_decide]
  omega
theorem top_eq (x : Nat) (hx : x < 18446744073709551616) : ((x : Int) / 9223372036854775808 == 1) = decide (9223372036854775808 ≤ x) := by
  rw [Bool.eq_iff_iff, decide_eq_true_iff, beq_iff_eq]
  omega
set_option maxRecDepth 100000 in
theorem k6_5 (x y : Nat) (hx : x < 18446744073709551616) (w : World) : Calls Tryz.prog 6 #[.int .u8 5, .float .f64 x, .float .f64 y] w fun e w' => e = .returned (.tuple #[.float .f64 (mm true x y), .int .i64 0]) ∧ w' = w := by
  have h16 := x16
  have h5 := x5
  have esg := sgn_eq x hx
  have est := top_eq x hx
  cases hnx : nanB x
  · cases hny : nanB y
    · have ex : (FloatKind.f64.format.order x x != some Ordering.eq) = false := hnx
      have ey : (FloatKind.f64.format.order y y != some Ordering.eq) = false := hny
      cases h1 : (ord x y == some Ordering.lt)
      · have e1 : (FloatKind.f64.format.order x y == some Ordering.lt) = false := h1
        cases h2 : (ord x y == some Ordering.eq)
        · have e2 : (FloatKind.f64.format.order x y == some Ordering.eq) = false := h2
          have em : mm true x y = y := by unfold mm bel; rw [hnx, hny, h1, h2]; rfl
          rw [em]
          clear hnx hny h1 h2 em hx
          go_enter Tryz.func6, Tryz.ntmps6
          go_wp2
          go_ret2
          exact ⟨rfl, rfl⟩
        · have e2 : (FloatKind.f64.format.order x y == some Ordering.eq) = true := h2
          by_cases hs : 9223372036854775808 ≤ x
          · have es : decide (9223372036854775808 ≤ x) = true := by simp; exact hs
            have em : mm true x y = x := by unfold mm bel; rw [hnx, hny, h1, h2, es]; rfl
            rw [es] at esg est
            rw [em]
            clear hnx hny h1 h2 em hx hs es
            go_enter Tryz.func6, Tryz.ntmps6
            go_wp2
            go_ret2
            exact ⟨rfl, rfl⟩
          · have es : decide (9223372036854775808 ≤ x) = false := by simp; omega
            have em : mm true x y = y := by unfold mm bel; rw [hnx, hny, h1, h2, es]; rfl
            rw [es] at esg est
            rw [em]
            clear hnx hny h1 h2 em hx hs es
            go_enter Tryz.func6, Tryz.ntmps6
            go_wp2
            go_ret2
            exact ⟨rfl, rfl⟩
      · have e1 : (FloatKind.f64.format.order x y == some Ordering.lt) = true := h1
        have em : mm true x y = x := by unfold mm bel; rw [hnx, hny, h1]; rfl
        rw [em]
        clear hnx hny h1 em hx
        go_enter Tryz.func6, Tryz.ntmps6
        go_wp2
        go_ret2
        exact ⟨rfl, rfl⟩
    · have ex : (FloatKind.f64.format.order x x != some Ordering.eq) = false := hnx
      have ey : (FloatKind.f64.format.order y y != some Ordering.eq) = true := hny
      have em : mm true x y = 9221120237041090561 := by unfold mm; rw [hnx, hny]; rfl
      rw [em]
      clear hnx hny em hx
      go_enter Tryz.func6, Tryz.ntmps6
      go_wp2
      go_ret2
      exact ⟨rfl, rfl⟩
  · have ex : (FloatKind.f64.format.order x x != some Ordering.eq) = true := hnx
    have em : mm true x y = 9221120237041090561 := by unfold mm; rw [hnx]; rfl
    rw [em]
    clear hnx em hx
    go_enter Tryz.func6, Tryz.ntmps6
    go_wp2
    go_ret2
    exact ⟨rfl, rfl⟩
set_option maxRecDepth 100000 in
theorem k6_6 (x y : Nat) (hx : x < 18446744073709551616) (w : World) : Calls Tryz.prog 6 #[.int .u8 6, .float .f64 x, .float .f64 y] w fun e w' => e = .returned (.tuple #[.float .f64 (mm false x y), .int .i64 0]) ∧ w' = w := by
  have h16 := x16
  have h5 := x5
  have esg := sgn_eq x hx
  have est := top_eq x hx
  cases hnx : nanB x
  · cases hny : nanB y
    · have ex : (FloatKind.f64.format.order x x != some Ordering.eq) = false := hnx
      have ey : (FloatKind.f64.format.order y y != some Ordering.eq) = false := hny
      cases h1 : (ord x y == some Ordering.lt)
      · have e1 : (FloatKind.f64.format.order x y == some Ordering.lt) = false := h1
        cases h2 : (ord x y == some Ordering.eq)
        · have e2 : (FloatKind.f64.format.order x y == some Ordering.eq) = false := h2
          have em : mm false x y = x := by unfold mm bel; rw [hnx, hny, h1, h2]; rfl
          rw [em]
          clear hnx hny h1 h2 em hx
          go_enter Tryz.func6, Tryz.ntmps6
          go_wp2
          go_ret2
          exact ⟨rfl, rfl⟩
        · have e2 : (FloatKind.f64.format.order x y == some Ordering.eq) = true := h2
          by_cases hs : 9223372036854775808 ≤ x
          · have es : decide (9223372036854775808 ≤ x) = true := by simp; exact hs
            have em : mm false x y = y := by unfold mm bel; rw [hnx, hny, h1, h2, es]; rfl
            rw [es] at esg est
            rw [em]
            clear hnx hny h1 h2 em hx hs es
            go_enter Tryz.func6, Tryz.ntmps6
            go_wp2
            go_ret2
            exact ⟨rfl, rfl⟩
          · have es : decide (9223372036854775808 ≤ x) = false := by simp; omega
            have em : mm false x y = x := by unfold mm bel; rw [hnx, hny, h1, h2, es]; rfl
            rw [es] at esg est
            rw [em]
            clear hnx hny h1 h2 em hx hs es
            go_enter Tryz.func6, Tryz.ntmps6
            go_wp2
            go_ret2
            exact ⟨rfl, rfl⟩
      · have e1 : (FloatKind.f64.format.order x y == some Ordering.lt) = true := h1
        have em : mm false x y = y := by unfold mm bel; rw [hnx, hny, h1]; rfl
        rw [em]
        clear hnx hny h1 em hx
        go_enter Tryz.func6, Tryz.ntmps6
        go_wp2
        go_ret2
        exact ⟨rfl, rfl⟩
    · have ex : (FloatKind.f64.format.order x x != some Ordering.eq) = false := hnx
      have ey : (FloatKind.f64.format.order y y != some Ordering.eq) = true := hny
      have em : mm false x y = 9221120237041090561 := by unfold mm; rw [hnx, hny]; rfl
      rw [em]
      clear hnx hny em hx
      go_enter Tryz.func6, Tryz.ntmps6
      go_wp2
      go_ret2
      exact ⟨rfl, rfl⟩
  · have ex : (FloatKind.f64.format.order x x != some Ordering.eq) = true := hnx
    have em : mm false x y = 9221120237041090561 := by unfold mm; rw [hnx]; rfl
    rw [em]
    clear hnx em hx
    go_enter Tryz.func6, Tryz.ntmps6
    go_wp2
    go_ret2
    exact ⟨rfl, rfl⟩
set_option maxRecDepth 100000 in
theorem k7_5 (x y : Nat) (hx : x < 18446744073709551616) (w : World) : Calls Tryz.prog 7 #[.int .u8 5, .float .f64 x, .float .f64 y] w fun e w' => e = .returned (.tuple #[.float .f64 (mm true x y), .int .i64 0]) ∧ w' = w := by
  have h16 := x16
  have h5 := x5
  have esg := sgn_eq x hx
  have est := top_eq x hx
  cases hnx : nanB x
  · cases hny : nanB y
    · have ex : (FloatKind.f64.format.order x x != some Ordering.eq) = false := hnx
      have ey : (FloatKind.f64.format.order y y != some Ordering.eq) = false := hny
      cases h1 : (ord x y == some Ordering.lt)
      · have e1 : (FloatKind.f64.format.order x y == some Ordering.lt) = false := h1
        cases h2 : (ord x y == some Ordering.eq)
        · have e2 : (FloatKind.f64.format.order x y == some Ordering.eq) = false := h2
          have em : mm true x y = y := by unfold mm bel; rw [hnx, hny, h1, h2]; rfl
          rw [em]
          clear hnx hny h1 h2 em hx
          go_enter Tryz.func7, Tryz.ntmps7
          go_wp2
          go_ret2
          exact ⟨rfl, rfl⟩
        · have e2 : (FloatKind.f64.format.order x y == some Ordering.eq) = true := h2
          by_cases hs : 9223372036854775808 ≤ x
          · have es : decide (9223372036854775808 ≤ x) = true := by simp; exact hs
            have em : mm true x y = x := by unfold mm bel; rw [hnx, hny, h1, h2, es]; rfl
            rw [es] at esg est
            rw [em]
            clear hnx hny h1 h2 em hx hs es
            go_enter Tryz.func7, Tryz.ntmps7
            go_wp2
            go_ret2
            exact ⟨rfl, rfl⟩
          · have es : decide (9223372036854775808 ≤ x) = false := by simp; omega
            have em : mm true x y = y := by unfold mm bel; rw [hnx, hny, h1, h2, es]; rfl
            rw [es] at esg est
            rw [em]
            clear hnx hny h1 h2 em hx hs es
            go_enter Tryz.func7, Tryz.ntmps7
            go_wp2
            go_ret2
            exact ⟨rfl, rfl⟩
      · have e1 : (FloatKind.f64.format.order x y == some Ordering.lt) = true := h1
        have em : mm true x y = x := by unfold mm bel; rw [hnx, hny, h1]; rfl
        rw [em]
        clear hnx hny h1 em hx
        go_enter Tryz.func7, Tryz.ntmps7
        go_wp2
        go_ret2
        exact ⟨rfl, rfl⟩
    · have ex : (FloatKind.f64.format.order x x != some Ordering.eq) = false := hnx
      have ey : (FloatKind.f64.format.order y y != some Ordering.eq) = true := hny
      have em : mm true x y = 9221120237041090561 := by unfold mm; rw [hnx, hny]; rfl
      rw [em]
      clear hnx hny em hx
      go_enter Tryz.func7, Tryz.ntmps7
      go_wp2
      go_ret2
      exact ⟨rfl, rfl⟩
  · have ex : (FloatKind.f64.format.order x x != some Ordering.eq) = true := hnx
    have em : mm true x y = 9221120237041090561 := by unfold mm; rw [hnx]; rfl
    rw [em]
    clear hnx em hx
    go_enter Tryz.func7, Tryz.ntmps7
    go_wp2
    go_ret2
    exact ⟨rfl, rfl⟩
set_option maxRecDepth 100000 in
theorem k7_6 (x y : Nat) (hx : x < 18446744073709551616) (w : World) : Calls Tryz.prog 7 #[.int .u8 6, .float .f64 x, .float .f64 y] w fun e w' => e = .returned (.tuple #[.float .f64 (mm false x y), .int .i64 0]) ∧ w' = w := by
  have h16 := x16
  have h5 := x5
  have esg := sgn_eq x hx
  have est := top_eq x hx
  cases hnx : nanB x
  · cases hny : nanB y
    · have ex : (FloatKind.f64.format.order x x != some Ordering.eq) = false := hnx
      have ey : (FloatKind.f64.format.order y y != some Ordering.eq) = false := hny
      cases h1 : (ord x y == some Ordering.lt)
      · have e1 : (FloatKind.f64.format.order x y == some Ordering.lt) = false := h1
        cases h2 : (ord x y == some Ordering.eq)
        · have e2 : (FloatKind.f64.format.order x y == some Ordering.eq) = false := h2
          have em : mm false x y = x := by unfold mm bel; rw [hnx, hny, h1, h2]; rfl
          rw [em]
          clear hnx hny h1 h2 em hx
          go_enter Tryz.func7, Tryz.ntmps7
          go_wp2
          go_ret2
          exact ⟨rfl, rfl⟩
        · have e2 : (FloatKind.f64.format.order x y == some Ordering.eq) = true := h2
          by_cases hs : 9223372036854775808 ≤ x
          · have es : decide (9223372036854775808 ≤ x) = true := by simp; exact hs
            have em : mm false x y = y := by unfold mm bel; rw [hnx, hny, h1, h2, es]; rfl
            rw [es] at esg est
            rw [em]
            clear hnx hny h1 h2 em hx hs es
            go_enter Tryz.func7, Tryz.ntmps7
            go_wp2
            go_ret2
            exact ⟨rfl, rfl⟩
          · have es : decide (9223372036854775808 ≤ x) = false := by simp; omega
            have em : mm false x y = x := by unfold mm bel; rw [hnx, hny, h1, h2, es]; rfl
            rw [es] at esg est
            rw [em]
            clear hnx hny h1 h2 em hx hs es
            go_enter Tryz.func7, Tryz.ntmps7
            go_wp2
            go_ret2
            exact ⟨rfl, rfl⟩
      · have e1 : (FloatKind.f64.format.order x y == some Ordering.lt) = true := h1
        have em : mm false x y = y := by unfold mm bel; rw [hnx, hny, h1]; rfl
        rw [em]
        clear hnx hny h1 em hx
        go_enter Tryz.func7, Tryz.ntmps7
        go_wp2
        go_ret2
        exact ⟨rfl, rfl⟩
    · have ex : (FloatKind.f64.format.order x x != some Ordering.eq) = false := hnx
      have ey : (FloatKind.f64.format.order y y != some Ordering.eq) = true := hny
      have em : mm false x y = 9221120237041090561 := by unfold mm; rw [hnx, hny]; rfl
      rw [em]
      clear hnx hny em hx
      go_enter Tryz.func7, Tryz.ntmps7
      go_wp2
      go_ret2
      exact ⟨rfl, rfl⟩
  · have ex : (FloatKind.f64.format.order x x != some Ordering.eq) = true := hnx
    have em : mm false x y = 9221120237041090561 := by unfold mm; rw [hnx]; rfl
    rw [em]
    clear hnx em hx
    go_enter Tryz.func7, Tryz.ntmps7
    go_wp2
    go_ret2
    exact ⟨rfl, rfl⟩
def IsV (o x y : Nat) : Bool × Nat := if o = 1 then (ord x y == some Ordering.lt, 0) else if o = 2 then ((ord x y == some Ordering.lt) || (ord x y == some Ordering.eq), 0) else if o = 3 then (ord x y == some Ordering.eq, 0) else (false, 2)
set_option maxRecDepth 100000 in
theorem k8 (o x y : Nat) (w : World) : Calls Tryz.prog 8 #[.int .u8 (o : Int), .float .f64 x, .float .f64 y] w fun e w' => e = .returned (.tuple #[.bool (IsV o x y).1, .int .i64 ((IsV o x y).2 : Int)]) ∧ w' = w := by
  by_cases o1 : o = 1
  · subst o1
    have ei : IsV 1 x y = (FloatKind.f64.format.order x y == some Ordering.lt, 0) := rfl
    rw [ei]
    go_enter Tryz.func8, Tryz.ntmps8
    go_wp2
    go_ret2
    exact ⟨rfl, rfl⟩
  · by_cases o2 : o = 2
    · subst o2
      have ei : IsV 2 x y = ((FloatKind.f64.format.order x y == some Ordering.lt) || (FloatKind.f64.format.order x y == some Ordering.eq), 0) := rfl
      rw [ei]
      clear o1
      cases e1 : (FloatKind.f64.format.order x y == some Ordering.lt)
      all_goals
        go_enter Tryz.func8, Tryz.ntmps8
        go_wp2
        go_ret2
        exact ⟨by first | rfl | (simp), rfl⟩
    · by_cases o3 : o = 3
      · subst o3
        have ei : IsV 3 x y = (FloatKind.f64.format.order x y == some Ordering.eq, 0) := rfl
        rw [ei]
        clear o1 o2
        go_enter Tryz.func8, Tryz.ntmps8
        go_wp2
        go_ret2
        exact ⟨rfl, rfl⟩
      · have ei : IsV o x y = (false, 2) := by unfold IsV; rw [if_neg o1, if_neg o2, if_neg o3]
        rw [ei]
        have t1 : ((o : Int) == 1) = false := by simp; omega
        have t2 : ((o : Int) == 2) = false := by simp; omega
        have t3 : ((o : Int) == 3) = false := by simp; omega
        clear o1 o2 o3 ei
        go_enter Tryz.func8, Tryz.ntmps8
        go_wp2
        go_ret2
        exact ⟨rfl, rfl⟩
set_option maxRecDepth 100000 in
theorem k9 (o x y : Nat) (w : World) : Calls Tryz.prog 9 #[.int .u8 (o : Int), .float .f64 x, .float .f64 y] w fun e w' => e = .returned (.tuple #[.bool (IsV o x y).1, .int .i64 ((IsV o x y).2 : Int)]) ∧ w' = w := by
  by_cases o1 : o = 1
  · subst o1
    have ei : IsV 1 x y = (FloatKind.f64.format.order x y == some Ordering.lt, 0) := rfl
    rw [ei]
    go_enter Tryz.func9, Tryz.ntmps9
    go_wp2
    go_ret2
    exact ⟨rfl, rfl⟩
  · by_cases o2 : o = 2
    · subst o2
      have ei : IsV 2 x y = ((FloatKind.f64.format.order x y == some Ordering.lt) || (FloatKind.f64.format.order x y == some Ordering.eq), 0) := rfl
      rw [ei]
      clear o1
      cases e1 : (FloatKind.f64.format.order x y == some Ordering.lt)
      all_goals
        go_enter Tryz.func9, Tryz.ntmps9
        go_wp2
        go_ret2
        exact ⟨by first | rfl | (simp), rfl⟩
    · by_cases o3 : o = 3
      · subst o3
        have ei : IsV 3 x y = (FloatKind.f64.format.order x y == some Ordering.eq, 0) := rfl
        rw [ei]
        clear o1 o2
        go_enter Tryz.func9, Tryz.ntmps9
        go_wp2
        go_ret2
        exact ⟨rfl, rfl⟩
      · have ei : IsV o x y = (false, 2) := by unfold IsV; rw [if_neg o1, if_neg o2, if_neg o3]
        rw [ei]
        have t1 : ((o : Int) == 1) = false := by simp; omega
        have t2 : ((o : Int) == 2) = false := by simp; omega
        have t3 : ((o : Int) == 3) = false := by simp; omega
        clear o1 o2 o3 ei
        go_enter Tryz.func9, Tryz.ntmps9
        go_wp2
        go_ret2
        exact ⟨rfl, rfl⟩
end Go.Proofs.YtakkkblopjbegaaGreatDoor
