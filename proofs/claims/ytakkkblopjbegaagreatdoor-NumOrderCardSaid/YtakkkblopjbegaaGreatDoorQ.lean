import Derived.Test.YtakkkblopjbegaaGreatDoorN
import Derived.Test.YtakkkblopjbegaaGreatDoorJ
namespace Go.Proofs.YtakkkblopjbegaaGreatDoor
open Go.ChangeShapes Go.WideShapes Go.ChangeAt Go.RowKit
set_option linter.unusedVariables false
set_option linter.unusedSimpArgs false
theorem do6 (o x y : Nat) (hx : x < 18446744073709551616) (w : World) : Calls Tryz.prog 6 #[.int .u8 (o : Int), .float .f64 x, .float .f64 y] w fun e w' => ∃ r c : Nat, e = .returned (.tuple #[.float .f64 r, .int .i64 (c : Int)]) ∧ DoP o x y r c ∧ Below w.heap.size w w' := by
  rcases Nat.lt_or_ge 6 o with h | h
  · refine (k6_0 o x y (Or.inr h) w).mono ?_
    rintro e w' ⟨h1, rfl⟩
    exact ⟨0, 2, h1, ⟨fun e => (by omega), fun e => (by omega), fun e => (by omega), fun e => (by omega), fun e => (by omega), fun e => (by omega), fun _ => ⟨rfl, rfl⟩⟩, Below.refl _ _⟩
  · match o, h with
    | 0, _ =>
      refine (k6_0 0 x y (Or.inl rfl) w).mono ?_
      rintro e w' ⟨h1, rfl⟩
      exact ⟨0, 2, h1, ⟨fun e => (by omega), fun e => (by omega), fun e => (by omega), fun e => (by omega), fun e => (by omega), fun e => (by omega), fun _ => ⟨rfl, rfl⟩⟩, Below.refl _ _⟩
    | 1, _ =>
      refine (k6_1 x y w).mono ?_
      rintro e w' ⟨r, h1, h2, h3⟩
      exact ⟨r, 0, h1, ⟨fun _ => ⟨rfl, h2⟩, fun e => (by omega), fun e => (by omega), fun e => (by omega), fun e => (by omega), fun e => (by omega), fun e => (by omega)⟩, h3⟩
    | 2, _ =>
      refine (k6_2 x y w).mono ?_
      rintro e w' ⟨r, h1, h2, h3⟩
      exact ⟨r, 0, h1, ⟨fun e => (by omega), fun _ => ⟨rfl, h2⟩, fun e => (by omega), fun e => (by omega), fun e => (by omega), fun e => (by omega), fun e => (by omega)⟩, h3⟩
    | 3, _ =>
      refine (k6_3 x y w).mono ?_
      rintro e w' ⟨r, h1, h2, h3⟩
      exact ⟨r, 0, h1, ⟨fun e => (by omega), fun e => (by omega), fun _ => ⟨rfl, h2⟩, fun e => (by omega), fun e => (by omega), fun e => (by omega), fun e => (by omega)⟩, h3⟩
    | 4, _ =>
      refine (k6_4 x y w).mono ?_
      rintro e w' ⟨r, h1, h2, h3⟩
      exact ⟨r, 0, h1, ⟨fun e => (by omega), fun e => (by omega), fun e => (by omega), fun _ => ⟨rfl, h2⟩, fun e => (by omega), fun e => (by omega), fun e => (by omega)⟩, h3⟩
    | 5, _ =>
      refine (k6_5 x y hx w).mono ?_
      rintro e w' ⟨h1, rfl⟩
      exact ⟨mm true x y, 0, h1, ⟨fun e => (by omega), fun e => (by omega), fun e => (by omega), fun e => (by omega), fun _ => ⟨rfl, rfl⟩, fun e => (by omega), fun e => (by omega)⟩, Below.refl _ _⟩
    | 6, _ =>
      refine (k6_6 x y hx w).mono ?_
      rintro e w' ⟨h1, rfl⟩
      exact ⟨mm false x y, 0, h1, ⟨fun e => (by omega), fun e => (by omega), fun e => (by omega), fun e => (by omega), fun e => (by omega), fun _ => ⟨rfl, rfl⟩, fun e => (by omega)⟩, Below.refl _ _⟩
    | n + 7, h => omega
theorem do7 (o x y : Nat) (hx : x < 18446744073709551616) (w : World) : Calls Tryz.prog 7 #[.int .u8 (o : Int), .float .f64 x, .float .f64 y] w fun e w' => ∃ r c : Nat, e = .returned (.tuple #[.float .f64 r, .int .i64 (c : Int)]) ∧ DoP o x y r c ∧ Below w.heap.size w w' := by
  rcases Nat.lt_or_ge 6 o with h | h
  · refine (k7_0 o x y (Or.inr h) w).mono ?_
    rintro e w' ⟨h1, rfl⟩
    exact ⟨0, 2, h1, ⟨fun e => (by omega), fun e => (by omega), fun e => (by omega), fun e => (by omega), fun e => (by omega), fun e => (by omega), fun _ => ⟨rfl, rfl⟩⟩, Below.refl _ _⟩
  · match o, h with
    | 0, _ =>
      refine (k7_0 0 x y (Or.inl rfl) w).mono ?_
      rintro e w' ⟨h1, rfl⟩
      exact ⟨0, 2, h1, ⟨fun e => (by omega), fun e => (by omega), fun e => (by omega), fun e => (by omega), fun e => (by omega), fun e => (by omega), fun _ => ⟨rfl, rfl⟩⟩, Below.refl _ _⟩
    | 1, _ =>
      refine (k7_1 x y w).mono ?_
      rintro e w' ⟨r, h1, h2, h3⟩
      exact ⟨r, 0, h1, ⟨fun _ => ⟨rfl, h2⟩, fun e => (by omega), fun e => (by omega), fun e => (by omega), fun e => (by omega), fun e => (by omega), fun e => (by omega)⟩, h3⟩
    | 2, _ =>
      refine (k7_2 x y w).mono ?_
      rintro e w' ⟨r, h1, h2, h3⟩
      exact ⟨r, 0, h1, ⟨fun e => (by omega), fun _ => ⟨rfl, h2⟩, fun e => (by omega), fun e => (by omega), fun e => (by omega), fun e => (by omega), fun e => (by omega)⟩, h3⟩
    | 3, _ =>
      refine (k7_3 x y w).mono ?_
      rintro e w' ⟨r, h1, h2, h3⟩
      exact ⟨r, 0, h1, ⟨fun e => (by omega), fun e => (by omega), fun _ => ⟨rfl, h2⟩, fun e => (by omega), fun e => (by omega), fun e => (by omega), fun e => (by omega)⟩, h3⟩
    | 4, _ =>
      refine (k7_4 x y w).mono ?_
      rintro e w' ⟨r, h1, h2, h3⟩
      exact ⟨r, 0, h1, ⟨fun e => (by omega), fun e => (by omega), fun e => (by omega), fun _ => ⟨rfl, h2⟩, fun e => (by omega), fun e => (by omega), fun e => (by omega)⟩, h3⟩
    | 5, _ =>
      refine (k7_5 x y hx w).mono ?_
      rintro e w' ⟨h1, rfl⟩
      exact ⟨mm true x y, 0, h1, ⟨fun e => (by omega), fun e => (by omega), fun e => (by omega), fun e => (by omega), fun _ => ⟨rfl, rfl⟩, fun e => (by omega), fun e => (by omega)⟩, Below.refl _ _⟩
    | 6, _ =>
      refine (k7_6 x y hx w).mono ?_
      rintro e w' ⟨h1, rfl⟩
      exact ⟨mm false x y, 0, h1, ⟨fun e => (by omega), fun e => (by omega), fun e => (by omega), fun e => (by omega), fun e => (by omega), fun _ => ⟨rfl, rfl⟩, fun e => (by omega)⟩, Below.refl _ _⟩
    | n + 7, h => omega
set_option maxRecDepth 100000 in
/-- NumDoes -/
theorem w3 (o r n m : Nat) (hn : n < 18446744073709551616) (w : World) (hg : Gn w) : Calls Tryz.prog 3 #[.int .u8 (o : Int), .int .u8 (r : Int), .int .u64 (n : Int), .int .u64 (m : Int)] w fun e w' => e = .returned (.bool true) ∧ Below w.heap.size w w' := by
  have HG := Lib.hid hg
  have h5 := x5
  have H6 := Lib.hid (fun W => do6 o n m hn W)
  have H7 := Lib.hid (fun W => do7 o n m hn W)
  have H8 := Lib.hid (fun W => k8 r n m W)
  have H9 := Lib.hid (fun W => k9 r n m W)
  have hs1 : ((n : Int)).toNat = n := Int.toNat_natCast n
  have hs2 : ((m : Int)).toNat = m := Int.toNat_natCast m
  generalize IsV r n m = q at H8 H9
  obtain ⟨q1, q2⟩ := q
  simp only at H8 H9
  clear hg hn
  go_enter Tryz.func3, Tryz.ntmps3
  go_wp2_with fail
  refine (H6.out _).mono ?_
  rintro _ w1 ⟨a, c, rfl, hp, hb⟩
  have HP1 := Lib.hid hp
  have HB1 := Lib.hid hb
  clear hp hb H6
  go_wp2_with fail
  refine (H7.out _).mono ?_
  rintro _ w2 ⟨b, d, rfl, hp, hb⟩
  have HS := Lib.hid (HP1.out.same hp).1
  obtain rfl := (HP1.out.same hp).2
  have HB2 := Lib.hid (HB1.out.trans (hb.mono HB1.out.size))
  clear hp hb H7 HP1
  go_wp2_with fail
  refine (H8.out _).mono ?_
  rintro _ w3 ⟨rfl, e3⟩
  rw [e3]
  clear e3 H8
  go_wp2_with fail
  refine (H9.out _).mono ?_
  rintro _ w3 ⟨rfl, e3⟩
  rw [e3]
  clear e3 H9
  have H10 : Hid (∀ W, Calls Tryz.prog 10 #[.float .f64 a, .float .f64 b] W fun e w' => e = .returned (.bool true) ∧ w' = W) := Lib.hid (fun W => by
    have h := k10 a b W
    rw [HS.out] at h
    exact h)
  have t1 : (q1 == q1) = true := by simp
  go_wp2_with fail
  refine (H10.out _).mono ?_
  rintro _ w3 ⟨rfl, e3⟩
  rw [e3]
  clear e3 H10
  go_wp2_with fail
  refine (n11 w2 (HG.out.below HB2.out)).mono ?_
  rintro _ w4 ⟨rfl, hb⟩
  have HB4 := Lib.hid (HB2.out.trans (hb.mono HB2.out.size))
  clear hb
  go_wp2_with fail
  go_ret
  exact ⟨rfl, HB4.out⟩
end Go.Proofs.YtakkkblopjbegaaGreatDoor
