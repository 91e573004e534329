import Derived.Test.YtkiojljopigldaaE
import Derived.Test.YtkiojljopigldaaD
namespace Go.Proofs.Ytkiojljopigldaa
open Go.ChangeShapes Go.WideShapes Go.ChangeAt Go.RowKit
set_option linter.unusedVariables false
theorem w32b' (x : Int) : -2147483648 ≤ wrap32 x ∧ wrap32 x ≤ 2147483647 := by unfold wrap32; omega
theorem ck_even (d : Nat) (e : Int) : (if -e ≤ wrap32 (d : Int) ∧ wrap32 (d : Int) < e ∧ (wrap32 (d : Int)).tmod 2 = 0 then (.tuple #[.int .i32 (wrap32 (d : Int)), .int .i64 0] : Value) else .tuple #[.int .i32 0, .int .i64 3]) = ckV (fe d e 2) d := by
  have h : (-e ≤ wrap32 (d : Int) ∧ wrap32 (d : Int) < e ∧ (wrap32 (d : Int)).tmod 2 = 0) ↔ fe d e 2 = true := by unfold fe; simp
  unfold ckV
  by_cases g : fe d e 2 = true
  · rw [if_pos (h.2 g), if_pos g]
  · rw [if_neg (fun k => g (h.1 k)), if_neg g]
theorem ck_any (d : Nat) (e : Int) : (if -e ≤ wrap32 (d : Int) ∧ wrap32 (d : Int) < e then (.tuple #[.int .i32 (wrap32 (d : Int)), .int .i64 0] : Value) else .tuple #[.int .i32 0, .int .i64 3]) = ckV (fe d e 1) d := by
  have h : (-e ≤ wrap32 (d : Int) ∧ wrap32 (d : Int) < e) ↔ fe d e 1 = true := by unfold fe; simp
  unfold ckV
  by_cases g : fe d e 1 = true
  · rw [if_pos (h.2 g), if_pos g]
  · rw [if_neg (fun k => g (h.1 k)), if_neg g]
theorem w32sub (x y : Int) : wrap32 (wrap32 x - wrap32 y) = wrap32 (x - y) := by unfold wrap32; omega
theorem rval0 (s a p g : Nat) (hs : s < 4294967296) (ha : a < 4294967296) (hp : p < 4294967296) (hg : g < 4294967296) (w : World) : Calls Try.prog 6 #[.int .u8 0, .int .u32 (s : Int), .int .u32 (a : Int), .int .u32 (p : Int), .int .u32 (g : Int)] w fun en w' => en = .returned (.tuple #[.int .i32 0, .int .i64 0]) ∧ w = w' := by
  go_enter Try.func6, Try.ntmps6
  go_wp2
  go_ret2
  exact ⟨ret2 rfl rfl, rfl⟩
theorem rval51 (s a p g : Nat) (hs : s < 4294967296) (ha : a < 4294967296) (hp : p < 4294967296) (hg : g < 4294967296) (w : World) : Calls Try.prog 6 #[.int .u8 51, .int .u32 (s : Int), .int .u32 (a : Int), .int .u32 (p : Int), .int .u32 (g : Int)] w fun en w' => en = .returned (.tuple #[.int .i32 0, .int .i64 0]) ∧ w = w' := by
  go_enter Try.func6, Try.ntmps6
  go_wp2
  go_ret2
  exact ⟨ret2 rfl rfl, rfl⟩
theorem rval1 (s a p g : Nat) (hs : s < 4294967296) (ha : a < 4294967296) (hp : p < 4294967296) (hg : g < 4294967296) (w : World) : Calls Try.prog 6 #[.int .u8 1, .int .u32 (s : Int), .int .u32 (a : Int), .int .u32 (p : Int), .int .u32 (g : Int)] w fun en w' => en = .returned (.tuple #[.int .i32 (wrap32 ((((s + a) % 4294967296) : Nat) : Int)), .int .i64 0]) ∧ w = w' := by
  have r1 : ((s : Int) + (a : Int)) % 4294967296 = ((((s + a) % 4294967296) : Nat) : Int) := by omega
  have l1 : ((s + a) % 4294967296) < 4294967296 := by omega
  generalize ((s + a) % 4294967296) = n at *
  go_enter Try.func6, Try.ntmps6
  go_wp2
  go_ret2
  exact ⟨ret2 rfl rfl, rfl⟩
theorem rval16 (s a p g : Nat) (hs : s < 4294967296) (ha : a < 4294967296) (hp : p < 4294967296) (hg : g < 4294967296) (w : World) : Calls Try.prog 6 #[.int .u8 16, .int .u32 (s : Int), .int .u32 (a : Int), .int .u32 (p : Int), .int .u32 (g : Int)] w fun en w' => en = .returned (ckV (fe (((((s + a) % 4294967296)) + 4294967296 - p) % 4294967296) 4096 2) (((((s + a) % 4294967296)) + 4294967296 - p) % 4294967296)) ∧ w = w' := by
  have r1 : ((s : Int) + (a : Int)) % 4294967296 = ((((s + a) % 4294967296) : Nat) : Int) := by omega
  have l1 : ((s + a) % 4294967296) < 4294967296 := by omega
  have r2 : (((((s + a) % 4294967296) : Nat) : Int) - (p : Int)) % 4294967296 = ((((((s + a) % 4294967296)) + 4294967296 - p) % 4294967296 : Nat) : Int) := by omega
  have l2 : ((((s + a) % 4294967296)) + 4294967296 - p) % 4294967296 < 4294967296 := by omega
  generalize ((((s + a) % 4294967296)) + 4294967296 - p) % 4294967296 = d at *
  generalize ((s + a) % 4294967296) = n at *
  obtain ⟨b1, b2⟩ := w32b' (d : Int)
  have K := within13 (wrap32 (d : Int)) b1 b2
  rw [ck_even] at K
  generalize hck : ckV (fe d 4096 2) d = v at *
  obtain ⟨x, y, hv⟩ : ∃ x y, v = .tuple #[.int .i32 x, .int .i64 y] := by rw [← hck]; unfold ckV; split <;> exact ⟨_, _, rfl⟩
  clear hck b1 b2
  subst hv
  have K := Lib.hid K
  go_enter Try.func6, Try.ntmps6
  go_wp2_with fail
  refine (K.out _).mono ?_
  rintro _ _ ⟨rfl, rfl⟩
  go_wp2_with fail
  go_ret2
  exact ⟨ret2 rfl rfl, rfl⟩
theorem rval17 (s a p g : Nat) (hs : s < 4294967296) (ha : a < 4294967296) (hp : p < 4294967296) (hg : g < 4294967296) (w : World) : Calls Try.prog 6 #[.int .u8 17, .int .u32 (s : Int), .int .u32 (a : Int), .int .u32 (p : Int), .int .u32 (g : Int)] w fun en w' => en = .returned (ckV (fe (((((s + a) % 4294967296)) + 4294967296 - p) % 4294967296) 1048576 2) (((((s + a) % 4294967296)) + 4294967296 - p) % 4294967296)) ∧ w = w' := by
  have r1 : ((s : Int) + (a : Int)) % 4294967296 = ((((s + a) % 4294967296) : Nat) : Int) := by omega
  have l1 : ((s + a) % 4294967296) < 4294967296 := by omega
  have r2 : (((((s + a) % 4294967296) : Nat) : Int) - (p : Int)) % 4294967296 = ((((((s + a) % 4294967296)) + 4294967296 - p) % 4294967296 : Nat) : Int) := by omega
  have l2 : ((((s + a) % 4294967296)) + 4294967296 - p) % 4294967296 < 4294967296 := by omega
  generalize ((((s + a) % 4294967296)) + 4294967296 - p) % 4294967296 = d at *
  generalize ((s + a) % 4294967296) = n at *
  obtain ⟨b1, b2⟩ := w32b' (d : Int)
  have K := within21 (wrap32 (d : Int)) b1 b2
  rw [ck_even] at K
  generalize hck : ckV (fe d 1048576 2) d = v at *
  obtain ⟨x, y, hv⟩ : ∃ x y, v = .tuple #[.int .i32 x, .int .i64 y] := by rw [← hck]; unfold ckV; split <;> exact ⟨_, _, rfl⟩
  clear hck b1 b2
  subst hv
  have K := Lib.hid K
  go_enter Try.func6, Try.ntmps6
  go_wp2_with fail
  refine (K.out _).mono ?_
  rintro _ _ ⟨rfl, rfl⟩
  go_wp2_with fail
  go_ret2
  exact ⟨ret2 rfl rfl, rfl⟩
theorem rval193 (s a p g : Nat) (hs : s < 4294967296) (ha : a < 4294967296) (hp : p < 4294967296) (hg : g < 4294967296) (w : World) : Calls Try.prog 6 #[.int .u8 193, .int .u32 (s : Int), .int .u32 (a : Int), .int .u32 (p : Int), .int .u32 (g : Int)] w fun en w' => en = .returned (ckV (fe (((((s + a) % 4294967296)) + 4294967296 - g) % 4294967296) 2048 1) (((((s + a) % 4294967296)) + 4294967296 - g) % 4294967296)) ∧ w = w' := by
  have r1 : ((s : Int) + (a : Int)) % 4294967296 = ((((s + a) % 4294967296) : Nat) : Int) := by omega
  have l1 : ((s + a) % 4294967296) < 4294967296 := by omega
  have r2 : (((((s + a) % 4294967296) : Nat) : Int) - (g : Int)) % 4294967296 = ((((((s + a) % 4294967296)) + 4294967296 - g) % 4294967296 : Nat) : Int) := by omega
  have l2 : ((((s + a) % 4294967296)) + 4294967296 - g) % 4294967296 < 4294967296 := by omega
  generalize ((((s + a) % 4294967296)) + 4294967296 - g) % 4294967296 = d at *
  generalize ((s + a) % 4294967296) = n at *
  obtain ⟨b1, b2⟩ := w32b' (d : Int)
  have K := within12 (wrap32 (d : Int)) b1 b2
  rw [ck_any] at K
  generalize hck : ckV (fe d 2048 1) d = v at *
  obtain ⟨x, y, hv⟩ : ∃ x y, v = .tuple #[.int .i32 x, .int .i64 y] := by rw [← hck]; unfold ckV; split <;> exact ⟨_, _, rfl⟩
  clear hck b1 b2
  subst hv
  have K := Lib.hid K
  go_enter Try.func6, Try.ntmps6
  go_wp2_with fail
  refine (K.out _).mono ?_
  rintro _ _ ⟨rfl, rfl⟩
  go_wp2_with fail
  go_ret2
  exact ⟨ret2 rfl rfl, rfl⟩
theorem rval194 (s a p g : Nat) (hs : s < 4294967296) (ha : a < 4294967296) (hp : p < 4294967296) (hg : g < 4294967296) (w : World) : Calls Try.prog 6 #[.int .u8 194, .int .u32 (s : Int), .int .u32 (a : Int), .int .u32 (p : Int), .int .u32 (g : Int)] w fun en w' => en = .returned (ckV (fe (((((s + a) % 4294967296)) + 4294967296 - g) % 4294967296) 2048 1) (((((s + a) % 4294967296)) + 4294967296 - g) % 4294967296)) ∧ w = w' := by
  have r1 : ((s : Int) + (a : Int)) % 4294967296 = ((((s + a) % 4294967296) : Nat) : Int) := by omega
  have l1 : ((s + a) % 4294967296) < 4294967296 := by omega
  have r2 : (((((s + a) % 4294967296) : Nat) : Int) - (g : Int)) % 4294967296 = ((((((s + a) % 4294967296)) + 4294967296 - g) % 4294967296 : Nat) : Int) := by omega
  have l2 : ((((s + a) % 4294967296)) + 4294967296 - g) % 4294967296 < 4294967296 := by omega
  generalize ((((s + a) % 4294967296)) + 4294967296 - g) % 4294967296 = d at *
  generalize ((s + a) % 4294967296) = n at *
  obtain ⟨b1, b2⟩ := w32b' (d : Int)
  have K := within12 (wrap32 (d : Int)) b1 b2
  rw [ck_any] at K
  generalize hck : ckV (fe d 2048 1) d = v at *
  obtain ⟨x, y, hv⟩ : ∃ x y, v = .tuple #[.int .i32 x, .int .i64 y] := by rw [← hck]; unfold ckV; split <;> exact ⟨_, _, rfl⟩
  clear hck b1 b2
  subst hv
  have K := Lib.hid K
  go_enter Try.func6, Try.ntmps6
  go_wp2_with fail
  refine (K.out _).mono ?_
  rintro _ _ ⟨rfl, rfl⟩
  go_wp2_with fail
  go_ret2
  exact ⟨ret2 rfl rfl, rfl⟩
theorem rval23 (s a p g : Nat) (hs : s < 4294967296) (ha : a < 4294967296) (hp : p < 4294967296) (hg : g < 4294967296) (w : World) : Calls Try.prog 6 #[.int .u8 23, .int .u32 (s : Int), .int .u32 (a : Int), .int .u32 (p : Int), .int .u32 (g : Int)] w fun en w' => en = .returned (.tuple #[.int .i32 (wrap32 (H (((((s + a) % 4294967296)) + 4294967296 - p) % 4294967296) : Int)), .int .i64 0]) ∧ w = w' := by
  have r1 : ((s : Int) + (a : Int)) % 4294967296 = ((((s + a) % 4294967296) : Nat) : Int) := by omega
  have l1 : ((s + a) % 4294967296) < 4294967296 := by omega
  have r2 : (((((s + a) % 4294967296) : Nat) : Int) - (p : Int)) % 4294967296 = ((((((s + a) % 4294967296)) + 4294967296 - p) % 4294967296 : Nat) : Int) := by omega
  have l2 : ((((s + a) % 4294967296)) + 4294967296 - p) % 4294967296 < 4294967296 := by omega
  generalize ((((s + a) % 4294967296)) + 4294967296 - p) % 4294967296 = d at *
  generalize ((s + a) % 4294967296) = n at *
  obtain ⟨b1, b2⟩ := w32b' (d : Int)
  have K := near14 (wrap32 (d : Int)) b1 b2
  rw [near_H d l2] at K
  have K := Lib.hid K
  clear b1 b2
  go_enter Try.func6, Try.ntmps6
  go_wp2_with fail
  refine (K.out _).mono ?_
  rintro _ _ ⟨rfl, rfl⟩
  go_wp2_with fail
  go_ret2
  exact ⟨ret2 rfl rfl, rfl⟩
theorem rval26 (s a p g : Nat) (hs : s < 4294967296) (ha : a < 4294967296) (hp : p < 4294967296) (hg : g < 4294967296) (w : World) : Calls Try.prog 6 #[.int .u8 26, .int .u32 (s : Int), .int .u32 (a : Int), .int .u32 (p : Int), .int .u32 (g : Int)] w fun en w' => en = .returned (.tuple #[.int .i32 (wrap32 (H (((s + a) % 4294967296)) : Int)), .int .i64 0]) ∧ w = w' := by
  have r1 : ((s : Int) + (a : Int)) % 4294967296 = ((((s + a) % 4294967296) : Nat) : Int) := by omega
  have l1 : ((s + a) % 4294967296) < 4294967296 := by omega
  generalize ((s + a) % 4294967296) = n at *
  obtain ⟨b1, b2⟩ := w32b' (n : Int)
  have K := near14 (wrap32 (n : Int)) b1 b2
  rw [near_H n l1] at K
  have K := Lib.hid K
  clear b1 b2
  go_enter Try.func6, Try.ntmps6
  go_wp2_with fail
  refine (K.out _).mono ?_
  rintro _ _ ⟨rfl, rfl⟩
  go_wp2_with fail
  go_ret2
  exact ⟨ret2 rfl rfl, rfl⟩
theorem rval27 (s a p g : Nat) (hs : s < 4294967296) (ha : a < 4294967296) (hp : p < 4294967296) (hg : g < 4294967296) (w : World) : Calls Try.prog 6 #[.int .u8 27, .int .u32 (s : Int), .int .u32 (a : Int), .int .u32 (p : Int), .int .u32 (g : Int)] w fun en w' => en = .returned (.tuple #[.int .i32 (wrap32 (((((s + a) % 4294967296)) : Nat) - (H (((s + a) % 4294967296)) : Int))), .int .i64 0]) ∧ w = w' := by
  have r1 : ((s : Int) + (a : Int)) % 4294967296 = ((((s + a) % 4294967296) : Nat) : Int) := by omega
  have l1 : ((s + a) % 4294967296) < 4294967296 := by omega
  generalize ((s + a) % 4294967296) = n at *
  obtain ⟨b1, b2⟩ := w32b' (n : Int)
  have K := near14 (wrap32 (n : Int)) b1 b2
  rw [near_H n l1] at K
  have e := w32sub (n : Int) (H n : Int)
  rw [← e]
  generalize wrap32 (H n : Int) = h at *
  have K := Lib.hid K
  have E := Lib.hid e
  clear b1 b2 e
  go_enter Try.func6, Try.ntmps6
  go_wp2_with fail
  refine (K.out _).mono ?_
  rintro _ _ ⟨rfl, rfl⟩
  go_wp2_with fail
  go_ret2
  exact ⟨ret2 rfl rfl, rfl⟩
theorem rval28 (s a p g : Nat) (hs : s < 4294967296) (ha : a < 4294967296) (hp : p < 4294967296) (hg : g < 4294967296) (w : World) : Calls Try.prog 6 #[.int .u8 28, .int .u32 (s : Int), .int .u32 (a : Int), .int .u32 (p : Int), .int .u32 (g : Int)] w fun en w' => en = .returned (.tuple #[.int .i32 (wrap32 (((((s + a) % 4294967296)) : Nat) - (H (((s + a) % 4294967296)) : Int))), .int .i64 0]) ∧ w = w' := by
  have r1 : ((s : Int) + (a : Int)) % 4294967296 = ((((s + a) % 4294967296) : Nat) : Int) := by omega
  have l1 : ((s + a) % 4294967296) < 4294967296 := by omega
  generalize ((s + a) % 4294967296) = n at *
  obtain ⟨b1, b2⟩ := w32b' (n : Int)
  have K := near14 (wrap32 (n : Int)) b1 b2
  rw [near_H n l1] at K
  have e := w32sub (n : Int) (H n : Int)
  rw [← e]
  generalize wrap32 (H n : Int) = h at *
  have K := Lib.hid K
  have E := Lib.hid e
  clear b1 b2 e
  go_enter Try.func6, Try.ntmps6
  go_wp2_with fail
  refine (K.out _).mono ?_
  rintro _ _ ⟨rfl, rfl⟩
  go_wp2_with fail
  go_ret2
  exact ⟨ret2 rfl rfl, rfl⟩
end Go.Proofs.Ytkiojljopigldaa
