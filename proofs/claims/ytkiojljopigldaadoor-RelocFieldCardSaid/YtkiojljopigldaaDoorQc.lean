import Derived.Test.YtkiojljopigldaaDoorQb
namespace Go.Proofs.YtkiojljopigldaaDoor.Rel
open Go.ChangeShapes Go.WideShapes Go.ChangeAt Go.RowKit
set_option linter.unusedVariables false
theorem val0 (s a p g : Nat) (hs : s < 4294967296) (ha : a < 4294967296) (hp : p < 4294967296) (hg : g < 4294967296) (w : World) : Calls Tryd.prog 16 #[.int .u8 0, .int .u32 (s : Int), .int .u32 (a : Int), .int .u32 (p : Int), .int .u32 (g : Int)] w fun en w' => en = .returned (.tuple #[.int .i32 0, .int .i64 0]) ∧ w = w' := by
  go_enter Tryd.func16, Tryd.ntmps16
  go_wp2
  go_ret2
  exact ⟨ret2 rfl rfl, rfl⟩
theorem val51 (s a p g : Nat) (hs : s < 4294967296) (ha : a < 4294967296) (hp : p < 4294967296) (hg : g < 4294967296) (w : World) : Calls Tryd.prog 16 #[.int .u8 51, .int .u32 (s : Int), .int .u32 (a : Int), .int .u32 (p : Int), .int .u32 (g : Int)] w fun en w' => en = .returned (.tuple #[.int .i32 0, .int .i64 0]) ∧ w = w' := by
  go_enter Tryd.func16, Tryd.ntmps16
  go_wp2
  go_ret2
  exact ⟨ret2 rfl rfl, rfl⟩
theorem val1 (s a p g : Nat) (hs : s < 4294967296) (ha : a < 4294967296) (hp : p < 4294967296) (hg : g < 4294967296) (w : World) : Calls Tryd.prog 16 #[.int .u8 1, .int .u32 (s : Int), .int .u32 (a : Int), .int .u32 (p : Int), .int .u32 (g : Int)] w fun en w' => en = .returned (.tuple #[.int .i32 (wrap32 ((((s + a) % 4294967296) : Nat) : Int)), .int .i64 0]) ∧ w = w' := by
  have r1 : ((s : Int) + (a : Int)) % 4294967296 = (((((s + a) % 4294967296)) : Nat) : Int) := by omega
  have l1 : (((s + a) % 4294967296)) < 4294967296 := by omega
  generalize (((s + a) % 4294967296)) = n at *
  go_enter Tryd.func16, Tryd.ntmps16
  go_wp2
  go_ret2
  exact ⟨ret2 rfl rfl, rfl⟩
theorem val16 (s a p g : Nat) (hs : s < 4294967296) (ha : a < 4294967296) (hp : p < 4294967296) (hg : g < 4294967296) (w : World) : Calls Tryd.prog 16 #[.int .u8 16, .int .u32 (s : Int), .int .u32 (a : Int), .int .u32 (p : Int), .int .u32 (g : Int)] w fun en w' => en = .returned (ckV (fe ((((((s + a) % 4294967296)) + 4294967296 - p) % 4294967296)) 4096 2) ((((((s + a) % 4294967296)) + 4294967296 - p) % 4294967296))) ∧ w = w' := by
  have r1 : ((s : Int) + (a : Int)) % 4294967296 = (((((s + a) % 4294967296)) : Nat) : Int) := by omega
  have l1 : (((s + a) % 4294967296)) < 4294967296 := by omega
  have r2 : (((((s + a) % 4294967296) : Nat) : Int) - (p : Int)) % 4294967296 = ((((((((s + a) % 4294967296)) + 4294967296 - p) % 4294967296)) : Nat) : Int) := by omega
  have l2 : ((((((s + a) % 4294967296)) + 4294967296 - p) % 4294967296)) < 4294967296 := by omega
  generalize ((((((s + a) % 4294967296)) + 4294967296 - p) % 4294967296)) = d at *
  generalize (((s + a) % 4294967296)) = n at *
  have F := Lib.hid (fits13 d l2)
  have C := Lib.hid (chk10 d (fe d 4096 2) l2)
  generalize hck : ckV (fe d 4096 2) d = v at *
  generalize fe d 4096 2 = b at *
  obtain ⟨x, y, hv⟩ : ∃ x y, v = .tuple #[.int .i32 x, .int .i64 y] := by rw [← hck]; cases b <;> exact ⟨_, _, rfl⟩
  clear hck
  subst hv
  go_enter Tryd.func16, Tryd.ntmps16
  go_wp2_with fail
  refine (F.out _).mono ?_
  rintro _ _ ⟨rfl, rfl⟩
  go_wp2_with fail
  refine (C.out _).mono ?_
  rintro _ _ ⟨rfl, rfl⟩
  go_wp2_with fail
  go_ret2
  exact ⟨ret2 rfl rfl, rfl⟩
theorem val17 (s a p g : Nat) (hs : s < 4294967296) (ha : a < 4294967296) (hp : p < 4294967296) (hg : g < 4294967296) (w : World) : Calls Tryd.prog 16 #[.int .u8 17, .int .u32 (s : Int), .int .u32 (a : Int), .int .u32 (p : Int), .int .u32 (g : Int)] w fun en w' => en = .returned (ckV (fe ((((((s + a) % 4294967296)) + 4294967296 - p) % 4294967296)) 1048576 2) ((((((s + a) % 4294967296)) + 4294967296 - p) % 4294967296))) ∧ w = w' := by
  have r1 : ((s : Int) + (a : Int)) % 4294967296 = (((((s + a) % 4294967296)) : Nat) : Int) := by omega
  have l1 : (((s + a) % 4294967296)) < 4294967296 := by omega
  have r2 : (((((s + a) % 4294967296) : Nat) : Int) - (p : Int)) % 4294967296 = ((((((((s + a) % 4294967296)) + 4294967296 - p) % 4294967296)) : Nat) : Int) := by omega
  have l2 : ((((((s + a) % 4294967296)) + 4294967296 - p) % 4294967296)) < 4294967296 := by omega
  generalize ((((((s + a) % 4294967296)) + 4294967296 - p) % 4294967296)) = d at *
  generalize (((s + a) % 4294967296)) = n at *
  have F := Lib.hid (fits21 d l2)
  have C := Lib.hid (chk10 d (fe d 1048576 2) l2)
  generalize hck : ckV (fe d 1048576 2) d = v at *
  generalize fe d 1048576 2 = b at *
  obtain ⟨x, y, hv⟩ : ∃ x y, v = .tuple #[.int .i32 x, .int .i64 y] := by rw [← hck]; cases b <;> exact ⟨_, _, rfl⟩
  clear hck
  subst hv
  go_enter Tryd.func16, Tryd.ntmps16
  go_wp2_with fail
  refine (F.out _).mono ?_
  rintro _ _ ⟨rfl, rfl⟩
  go_wp2_with fail
  refine (C.out _).mono ?_
  rintro _ _ ⟨rfl, rfl⟩
  go_wp2_with fail
  go_ret2
  exact ⟨ret2 rfl rfl, rfl⟩
theorem val193 (s a p g : Nat) (hs : s < 4294967296) (ha : a < 4294967296) (hp : p < 4294967296) (hg : g < 4294967296) (w : World) : Calls Tryd.prog 16 #[.int .u8 193, .int .u32 (s : Int), .int .u32 (a : Int), .int .u32 (p : Int), .int .u32 (g : Int)] w fun en w' => en = .returned (ckV (fe ((((((s + a) % 4294967296)) + 4294967296 - g) % 4294967296)) 2048 1) ((((((s + a) % 4294967296)) + 4294967296 - g) % 4294967296))) ∧ w = w' := by
  have r1 : ((s : Int) + (a : Int)) % 4294967296 = (((((s + a) % 4294967296)) : Nat) : Int) := by omega
  have l1 : (((s + a) % 4294967296)) < 4294967296 := by omega
  have r2 : (((((s + a) % 4294967296) : Nat) : Int) - (g : Int)) % 4294967296 = ((((((((s + a) % 4294967296)) + 4294967296 - g) % 4294967296)) : Nat) : Int) := by omega
  have l2 : ((((((s + a) % 4294967296)) + 4294967296 - g) % 4294967296)) < 4294967296 := by omega
  generalize ((((((s + a) % 4294967296)) + 4294967296 - g) % 4294967296)) = d at *
  generalize (((s + a) % 4294967296)) = n at *
  have F := Lib.hid (fits12 d l2)
  have C := Lib.hid (chk10 d (fe d 2048 1) l2)
  generalize hck : ckV (fe d 2048 1) d = v at *
  generalize fe d 2048 1 = b at *
  obtain ⟨x, y, hv⟩ : ∃ x y, v = .tuple #[.int .i32 x, .int .i64 y] := by rw [← hck]; cases b <;> exact ⟨_, _, rfl⟩
  clear hck
  subst hv
  go_enter Tryd.func16, Tryd.ntmps16
  go_wp2_with fail
  refine (F.out _).mono ?_
  rintro _ _ ⟨rfl, rfl⟩
  go_wp2_with fail
  refine (C.out _).mono ?_
  rintro _ _ ⟨rfl, rfl⟩
  go_wp2_with fail
  go_ret2
  exact ⟨ret2 rfl rfl, rfl⟩
theorem val194 (s a p g : Nat) (hs : s < 4294967296) (ha : a < 4294967296) (hp : p < 4294967296) (hg : g < 4294967296) (w : World) : Calls Tryd.prog 16 #[.int .u8 194, .int .u32 (s : Int), .int .u32 (a : Int), .int .u32 (p : Int), .int .u32 (g : Int)] w fun en w' => en = .returned (ckV (fe ((((((s + a) % 4294967296)) + 4294967296 - g) % 4294967296)) 2048 1) ((((((s + a) % 4294967296)) + 4294967296 - g) % 4294967296))) ∧ w = w' := by
  have r1 : ((s : Int) + (a : Int)) % 4294967296 = (((((s + a) % 4294967296)) : Nat) : Int) := by omega
  have l1 : (((s + a) % 4294967296)) < 4294967296 := by omega
  have r2 : (((((s + a) % 4294967296) : Nat) : Int) - (g : Int)) % 4294967296 = ((((((((s + a) % 4294967296)) + 4294967296 - g) % 4294967296)) : Nat) : Int) := by omega
  have l2 : ((((((s + a) % 4294967296)) + 4294967296 - g) % 4294967296)) < 4294967296 := by omega
  generalize ((((((s + a) % 4294967296)) + 4294967296 - g) % 4294967296)) = d at *
  generalize (((s + a) % 4294967296)) = n at *
  have F := Lib.hid (fits12 d l2)
  have C := Lib.hid (chk10 d (fe d 2048 1) l2)
  generalize hck : ckV (fe d 2048 1) d = v at *
  generalize fe d 2048 1 = b at *
  obtain ⟨x, y, hv⟩ : ∃ x y, v = .tuple #[.int .i32 x, .int .i64 y] := by rw [← hck]; cases b <;> exact ⟨_, _, rfl⟩
  clear hck
  subst hv
  go_enter Tryd.func16, Tryd.ntmps16
  go_wp2_with fail
  refine (F.out _).mono ?_
  rintro _ _ ⟨rfl, rfl⟩
  go_wp2_with fail
  refine (C.out _).mono ?_
  rintro _ _ ⟨rfl, rfl⟩
  go_wp2_with fail
  go_ret2
  exact ⟨ret2 rfl rfl, rfl⟩
theorem val23 (s a p g : Nat) (hs : s < 4294967296) (ha : a < 4294967296) (hp : p < 4294967296) (hg : g < 4294967296) (w : World) : Calls Tryd.prog 16 #[.int .u8 23, .int .u32 (s : Int), .int .u32 (a : Int), .int .u32 (p : Int), .int .u32 (g : Int)] w fun en w' => en = .returned (.tuple #[.int .i32 (wrap32 (H ((((((s + a) % 4294967296)) + 4294967296 - p) % 4294967296)) : Int)), .int .i64 0]) ∧ w = w' := by
  have r1 : ((s : Int) + (a : Int)) % 4294967296 = (((((s + a) % 4294967296)) : Nat) : Int) := by omega
  have l1 : (((s + a) % 4294967296)) < 4294967296 := by omega
  have r2 : (((((s + a) % 4294967296) : Nat) : Int) - (p : Int)) % 4294967296 = ((((((((s + a) % 4294967296)) + 4294967296 - p) % 4294967296)) : Nat) : Int) := by omega
  have l2 : ((((((s + a) % 4294967296)) + 4294967296 - p) % 4294967296)) < 4294967296 := by omega
  generalize ((((((s + a) % 4294967296)) + 4294967296 - p) % 4294967296)) = d at *
  generalize (((s + a) % 4294967296)) = n at *
  have Hh := Lib.hid (high12 d (by omega))
  have hl := H_lt d
  generalize H d = h at *
  go_enter Tryd.func16, Tryd.ntmps16
  go_wp2_with fail
  refine (Hh.out _).mono ?_
  rintro _ _ ⟨rfl, rfl⟩
  go_wp2_with fail
  go_ret2
  exact ⟨ret2 rfl rfl, rfl⟩
theorem val26 (s a p g : Nat) (hs : s < 4294967296) (ha : a < 4294967296) (hp : p < 4294967296) (hg : g < 4294967296) (w : World) : Calls Tryd.prog 16 #[.int .u8 26, .int .u32 (s : Int), .int .u32 (a : Int), .int .u32 (p : Int), .int .u32 (g : Int)] w fun en w' => en = .returned (.tuple #[.int .i32 (wrap32 (H (((s + a) % 4294967296)) : Int)), .int .i64 0]) ∧ w = w' := by
  have r1 : ((s : Int) + (a : Int)) % 4294967296 = (((((s + a) % 4294967296)) : Nat) : Int) := by omega
  have l1 : (((s + a) % 4294967296)) < 4294967296 := by omega
  generalize (((s + a) % 4294967296)) = n at *
  have Hh := Lib.hid (high12 n (by omega))
  have hl := H_lt n
  generalize H n = h at *
  go_enter Tryd.func16, Tryd.ntmps16
  go_wp2_with fail
  refine (Hh.out _).mono ?_
  rintro _ _ ⟨rfl, rfl⟩
  go_wp2_with fail
  go_ret2
  exact ⟨ret2 rfl rfl, rfl⟩
theorem val27 (s a p g : Nat) (hs : s < 4294967296) (ha : a < 4294967296) (hp : p < 4294967296) (hg : g < 4294967296) (w : World) : Calls Tryd.prog 16 #[.int .u8 27, .int .u32 (s : Int), .int .u32 (a : Int), .int .u32 (p : Int), .int .u32 (g : Int)] w fun en w' => en = .returned (.tuple #[.int .i32 (wrap32 ((((((s + a) % 4294967296)) : Nat) : Int) - (H (((s + a) % 4294967296)) : Int))), .int .i64 0]) ∧ w = w' := by
  have r1 : ((s : Int) + (a : Int)) % 4294967296 = (((((s + a) % 4294967296)) : Nat) : Int) := by omega
  have l1 : (((s + a) % 4294967296)) < 4294967296 := by omega
  generalize (((s + a) % 4294967296)) = n at *
  have Hh := Lib.hid (high12 n (by omega))
  have hl := H_lt n
  generalize H n = h at *
  have fin : wrap32 (((n : Int) - (h : Int)) % 4294967296) = wrap32 ((n : Int) - (h : Int)) := by unfold wrap32; omega
  have F := Lib.hid fin
  clear fin
  go_enter Tryd.func16, Tryd.ntmps16
  go_wp2_with fail
  refine (Hh.out _).mono ?_
  rintro _ _ ⟨rfl, rfl⟩
  go_wp2_with fail
  go_ret2
  exact ⟨ret2 F.out rfl, rfl⟩
theorem val28 (s a p g : Nat) (hs : s < 4294967296) (ha : a < 4294967296) (hp : p < 4294967296) (hg : g < 4294967296) (w : World) : Calls Tryd.prog 16 #[.int .u8 28, .int .u32 (s : Int), .int .u32 (a : Int), .int .u32 (p : Int), .int .u32 (g : Int)] w fun en w' => en = .returned (.tuple #[.int .i32 (wrap32 ((((((s + a) % 4294967296)) : Nat) : Int) - (H (((s + a) % 4294967296)) : Int))), .int .i64 0]) ∧ w = w' := by
  have r1 : ((s : Int) + (a : Int)) % 4294967296 = (((((s + a) % 4294967296)) : Nat) : Int) := by omega
  have l1 : (((s + a) % 4294967296)) < 4294967296 := by omega
  generalize (((s + a) % 4294967296)) = n at *
  have Hh := Lib.hid (high12 n (by omega))
  have hl := H_lt n
  generalize H n = h at *
  have fin : wrap32 (((n : Int) - (h : Int)) % 4294967296) = wrap32 ((n : Int) - (h : Int)) := by unfold wrap32; omega
  have F := Lib.hid fin
  clear fin
  go_enter Tryd.func16, Tryd.ntmps16
  go_wp2_with fail
  refine (Hh.out _).mono ?_
  rintro _ _ ⟨rfl, rfl⟩
  go_wp2_with fail
  go_ret2
  exact ⟨ret2 F.out rfl, rfl⟩
end Go.Proofs.YtkiojljopigldaaDoor.Rel
