import Derived.Test.YtleabbhoedddlaaBf
namespace Go.Proofs.Ytleabbhoedddlaa
open Go.ChangeShapes Go.WideShapes Go.ChangeAt Go.RowKit
set_option linter.unusedVariables false
theorem stepR (m x : Nat) (hm : m < 16777216) (hx : x < 256) : ∃ u r : Nat, (256 : Int) * (m : Int) = (u : Int) ∧ u < 4294967296 ∧ (u : Int) + (x : Int) = (r : Int) ∧ r < 4294967296 ∧ r = m * 256 + x :=
  ⟨256 * m, 256 * m + x, by omega, by omega, rfl, by omega, by omega⟩
set_option maxHeartbeats 2000000 in
theorem rLoad1 (r x y c1 c2 at_ : Nat) (B : Nat → Nat) (T : Nat → Bool) (w : World) (hm : RM w r x y c1 c2 B T) (ha : at_ + 1 ≤ 65536) (hw : at_ % 1 = 0) :
    Calls Try.prog 26 #[.pointer (some ⟨r, 0, none⟩), .int .u32 (at_ : Int), .int .i64 1] w fun e w' => e = .returned (.tuple #[.int .u32 (numL B at_ 1 : Int), .int .i64 0]) ∧ w = w' := by
  obtain ⟨q, hq⟩ : ∃ q : Nat, (at_ : Int) + 1 = (q : Int) := ⟨at_ + 1, by omega⟩
  have hq2 : decide ((65536 : Int) < (q : Int)) = false := by simp; omega
  have hr : True := trivial
  have ba : at_ ≤ 65536 := by omega
  have bq : q ≤ 65536 := by omega
  have p0 := hm.box.cell 0
  simp only [List.getElem?_toArray, List.getElem?_cons_zero] at p0
  have c0' := (hm.by_.cell (at_ + 0) (by omega)).1
  have b0 := hm.lt (at_ + 0)
  have hN : numL B at_ 1 = B (at_ + 0) := rfl
  rw [hN]
  clear hN
  generalize B (at_ + 0) = x0 at *
  have C0 : Hid (w.cell? ⟨x, at_, none⟩ = some (.int .u8 (x0 : Int))) := Lib.hid c0'
  have I0 : Hid ((at_ : Int) < 65536) := Lib.hid (by omega)
  have HF : Hid (x0 = x0) := Lib.hid (by omega)
  rw [← HF.out]
  clear HF  c0'
  have HP := Lib.hid p0
  clear p0 hm ha hw
  go_enter Try.func26, Try.ntmps26
  go_wp2_with fail
  clear hq hq2 hr bq
  go_loop [8, 9] (fun t i => (i = .int .i64 (0) ∧ t = .int .u32 0) ∨ (i = .int .i64 (-1) ∧ t = .int .u32 (x0 : Int))) (fun _ i => (1 + intOf i).toNat)
  case atStart => exact Or.inl ⟨rfl, rfl⟩
  case round =>
    have p0 := HP.out
    rcases hrel with ⟨rfl, rfl⟩ | ⟨rfl, rfl⟩
    · have c0 := C0.out
      have hi0 := I0.out
      go_wp2_with fail
      go_round
      case rel => exact Or.inr (⟨rfl, rfl⟩)
      case measure => simp [intOf]
    · go_wp2_with fail
      go_ret2
      exact ⟨rfl, rfl⟩
set_option maxHeartbeats 2000000 in
theorem rLoad2 (r x y c1 c2 at_ : Nat) (B : Nat → Nat) (T : Nat → Bool) (w : World) (hm : RM w r x y c1 c2 B T) (ha : at_ + 2 ≤ 65536) (hw : at_ % 2 = 0) :
    Calls Try.prog 26 #[.pointer (some ⟨r, 0, none⟩), .int .u32 (at_ : Int), .int .i64 2] w fun e w' => e = .returned (.tuple #[.int .u32 (numL B at_ 2 : Int), .int .i64 0]) ∧ w = w' := by
  obtain ⟨q, hq⟩ : ∃ q : Nat, (at_ : Int) + 2 = (q : Int) := ⟨at_ + 2, by omega⟩
  have hq2 : decide ((65536 : Int) < (q : Int)) = false := by simp; omega
  have hr : ((at_ : Int) % 2 != 0) = false := by simp; omega
  have ba : at_ ≤ 65536 := by omega
  have bq : q ≤ 65536 := by omega
  have p0 := hm.box.cell 0
  simp only [List.getElem?_toArray, List.getElem?_cons_zero] at p0
  have c0' := (hm.by_.cell (at_ + 0) (by omega)).1
  have b0 := hm.lt (at_ + 0)
  have c1' := (hm.by_.cell (at_ + 1) (by omega)).1
  have b1 := hm.lt (at_ + 1)
  have hN : numL B at_ 2 = B (at_ + 0) + B (at_ + 1) * 256 := rfl
  rw [hN]
  clear hN
  generalize B (at_ + 0) = x0 at *
  generalize B (at_ + 1) = x1 at *
  have C0 : Hid (w.cell? ⟨x, at_, none⟩ = some (.int .u8 (x0 : Int))) := Lib.hid c0'
  have I0 : Hid ((at_ : Int) < 65536) := Lib.hid (by omega)
  have C1 : Hid (w.cell? ⟨x, at_ + 1, none⟩ = some (.int .u8 (x1 : Int))) := Lib.hid c1'
  have I1 : Hid ((at_ : Int) + 1 < 65536) := Lib.hid (by omega)
  obtain ⟨u1, v1, sh1, ub1, or1, vb1, hv1⟩ := stepR x1 x0 (by omega) b0
  have HF : Hid (v1 = x0 + x1 * 256) := Lib.hid (by omega)
  rw [← HF.out]
  clear HF hv1 c0' c1'
  have SH1 := Lib.hid sh1; have OR1 := Lib.hid or1
  clear sh1 or1
  have HP := Lib.hid p0
  clear p0 hm ha hw
  go_enter Try.func26, Try.ntmps26
  go_wp2_with fail
  clear hq hq2 hr bq
  go_loop [8, 9] (fun t i => (i = .int .i64 (1) ∧ t = .int .u32 0) ∨ (i = .int .i64 (0) ∧ t = .int .u32 (x1 : Int)) ∨ (i = .int .i64 (-1) ∧ t = .int .u32 (v1 : Int))) (fun _ i => (1 + intOf i).toNat)
  case atStart => exact Or.inl ⟨rfl, rfl⟩
  case round =>
    have p0 := HP.out
    rcases hrel with ⟨rfl, rfl⟩ | ⟨rfl, rfl⟩ | ⟨rfl, rfl⟩
    · have c1 := C1.out
      have hi1 := I1.out
      go_wp2_with fail
      go_round
      case rel => exact Or.inr (Or.inl ⟨rfl, rfl⟩)
      case measure => simp [intOf]
    · have c0 := C0.out
      have hi0 := I0.out
      have sh1 := SH1.out
      have or1 := OR1.out
      go_wp2_with fail
      go_round
      case rel => exact Or.inr (Or.inr (⟨rfl, rfl⟩))
      case measure => simp [intOf]
    · go_wp2_with fail
      go_ret2
      exact ⟨rfl, rfl⟩
set_option maxHeartbeats 2000000 in
theorem rLoad4 (r x y c1 c2 at_ : Nat) (B : Nat → Nat) (T : Nat → Bool) (w : World) (hm : RM w r x y c1 c2 B T) (ha : at_ + 4 ≤ 65536) (hw : at_ % 4 = 0) :
    Calls Try.prog 26 #[.pointer (some ⟨r, 0, none⟩), .int .u32 (at_ : Int), .int .i64 4] w fun e w' => e = .returned (.tuple #[.int .u32 (numL B at_ 4 : Int), .int .i64 0]) ∧ w = w' := by
  obtain ⟨q, hq⟩ : ∃ q : Nat, (at_ : Int) + 4 = (q : Int) := ⟨at_ + 4, by omega⟩
  have hq2 : decide ((65536 : Int) < (q : Int)) = false := by simp; omega
  have hr : ((at_ : Int) % 4 != 0) = false := by simp; omega
  have ba : at_ ≤ 65536 := by omega
  have bq : q ≤ 65536 := by omega
  have p0 := hm.box.cell 0
  simp only [List.getElem?_toArray, List.getElem?_cons_zero] at p0
  have c0' := (hm.by_.cell (at_ + 0) (by omega)).1
  have b0 := hm.lt (at_ + 0)
  have c1' := (hm.by_.cell (at_ + 1) (by omega)).1
  have b1 := hm.lt (at_ + 1)
  have c2' := (hm.by_.cell (at_ + 2) (by omega)).1
  have b2 := hm.lt (at_ + 2)
  have c3' := (hm.by_.cell (at_ + 3) (by omega)).1
  have b3 := hm.lt (at_ + 3)
  have hN : numL B at_ 4 = B (at_ + 0) + B (at_ + 1) * 256 + B (at_ + 2) * 65536 + B (at_ + 3) * 16777216 := rfl
  rw [hN]
  clear hN
  generalize B (at_ + 0) = x0 at *
  generalize B (at_ + 1) = x1 at *
  generalize B (at_ + 2) = x2 at *
  generalize B (at_ + 3) = x3 at *
  have C0 : Hid (w.cell? ⟨x, at_, none⟩ = some (.int .u8 (x0 : Int))) := Lib.hid c0'
  have I0 : Hid ((at_ : Int) < 65536) := Lib.hid (by omega)
  have C1 : Hid (w.cell? ⟨x, at_ + 1, none⟩ = some (.int .u8 (x1 : Int))) := Lib.hid c1'
  have I1 : Hid ((at_ : Int) + 1 < 65536) := Lib.hid (by omega)
  have C2 : Hid (w.cell? ⟨x, at_ + 2, none⟩ = some (.int .u8 (x2 : Int))) := Lib.hid c2'
  have I2 : Hid ((at_ : Int) + 2 < 65536) := Lib.hid (by omega)
  have C3 : Hid (w.cell? ⟨x, at_ + 3, none⟩ = some (.int .u8 (x3 : Int))) := Lib.hid c3'
  have I3 : Hid ((at_ : Int) + 3 < 65536) := Lib.hid (by omega)
  obtain ⟨u1, v1, sh1, ub1, or1, vb1, hv1⟩ := stepR x3 x2 (by omega) b2
  obtain ⟨u2, v2, sh2, ub2, or2, vb2, hv2⟩ := stepR v1 x1 (by omega) b1
  obtain ⟨u3, v3, sh3, ub3, or3, vb3, hv3⟩ := stepR v2 x0 (by omega) b0
  have HF : Hid (v3 = x0 + x1 * 256 + x2 * 65536 + x3 * 16777216) := Lib.hid (by omega)
  rw [← HF.out]
  clear HF hv1 hv2 hv3 c0' c1' c2' c3'
  have SH1 := Lib.hid sh1; have OR1 := Lib.hid or1
  have SH2 := Lib.hid sh2; have OR2 := Lib.hid or2
  have SH3 := Lib.hid sh3; have OR3 := Lib.hid or3
  clear sh1 or1 sh2 or2 sh3 or3
  have HP := Lib.hid p0
  clear p0 hm ha hw
  go_enter Try.func26, Try.ntmps26
  go_wp2_with fail
  clear hq hq2 hr bq
  go_loop [8, 9] (fun t i => (i = .int .i64 (3) ∧ t = .int .u32 0) ∨ (i = .int .i64 (2) ∧ t = .int .u32 (x3 : Int)) ∨ (i = .int .i64 (1) ∧ t = .int .u32 (v1 : Int)) ∨ (i = .int .i64 (0) ∧ t = .int .u32 (v2 : Int)) ∨ (i = .int .i64 (-1) ∧ t = .int .u32 (v3 : Int))) (fun _ i => (1 + intOf i).toNat)
  case atStart => exact Or.inl ⟨rfl, rfl⟩
  case round =>
    have p0 := HP.out
    rcases hrel with ⟨rfl, rfl⟩ | ⟨rfl, rfl⟩ | ⟨rfl, rfl⟩ | ⟨rfl, rfl⟩ | ⟨rfl, rfl⟩
    · have c3 := C3.out
      have hi3 := I3.out
      go_wp2_with fail
      go_round
      case rel => exact Or.inr (Or.inl ⟨rfl, rfl⟩)
      case measure => simp [intOf]
    · have c2 := C2.out
      have hi2 := I2.out
      have sh1 := SH1.out
      have or1 := OR1.out
      go_wp2_with fail
      go_round
      case rel => exact Or.inr (Or.inr (Or.inl ⟨rfl, rfl⟩))
      case measure => simp [intOf]
    · have c1 := C1.out
      have hi1 := I1.out
      have sh2 := SH2.out
      have or2 := OR2.out
      go_wp2_with fail
      go_round
      case rel => exact Or.inr (Or.inr (Or.inr (Or.inl ⟨rfl, rfl⟩)))
      case measure => simp [intOf]
    · have c0 := C0.out
      have hi0 := I0.out
      have sh3 := SH3.out
      have or3 := OR3.out
      go_wp2_with fail
      go_round
      case rel => exact Or.inr (Or.inr (Or.inr (Or.inr (⟨rfl, rfl⟩))))
      case measure => simp [intOf]
    · go_wp2_with fail
      go_ret2
      exact ⟨rfl, rfl⟩
theorem rLoad (r x y c1 c2 at_ : Nat) (s : Int) (B : Nat → Nat) (T : Nat → Bool) (w : World) (hm : RM w r x y c1 c2 B T) (hw : wordB at_ s = true) :
    Calls Try.prog 26 #[.pointer (some ⟨r, 0, none⟩), .int .u32 (at_ : Int), .int .i64 s] w fun e w' => e = .returned (.tuple #[.int .u32 (numL B at_ s.toNat : Int), .int .i64 0]) ∧ w = w' := by
  unfold wordB at hw
  rw [decide_eq_true_eq] at hw
  obtain ⟨hs, h1, h2⟩ := hw
  rcases hs with rfl | rfl | rfl
  · exact rLoad1 r x y c1 c2 at_ B T w hm (by omega) (by omega)
  · exact rLoad2 r x y c1 c2 at_ B T w hm (by omega) (by omega)
  · exact rLoad4 r x y c1 c2 at_ B T w hm (by omega) (by omega)
end Go.Proofs.Ytleabbhoedddlaa
