import Derived.Test.YtmanoheofloimaaGreatDoorMRz
namespace Go.Proofs.YtmanoheofloimaaGreatDoor
open Go.ChangeShapes Go.WideShapes Go.ChangeAt Go.RowKit
set_option linter.unusedVariables false
set_option maxRecDepth 100000
theorem or8 (m x : Nat) (hm : m < 16777216) (hx : x < 256) : bits .or .u32 ((m * 256 : Nat) : Int) (x : Int) = ((m * 256 + x : Nat) : Int) := by
  rw [u32_or_nat _ _ (by omega) (by omega), show 256 = 2 ^ 8 from rfl, nat_join 8 _ x (Nat.mul_mod_left _ _) hx]
/-- a byte goes in behind a number -/
theorem stepL (m x : Nat) (hm : m < 16777216) (hx : x < 256) : ∃ u r : Nat, (m : Int) * 256 = (u : Int) ∧ u < 4294967296 ∧ bits .or .u32 (u : Int) (x : Int) = (r : Int) ∧ r = m * 256 + x :=
  ⟨m * 256, m * 256 + x, by omega, by omega, or8 m x hm hx, rfl⟩
set_option maxHeartbeats 2000000 in
set_option maxRecDepth 100000 in
theorem load2 (b at_ x0 x1 : Nat) (C : Array Value) (w : World) (hm : Me w b C) (ha : at_ + 2 ≤ 65536) (hw : wordB at_ 2 = true) (hx0 : x0 < 256) (hx1 : x1 < 256) (h0 : C[1 + (at_ + 0)]? = some (.int .u8 (x0 : Int))) (h1 : C[1 + (at_ + 1)]? = some (.int .u8 (x1 : Int))) :
    Calls Tryz.prog 15 #[.pointer (some ⟨b, 0, none⟩), .int .u32 (at_ : Int), .int .i64 2] w fun e w' => e = .returned (.tuple #[.int .u32 ((x0 + x1 * 256 : Nat) : Int), .int .i64 0]) ∧ w = w' := by
  have KT := Lib.hid hm.there
  have K := Lib.hid (c30 at_ 2)
  rw [hw] at K
  have c0 : w.cell? ⟨b, 1 + at_, none⟩ = some (.int .u8 (x0 : Int)) := by rw [hm.1.cell]; exact h0
  have c1 : w.cell? ⟨b, 1 + (at_ + 1), none⟩ = some (.int .u8 (x1 : Int)) := by rw [hm.1.cell]; exact h1
  obtain ⟨u1, v1, sh1, ub1, or1, hv1⟩ := stepL x1 x0 (by omega) hx0
  have ho : bits .or .u32 0 (x1 : Int) = (x1 : Int) := by
    have := u32_or_nat 0 x1 (by omega) (by omega)
    simpa using this
  have HF : Hid (v1 = x0 + x1 * 256) := Lib.hid (by omega)
  have hi0 : (at_ : Int) < 65536 := by omega
  have hi1 : (at_ : Int) + 1 < 65536 := by omega
  rw [← HF.out]
  clear HF
  clear hm h0 h1 hw ha hv1
  have C0 := Lib.hid c0
  have C1 := Lib.hid c1
  have HO := Lib.hid ho
  have SH1 := Lib.hid sh1; have OR1 := Lib.hid or1
  have I0 := Lib.hid hi0
  have I1 := Lib.hid hi1
  clear ho c0 hi0 c1 hi1 sh1 or1
  go_enter Tryz.func15, Tryz.ntmps15
  go_wp2_with fail
  refine KT.out.mono ?_
  rintro _ _ ⟨rfl, rfl⟩
  go_wp2_with fail
  refine (K.out _).mono ?_
  rintro _ _ ⟨rfl, rfl⟩
  go_wp2_with fail
  go_loop [8, 9] (fun t i => (i = .int .i64 (1) ∧ t = .int .u32 0) ∨ (i = .int .i64 (0) ∧ t = .int .u32 (x1 : Int)) ∨ (i = .int .i64 (-1) ∧ t = .int .u32 (v1 : Int))) (fun _ i => (1 + intOf i).toNat)
  case atStart => exact Or.inl ⟨rfl, rfl⟩
  case round =>
    rcases hrel with ⟨rfl, rfl⟩ | ⟨rfl, rfl⟩ | ⟨rfl, rfl⟩
    · have c1 := C1.out
      have hi1 := I1.out
      have ho := HO.out
      go_wp2_with fail
      go_round
      case rel => exact Or.inr (Or.inl ⟨rfl, rfl⟩)
      case measure => simp [intOf]
    · have c0 := C0.out
      have hi0 := I0.out
      have sh1 := SH1.out
      have or1 := OR1.out
      go_wp2_with fail
      go_round
      case rel => exact Or.inr (Or.inr (⟨rfl, rfl⟩))
      case measure => simp [intOf]
    · go_wp2_with fail
      go_ret2
      exact ⟨rfl, rfl⟩
set_option maxHeartbeats 2000000 in
set_option maxRecDepth 100000 in
theorem load4 (b at_ x0 x1 x2 x3 : Nat) (C : Array Value) (w : World) (hm : Me w b C) (ha : at_ + 4 ≤ 65536) (hw : wordB at_ 4 = true) (hx0 : x0 < 256) (hx1 : x1 < 256) (hx2 : x2 < 256) (hx3 : x3 < 256) (h0 : C[1 + (at_ + 0)]? = some (.int .u8 (x0 : Int))) (h1 : C[1 + (at_ + 1)]? = some (.int .u8 (x1 : Int))) (h2 : C[1 + (at_ + 2)]? = some (.int .u8 (x2 : Int))) (h3 : C[1 + (at_ + 3)]? = some (.int .u8 (x3 : Int))) :
    Calls Tryz.prog 15 #[.pointer (some ⟨b, 0, none⟩), .int .u32 (at_ : Int), .int .i64 4] w fun e w' => e = .returned (.tuple #[.int .u32 ((x0 + x1 * 256 + x2 * 65536 + x3 * 16777216 : Nat) : Int), .int .i64 0]) ∧ w = w' := by
  have KT := Lib.hid hm.there
  have K := Lib.hid (c30 at_ 4)
  rw [hw] at K
  have c0 : w.cell? ⟨b, 1 + at_, none⟩ = some (.int .u8 (x0 : Int)) := by rw [hm.1.cell]; exact h0
  have c1 : w.cell? ⟨b, 1 + (at_ + 1), none⟩ = some (.int .u8 (x1 : Int)) := by rw [hm.1.cell]; exact h1
  have c2 : w.cell? ⟨b, 1 + (at_ + 2), none⟩ = some (.int .u8 (x2 : Int)) := by rw [hm.1.cell]; exact h2
  have c3 : w.cell? ⟨b, 1 + (at_ + 3), none⟩ = some (.int .u8 (x3 : Int)) := by rw [hm.1.cell]; exact h3
  obtain ⟨u1, v1, sh1, ub1, or1, hv1⟩ := stepL x3 x2 (by omega) hx2
  obtain ⟨u2, v2, sh2, ub2, or2, hv2⟩ := stepL v1 x1 (by omega) hx1
  obtain ⟨u3, v3, sh3, ub3, or3, hv3⟩ := stepL v2 x0 (by omega) hx0
  have ho : bits .or .u32 0 (x3 : Int) = (x3 : Int) := by
    have := u32_or_nat 0 x3 (by omega) (by omega)
    simpa using this
  have HF : Hid (v3 = x0 + x1 * 256 + x2 * 65536 + x3 * 16777216) := Lib.hid (by omega)
  have hi0 : (at_ : Int) < 65536 := by omega
  have hi1 : (at_ : Int) + 1 < 65536 := by omega
  have hi2 : (at_ : Int) + 2 < 65536 := by omega
  have hi3 : (at_ : Int) + 3 < 65536 := by omega
  rw [← HF.out]
  clear HF
  clear hm h0 h1 h2 h3 hw ha hv1 hv2 hv3
  have C0 := Lib.hid c0
  have C1 := Lib.hid c1
  have C2 := Lib.hid c2
  have C3 := Lib.hid c3
  have HO := Lib.hid ho
  have SH1 := Lib.hid sh1; have OR1 := Lib.hid or1
  have SH2 := Lib.hid sh2; have OR2 := Lib.hid or2
  have SH3 := Lib.hid sh3; have OR3 := Lib.hid or3
  have I0 := Lib.hid hi0
  have I1 := Lib.hid hi1
  have I2 := Lib.hid hi2
  have I3 := Lib.hid hi3
  clear ho c0 hi0 c1 hi1 c2 hi2 c3 hi3 sh1 or1 sh2 or2 sh3 or3
  go_enter Tryz.func15, Tryz.ntmps15
  go_wp2_with fail
  refine KT.out.mono ?_
  rintro _ _ ⟨rfl, rfl⟩
  go_wp2_with fail
  refine (K.out _).mono ?_
  rintro _ _ ⟨rfl, rfl⟩
  go_wp2_with fail
  go_loop [8, 9] (fun t i => (i = .int .i64 (3) ∧ t = .int .u32 0) ∨ (i = .int .i64 (2) ∧ t = .int .u32 (x3 : Int)) ∨ (i = .int .i64 (1) ∧ t = .int .u32 (v1 : Int)) ∨ (i = .int .i64 (0) ∧ t = .int .u32 (v2 : Int)) ∨ (i = .int .i64 (-1) ∧ t = .int .u32 (v3 : Int))) (fun _ i => (1 + intOf i).toNat)
  case atStart => exact Or.inl ⟨rfl, rfl⟩
  case round =>
    rcases hrel with ⟨rfl, rfl⟩ | ⟨rfl, rfl⟩ | ⟨rfl, rfl⟩ | ⟨rfl, rfl⟩ | ⟨rfl, rfl⟩
    · have c3 := C3.out
      have hi3 := I3.out
      have ho := HO.out
      go_wp2_with fail
      go_round
      case rel => exact Or.inr (Or.inl ⟨rfl, rfl⟩)
      case measure => simp [intOf]
    · have c2 := C2.out
      have hi2 := I2.out
      have sh1 := SH1.out
      have or1 := OR1.out
      go_wp2_with fail
      go_round
      case rel => exact Or.inr (Or.inr (Or.inl ⟨rfl, rfl⟩))
      case measure => simp [intOf]
    · have c1 := C1.out
      have hi1 := I1.out
      have sh2 := SH2.out
      have or2 := OR2.out
      go_wp2_with fail
      go_round
      case rel => exact Or.inr (Or.inr (Or.inr (Or.inl ⟨rfl, rfl⟩)))
      case measure => simp [intOf]
    · have c0 := C0.out
      have hi0 := I0.out
      have sh3 := SH3.out
      have or3 := OR3.out
      go_wp2_with fail
      go_round
      case rel => exact Or.inr (Or.inr (Or.inr (Or.inr (⟨rfl, rfl⟩))))
      case measure => simp [intOf]
    · go_wp2_with fail
      go_ret2
      exact ⟨rfl, rfl⟩
/-- the number of so many bytes -/
def numL (B : Nat → Nat) (a : Nat) : Nat → Nat
  | 1 => B a
  | 2 => B a + B (a + 1) * 256
  | 4 => B a + B (a + 1) * 256 + B (a + 2) * 65536 + B (a + 3) * 16777216
  | _ => 0
theorem mLoad (b at_ : Nat) (s : Int) (B : Nat → Nat) (T : Nat → Bool) (w : World) (hm : Mem w b B T) (hw : wordB at_ s = true) :
    Calls Tryz.prog 15 #[.pointer (some ⟨b, 0, none⟩), .int .u32 (at_ : Int), .int .i64 s] w fun e w' => e = .returned (.tuple #[.int .u32 (numL B at_ s.toNat : Int), .int .i64 0]) ∧ w = w' := by
  obtain ⟨C, hb, r⟩ := hm
  have hm := Mem.me hb r
  have h := hw
  unfold wordB at h
  rw [decide_eq_true_eq] at h
  obtain ⟨hs, h1, h2⟩ := h
  rcases hs with rfl | rfl | rfl
  · exact load1 b at_ (B at_) C w hm (by omega) hw (r.lt _) (r.bytes _ (by omega))
  · exact load2 b at_ (B at_) (B (at_ + 1)) C w hm (by omega) hw (r.lt _) (r.lt _) (r.bytes _ (by omega)) (r.bytes _ (by omega))
  · exact load4 b at_ (B at_) (B (at_ + 1)) (B (at_ + 2)) (B (at_ + 3)) C w hm (by omega) hw (r.lt _) (r.lt _) (r.lt _) (r.lt _) (r.bytes _ (by omega)) (r.bytes _ (by omega)) (r.bytes _ (by omega)) (r.bytes _ (by omega))
end Go.Proofs.YtmanoheofloimaaGreatDoor
