import Derived.Test.YtleabbhoedddlaaKCd
namespace Go.Proofs.Ytleabbhoedddlaa.Cp
open Go.ChangeShapes Go.WideShapes Go.ChangeAt Go.RowKit
set_option linter.unusedVariables false
theorem bd (a k : Nat) (ha : a < 18446744073709551616) (hk : 2 ^ k - 1 < 18446744073709551616) (P : Int) (hP : P = ((2 ^ k - 1 : Nat) : Int)) : bits .and .u64 (a : Int) P = ((a % 2 ^ k : Nat) : Int) := by
  subst hP
  rw [u64_and_nat a _ ha hk, Nat.and_two_pow_sub_one_eq_mod]
set_option maxHeartbeats 8000000 in
theorem cb13w (x0 x1 x2 x3 x4 x5 x6 x7 NA NM P D1 Y D2 E D3 B D4 T : Nat) (tag z : Bool) (w : World) (hA : NA < 4294967296) (hM : NM < 4294967296)
    (HQ : ∀ w : World, (Op.equalIn 10000 58 (arr x0 x1 x2 x3 x4 x5 x6 x7) (.agg #[.int .u8 0, .int .u8 0, .int .u8 0, .int .u8 0, .int .u8 0, .int .u8 0, .int .u8 0, .int .u8 0])).run Try.prog w = .ok z w)
    (hz : z = true → NA = 0 ∧ P = 0 ∧ Y = 0 ∧ E = 0 ∧ B = 0 ∧ T = 0)
    (K45 : ∀ (w : World) (g : Nat), Blk w g 58 #[.int .u8 (x0 : Int), .int .u8 (x1 : Int), .int .u8 (x2 : Int), .int .u8 (x3 : Int), .int .u8 (x4 : Int), .int .u8 (x5 : Int), .int .u8 (x6 : Int), .int .u8 (x7 : Int)] →
      Calls Try.prog 39 #[.slice (some ⟨g, 0, none⟩) 8 8, .int .i64 0, .int .i64 4] w (fun e w' => e = .returned (.tuple #[.int .u64 (NA : Int), .int .i64 0]) ∧ w = w') ∧
      Calls Try.prog 39 #[.slice (some ⟨g, 0, none⟩) 8 8, .int .i64 4, .int .i64 4] w (fun e w' => e = .returned (.tuple #[.int .u64 (NM : Int), .int .i64 0]) ∧ w = w'))
    (l1 : P < 128) (l2 : Y < 8) (l3 : E < 16) (l4 : B < 512) (l5 : T < 512)
    (f1 : bits .and .u64 (NM : Int) 127 = (P : Int)) (f2 : (NM : Int) / 128 = (D1 : Int)) (f3 : bits .and .u64 (D1 : Int) 7 = (Y : Int)) (f4 : (NM : Int) / 1024 = (D2 : Int)) (f5 : bits .and .u64 (D2 : Int) 15 = (E : Int)) (f6 : (NM : Int) / 16384 = (D3 : Int)) (f7 : bits .and .u64 (D3 : Int) 511 = (B : Int)) (f8 : (NM : Int) / 8388608 = (D4 : Int)) (f9 : bits .and .u64 (D4 : Int) 511 = (T : Int)) :
    Calls Try.prog 34 #[arr x0 x1 x2 x3 x4 x5 x6 x7, .bool tag] w fun en w' => en = .returned (cp tag NA P Y E B T) ∧ Below w.heap.size w w' := by
  have hst := B2.start w #[.int .u8 (x0 : Int), .int .u8 (x1 : Int), .int .u8 (x2 : Int), .int .u8 (x3 : Int), .int .u8 (x4 : Int), .int .u8 (x5 : Int), .int .u8 (x6 : Int), .int .u8 (x7 : Int)]
  have HS := Lib.hid hst
  have HZ := Lib.hid hz
  have HK := Lib.hid K45
  clear hst hz K45
  cases z with
  | true =>
    obtain ⟨rfl, rfl, rfl, rfl, rfl, rfl⟩ := HZ.out rfl
    clear f1 f2 f3 f4 f5 f6 f7 f8 f9 HZ HK
    go_enter Try.func34, Try.ntmps34
    go_wp2_with fail
    exact bodyPost_ret (v := cp tag 0 0 0 0 0 0) (by simp [results, Try.results34, go_sem]) rfl ⟨rfl, ((Below.refl _ _).alloc (Nat.le_refl _) _).alloc (by simp) _⟩
  | false =>
    clear HZ
    go_enter Try.func34, Try.ntmps34
    go_wp2_with fail
    refine (HK.out _ _ HS.out.2.1).1.mono ?_
    rintro _ _ ⟨rfl, rfl⟩
    go_wp2_with fail
    refine (HK.out _ _ HS.out.2.1).2.mono ?_
    rintro _ _ ⟨rfl, rfl⟩
    clear HK HQ
    go_wp2_with fail
    exact bodyPost_ret (v := cp tag NA P Y E B T) (by simp [results, Try.results34, go_sem]) rfl ⟨rfl, ((Below.refl _ _).alloc (Nat.le_refl _) _).alloc (by simp) _⟩
theorem cb13 (x0 x1 x2 x3 x4 x5 x6 x7 : Nat) (tag : Bool) (h0 : x0 < 256) (h1 : x1 < 256) (h2 : x2 < 256) (h3 : x3 < 256) (h4 : x4 < 256) (h5 : x5 < 256) (h6 : x6 < 256) (h7 : x7 < 256) (w : World) :
    Calls Try.prog 34 #[arr x0 x1 x2 x3 x4 x5 x6 x7, .bool tag] w fun en w' => en = .returned (cp tag (num4 x0 x1 x2 x3) (num4 x4 x5 x6 x7 % 128) (num4 x4 x5 x6 x7 / 128 % 8) (num4 x4 x5 x6 x7 / 1024 % 16) (num4 x4 x5 x6 x7 / 16384 % 512) (num4 x4 x5 x6 x7 / 8388608 % 512)) ∧ Below w.heap.size w w' := by
  have hA := num4_lt h0 h1 h2 h3
  have hM := num4_lt h4 h5 h6 h7
  refine cb13w x0 x1 x2 x3 x4 x5 x6 x7 _ (num4 x4 x5 x6 x7) _ (num4 x4 x5 x6 x7 / 128) _ (num4 x4 x5 x6 x7 / 1024) _ (num4 x4 x5 x6 x7 / 16384) _ (num4 x4 x5 x6 x7 / 8388608) _ tag _ w hA hM (eqArr x0 x1 x2 x3 x4 x5 x6 x7 0 0 0 0 0 0 0 0) ?_ (fun w g h => k45 x0 x1 x2 x3 x4 x5 x6 x7 g h0 h1 h2 h3 h4 h5 h6 h7 w h) (by omega) (by omega) (by omega) (by omega) (by omega)
    (bd _ 7 (by omega) (by omega) 127 rfl) rfl (bd _ 3 (by omega) (by omega) 7 rfl) rfl (bd _ 4 (by omega) (by omega) 15 rfl) rfl (bd _ 9 (by omega) (by omega) 511 rfl) rfl (bd _ 9 (by omega) (by omega) 511 rfl)
  intro h
  simp only [decide_eq_true_eq] at h
  obtain ⟨rfl, rfl, rfl, rfl, rfl, rfl, rfl, rfl⟩ := h
  simp [num4]
end Go.Proofs.Ytleabbhoedddlaa.Cp
