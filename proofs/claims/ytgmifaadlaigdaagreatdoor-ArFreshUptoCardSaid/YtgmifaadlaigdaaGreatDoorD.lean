import Derived.Test.YtgmifaadlaigdaaGreatDoorC
import Derived.Deep.RegionLaw
namespace Go.Proofs.YtgmifaadlaigdaaGreatDoor
open Go.ChangeShapes Go.WideShapes Go.ChangeAt Go.RowKit
set_option linter.unusedVariables false
theorem kA {W w1 : World} (h : Below W.heap.size W w1) : Below W.heap.size W w1.drew := h.drew
theorem kB {W w1 : World} {o : Obj} (h : Below W.heap.size W w1) : Below W.heap.size W (w1.alloc o) := h.alloc h.size _
theorem kC {W w1 : World} {o : Obj} (h : Below W.heap.size W w1) : Below W.heap.size W (w1.alloc o).drew := (h.alloc h.size _).drew
theorem kD {W w1 w2 : World} (h2 : Below w1.heap.size w1 w2) (h : Below W.heap.size W w1) : Below W.heap.size W w2 := h.trans (h2.mono h.size)
/-- string([]byte{96, 10}), where those bytes stand -/
theorem cv2at (w : World) (N : Nat) (h0 : w.cell? ⟨N, 0, none⟩ = some (.int .u8 96)) (h1 : w.cell? ⟨N, 1, none⟩ = some (.int .u8 10)) : (convert 24 9 (.slice (some ⟨N, 0, none⟩) 2 2)).run Tryz.prog w = .ok (.string ⟨#[96, 10]⟩) w := by
  have h := run_convert_bytes_back (P := Tryz.prog) w 24 9 5 ⟨N, 0, none⟩ 2 [96, 10] Tryz.underlying24 Tryz.underlying5 Tryz.underlying9 (fun j hj => by
    have hj2 : j < 2 := by simpa using hj
    have ea : (⟨N, 0, none⟩ : Addr).add j = ⟨N, j, none⟩ := by
      unfold Addr.add
      split <;> simp_all
    rw [ea]
    rcases (by omega : j = 0 ∨ j = 1) with rfl | rfl
    · exact h0
    · exact h1)
  exact h
theorem cv2b {w w1 : World} (hb : Below (w.alloc (.cells #[.int .u8 96, .int .u8 10] 5)).heap.size (w.alloc (.cells #[.int .u8 96, .int .u8 10] 5)) w1) : (convert 24 9 (.slice (some ⟨w.heap.size, 0, none⟩) 2 2)).run Tryz.prog w1 = .ok (.string ⟨#[96, 10]⟩) w1 :=
  cv2at w1 _ (by rw [hb.cell (p := ⟨w.heap.size, 0, none⟩) (by simp)]; exact World.cell?_alloc_at _ _ _ _ (by simp)) (by rw [hb.cell (p := ⟨w.heap.size, 1, none⟩) (by simp)]; exact World.cell?_alloc_at _ _ _ _ (by simp))
theorem cv2c {w w1 : World} (hb : Below (w.alloc (.cells #[.int .u8 96, .int .u8 10] 5)).drew.heap.size (w.alloc (.cells #[.int .u8 96, .int .u8 10] 5)).drew w1) : (convert 24 9 (.slice (some ⟨w.heap.size, 0, none⟩) 2 2)).run Tryz.prog w1 = .ok (.string ⟨#[96, 10]⟩) w1 :=
  cv2b (((Below.refl _ _).drew).trans hb)
set_option maxRecDepth 100000 in
set_option maxHeartbeats 4000000 in
theorem c31 (s : ByteArray) (n : Nat) (hs : s.size ≤ 16777216) (hn : n ≤ 16777215) (w : World) : Calls Tryz.prog 31 #[.string s, .int .i64 (n : Int)] w fun e w' => e = .returned (.string (headB s n)) ∧ Below w.heap.size w w' := by
  have K1 : Hid (∀ w, Calls Tryz.prog 48 #[.string s, .int .i64 16] w fun e w' => e = .returned (.string (wideB s 16)) ∧ w = w') := Lib.hid (c48 s 16 hs (by decide))
  have K2 : Hid (∀ w, Calls Tryz.prog 48 #[.string ⟨#[48]⟩, .int .i64 12] w fun e w' => e = .returned (.string (wideB ⟨#[48]⟩ 12)) ∧ w = w') := Lib.hid (c48 ⟨#[48]⟩ 12 (by decide) (by decide))
  have K3 : Hid (∀ w, Calls Tryz.prog 48 #[.string ⟨#[48]⟩, .int .i64 6] w fun e w' => e = .returned (.string (wideB ⟨#[48]⟩ 6)) ∧ w = w') := Lib.hid (c48 ⟨#[48]⟩ 6 (by decide) (by decide))
  have K4 : Hid (∀ w, Calls Tryz.prog 48 #[.string ⟨#[48]⟩, .int .i64 8] w fun e w' => e = .returned (.string (wideB ⟨#[48]⟩ 8)) ∧ w = w') := Lib.hid (c48 ⟨#[48]⟩ 8 (by decide) (by decide))
  have K5 := Lib.hid (c49 n (by omega))
  have hts := (tens_size n).2
  have K6 : Hid (∀ w, Calls Tryz.prog 48 #[.string (tens n), .int .i64 10] w fun e w' => e = .returned (.string (wideB (tens n) 10)) ∧ w = w') := Lib.hid (c48 (tens n) 10 (by omega) (by decide))
  have HH : Hid (headB s n = wideB s 16 ++ wideB ⟨#[48]⟩ 12 ++ wideB ⟨#[48]⟩ 6 ++ wideB ⟨#[48]⟩ 6 ++ wideB ⟨#[48]⟩ 8 ++ wideB (tens n) 10 ++ ⟨#[96, 10]⟩) := Lib.hid rfl
  have z1 := wideB_size s 16
  have z2 : (wideB ⟨#[48]⟩ 12).size = 12 := wideB_size _ _
  have z3 : (wideB ⟨#[48]⟩ 6).size = 6 := wideB_size _ _
  have z4 : (wideB ⟨#[48]⟩ 8).size = 8 := wideB_size _ _
  have z6 := wideB_size (tens n) 10
  have z1' : (wideB s 16).size ≤ 16777232 := by omega
  have z6' : (wideB (tens n) 10).size ≤ 16777232 := by omega
  have z7 : (⟨#[96, 10]⟩ : ByteArray).size = 2 := rfl
  have e1 : ¬ (9223372036854775807 < (wideB s 16).size + (wideB ⟨#[48]⟩ 12).size) := by omega
  have e2 : ¬ (9223372036854775807 < (wideB s 16).size + (wideB ⟨#[48]⟩ 12).size + (wideB ⟨#[48]⟩ 6).size) := by omega
  have e3 : ¬ (9223372036854775807 < (wideB s 16).size + (wideB ⟨#[48]⟩ 12).size + (wideB ⟨#[48]⟩ 6).size + (wideB ⟨#[48]⟩ 6).size) := by omega
  have e4 : ¬ (9223372036854775807 < (wideB s 16).size + (wideB ⟨#[48]⟩ 12).size + (wideB ⟨#[48]⟩ 6).size + (wideB ⟨#[48]⟩ 6).size + (wideB ⟨#[48]⟩ 8).size) := by omega
  have e5 : ¬ (9223372036854775807 < (wideB s 16).size + (wideB ⟨#[48]⟩ 12).size + (wideB ⟨#[48]⟩ 6).size + (wideB ⟨#[48]⟩ 6).size + (wideB ⟨#[48]⟩ 8).size + (wideB (tens n) 10).size) := by omega
  have e6 : ¬ (9223372036854775807 < (wideB s 16).size + (wideB ⟨#[48]⟩ 12).size + (wideB ⟨#[48]⟩ 6).size + (wideB ⟨#[48]⟩ 6).size + (wideB ⟨#[48]⟩ 8).size + (wideB (tens n) 10).size + 2) := by omega
  clear z1 z6 z1' z6' z2 z3 z4 z7
  generalize wideB s 16 = q1 at *
  generalize wideB ⟨#[48]⟩ 12 = q2 at *
  generalize wideB ⟨#[48]⟩ 6 = q3 at *
  generalize wideB ⟨#[48]⟩ 8 = q4 at *
  generalize wideB (tens n) 10 = q6 at *
  generalize tens n = tn at *
  have hcv := cv2
  have hcv2 := fun w : World => cv2c (w := w) (Below.refl _ _)
  have hcv3 := fun w : World => cv2b (w := w.drew) (Below.refl _ _)
  have hcv4 := fun w : World => cv2c (w := w.drew) (Below.refl _ _)
  have e0 : ∀ w : World, w.drew.heap.size = w.heap.size := fun _ => rfl
  simp only [e0] at hcv3 hcv4
  clear e0
  have HT : Below w.heap.size w w.drew := kA (Below.refl _ _)
  go_enter Tryz.func31, Tryz.ntmps31
  go_wp2_with fail
  go_region_law (first | (go_simp; go_at_call 48; (with_reducible refine (K1.out _).mono ?_); rintro _ _ ⟨rfl, rfl⟩) | (go_simp; go_at_call 48; (with_reducible refine (K2.out _).mono ?_); rintro _ _ ⟨rfl, rfl⟩) | (go_simp; go_at_call 48; (with_reducible refine (K3.out _).mono ?_); rintro _ _ ⟨rfl, rfl⟩) | (go_simp; go_at_call 48; (with_reducible refine (K4.out _).mono ?_); rintro _ _ ⟨rfl, rfl⟩) | (go_simp; go_at_call 48; (with_reducible refine (K6.out _).mono ?_); rintro _ _ ⟨rfl, rfl⟩) | (go_simp; go_at_call 49; (with_reducible refine (K5.out _).mono ?_); rintro _ _ ⟨rfl, hb5⟩; first | (have hcv5 := cv2b hb5) | (have hcv5 := cv2c hb5) | skip))
  all_goals
    go_wp2_with fail
    go_ret
    refine ⟨by rw [HH.out]; rfl, ?_⟩
    first | exact kC (Below.refl _ _) | exact kB (kA (Below.refl _ _)) | exact kD hb5 (kC (Below.refl _ _)) | exact kD hb5 (kB (kA (Below.refl _ _))) | exact kB (kD hb5 (kA (Below.refl _ _)))
end Go.Proofs.YtgmifaadlaigdaaGreatDoor
