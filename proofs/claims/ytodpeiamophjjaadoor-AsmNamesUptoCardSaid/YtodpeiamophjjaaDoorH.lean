import Derived.Test.YtodpeiamophjjaaDoorG
namespace Go.Proofs.YtodpeiamophjjaaDoor
open Go.ChangeShapes Go.WideShapes Go.ChangeAt Go.RowKit
open In (i32)
set_option linter.unusedVariables false
theorem p1N (w : World) (N : Nat) (hN : w.heap.size = N) (hG : Gl2 w) : Calls Tryd.prog 7 #[.int .u32 0, .slice (some ⟨N, 0, none⟩) 1 1] (w.alloc (.cells #[.string ⟨#[97]⟩, .int .u8 5, .int .u8 0, .int .u8 0, .int .u8 0, .int .i32 0, .string ⟨#[97]⟩] 37))
    fun e w' => ∃ A c, e = .returned (.tuple #[.slice A 1 c, .int .i64 0]) ∧ Us w' A 1 (fun _ => 99) ∧ Below w.heap.size w w' := by subst hN; exact p1 w hG
theorem p2N (w : World) (N : Nat) (hN : w.heap.size = N) (hG : Gl2 w) : Calls Tryd.prog 7 #[.int .u32 0, .slice (some ⟨N, 0, none⟩) 1 1] (w.alloc (.cells #[.string ⟨#[]⟩, .int .u8 21, .int .u8 0, .int .u8 0, .int .u8 0, .int .i32 0, .string ⟨#[97]⟩] 37))
    fun e w' => e = .returned (.tuple #[.slice none 0 0, .int .i64 6]) ∧ Below w.heap.size w w' := by subst hN; exact p2 w hG
theorem p3N (w : World) (N : Nat) (hN : w.heap.size = N) (hG : Gl2 w) : Calls Tryd.prog 7 #[.int .u32 0, .slice (some ⟨N, 0, none⟩) 1 1] (w.alloc (.cells #[.string ⟨#[]⟩, .int .u8 5, .int .u8 0, .int .u8 0, .int .u8 0, .int .i32 0, .string ⟨#[98]⟩] 37))
    fun e w' => e = .returned (.tuple #[.slice none 0 0, .int .i64 6]) ∧ Below w.heap.size w w' := by subst hN; exact p3 w hG
theorem p4N (w : World) (N : Nat) (hN : w.heap.size = N) : Calls Tryd.prog 10 #[.int .u32 8, .slice (some ⟨N, 0, none⟩) 2 2, .string ⟨#[98]⟩] (w.alloc (.cells #[.string ⟨#[97]⟩, .int .u8 21, .int .u8 0, .int .u8 0, .int .u8 0, .int .i32 0, .string ⟨#[]⟩, .string ⟨#[98]⟩, .int .u8 21, .int .u8 0, .int .u8 0, .int .u8 0, .int .i32 0, .string ⟨#[]⟩] 37))
    fun e w' => e = .returned (.tuple #[.int .u32 12, .int .i64 0]) ∧ Below w.heap.size w w' := by subst hN; exact p4 w
/-- the two instructions of works -/
def T2 (N : Nat) (w : World) : Prop := N + 1 < w.heap.size ∧ w.cell? ⟨N, 0, none⟩ = some (.int .u8 5) ∧ w.cell? ⟨N, 1, none⟩ = some (.int .u8 0) ∧ w.cell? ⟨N, 2, none⟩ = some (.int .u8 0) ∧ w.cell? ⟨N, 3, none⟩ = some (.int .u8 0) ∧ w.cell? ⟨N, 4, none⟩ = some (.int .i32 0) ∧
  w.cell? ⟨N + 1, 0, none⟩ = some (.int .u8 21) ∧ w.cell? ⟨N + 1, 1, none⟩ = some (.int .u8 0) ∧ w.cell? ⟨N + 1, 2, none⟩ = some (.int .u8 0) ∧ w.cell? ⟨N + 1, 3, none⟩ = some (.int .u8 0) ∧ w.cell? ⟨N + 1, 4, none⟩ = some (.int .i32 0)
theorem T2.below {N : Nat} {w w' : World} (h : T2 N w) (hb : Below w.heap.size w w') : T2 N w' := by
  obtain ⟨hN, a0, a1, a2, a3, a4, b0, b1, b2, b3, b4⟩ := h
  have z : ∀ j, w'.cell? ⟨N, j, none⟩ = w.cell? ⟨N, j, none⟩ := fun j => hb.cell (p := ⟨N, j, none⟩) (by show N < _; omega)
  have y : ∀ j, w'.cell? ⟨N + 1, j, none⟩ = w.cell? ⟨N + 1, j, none⟩ := fun j => hb.cell (p := ⟨N + 1, j, none⟩) hN
  exact ⟨Nat.lt_of_lt_of_le hN hb.size, by rw [z]; exact a0, by rw [z]; exact a1, by rw [z]; exact a2, by rw [z]; exact a3, by rw [z]; exact a4, by rw [y]; exact b0, by rw [y]; exact b1, by rw [y]; exact b2, by rw [y]; exact b3, by rw [y]; exact b4⟩
theorem t2_start (w : World) : T2 w.heap.size ((w.alloc (.cells #[.int .u8 5, .int .u8 0, .int .u8 0, .int .u8 0, .int .i32 0] 35)).alloc (.cells #[.int .u8 21, .int .u8 0, .int .u8 0, .int .u8 0, .int .i32 0] 35)) := by
  have h1 : ∀ j : Nat, ((w.alloc (.cells #[.int .u8 5, .int .u8 0, .int .u8 0, .int .u8 0, .int .i32 0] 35)).alloc (.cells #[.int .u8 21, .int .u8 0, .int .u8 0, .int .u8 0, .int .i32 0] 35)).cell? ⟨w.heap.size, j, none⟩ = (w.alloc (.cells #[.int .u8 5, .int .u8 0, .int .u8 0, .int .u8 0, .int .i32 0] 35)).cell? ⟨w.heap.size, j, none⟩ :=
    fun j => ((Below.refl _ _).alloc (Nat.le_refl _) _).cell (B := (w.alloc (.cells #[.int .u8 5, .int .u8 0, .int .u8 0, .int .u8 0, .int .i32 0] 35)).heap.size) (p := ⟨w.heap.size, j, none⟩) (by simp)
  refine ⟨by simp, ?_, ?_, ?_, ?_, ?_, ?_, ?_, ?_, ?_, ?_⟩
  · rw [h1]; exact World.cell?_alloc_at _ _ _ _ (by simp)
  · rw [h1]; exact World.cell?_alloc_at _ _ _ _ (by simp)
  · rw [h1]; exact World.cell?_alloc_at _ _ _ _ (by simp)
  · rw [h1]; exact World.cell?_alloc_at _ _ _ _ (by simp)
  · rw [h1]; exact World.cell?_alloc_at _ _ _ _ (by simp)
  all_goals exact World.cell?_alloc_at _ _ _ _ (by simp)
set_option maxRecDepth 100000 in
set_option maxHeartbeats 8000000 in
theorem works (w : World) (hG : Gl2 w) : Calls Tryd.prog 6 #[] w fun e w' => e = .returned (.bool true) ∧ Below w.heap.size w w' := by
  have HG := Lib.hid hG
  have HT0 := Lib.hid (t2_start w)
  have HB0 : Hid (Below w.heap.size w ((w.alloc (.cells #[.int .u8 5, .int .u8 0, .int .u8 0, .int .u8 0, .int .i32 0] 35)).alloc (.cells #[.int .u8 21, .int .u8 0, .int .u8 0, .int .u8 0, .int .i32 0] 35))) := Lib.hid (((Below.refl _ _).alloc (Nat.le_refl _) _).alloc (by simp) _)
  clear hG
  go_enter Tryd.func6, Tryd.ntmps6
  go_wp2_with fail
  refine (p1N _ _ (by simp) (HG.out.below HB0.out)).mono ?_
  rintro _ w1 ⟨A1, c1, rfl, hu, b1⟩
  have HU := Lib.hid hu
  have HB1 := Lib.hid (HB0.out.trans (b1.mono HB0.out.size))
  have HT1 := Lib.hid (HT0.out.below b1)
  clear hu b1
  obtain ⟨hN, a0, a1, a2, a3, a4, d0, d1, d2, d3, d4⟩ := HT1.out
  go_wp2_with fail
  refine (p2N _ _ (by simp) (HG.out.below HB1.out)).mono ?_
  rintro _ w2 ⟨rfl, b2⟩
  have HU2 := Lib.hid (HU.out.below b2)
  have HB2 := Lib.hid (HB1.out.trans (b2.mono HB1.out.size))
  have HT2 := Lib.hid (HT1.out.below b2)
  clear b2 hN a0 a1 a2 a3 a4 d0 d1 d2 d3 d4
  obtain ⟨hN, a0, a1, a2, a3, a4, d0, d1, d2, d3, d4⟩ := HT2.out
  go_wp2_with fail
  refine (p3N _ _ (by simp) (HG.out.below HB2.out)).mono ?_
  rintro _ w3 ⟨rfl, b3⟩
  have HU3 := Lib.hid (HU2.out.below b3)
  have HB3 := Lib.hid (HB2.out.trans (b3.mono HB2.out.size))
  have HT3 := Lib.hid (HT2.out.below b3)
  clear b3 hN a0 a1 a2 a3 a4 d0 d1 d2 d3 d4
  obtain ⟨hN, a0, a1, a2, a3, a4, d0, d1, d2, d3, d4⟩ := HT3.out
  go_wp2_with fail
  refine (p4N _ _ (by simp)).mono ?_
  rintro _ w4 ⟨rfl, b4⟩
  have HB4 := Lib.hid (HB3.out.trans (b4.mono HB3.out.size))
  have hu4 := HU3.out.below b4
  have K8 : Hid (Calls Tryd.prog 8 #[.slice A1 1 c1, .slice (some ⟨w4.heap.size, 0, none⟩) 1 1] (w4.alloc (.cells #[.int .u32 99] 22)) fun e w' => e = .returned (.bool true) ∧ ∃ q, w' = (w4.alloc (.cells #[.int .u32 99] 22)).drewN q) :=
    Lib.hid (c8 A1 _ 1 c1 1 (fun _ => 99) (fun _ => 99) _ (by decide) (hu4.below ((Below.refl _ _).alloc (Nat.le_refl _) _)) (fun _ => ⟨w4.heap.size, 0, rfl, by simp, fun k hk => by
      obtain rfl : k = 0 := by omega
      exact World.cell?_alloc_at _ _ _ _ (by simp)⟩) (fun _ _ => rfl))
  clear b4 hu4 hN a0 a1 a2 a3 a4 d0 d1 d2 d3 d4
  go_wp2_with fail
  refine (K8.out).mono ?_
  rintro _ w5 ⟨rfl, q, rfl⟩
  go_wp2_with fail
  go_ret
  exact ⟨rfl, below_drewN (HB4.out.alloc HB4.out.size _) q⟩
end Go.Proofs.YtodpeiamophjjaaDoor
