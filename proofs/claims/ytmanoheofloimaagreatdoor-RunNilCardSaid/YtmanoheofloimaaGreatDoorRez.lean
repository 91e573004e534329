import Derived.Test.YtmanoheofloimaaGreatDoorRdz
namespace Go.Proofs.YtmanoheofloimaaGreatDoor
open Go.ChangeShapes Go.WideShapes Go.ChangeAt Go.RowKit
set_option linter.unusedVariables false
theorem loadI (w : World) (Bs : Nat) (hl : Bs < w.heap.size) (hB : ∀ k, k < 65280 → w.cell? ⟨Bs, k, none⟩ = some (.int .u8 0)) :
    Calls Tryz.prog 22 #[.agg (im (.slice (some ⟨Bs, 0, none⟩) 65280 65280)).toArray] w fun e w' => ∃ b, e = .returned (.tuple #[.pointer (some ⟨b, 0, none⟩), .int .i64 0]) ∧ Mem w' b (fun _ => 0) (fun _ => false) ∧ Below w.heap.size w w' ∧ w.heap.size ≤ b := by
  obtain ⟨IA, hIA⟩ : ∃ IA, (im (.slice (some ⟨Bs, 0, none⟩) 65280 65280)).toArray = IA := ⟨_, rfl⟩
  have h1 : IA[1]? = some (.slice (some ⟨Bs, 0, none⟩) 65280 65280) := by rw [← hIA, im_1]
  have h2 : IA[2]? = some (.slice none 0 0) := by rw [← hIA, im_2]
  rw [hIA]
  have hb : Blk (w.alloc (.cells IA 69)) w.heap.size 69 IA := Blk.new w 69 IA
  have c1 : (w.alloc (.cells IA 69)).cell? ⟨w.heap.size, 1, none⟩ = some (.slice (some ⟨Bs, 0, none⟩) 65280 65280) := by rw [hb.cell, h1]
  have c2 : (w.alloc (.cells IA 69)).cell? ⟨w.heap.size, 2, none⟩ = some (.slice none 0 0) := by rw [hb.cell, h2]
  have HB := Lib.hid hB
  have H1 := Lib.hid h1
  have H2 := Lib.hid h2
  have HBL := Lib.hid hb
  have HL := Lib.hid hl
  clear hIA hB hb h1 h2 hl
  go_enter Tryz.func22, Tryz.ntmps22
  go_wp2_with fail
  refine (rise0 _).mono ?_
  rintro _ _ ⟨rfl, rfl⟩
  go_wp2_with fail
  refine (mNew _).mono ?_
  rintro _ w2 ⟨rfl, hb2, hs2, hM2⟩
  rw [World.size_alloc] at hb2 hs2 hM2
  have HB2 := Lib.hid hb2
  have HS2 := Lib.hid hs2
  have HM2 := Lib.hid hM2
  have HB2L := Lib.hid (HBL.out.below hb2 (Nat.lt_succ_self _))
  clear hb2 hs2 hM2 c1 c2
  rw [World.size_alloc]
  go_wp2_with fail
  refine (writer0 _ _).mono ?_
  rintro _ w3 ⟨rfl, hw3⟩
  rw [HS2.out]
  have hb3 : Below w2.heap.size w2 w3 := by rw [hw3]; exact ((Below.refl _ _).alloc (Nat.le_refl _) _).alloc (by simp) _
  have hm3 : Blk w3 (w.heap.size + 1 + 1) 26 #[.pointer (some ⟨w.heap.size + 1, 0, none⟩)] := by
    rw [hw3, ← HS2.out]; exact (Blk.new w2 26 _).alloc _
  have ha3 : Blk w3 (w.heap.size + 1 + 1 + 1) 22 #[.int .u32 0] := by
    have := Blk.new (w2.alloc (.cells #[.pointer (some ⟨w.heap.size + 1, 0, none⟩)] 26)) 22 #[.int .u32 0]
    rw [World.size_alloc, HS2.out] at this
    rw [hw3]; exact this
  have hs3 : w3.heap.size = w.heap.size + 1 + 1 + 1 + 1 := by rw [hw3]; simp [HS2.out]
  have hM3 : Mem w3 (w.heap.size + 1) (fun _ => 0) (fun _ => false) := HM2.out.below hb3 (by rw [HS2.out]; omega)
  have hI3 : Blk w3 w.heap.size 69 IA := HB2L.out.below hb3 (by rw [HS2.out]; omega)
  have hw : Below w.heap.size w w3 := (((Below.refl _ w).alloc (Nat.le_refl _) _).trans (HB2.out.mono (Nat.le_succ _))).trans (hb3.mono (by rw [HS2.out]; omega))
  have hB3 : ∀ k, k < 65280 → w3.cell? ⟨Bs, k, none⟩ = some (.int .u8 0) := fun k hk => by
    rw [cell_same (hw.block Bs HL.out)]; exact HB.out k hk
  have c13 : w3.cell? ⟨w.heap.size, 1, none⟩ = some (.slice (some ⟨Bs, 0, none⟩) 65280 65280) := by rw [hI3.cell, H1.out]
  have HW := Lib.hid hw; have HM3 := Lib.hid hM3; have HI3 := Lib.hid hI3; have HS3 := Lib.hid hs3; have Hm3 := Lib.hid hm3; have Ha3 := Lib.hid ha3; have HB3 := Lib.hid hB3
  clear hw3 hb3 hm3 ha3 hs3 hM3 hI3 hw hB3
  go_wp2_with fail
  refine (writes _ _ _ Bs _ Hm3.out Ha3.out HM3.out HB3.out (by have := HL.out; rw [HS3.out]; omega) (by omega) (by omega) (by have := HL.out; omega) (by omega) (by have := HL.out; omega)).mono ?_
  rintro _ w4 ⟨rfl, hM4, ho4⟩
  have hI4 : Blk w4 w.heap.size 69 IA := (ho4.2 w.heap.size (by omega) (by omega) (by rw [HS3.out]; omega)).trans HI3.out
  have c24 : w4.cell? ⟨w.heap.size, 2, none⟩ = some (.slice none 0 0) := by rw [hI4.cell, H2.out]
  have hw4 : Below w.heap.size w w4 := HW.out.trans (ho4.1 _ (by omega) (by omega) (by rw [HS3.out]; omega))
  have HW4 := Lib.hid hw4; have HM4 := Lib.hid hM4
  clear c13 ho4 hI4 hw4 hM4
  go_wp2_with fail
  go_loopw [30] (fun i wr => i = .int .i64 0 ∧ wr = w4) (fun _ _ => 0)
  case atStart => exact ⟨rfl, rfl⟩
  case round =>
    obtain ⟨rfl, rfl⟩ := hrel
    go_wp2_with fail
    go_ret2
    exact ⟨_, rfl, HM4.out, HW4.out, by omega⟩
end Go.Proofs.YtmanoheofloimaaGreatDoor
