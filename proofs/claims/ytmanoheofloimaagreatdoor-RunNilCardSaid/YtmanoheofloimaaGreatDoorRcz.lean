import Derived.Test.YtmanoheofloimaaGreatDoorGh
namespace Go.Proofs.YtmanoheofloimaaGreatDoor
open Go.ChangeShapes Go.WideShapes Go.ChangeAt Go.RowKit
set_option linter.unusedVariables false
theorem stB0 (a : Nat) : stB (fun _ => 0) a 1 0 = fun _ => 0 := by
  funext i
  unfold stB
  split
  · unfold bt; simp
  · rfl
theorem stT0 (a : Nat) : stT (fun _ => false) a false = fun _ => false := by
  funext i
  unfold stT
  split <;> rfl
/-- what lies outside two blocks stays -/
def Out2 (x y : Nat) (w w' : World) : Prop := (∀ B, B ≤ x → B ≤ y → B ≤ w.heap.size → Below B w w') ∧ ∀ g, g ≠ x → g ≠ y → g < w.heap.size → w'.heap[g]? = w.heap[g]?
theorem Out2.refl (x y : Nat) (w : World) : Out2 x y w w := ⟨fun _ _ _ _ => Below.refl _ _, fun _ _ _ _ => rfl⟩
theorem Out2.size {x y : Nat} {w w' : World} (h : Out2 x y w w') : w.heap.size ≤ w'.heap.size := (h.1 0 (Nat.zero_le _) (Nat.zero_le _) (Nat.zero_le _)).size
theorem Out2.only {x y : Nat} {w w1 w2 : World} (h : Out2 x y w w1) (k : Only x w1 w2) : Out2 x y w w2 :=
  ⟨fun B a b c => (h.1 B a b c).trans (k.1 B a (Nat.le_trans c h.size)), fun g a b c => (k.2 g a (Nat.lt_of_lt_of_le c h.size)).trans (h.2 g a b c)⟩
theorem Out2.set_ {x y : Nat} {w w1 : World} (h : Out2 x y w w1) (i : Nat) (u : Value) : Out2 x y w (w1.setCell ⟨y, i, none⟩ u) :=
  ⟨fun B a b c => (h.1 B a b c).setCell (p := ⟨y, i, none⟩) b _, fun g a b c => (Below.heap_setCell w1 ⟨y, i, none⟩ u g b).trans (h.2 g a b c)⟩
theorem cell_same {w w' : World} {g : Nat} (h : w'.heap[g]? = w.heap[g]?) (i : Nat) : w'.cell? ⟨g, i, none⟩ = w.cell? ⟨g, i, none⟩ := by
  unfold World.cell?
  simp only [h]
structure WrI (w : World) (mb ab Bs b k : Nat) (i : Value) (wr : World) : Prop where
  i : i = .int .i64 (k : Int)
  le : k ≤ 65280
  m : Blk wr mb 26 #[.pointer (some ⟨b, 0, none⟩)]
  a : Blk wr ab 22 #[.int .u32 (k : Int)]
  M : Mem wr b (fun _ => 0) (fun _ => false)
  B : ∀ k, k < 65280 → wr.cell? ⟨Bs, k, none⟩ = some (.int .u8 0)
  lt : Bs < wr.heap.size
  o : Out2 b ab w wr
theorem writes (w : World) (mb ab Bs b : Nat) (hm : Blk w mb 26 #[.pointer (some ⟨b, 0, none⟩)]) (ha : Blk w ab 22 #[.int .u32 0]) (hM : Mem w b (fun _ => 0) (fun _ => false)) (hB : ∀ k, k < 65280 → w.cell? ⟨Bs, k, none⟩ = some (.int .u8 0))
    (hl : Bs < w.heap.size) (h1 : mb ≠ b) (h2 : ab ≠ b) (h3 : Bs ≠ b) (h4 : mb ≠ ab) (h5 : Bs ≠ ab) :
    Calls Tryz.prog 48 #[.slice (some ⟨Bs, 0, none⟩) 65280 65280, .pointer (some ⟨mb, 0, none⟩), .pointer (some ⟨ab, 0, none⟩)] w fun e w' => e = .returned (.tuple #[]) ∧ Mem w' b (fun _ => 0) (fun _ => false) ∧ Out2 b ab w w' := by
  have I0 : WrI w mb ab Bs b 0 (.int .i64 0) w := ⟨rfl, by omega, hm, ha, hM, hB, hl, Out2.refl _ _ _⟩
  have H0 := Lib.hid I0
  clear I0 hm ha hM hB hl
  go_enter Tryz.func48, Tryz.ntmps48
  go_wp2_with fail
  go_loopw [5, 8] (fun _ i wr => ∃ k, WrI w mb ab Bs b k i wr) (fun _ i _ => 65280 - (intOf i).toNat)
  case atStart => exact ⟨0, H0.out⟩
  case round =>
    obtain ⟨k, h⟩ := hrel
    obtain rfl := h.i
    by_cases hk : k < 65280
    · have hlt : (k : Int) < 65280 := by omega
      have c0 := h.B k hk
      have cm : wr.cell? ⟨mb, 0, none⟩ = some (.pointer (some ⟨b, 0, none⟩)) := by rw [h.m.cell]; rfl
      have ca : wr.cell? ⟨ab, 0, none⟩ = some (.int .u32 (k : Int)) := by rw [h.a.cell]; rfl
      have H := Lib.hid h
      have hk2 := Lib.hid hk
      clear h hk H0
      go_wp2_with fail
      refine (mStore1 b k 0 _ _ _ H.out.M (by omega) (by have := hk2.out; omega)).mono ?_
      rintro _ w2 ⟨rfl, ho, hM2⟩
      rw [stB0, stT0] at hM2
      have hm2 := ho.blk h1 H.out.m
      have ha2 := ho.blk h2 H.out.a
      have ca2 : w2.cell? ⟨ab, 0, none⟩ = some (.int .u32 (k : Int)) := by rw [ha2.cell]; rfl
      have fa2 : w2.frozen? ⟨ab, 0, none⟩ = false := ha2.frozen 0
      have HA2 := Lib.hid ha2; have HM2 := Lib.hid hM2; have HO := Lib.hid ho; have HMM := Lib.hid hm2
      clear ha2 hM2 ho hm2
      go_wp2_with fail
      refine ⟨⟨k + 1, ?_⟩, ?_⟩
      · refine ⟨by push_cast; rfl, by have := hk2.out; omega, HMM.out.far h4 _, ?_, HM2.out.far ((Only.refl ab _).set_ 0 _) (Ne.symm h2), ?_, ?_, ?_⟩
        · have := HA2.out.set_ 0 (.int .u32 ((k + 1 : Nat) : Int))
          exact this
        · intro j hj
          rw [cell_same (Below.heap_setCell w2 ⟨ab, 0, none⟩ _ Bs h5), cell_same (HO.out.2 Bs h3 H.out.lt)]
          exact H.out.B j hj
        · have := HO.out.size
          have := H.out.lt
          simp only [World.size_setCell]
          omega
        · exact (H.out.o.only HO.out).set_ 0 _
      · have := hk2.out
        simp only [intOf]
        omega
    · have hlt : ¬ (k : Int) < 65280 := by omega
      have H := Lib.hid h
      clear h hk H0
      go_wp2_with fail
      go_end0
      exact ⟨rfl, H.out.M, H.out.o⟩
end Go.Proofs.YtmanoheofloimaaGreatDoor
