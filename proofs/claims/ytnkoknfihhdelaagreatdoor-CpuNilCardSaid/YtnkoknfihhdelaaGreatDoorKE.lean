import Derived.Test.YtnkoknfihhdelaaGreatDoorKB
import Derived.Test.YtnkoknfihhdelaaGreatDoorKC
import Derived.Laws.StructEq
namespace Go.Proofs.YtnkoknfihhdelaaGreatDoor.Ca
open Go.ChangeShapes Go.WideShapes Go.ChangeAt Go.RowKit
set_option linter.unusedVariables false
set_option maxRecDepth 100000
theorem set7 {w w1 : World} {k : Nat} (h : Below w.heap.size w w1) (hk : w.heap.size ≤ k) (v0 v1 v2 v3 v4 v5 v6 : Value) :
    Below w.heap.size w (((((((w1.setCell ⟨k, 0, none⟩ v0).setCell ⟨k, 1, none⟩ v1).setCell ⟨k, 2, none⟩ v2).setCell ⟨k, 3, none⟩ v3).setCell ⟨k, 4, none⟩ v4).setCell ⟨k, 5, none⟩ v5).setCell ⟨k, 6, none⟩ v6) :=
  ((((((h.setCell (p := ⟨k, 0, none⟩) hk _).setCell (p := ⟨k, 1, none⟩) hk _).setCell (p := ⟨k, 2, none⟩) hk _).setCell (p := ⟨k, 3, none⟩) hk _).setCell (p := ⟨k, 4, none⟩) hk _).setCell (p := ⟨k, 5, none⟩) hk _).setCell (p := ⟨k, 6, none⟩) hk _
abbrev cp (g : Bool) (a p y e b t : Nat) : Value := .agg #[.bool g, .int .u32 (a : Int), .int .u8 (p : Int), .int .u8 (y : Int), .int .u8 (e : Int), .int .u16 (b : Int), .int .u16 (t : Int)]
theorem c47 (g : Bool) (a p y e b t : Nat) (hy : y < 256) (w : World) : Calls Tryz.prog 124 #[cp g a p y e b t] w fun en w' => en = .returned (.bool (decide (y = 0))) ∧ Below w.heap.size w w' := by
  go_enter Tryz.func124, Tryz.ntmps124
  go_wp2
  go_ret
  exact ⟨retb (by rw [Bool.eq_iff_iff]; simp), (Below.refl _ _).alloc (Nat.le_refl _) _⟩
theorem c49 (g k : Bool) (a p y e b t : Nat) (w : World) : Calls Tryz.prog 131 #[cp g a p y e b t, .bool k] w fun en w' => en = .returned (cp (g && k) a p y e b t) ∧ Below w.heap.size w w' := by
  cases g <;> cases k
  all_goals
    go_enter Tryz.func131, Tryz.ntmps131
    go_wp2
    exact bodyPost_ret (v := cp _ a p y e b t) (by simp [results, Tryz.results131, go_sem]) rfl ⟨rfl, ((Below.refl _ _).alloc (Nat.le_refl _) _).alloc (by simp) _⟩
set_option maxHeartbeats 1000000 in
theorem c24 (g : Bool) (a p y e b t : Nat) (w : World) : Calls Tryz.prog 143 #[cp g a p y e b t] w fun en w' => en = .returned (cp false a p y e b t) ∧ Below w.heap.size w w' := by
  have K := Lib.hid (c49 g false a p y e b t)
  go_enter Tryz.func143, Tryz.ntmps143
  go_wp2_with fail
  refine (K.out _).mono ?_
  rintro en w1 ⟨rfl, hb⟩
  obtain ⟨hc, hf⟩ := bcell hb
  have hz : w.heap.size + 1 < w1.heap.size := by have := hb.size; simp at this; omega
  have hB : Below w.heap.size w w1 := (((Below.refl _ _).alloc (Nat.le_refl _) _).alloc (by simp) _).trans (hb.mono (by simp; omega))
  clear hb
  rw [Bool.and_false]
  go_wp2_with fail
  exact bodyPost_ret (v := cp false a p y e b t) (by simp [results, Tryz.results143, go_sem, hc]) rfl ⟨rfl, set7 hB (by omega) _ _ _ _ _ _ _⟩
set_option maxHeartbeats 2000000 in
theorem c18b (g : Bool) (a p y e b t n : Nat) (ha : a < 4294967296) (hy : y < 256) (he : e < 256) (hb : b < 65536) (ht : t < 65536) (hn : n < 4294967296) (w : World) :
    Calls Tryz.prog 91 #[cp g a p y e b t, .int .u32 (n : Int)] w fun en w' => en = .returned (cp (g && (decide (y = 0) && decide (bs (e % 16) (b % 512) a = bs (e % 16) (b % 512) n))) n p y e b t) ∧ Below w.heap.size w w' := by
  have k1 := c47 g a p y e b t hy
  have k2 := c13 e b t a n he hb ht ha hn
  have k3 := c49 g (decide (y = 0) && decide (bs (e % 16) (b % 512) a = bs (e % 16) (b % 512) n)) n p y e b t
  generalize decide (bs (e % 16) (b % 512) a = bs (e % 16) (b % 512) n) = q at *
  generalize decide (y = 0) = r at *
  have K1 := Lib.hid k1
  have K2 := Lib.hid k2
  have K3 := Lib.hid k3
  clear k1 k2 k3
  cases r
  · go_enter Tryz.func91, Tryz.ntmps91
    go_wp2_with fail
    refine (K1.out _).mono ?_
    rintro en w1 ⟨rfl, hb1⟩
    obtain ⟨hc, hf⟩ := bcell hb1
    have hz : w.heap.size + 1 < w1.heap.size := by have := hb1.size; simp at this; omega
    have hB : Below w.heap.size w w1 := (((Below.refl _ _).alloc (Nat.le_refl _) _).alloc (by simp) _).trans (hb1.mono (by simp; omega))
    have q1 : w1.cell? ⟨w.heap.size, 1, none⟩ = some (.int .u32 (a : Int)) := by rw [hc _ _ (by simp; omega)]; go_simp
    clear hb1
    go_wp2_with fail
    refine (K3.out _).mono ?_
    rintro en w2 ⟨rfl, hb2⟩
    obtain ⟨hc2, hf2⟩ := bcell hb2
    have hz2 : w.heap.size + 1 < w2.heap.size := by have := hb2.size; simp at this; omega
    have hB2 : Below w.heap.size w w2 := (hB.setCell (p := ⟨w.heap.size, 1, none⟩) (Nat.le_refl _) _).trans (hb2.mono (by simp; omega))
    clear hb2 hB
    have hr : ∀ o, w2.cell? ⟨w.heap.size + 1, o, none⟩ = w1.cell? ⟨w.heap.size + 1, o, none⟩ := fun o => by rw [hc2 _ _ (by simp; omega)]; go_simp
    go_wp2_with fail
    exact bodyPost_ret (v := cp _ n p y e b t) (by simp [results, Tryz.results91, go_sem, hr, hc]) rfl ⟨rfl, set7 hB2 (by omega) _ _ _ _ _ _ _⟩
  · go_enter Tryz.func91, Tryz.ntmps91
    go_wp2_with fail
    refine (K1.out _).mono ?_
    rintro en w1 ⟨rfl, hb1⟩
    obtain ⟨hc, hf⟩ := bcell hb1
    have hz : w.heap.size + 1 < w1.heap.size := by have := hb1.size; simp at this; omega
    have hB : Below w.heap.size w w1 := (((Below.refl _ _).alloc (Nat.le_refl _) _).alloc (by simp) _).trans (hb1.mono (by simp; omega))
    go_wp2_with fail
    refine (K2.out _).mono ?_
    rintro en w2 ⟨rfl, hb2⟩
    have hb12 := hb1.trans (hb2.mono hb1.size)
    clear hc hf
    obtain ⟨hc, hf⟩ := bcell hb12
    clear hb1 hb12
    have hz2 : w.heap.size + 1 < w2.heap.size := by have := hb2.size; omega
    have hB2 : Below w.heap.size w w2 := hB.trans (hb2.mono (by omega))
    have q1 : w2.cell? ⟨w.heap.size, 1, none⟩ = some (.int .u32 (a : Int)) := by rw [hc _ _ (by simp; omega)]; go_simp
    clear hb2 hB
    go_wp2_with fail
    refine (K3.out _).mono ?_
    rintro en w3 ⟨rfl, hb3⟩
    obtain ⟨hc3, hf3⟩ := bcell hb3
    have hz3 : w.heap.size + 1 < w3.heap.size := by have := hb3.size; simp at this; omega
    have hB3 : Below w.heap.size w w3 := (hB2.setCell (p := ⟨w.heap.size, 1, none⟩) (Nat.le_refl _) _).trans (hb3.mono (by simp; omega))
    clear hb3 hB2
    have hr : ∀ o, w3.cell? ⟨w.heap.size + 1, o, none⟩ = w2.cell? ⟨w.heap.size + 1, o, none⟩ := fun o => by rw [hc3 _ _ (by simp; omega)]; go_simp
    go_wp2_with fail
    exact bodyPost_ret (v := cp _ n p y e b t) (by simp [results, Tryz.results91, go_sem, hr, hc]) rfl ⟨rfl, set7 hB3 (by omega) _ _ _ _ _ _ _⟩
end Go.Proofs.YtnkoknfihhdelaaGreatDoor.Ca
