import Derived.Test.YtojjdhohhonheaaU
import Derived.Test.YtojjdhohhonheaaK
import Derived.Test.YtojjdhohhonheaaQ
namespace Go.Proofs.Ytojjdhohhonheaa
open Go.ChangeShapes Go.WideShapes Go.ChangeAt Go.RowKit
set_option linter.unusedVariables false
theorem far7 {w1 : World} {k k' : Nat} (h : k ≠ k') (v0 v1 v2 v3 v4 v5 v6 : Value) (j : Nat) :
    (((((((w1.setCell ⟨k, 0, none⟩ v0).setCell ⟨k, 1, none⟩ v1).setCell ⟨k, 2, none⟩ v2).setCell ⟨k, 3, none⟩ v3).setCell ⟨k, 4, none⟩ v4).setCell ⟨k, 5, none⟩ v5).setCell ⟨k, 6, none⟩ v6).cell? ⟨k', j, none⟩ = w1.cell? ⟨k', j, none⟩ := by
  repeat rw [World.cell?_setCell_far _ _ _ _ h]
theorem setS {w w1 : World} {k k' : Nat} {u0 u1 u2 u3 u4 u5 u6 : Value} (hne : k ≠ k') (hk : w.heap.size ≤ k) (h : Below w.heap.size w w1 ∧ k' < w1.heap.size ∧ w1.cell? ⟨k', 0, none⟩ = some u0 ∧ w1.cell? ⟨k', 1, none⟩ = some u1 ∧ w1.cell? ⟨k', 2, none⟩ = some u2 ∧ w1.cell? ⟨k', 3, none⟩ = some u3 ∧ w1.cell? ⟨k', 4, none⟩ = some u4 ∧ w1.cell? ⟨k', 5, none⟩ = some u5 ∧ w1.cell? ⟨k', 6, none⟩ = some u6) (v0 v1 v2 v3 v4 v5 v6 : Value) :
    Below w.heap.size w (((((((w1.setCell ⟨k, 0, none⟩ v0).setCell ⟨k, 1, none⟩ v1).setCell ⟨k, 2, none⟩ v2).setCell ⟨k, 3, none⟩ v3).setCell ⟨k, 4, none⟩ v4).setCell ⟨k, 5, none⟩ v5).setCell ⟨k, 6, none⟩ v6) ∧ k' < (((((((w1.setCell ⟨k, 0, none⟩ v0).setCell ⟨k, 1, none⟩ v1).setCell ⟨k, 2, none⟩ v2).setCell ⟨k, 3, none⟩ v3).setCell ⟨k, 4, none⟩ v4).setCell ⟨k, 5, none⟩ v5).setCell ⟨k, 6, none⟩ v6).heap.size ∧ (((((((w1.setCell ⟨k, 0, none⟩ v0).setCell ⟨k, 1, none⟩ v1).setCell ⟨k, 2, none⟩ v2).setCell ⟨k, 3, none⟩ v3).setCell ⟨k, 4, none⟩ v4).setCell ⟨k, 5, none⟩ v5).setCell ⟨k, 6, none⟩ v6).cell? ⟨k', 0, none⟩ = some u0 ∧ (((((((w1.setCell ⟨k, 0, none⟩ v0).setCell ⟨k, 1, none⟩ v1).setCell ⟨k, 2, none⟩ v2).setCell ⟨k, 3, none⟩ v3).setCell ⟨k, 4, none⟩ v4).setCell ⟨k, 5, none⟩ v5).setCell ⟨k, 6, none⟩ v6).cell? ⟨k', 1, none⟩ = some u1 ∧ (((((((w1.setCell ⟨k, 0, none⟩ v0).setCell ⟨k, 1, none⟩ v1).setCell ⟨k, 2, none⟩ v2).setCell ⟨k, 3, none⟩ v3).setCell ⟨k, 4, none⟩ v4).setCell ⟨k, 5, none⟩ v5).setCell ⟨k, 6, none⟩ v6).cell? ⟨k', 2, none⟩ = some u2 ∧ (((((((w1.setCell ⟨k, 0, none⟩ v0).setCell ⟨k, 1, none⟩ v1).setCell ⟨k, 2, none⟩ v2).setCell ⟨k, 3, none⟩ v3).setCell ⟨k, 4, none⟩ v4).setCell ⟨k, 5, none⟩ v5).setCell ⟨k, 6, none⟩ v6).cell? ⟨k', 3, none⟩ = some u3 ∧ (((((((w1.setCell ⟨k, 0, none⟩ v0).setCell ⟨k, 1, none⟩ v1).setCell ⟨k, 2, none⟩ v2).setCell ⟨k, 3, none⟩ v3).setCell ⟨k, 4, none⟩ v4).setCell ⟨k, 5, none⟩ v5).setCell ⟨k, 6, none⟩ v6).cell? ⟨k', 4, none⟩ = some u4 ∧ (((((((w1.setCell ⟨k, 0, none⟩ v0).setCell ⟨k, 1, none⟩ v1).setCell ⟨k, 2, none⟩ v2).setCell ⟨k, 3, none⟩ v3).setCell ⟨k, 4, none⟩ v4).setCell ⟨k, 5, none⟩ v5).setCell ⟨k, 6, none⟩ v6).cell? ⟨k', 5, none⟩ = some u5 ∧ (((((((w1.setCell ⟨k, 0, none⟩ v0).setCell ⟨k, 1, none⟩ v1).setCell ⟨k, 2, none⟩ v2).setCell ⟨k, 3, none⟩ v3).setCell ⟨k, 4, none⟩ v4).setCell ⟨k, 5, none⟩ v5).setCell ⟨k, 6, none⟩ v6).cell? ⟨k', 6, none⟩ = some u6 :=
  ⟨set7 h.1 hk _ _ _ _ _ _ _, by simpa using h.2.1, by rw [far7 hne]; exact h.2.2.1, by rw [far7 hne]; exact h.2.2.2.1, by rw [far7 hne]; exact h.2.2.2.2.1, by rw [far7 hne]; exact h.2.2.2.2.2.1, by rw [far7 hne]; exact h.2.2.2.2.2.2.1, by rw [far7 hne]; exact h.2.2.2.2.2.2.2.1, by rw [far7 hne]; exact h.2.2.2.2.2.2.2.2⟩
set_option maxHeartbeats 1000000 in
theorem c25r (g : Bool) (a p y e b t : Nat) (w : World) : Calls Try.prog 25 #[cp g a p y e b t] w fun en w' => en = .returned (cp false a p y e b t) ∧ Below w.heap.size w w' := by
  go_enter Try.func25, Try.ntmps25
  go_wp2
  exact bodyPost_ret (v := cp false a p y e b t) (by simp [results, Try.results25, go_sem]) rfl ⟨rfl, ((Below.refl _ _).alloc (Nat.le_refl _) _).alloc (by simp) _⟩
set_option maxHeartbeats 2000000 in
theorem c19r (g : Bool) (a p y e b t n : Nat) (ha : a < 4294967296) (hy : y < 256) (he : e < 256) (hb : b < 65536) (ht : t < 65536) (hn : n < 4294967296) (w : World) :
    Calls Try.prog 19 #[cp g a p y e b t, .int .u32 (n : Int)] w fun en w' => en = .returned (cp (g && (decide (y = 0) && decide (bs (e % 16) (b % 512) a = bs (e % 16) (b % 512) n))) n p y e b t) ∧ Below w.heap.size w w' := by
  have k2 := c14 e b t a n he hb ht ha hn
  generalize decide (bs (e % 16) (b % 512) a = bs (e % 16) (b % 512) n) = q at *
  have K2 := Lib.hid k2
  clear k2
  by_cases hy0 : y = 0
  · have hyb : ((y : Int) != 0) = false := by simp; omega
    rw [decide_eq_true hy0]
    clear hy0
    cases q
    · rw [show (g && (true && false)) = false by simp]
      go_enter Try.func19, Try.ntmps19
      go_wp2_with fail
      refine (K2.out _).mono ?_
      rintro en w1 ⟨rfl, hb1⟩
      obtain ⟨hc, hf⟩ := bcell hb1
      have hz : w.heap.size + 1 < w1.heap.size := by have := hb1.size; simp at this; omega
      have hB : Below w.heap.size w w1 := (((Below.refl _ _).alloc (Nat.le_refl _) _).alloc (by simp) _).trans (hb1.mono (by simp; omega))
      have u0 : w1.cell? ⟨w.heap.size, 0, none⟩ = some (.bool g) := by rw [hc _ _ (by simp; omega)]; go_simp
      have u1 : w1.cell? ⟨w.heap.size, 1, none⟩ = some (.int .u32 (a : Int)) := by rw [hc _ _ (by simp; omega)]; go_simp
      go_wp2_with fail
      exact bodyPost_ret (v := cp false n p y e b t) (by simp [results, Try.results19, go_sem, hc]) rfl ⟨rfl, set7 ((hB.setCell (p := ⟨w.heap.size, 0, none⟩) (Nat.le_refl _) _).setCell (p := ⟨w.heap.size, 1, none⟩) (Nat.le_refl _) _) (by omega) _ _ _ _ _ _ _⟩
    · rw [show (g && (true && true)) = g by simp]
      go_enter Try.func19, Try.ntmps19
      go_wp2_with fail
      refine (K2.out _).mono ?_
      rintro en w1 ⟨rfl, hb1⟩
      obtain ⟨hc, hf⟩ := bcell hb1
      have hz : w.heap.size + 1 < w1.heap.size := by have := hb1.size; simp at this; omega
      have hB : Below w.heap.size w w1 := (((Below.refl _ _).alloc (Nat.le_refl _) _).alloc (by simp) _).trans (hb1.mono (by simp; omega))
      have u1 : w1.cell? ⟨w.heap.size, 1, none⟩ = some (.int .u32 (a : Int)) := by rw [hc _ _ (by simp; omega)]; go_simp
      go_wp2_with fail
      exact bodyPost_ret (v := cp g n p y e b t) (by simp [results, Try.results19, go_sem, hc]) rfl ⟨rfl, set7 (hB.setCell (p := ⟨w.heap.size, 1, none⟩) (Nat.le_refl _) _) (by omega) _ _ _ _ _ _ _⟩
  · have hyb : ((y : Int) != 0) = true := by simp; omega
    rw [decide_eq_false hy0, Bool.false_and, Bool.and_false]
    clear hy0
    go_enter Try.func19, Try.ntmps19
    go_wp2
    exact bodyPost_ret (v := cp false n p y e b t) (by simp [results, Try.results19, go_sem]) rfl ⟨rfl, ((Below.refl _ _).alloc (Nat.le_refl _) _).alloc (by simp) _⟩
set_option maxHeartbeats 2000000 in
theorem c22 (g : Bool) (a p y e b t s : Nat) (hp : p < 256) (hy : y < 256) (hs : s < 4294967296) (w : World) :
    Calls Try.prog 22 #[cp g a p y e b t, .int .u32 (s : Int)] w fun en w' => en = .returned (cp (g && decide (y = 0)) a (p &&& (s % 256)) y e b t) ∧ Below w.heap.size w w' := by
  have ka := u8_and_nat p (s % 256) hp (by omega)
  have kr : (s : Int) % 256 = ((s % 256 : Nat) : Int) := rfl
  have hm : p &&& (s % 256) < 256 := by have := Nat.and_le_left (n := p) (m := s % 256); omega
  have k1 := c47 g a (p &&& (s % 256)) y e b t hy
  have k3 := c49 g (decide (y = 0)) a (p &&& (s % 256)) y e b t
  have hl : s % 256 < 256 := by omega
  generalize p &&& (s % 256) = m at *
  generalize s % 256 = s' at *
  generalize decide (y = 0) = r at *
  have K1 := Lib.hid k1
  have K3 := Lib.hid k3
  clear k1 k3
  go_enter Try.func22, Try.ntmps22
  go_wp2_with fail
  have hst := (start77 w (.bool g) (.int .u32 (a : Int)) (.int .u8 (m : Int)) (.int .u8 (y : Int)) (.int .u8 (e : Int)) (.int .u16 (b : Int)) (.int .u16 (t : Int)) (.bool false) (.int .u32 0) (.int .u8 0) (.int .u8 0) (.int .u8 0) (.int .u16 0) (.int .u16 0) 27).1
  refine wp_region_held_drew (S := (fun w' => (Below w.heap.size w w' ∧ w.heap.size < w'.heap.size ∧ w'.cell? ⟨w.heap.size, 0, none⟩ = some (.bool g) ∧ w'.cell? ⟨w.heap.size, 1, none⟩ = some (.int .u32 (a : Int)) ∧ w'.cell? ⟨w.heap.size, 2, none⟩ = some (.int .u8 (m : Int)) ∧ w'.cell? ⟨w.heap.size, 3, none⟩ = some (.int .u8 (y : Int)) ∧ w'.cell? ⟨w.heap.size, 4, none⟩ = some (.int .u8 (e : Int)) ∧ w'.cell? ⟨w.heap.size, 5, none⟩ = some (.int .u16 (b : Int)) ∧ w'.cell? ⟨w.heap.size, 6, none⟩ = some (.int .u16 (t : Int))))) (by kernel_rfl) ?_ (fun hHeld => ?_)
  · exact keep7 hst (Below.refl _ _).drew
  refine wpAnyH_take (i := 0) (v := ?v1) rfl (by kernel_rfl) (by kernel_rfl) (by kernel_rfl) (fun _ _ _ h => h) (Or.inl ⟨by rfl, ?hy1⟩) (by assumption) ?rest1
  case hy1 => (intro w' hSw; go_split_ands; go_simp; try with_reducible rfl)
  simp only [Act.put, List.getElem_toArray, List.getElem_cons_zero, List.setIfInBounds_toArray, List.set_cons_zero, List.set_cons_succ]
  refine wpAnyH_take (i := 1) (v := ?v2) rfl (by kernel_rfl) (by kernel_rfl) (by kernel_rfl) (fun _ _ _ h => h) (Or.inl ⟨by rfl, ?hy2⟩) (by assumption) ?rest2
  case hy2 => (intro w' hSw; go_split_ands; go_simp; try with_reducible rfl)
  simp only [Act.put, List.getElem_toArray, List.getElem_cons_succ, List.getElem_cons_zero, List.setIfInBounds_toArray, List.set_cons_zero, List.set_cons_succ]
  refine wpAnyH_ready (rs := [2]) (by kernel_rfl) (by simp) ?_
  refine AllReadyH.cons rfl (fun K hK => ?_) AllReadyH.nil
  go_simp
  go_at_call 47
  refine (K1.out _).mono ?_
  rintro _ w1 ⟨rfl, hb1⟩
  go_wp2_with fail
  refine hK.out _ _ ?_ (fun hHeld => ?_)
  · exact keep7 (by assumption) hb1
  clear hK K
  refine wpAnyH_ready (rs := [3]) (by kernel_rfl) (by simp) ?_
  refine AllReadyH.cons rfl (fun K hK => ?_) AllReadyH.nil
  go_simp
  go_at_call 49
  refine (K3.out _).mono ?_
  rintro _ w2 ⟨rfl, hb2⟩
  go_wp2_with fail
  refine hK.out _ _ ?_ (fun hHeld => ?_)
  · exact keep7 (by assumption) hb2
  clear hK K
  have hs2 := hHeld
  have hW := hb1.trans (hb2.mono hb1.size)
  obtain ⟨hc, hf⟩ := bcell hW
  have hz2 : w.heap.size + 1 < w2.heap.size := by have := hW.size; simp at this; omega
  refine wpAnyH_ready (rs := [4]) (by kernel_rfl) (by simp) ?_
  refine AllReadyH.cons rfl (fun K hK => ?_) AllReadyH.nil
  go_simp
  refine hK.out _ _ ?_ (fun hHeld => ?_)
  · exact setS (by omega) (by omega) hs2 _ _ _ _ _ _ _
  clear hK K
  have hB : Below w.heap.size w w2 := hs2.1
  refine wpAnyH_done (by kernel_rfl) ?_ _
  go_wp2
  exact bodyPost_ret (v := cp (g && r) a m y e b t) (by simp [results, Try.results22, go_sem, hc]) rfl ⟨rfl, set7 hB (by omega) _ _ _ _ _ _ _⟩
end Go.Proofs.Ytojjdhohhonheaa
