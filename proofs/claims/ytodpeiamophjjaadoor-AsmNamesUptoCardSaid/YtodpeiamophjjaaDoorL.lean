import Derived.Test.YtodpeiamophjjaaDoorJ
namespace Go.Proofs.YtodpeiamophjjaaDoor
open Go.ChangeShapes Go.WideShapes Go.ChangeAt Go.RowKit
open In (i32)
set_option linter.unusedVariables false
open Classical in
/-- a name, with another letter behind it -/
noncomputable def suf (s : ByteArray) : ByteArray := if s = ⟨#[]⟩ then s else s ++ ⟨#[120]⟩
theorem suf_e {s : ByteArray} (h : s = ⟨#[]⟩) : suf s = s := by unfold suf; rw [if_pos h]
theorem suf_n {s : ByteArray} (h : s ≠ ⟨#[]⟩) : suf s = s ++ ⟨#[120]⟩ := by unfold suf; rw [if_neg h]
theorem app_ne (s : ByteArray) : s ++ ⟨#[120]⟩ ≠ ⟨#[]⟩ := fun h => by
  have := congrArg ByteArray.size h
  rw [ByteArray.size_append] at this
  have e : (⟨#[120]⟩ : ByteArray).size = 1 := rfl
  have e2 : (⟨#[]⟩ : ByteArray).size = 0 := rfl
  omega
theorem app_inj {s t : ByteArray} (h : s ++ ⟨#[120]⟩ = t ++ ⟨#[120]⟩) : s = t := by
  have h1 := congrArg ByteArray.data h
  rw [ByteArray.data_append, ByteArray.data_append] at h1
  apply ByteArray.ext
  have h2 := congrArg Array.toList h1
  rw [Array.toList_append, Array.toList_append] at h2
  exact Array.ext' (List.append_cancel_right h2)
theorem suf_nil {s : ByteArray} : suf s = ⟨#[]⟩ ↔ s = ⟨#[]⟩ := by
  by_cases h : s = ⟨#[]⟩
  · rw [suf_e h]
  · rw [suf_n h]
    exact ⟨fun e => absurd e (app_ne s), fun e => absurd e h⟩
theorem suf_inj {s t : ByteArray} : suf s = suf t ↔ s = t := by
  refine ⟨fun h => ?_, fun h => by rw [h]⟩
  by_cases hs : s = ⟨#[]⟩
  · have h2 : suf t = ⟨#[]⟩ := by rw [← h]; exact suf_nil.mpr hs
    rw [hs, suf_nil.mp h2]
  · have ht : t ≠ ⟨#[]⟩ := fun e => hs (suf_nil.mp (by rw [h]; exact suf_nil.mpr e))
    rw [suf_n hs, suf_n ht] at h
    exact app_inj h
theorem suf_size (s : ByteArray) : (suf s).size ≤ s.size + 1 := by
  by_cases h : s = ⟨#[]⟩
  · rw [suf_e h]; omega
  · rw [suf_n h, ByteArray.size_append]
    exact Nat.le_refl _
/-- the same lines with other names -/
noncomputable def ren (g : Nat → Ln) (k : Nat) : Ln := ⟨suf (g k).lab, (g k).o, (g k).d, (g k).a, (g k).b, (g k).m, suf (g k).tt⟩
theorem ren_ok {g : Nat → Ln} {k : Nat} (h : (g k).ok) (h1 : (g k).lab.size ≤ 1048576) (h2 : (g k).tt.size ≤ 1048576) : (ren g k).ok := by
  have a1 := suf_size (g k).lab
  have a2 := suf_size (g k).tt
  exact ⟨h.1, h.2.1, h.2.2.1, h.2.2.2.1, h.2.2.2.2.1, by show (suf _).size ≤ _; omega, by show (suf _).size ≤ _; omega⟩
theorem ren_dup (g : Nat → Ln) (n : Nat) : Dup (ren g) n = Dup g n := by
  unfold Dup ren
  simp only [suf_inj, suf_nil, ne_eq]
theorem ren_missAt (g : Nat → Ln) (n k : Nat) : MissAt (ren g) n k = MissAt g n k := by
  unfold MissAt ren
  simp only [suf_inj, suf_nil, ne_eq]
theorem ren_miss (g : Nat → Ln) (n : Nat) : Miss (ren g) n = Miss g n := by
  unfold Miss
  simp only [ren_missAt]
theorem ren_idx (g : Nat → Ln) (n k : Nat) : idx (ren g) n k = idx g n k := by
  unfold idx ren
  simp only [suf_inj]
open Classical in
theorem ren_effm (g : Nat → Ln) (n k : Nat) : effm (ren g) n k = effm g n k := by
  unfold effm
  rw [ren_idx]
  by_cases h : (g k).tt = ⟨#[]⟩
  · rw [if_pos h, if_pos (show (ren g k).tt = ⟨#[]⟩ from suf_nil.mpr h)]
    rfl
  · rw [if_neg h, if_neg (show ¬ (ren g k).tt = ⟨#[]⟩ from fun e => h (suf_nil.mp e))]
theorem ren_putK (g : Nat → Ln) (n k : Nat) : putK (ren g) n k = putK g n k := by
  unfold putK
  rw [ren_effm]
  rfl
theorem ren_badK (g : Nat → Ln) (n k : Nat) : badK (ren g) n k = badK g n k := by
  unfold badK
  rw [ren_putK]
  have e : decide ((ren g k).tt ≠ ⟨#[]⟩) = decide ((g k).tt ≠ ⟨#[]⟩) := by
    by_cases h : (g k).tt = ⟨#[]⟩
    · rw [decide_eq_false (show ¬ (ren g k).tt ≠ ⟨#[]⟩ from fun e => e (suf_nil.mpr h)), decide_eq_false (by simpa using h)]
    · rw [decide_eq_true (show (ren g k).tt ≠ ⟨#[]⟩ from fun e => h (suf_nil.mp e)), decide_eq_true h]
  rw [e]
  rfl
theorem ren_errP (g : Nat → Ln) (n : Nat) : errP (ren g) n = errP g n := by
  by_cases d : Dup g n
  · rw [errP_dup d, errP_dup (by rw [ren_dup]; exact d)]
  have d' : ¬ Dup (ren g) n := by rw [ren_dup]; exact d
  by_cases m : Miss g n
  · rw [errP_miss d m, errP_miss d' (by rw [ren_miss]; exact m)]
  have m' : ¬ Miss (ren g) n := by rw [ren_miss]; exact m
  by_cases b : ∃ k, k < n ∧ badK g n k = true
  · obtain ⟨k, hk, hb⟩ := b
    rw [errP_bad d m hk hb, errP_bad d' m' hk (by rw [ren_badK]; exact hb)]
  · have hb : ∀ k, k < n → badK g n k = false := fun k hk => by
      cases h : badK g n k with
      | false => rfl
      | true => exact absurd ⟨k, hk, h⟩ b
    rw [errP_ok d m hb, errP_ok d' m' (fun k hk => by rw [ren_badK]; exact hb k hk)]
theorem ren_wcells (g : Nat → Ln) (n k : Nat) : wcells (ren g) n k = wcells g n k := by
  unfold wcells
  simp only [ren_putK]
/-- no words, two times -/
theorem c8_nil (w : World) : Calls Tryd.prog 8 #[.slice none 0 0, .slice none 0 0] w fun e w' => e = .returned (.bool true) ∧ ∃ q, w' = w.drewN q :=
  c8 none none 0 0 0 (fun _ => 0) (fun _ => 0) w (by omega) (fun h => absurd h (by omega)) (fun h => absurd h (by omega)) (fun _ _ => rfl)
end Go.Proofs.YtodpeiamophjjaaDoor
