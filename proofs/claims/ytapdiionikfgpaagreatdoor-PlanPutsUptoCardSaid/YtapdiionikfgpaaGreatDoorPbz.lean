import Derived.Test.YtapdiionikfgpaaGreatDoorGk
import Derived.Test.YtapdiionikfgpaaGreatDoorGl
import Derived.Test.YtapdiionikfgpaaGreatDoorGm
import Derived.Test.YtapdiionikfgpaaGreatDoorGn
namespace Go.Proofs.YtapdiionikfgpaaGreatDoor
open Go.ChangeShapes Go.WideShapes Go.ChangeAt Go.RowKit
set_option linter.unusedVariables false
set_option linter.unusedSimpArgs false
theorem line_no (p : Pm) (k : ByteArray) (r : List ByteArray) (h2 : r.length = 1 → k ≠ kStack ∧ k ≠ kTrusted ∧ k ≠ kComp) (h3 : r.length = 2 → k ≠ kShare ∧ k ≠ kStart ∧ k ≠ kObject ∧ k ≠ kArchive) (h4 : r.length = 3 → k ≠ kImport ∧ k ≠ kGive) (h5 : r.length = 4 → k ≠ kExport ∧ k ≠ kDevice) : lineV p (k :: r) = (5, p) := by
  rcases r with _ | ⟨a, _ | ⟨b, _ | ⟨c, _ | ⟨d, _ | ⟨e, r⟩⟩⟩⟩⟩
  · rfl
  · obtain ⟨x1, x2, x3⟩ := h2 rfl
    show two p k a = _
    unfold two
    rw [if_neg x1, if_neg x2, if_neg x3]
  · obtain ⟨x1, x2, x3, x4⟩ := h3 rfl
    show three p k a b = _
    unfold three
    rw [if_neg x1, if_neg x2, if_neg x3, if_neg x4]
  · obtain ⟨x1, x2⟩ := h4 rfl
    show four p k a b c = _
    unfold four
    rw [if_neg x1, if_neg x2]
  · obtain ⟨x1, x2⟩ := h5 rfl
    show five p k a b c d = _
    unfold five
    rw [if_neg x1, if_neg x2]
  · rfl
theorem len_1 {r : List ByteArray} (h : r.length = 1) : ∃ a, r = [a] := by
  rcases r with _ | ⟨a, _ | ⟨b, r⟩⟩
  · cases h
  · exact ⟨a, rfl⟩
  · simp at h
theorem len_2 {r : List ByteArray} (h : r.length = 2) : ∃ a b, r = [a, b] := by
  rcases r with _ | ⟨a, r⟩
  · cases h
  · obtain ⟨b, rfl⟩ := len_1 (r := r) (by simpa using h)
    exact ⟨a, b, rfl⟩
theorem len_3 {r : List ByteArray} (h : r.length = 3) : ∃ a b c, r = [a, b, c] := by
  rcases r with _ | ⟨a, r⟩
  · cases h
  · obtain ⟨b, c, rfl⟩ := len_2 (r := r) (by simpa using h)
    exact ⟨a, b, c, rfl⟩
theorem len_4 {r : List ByteArray} (h : r.length = 4) : ∃ a b c d, r = [a, b, c, d] := by
  rcases r with _ | ⟨a, r⟩
  · cases h
  · obtain ⟨b, c, d, rfl⟩ := len_3 (r := r) (by simpa using h)
    exact ⟨a, b, c, d, rfl⟩
theorem r21_at (k : ByteArray) (r : List ByteArray) (w : World) (B tb : Nat) (SV CV : Value) (p : Pm) (D : List (Sv × Co)) (h : RS w B tb SV CV p D) (hB : B ≤ w.heap.size) (hsm : Sm p) (hs : ∀ u ∈ k :: r, u.size ≤ 9223372036854775807) (b o c : Nat) (hb : b < tb)
    (hq : ∀ i u, (k :: r)[i]? = some u → w.cell? ⟨b, o + i, none⟩ = some (.string u)) :
    Calls Tryz.prog 21 #[.pointer (some ⟨tb, 0, none⟩), .slice (some ⟨b, o, none⟩) ((r.length + 1 : Nat) : Nat) c] w fun e w' => Lp tb B (lineV p (k :: r)) w e w' := by
  have q0 := hq 0 k rfl
  have q1 : ∀ u, r[0]? = some u → w.cell? ⟨b, o + 1, none⟩ = some (.string u) := fun u hu => hq 1 u (by simpa using hu)
  have q2 : ∀ u, r[1]? = some u → w.cell? ⟨b, o + 2, none⟩ = some (.string u) := fun u hu => hq 2 u (by simpa using hu)
  have q3 : ∀ u, r[2]? = some u → w.cell? ⟨b, o + 3, none⟩ = some (.string u) := fun u hu => hq 3 u (by simpa using hu)
  have q4 : ∀ u, r[3]? = some u → w.cell? ⟨b, o + 4, none⟩ = some (.string u) := fun u hu => hq 4 u (by simpa using hu)
  by_cases h0 : k = kStack
  · subst h0
    by_cases hn : r.length = 1
    · obtain ⟨a, rfl⟩ := len_1 hn
      exact r21_stack a w B tb SV CV p D h (hs a (by simp)) b o c hb q0 (q1 _ rfl)
    · rw [line_no p kStack r (fun hh => absurd hh hn) (fun _ => ⟨by decide, by decide, by decide, by decide⟩) (fun _ => ⟨by decide, by decide⟩) (fun _ => ⟨by decide, by decide⟩)]
      exact r21_nStack p w B tb b o (r.length + 1) c (by omega) (by omega) q0
  by_cases h1 : k = kTrusted
  · subst h1
    by_cases hn : r.length = 1
    · obtain ⟨a, rfl⟩ := len_1 hn
      exact r21_trusted a w B tb SV CV p D h (hs a (by simp)) b o c hb q0 (q1 _ rfl)
    · rw [line_no p kTrusted r (fun hh => absurd hh hn) (fun _ => ⟨by decide, by decide, by decide, by decide⟩) (fun _ => ⟨by decide, by decide⟩) (fun _ => ⟨by decide, by decide⟩)]
      exact r21_nTrusted p w B tb b o (r.length + 1) c (by omega) (by omega) q0
  by_cases h2 : k = kComp
  · subst h2
    by_cases hn : r.length = 1
    · obtain ⟨a, rfl⟩ := len_1 hn
      exact r21_comp a w B tb SV CV p D h hB (hs a (by simp)) b o c hb q0 (q1 _ rfl)
    · rw [line_no p kComp r (fun hh => absurd hh hn) (fun _ => ⟨by decide, by decide, by decide, by decide⟩) (fun _ => ⟨by decide, by decide⟩) (fun _ => ⟨by decide, by decide⟩)]
      exact r21_nComp p w B tb b o (r.length + 1) c (by omega) (by omega) q0
  by_cases h3 : k = kShare
  · subst h3
    by_cases hn : r.length = 2
    · obtain ⟨a, t, rfl⟩ := len_2 hn
      exact r21_share a t w B tb SV CV p D h hB (hs a (by simp)) (hs t (by simp)) b o c hb q0 (q1 _ rfl) (q2 _ rfl)
    · rw [line_no p kShare r (fun _ => ⟨by decide, by decide, by decide⟩) (fun hh => absurd hh hn) (fun _ => ⟨by decide, by decide⟩) (fun _ => ⟨by decide, by decide⟩)]
      exact r21_nShare p w B tb b o (r.length + 1) c (by omega) (by omega) q0
  by_cases h4 : k = kStart
  · subst h4
    by_cases hn : r.length = 2
    · obtain ⟨a, t, rfl⟩ := len_2 hn
      exact r21_start a t w B tb SV CV p D h (hs a (by simp)) (hs t (by simp)) b o c hb q0 (q1 _ rfl) (q2 _ rfl)
    · rw [line_no p kStart r (fun _ => ⟨by decide, by decide, by decide⟩) (fun hh => absurd hh hn) (fun _ => ⟨by decide, by decide⟩) (fun _ => ⟨by decide, by decide⟩)]
      exact r21_nStart p w B tb b o (r.length + 1) c (by omega) (by omega) q0
  by_cases h5 : k = kObject
  · subst h5
    by_cases hn : r.length = 2
    · obtain ⟨a, t, rfl⟩ := len_2 hn
      exact r21_of_Object w B tb _ b o c q0 (r53_Object a t w B tb SV CV p D h hB hsm (hs a (by simp)) (hs t (by simp)) b o c hb q0 (q1 _ rfl) (q2 _ rfl))
    · rw [line_no p kObject r (fun _ => ⟨by decide, by decide, by decide⟩) (fun hh => absurd hh hn) (fun _ => ⟨by decide, by decide⟩) (fun _ => ⟨by decide, by decide⟩)]
      exact r21_nObject p w B tb b o (r.length + 1) c (by omega) (by omega) q0
  by_cases h6 : k = kArchive
  · subst h6
    by_cases hn : r.length = 2
    · obtain ⟨a, t, rfl⟩ := len_2 hn
      exact r21_of_Archive w B tb _ b o c q0 (r53_Archive a t w B tb SV CV p D h hB hsm (hs a (by simp)) (hs t (by simp)) b o c hb q0 (q1 _ rfl) (q2 _ rfl))
    · rw [line_no p kArchive r (fun _ => ⟨by decide, by decide, by decide⟩) (fun hh => absurd hh hn) (fun _ => ⟨by decide, by decide⟩) (fun _ => ⟨by decide, by decide⟩)]
      exact r21_nArchive p w B tb b o (r.length + 1) c (by omega) (by omega) q0
  by_cases h7 : k = kImport
  · subst h7
    by_cases hn : r.length = 3
    · obtain ⟨a, t, u, rfl⟩ := len_3 hn
      exact r21_of_Import w B tb _ b o c q0 (r53_Import a t u w B tb SV CV p D h hB hsm (hs a (by simp)) (hs t (by simp)) (hs u (by simp)) b o c hb q0 (q1 _ rfl) (q2 _ rfl) (q3 _ rfl))
    · rw [line_no p kImport r (fun _ => ⟨by decide, by decide, by decide⟩) (fun _ => ⟨by decide, by decide, by decide, by decide⟩) (fun hh => absurd hh hn) (fun _ => ⟨by decide, by decide⟩)]
      exact r21_nImport p w B tb b o (r.length + 1) c (by omega) (by omega) q0
  by_cases h8 : k = kGive
  · subst h8
    by_cases hn : r.length = 3
    · obtain ⟨a, t, u, rfl⟩ := len_3 hn
      refine r21_of_Give w B tb _ b o c q0 ?_
      by_cases hu1 : u = kR
      · subst hu1
        exact r53_GiveR a t w B tb SV CV p D h hB hsm (hs a (by simp)) (hs t (by simp)) b o c hb q0 (q1 _ rfl) (q2 _ rfl) (q3 _ rfl)
      by_cases hu2 : u = kRw
      · subst hu2
        exact r53_GiveRw a t w B tb SV CV p D h hB hsm (hs a (by simp)) (hs t (by simp)) b o c hb q0 (q1 _ rfl) (q2 _ rfl) (q3 _ rfl)
      exact r53_GiveNo a t u hu1 hu2 w B tb SV CV p D h (hs a (by simp)) (hs t (by simp)) b o c q0 (q1 _ rfl) (q2 _ rfl) (q3 _ rfl)
    · rw [line_no p kGive r (fun _ => ⟨by decide, by decide, by decide⟩) (fun _ => ⟨by decide, by decide, by decide, by decide⟩) (fun hh => absurd hh hn) (fun _ => ⟨by decide, by decide⟩)]
      exact r21_nGive p w B tb b o (r.length + 1) c (by omega) (by omega) q0
  by_cases h9 : k = kExport
  · subst h9
    by_cases hn : r.length = 4
    · obtain ⟨a, t, u, v, rfl⟩ := len_4 hn
      exact r21_of_Export w B tb _ b o c q0 (r53_Export a t u v w B tb SV CV p D h hB hsm (hs a (by simp)) (hs t (by simp)) (hs u (by simp)) (hs v (by simp)) b o c hb q0 (q1 _ rfl) (q2 _ rfl) (q3 _ rfl) (q4 _ rfl))
    · rw [line_no p kExport r (fun _ => ⟨by decide, by decide, by decide⟩) (fun _ => ⟨by decide, by decide, by decide, by decide⟩) (fun _ => ⟨by decide, by decide⟩) (fun hh => absurd hh hn)]
      exact r21_nExport p w B tb b o (r.length + 1) c (by omega) (by omega) q0
  by_cases h10 : k = kDevice
  · subst h10
    by_cases hn : r.length = 4
    · obtain ⟨a, t, u, v, rfl⟩ := len_4 hn
      exact r21_of_Device w B tb _ b o c q0 (r53_Device a t u v w B tb SV CV p D h hB hsm (hs a (by simp)) (hs t (by simp)) (hs u (by simp)) (hs v (by simp)) b o c hb q0 (q1 _ rfl) (q2 _ rfl) (q3 _ rfl) (q4 _ rfl))
    · rw [line_no p kDevice r (fun _ => ⟨by decide, by decide, by decide⟩) (fun _ => ⟨by decide, by decide, by decide, by decide⟩) (fun _ => ⟨by decide, by decide⟩) (fun hh => absurd hh hn)]
      exact r21_nDevice p w B tb b o (r.length + 1) c (by omega) (by omega) q0
  rw [line_no p k r (fun _ => ⟨h0, h1, h2⟩) (fun _ => ⟨h3, h4, h5, h6⟩) (fun _ => ⟨h7, h8⟩) (fun _ => ⟨h9, h10⟩)]
  exact r21_none p w B tb b o (r.length + 1) c k (by omega) q0 h0 h1 h2 h3 h4 h5 h6 h7 h8 h9 h10
theorem r21_all (ws : List ByteArray) (hne : ws ≠ []) (w : World) (B tb : Nat) (SV CV : Value) (p : Pm) (D : List (Sv × Co)) (h : RS w B tb SV CV p D) (hB : B ≤ w.heap.size) (hsm : Sm p) (hs : ∀ u ∈ ws, u.size ≤ 9223372036854775807) (b o c : Nat) (hb : b < tb)
    (hq : ∀ i u, ws[i]? = some u → w.cell? ⟨b, o + i, none⟩ = some (.string u)) :
    Calls Tryz.prog 21 #[.pointer (some ⟨tb, 0, none⟩), .slice (some ⟨b, o, none⟩) ws.length c] w fun e w' => Lp tb B (lineV p ws) w e w' := by
  cases ws with
  | nil => exact absurd rfl hne
  | cons k r => exact r21_at k r w B tb SV CV p D h hB hsm hs b o c hb hq
end Go.Proofs.YtapdiionikfgpaaGreatDoor
