import Derived.Test.YtapdiionikfgpaaGreatDoorQgz
import Derived.Test.YtapdiionikfgpaaGreatDoorQhz
import Derived.Test.YtapdiionikfgpaaGreatDoorQiz
import Derived.Test.YtapdiionikfgpaaGreatDoorGj
import Derived.Test.YtapdiionikfgpaaGreatDoorGk
namespace Go.Proofs.YtapdiionikfgpaaGreatDoor
open Go.ChangeShapes Go.WideShapes Go.ChangeAt Go.RowKit
open Li (Gl)
set_option linter.unusedVariables false
set_option linter.unusedSimpArgs false
theorem lineNno (p : Pm) (k : ByteArray) (r : List ByteArray) (h2 : r.length = 1 → k ≠ kStack ∧ k ≠ kTrusted ∧ k ≠ kComp) (h3 : r.length = 2 → k ≠ kShare ∧ k ≠ kStart ∧ k ≠ kObject ∧ k ≠ kArchive) (h4 : r.length = 3 → k ≠ kImport ∧ k ≠ kGive) (h5 : r.length = 4 → k ≠ kExport ∧ k ≠ kDevice) : lineV p (k :: r) = (5, p) := by
  rcases r with _ | ⟨a, _ | ⟨b, _ | ⟨c, _ | ⟨d, _ | ⟨e, r⟩⟩⟩⟩⟩
  · rfl
  · obtain ⟨x1, x2, x3⟩ := h2 rfl
    show two p k a = _
    unfold two
    rw [if_neg x1, if_neg x2, if_neg x3]
  · obtain ⟨x1, x2, x3, x4⟩ := h3 rfl
    show three p k a b = _
    unfold three
    rw [if_neg x1, if_neg x2, if_neg x3, if_neg x4]
  · obtain ⟨x1, x2⟩ := h4 rfl
    show four p k a b c = _
    unfold four
    rw [if_neg x1, if_neg x2]
  · obtain ⟨x1, x2⟩ := h5 rfl
    show five p k a b c d = _
    unfold five
    rw [if_neg x1, if_neg x2]
  · rfl
theorem lenN1 {r : List ByteArray} (h : r.length = 1) : ∃ a, r = [a] := by
  rcases r with _ | ⟨a, _ | ⟨b, r⟩⟩
  · cases h
  · exact ⟨a, rfl⟩
  · simp at h
theorem lenN2 {r : List ByteArray} (h : r.length = 2) : ∃ a b, r = [a, b] := by
  rcases r with _ | ⟨a, r⟩
  · cases h
  · obtain ⟨b, rfl⟩ := lenN1 (r := r) (by simpa using h)
    exact ⟨a, b, rfl⟩
theorem lenN3 {r : List ByteArray} (h : r.length = 3) : ∃ a b c, r = [a, b, c] := by
  rcases r with _ | ⟨a, r⟩
  · cases h
  · obtain ⟨b, c, rfl⟩ := lenN2 (r := r) (by simpa using h)
    exact ⟨a, b, c, rfl⟩
theorem lenN4 {r : List ByteArray} (h : r.length = 4) : ∃ a b c d, r = [a, b, c, d] := by
  rcases r with _ | ⟨a, r⟩
  · cases h
  · obtain ⟨b, c, d, rfl⟩ := lenN3 (r := r) (by simpa using h)
    exact ⟨a, b, c, d, rfl⟩
theorem numO_leN {s : ByteArray} {lo hi of n : Nat} (h : numO s lo hi of = some n) : lo ≤ n ∧ n ≤ hi ∧ n % of = 0 := by
  cases hvv : valO s with
  | none => rw [numO_none hvv] at h; cases h
  | some k =>
    rw [numO_some hvv] at h
    split at h
    · rename_i hc; cases h; exact hc
    · cases h
theorem two_stack (p : Pm) (a : ByteArray) : lineV p [kStack, a] = onceV p.st (numO a 64 4088 8) (fun n => { p with st := n }) p := by
  show two p kStack a = _
  unfold two
  rw [if_pos rfl]
theorem two_trusted (p : Pm) (a : ByteArray) : lineV p [kTrusted, a] = onceV p.tr (numO a 1 60 1) (fun n => { p with tr := n }) p := by
  show two p kTrusted a = _
  unfold two
  rw [if_neg (by decide), if_pos rfl]
theorem two_comp (p : Pm) (a : ByteArray) : lineV p [kComp, a] = compV p a := by
  show two p kComp a = _
  unfold two compV
  rw [if_neg (by decide), if_neg (by decide), if_pos rfl]
theorem three_share (p : Pm) (a b : ByteArray) : lineV p [kShare, a, b] = shareO (numO b 1 4096 1) p a := by
  show three p kShare a b = _
  unfold three
  rw [if_pos rfl]
  rfl
theorem three_start (p : Pm) (a b : ByteArray) : lineV p [kStart, a, b] = startV p a b := by
  show three p kStart a b = _
  unfold three
  rw [if_neg (by decide), if_pos rfl]
theorem three_object (p : Pm) (a b : ByteArray) : lineV p [kObject, a, b] = fileV p false a b := by
  show three p kObject a b = _
  unfold three
  rw [if_neg (by decide), if_neg (by decide), if_pos rfl]
theorem three_archive (p : Pm) (a b : ByteArray) : lineV p [kArchive, a, b] = fileV p true a b := by
  show three p kArchive a b = _
  unfold three
  rw [if_neg (by decide), if_neg (by decide), if_neg (by decide), if_pos rfl]
theorem four_import (p : Pm) (a b c : ByteArray) : lineV p [kImport, a, b, c] = importV p a b c := by
  show four p kImport a b c = _
  unfold four
  rw [if_pos rfl]
theorem four_give (p : Pm) (a b c : ByteArray) : lineV p [kGive, a, b, c] = giveV p a b c := by
  show four p kGive a b c = _
  unfold four
  rw [if_neg (by decide), if_pos rfl]
theorem five_export (p : Pm) (a b c d : ByteArray) : lineV p [kExport, a, b, c, d] = exportO (numO c 0 6 1) (numO d 0 4088 8) p a b := by
  show five p kExport a b c d = _
  unfold five
  rw [if_pos rfl]
  rfl
theorem five_device (p : Pm) (a b c d : ByteArray) : lineV p [kDevice, a, b, c, d] = deviceO (numO c 65280 65532 4) (numO d 4 256 4) p a b := by
  show five p kDevice a b c d = _
  unfold five
  rw [if_neg (by decide), if_pos rfl]
  rfl
set_option maxRecDepth 100000 in
/-- a row's function does what its line does -/
theorem row_call (k : ByteArray) (r : List ByteArray) (f : Nat) (hrow : rowOf k = some (r.length + 1, f)) (w : World) (B tb : Nat) (SV CV : Value) (p : Pm) (D : List (Sv × Co)) (h : RD w B tb SV CV p D) (hB : B ≤ w.heap.size) (hsm : Sm p) (hG : Gl w) (hs : ∀ u ∈ k :: r, u.size ≤ 281474976710656) (b o c : Nat)
    (hq : ∀ i u, (k :: r)[i]? = some u → w.cell? ⟨b, o + i, none⟩ = some (.string u)) :
    Calls Tryz.prog f #[.pointer (some ⟨tb, 0, none⟩), .slice (some ⟨b, o, none⟩) (r.length + 1) c] w fun e w' => Lq tb B (lineV p (k :: r)) w e w' := by
  unfold rowOf at hrow
  have q0 := hq 0 k rfl
  rw [Nat.add_zero] at q0
  by_cases hk : k = kStack
  · rw [if_pos hk] at hrow
    simp only [Option.some.injEq, Prod.mk.injEq] at hrow
    obtain ⟨hl, rfl⟩ := hrow
    obtain ⟨a, rfl⟩ := lenN1 (r := r) (by omega)
    subst hk
    have q1 := hq 1 a rfl
    have hsa := hs a (by simp)
    rw [two_stack]
    exact d37 a _ rfl w B tb SV CV p D h hB hG hsa b o c q1
  rw [if_neg hk] at hrow
  by_cases hk : k = kTrusted
  · rw [if_pos hk] at hrow
    simp only [Option.some.injEq, Prod.mk.injEq] at hrow
    obtain ⟨hl, rfl⟩ := hrow
    obtain ⟨a, rfl⟩ := lenN1 (r := r) (by omega)
    subst hk
    have q1 := hq 1 a rfl
    have hsa := hs a (by simp)
    rw [two_trusted]
    exact d38 a _ rfl w B tb SV CV p D h hB hG hsa b o c q1
  rw [if_neg hk] at hrow
  by_cases hk : k = kComp
  · rw [if_pos hk] at hrow
    simp only [Option.some.injEq, Prod.mk.injEq] at hrow
    obtain ⟨hl, rfl⟩ := hrow
    obtain ⟨a, rfl⟩ := lenN1 (r := r) (by omega)
    subst hk
    have q1 := hq 1 a rfl
    have hsa := hs a (by simp)
    rw [two_comp]
    exact d39 a w B tb SV CV p D h hB hsa b o c q1
  rw [if_neg hk] at hrow
  by_cases hk : k = kObject
  · rw [if_pos hk] at hrow
    simp only [Option.some.injEq, Prod.mk.injEq] at hrow
    obtain ⟨hl, rfl⟩ := hrow
    obtain ⟨a, t, rfl⟩ := lenN2 (r := r) (by omega)
    subst hk
    have q1 := hq 1 a rfl
    have hsa := hs a (by simp)
    have q2 := hq 2 t rfl
    have hst := hs t (by simp)
    rw [three_object]
    exact d40_o a t w B tb SV CV p D h hB hsm hsa hst b o c q0 q1 q2
  rw [if_neg hk] at hrow
  by_cases hk : k = kArchive
  · rw [if_pos hk] at hrow
    simp only [Option.some.injEq, Prod.mk.injEq] at hrow
    obtain ⟨hl, rfl⟩ := hrow
    obtain ⟨a, t, rfl⟩ := lenN2 (r := r) (by omega)
    subst hk
    have q1 := hq 1 a rfl
    have hsa := hs a (by simp)
    have q2 := hq 2 t rfl
    have hst := hs t (by simp)
    rw [three_archive]
    exact d40_a a t w B tb SV CV p D h hB hsm hsa hst b o c q0 q1 q2
  rw [if_neg hk] at hrow
  by_cases hk : k = kExport
  · rw [if_pos hk] at hrow
    simp only [Option.some.injEq, Prod.mk.injEq] at hrow
    obtain ⟨hl, rfl⟩ := hrow
    obtain ⟨a, t, u, v, rfl⟩ := lenN4 (r := r) (by omega)
    subst hk
    have q1 := hq 1 a rfl
    have hsa := hs a (by simp)
    have q2 := hq 2 t rfl
    have hst := hs t (by simp)
    have q3 := hq 3 u rfl
    have hsu := hs u (by simp)
    have q4 := hq 4 v rfl
    have hsv := hs v (by simp)
    rw [five_export]
    exact d41 a t u v _ rfl _ rfl w B tb SV CV p D h hB hsm hG hsa hst hsu hsv b o c q1 q2 q3 q4
  rw [if_neg hk] at hrow
  by_cases hk : k = kImport
  · rw [if_pos hk] at hrow
    simp only [Option.some.injEq, Prod.mk.injEq] at hrow
    obtain ⟨hl, rfl⟩ := hrow
    obtain ⟨a, t, u, rfl⟩ := lenN3 (r := r) (by omega)
    subst hk
    have q1 := hq 1 a rfl
    have hsa := hs a (by simp)
    have q2 := hq 2 t rfl
    have hst := hs t (by simp)
    have q3 := hq 3 u rfl
    have hsu := hs u (by simp)
    rw [four_import]
    exact d42 a t u w B tb SV CV p D h hB hsm hsa hst hsu b o c q1 q2 q3
  rw [if_neg hk] at hrow
  by_cases hk : k = kDevice
  · rw [if_pos hk] at hrow
    simp only [Option.some.injEq, Prod.mk.injEq] at hrow
    obtain ⟨hl, rfl⟩ := hrow
    obtain ⟨a, t, u, v, rfl⟩ := lenN4 (r := r) (by omega)
    subst hk
    have q1 := hq 1 a rfl
    have hsa := hs a (by simp)
    have q2 := hq 2 t rfl
    have hst := hs t (by simp)
    have q3 := hq 3 u rfl
    have hsu := hs u (by simp)
    have q4 := hq 4 v rfl
    have hsv := hs v (by simp)
    rw [five_device]
    exact d43 a t u v _ rfl _ rfl w B tb SV CV p D h hB hsm hG (fun n hn => (numO_leN hn).2.1) (fun n hn => (numO_leN hn).2.1) hsa hst hsu hsv b o c q1 q2 q3 q4
  rw [if_neg hk] at hrow
  by_cases hk : k = kShare
  · rw [if_pos hk] at hrow
    simp only [Option.some.injEq, Prod.mk.injEq] at hrow
    obtain ⟨hl, rfl⟩ := hrow
    obtain ⟨a, t, rfl⟩ := lenN2 (r := r) (by omega)
    subst hk
    have q1 := hq 1 a rfl
    have hsa := hs a (by simp)
    have q2 := hq 2 t rfl
    have hst := hs t (by simp)
    rw [three_share]
    exact d44 a t _ rfl w B tb SV CV p D h hB hG hsa hst b o c q1 q2
  rw [if_neg hk] at hrow
  by_cases hk : k = kGive
  · rw [if_pos hk] at hrow
    simp only [Option.some.injEq, Prod.mk.injEq] at hrow
    obtain ⟨hl, rfl⟩ := hrow
    obtain ⟨a, t, u, rfl⟩ := lenN3 (r := r) (by omega)
    subst hk
    have q1 := hq 1 a rfl
    have hsa := hs a (by simp)
    have q2 := hq 2 t rfl
    have hst := hs t (by simp)
    have q3 := hq 3 u rfl
    have hsu := hs u (by simp)
    rw [four_give]
    by_cases hno : nameB a = false ∨ nameB t = false ∨ ¬ (u = kR ∨ u = kRw)
    · exact d45_n a t u w B tb SV CV p D h hB hno hsa hst hsu b o c q1 q2 q3
    · have ha : nameB a = true := by cases hh : nameB a; exact absurd (Or.inl hh) hno; rfl
      have ht : nameB t = true := by cases hh : nameB t; exact absurd (Or.inr (Or.inl hh)) hno; rfl
      have hu : u = kR ∨ u = kRw := Classical.byContradiction fun hh => hno (Or.inr (Or.inr hh))
      rcases hu with rfl | rfl
      · exact d45_r a t w B tb SV CV p D h hB hsm ha ht hsa hst b o c q1 q2 q3
      · exact d45_w a t w B tb SV CV p D h hB hsm ha ht hsa hst b o c q1 q2 q3
  rw [if_neg hk] at hrow
  by_cases hk : k = kStart
  · rw [if_pos hk] at hrow
    simp only [Option.some.injEq, Prod.mk.injEq] at hrow
    obtain ⟨hl, rfl⟩ := hrow
    obtain ⟨a, t, rfl⟩ := lenN2 (r := r) (by omega)
    subst hk
    have q1 := hq 1 a rfl
    have hsa := hs a (by simp)
    have q2 := hq 2 t rfl
    have hst := hs t (by simp)
    rw [three_start]
    exact d46 a t w B tb SV CV p D h hB hsa hst b o c q1 q2
  rw [if_neg hk] at hrow
  cases hrow
theorem row_none (p : Pm) (k : ByteArray) (r : List ByteArray) (hrow : rowOf k = none) : lineV p (k :: r) = (5, p) := by
  unfold rowOf at hrow
  have h0 : k ≠ kStack := fun hk => by
    rw [if_pos hk] at hrow
    cases hrow
  have h1 : k ≠ kTrusted := fun hk => by
    rw [if_neg h0] at hrow
    rw [if_pos hk] at hrow
    cases hrow
  have h2 : k ≠ kComp := fun hk => by
    rw [if_neg h0] at hrow
    rw [if_neg h1] at hrow
    rw [if_pos hk] at hrow
    cases hrow
  have h3 : k ≠ kObject := fun hk => by
    rw [if_neg h0] at hrow
    rw [if_neg h1] at hrow
    rw [if_neg h2] at hrow
    rw [if_pos hk] at hrow
    cases hrow
  have h4 : k ≠ kArchive := fun hk => by
    rw [if_neg h0] at hrow
    rw [if_neg h1] at hrow
    rw [if_neg h2] at hrow
    rw [if_neg h3] at hrow
    rw [if_pos hk] at hrow
    cases hrow
  have h5 : k ≠ kExport := fun hk => by
    rw [if_neg h0] at hrow
    rw [if_neg h1] at hrow
    rw [if_neg h2] at hrow
    rw [if_neg h3] at hrow
    rw [if_neg h4] at hrow
    rw [if_pos hk] at hrow
    cases hrow
  have h6 : k ≠ kImport := fun hk => by
    rw [if_neg h0] at hrow
    rw [if_neg h1] at hrow
    rw [if_neg h2] at hrow
    rw [if_neg h3] at hrow
    rw [if_neg h4] at hrow
    rw [if_neg h5] at hrow
    rw [if_pos hk] at hrow
    cases hrow
  have h7 : k ≠ kDevice := fun hk => by
    rw [if_neg h0] at hrow
    rw [if_neg h1] at hrow
    rw [if_neg h2] at hrow
    rw [if_neg h3] at hrow
    rw [if_neg h4] at hrow
    rw [if_neg h5] at hrow
    rw [if_neg h6] at hrow
    rw [if_pos hk] at hrow
    cases hrow
  have h8 : k ≠ kShare := fun hk => by
    rw [if_neg h0] at hrow
    rw [if_neg h1] at hrow
    rw [if_neg h2] at hrow
    rw [if_neg h3] at hrow
    rw [if_neg h4] at hrow
    rw [if_neg h5] at hrow
    rw [if_neg h6] at hrow
    rw [if_neg h7] at hrow
    rw [if_pos hk] at hrow
    cases hrow
  have h9 : k ≠ kGive := fun hk => by
    rw [if_neg h0] at hrow
    rw [if_neg h1] at hrow
    rw [if_neg h2] at hrow
    rw [if_neg h3] at hrow
    rw [if_neg h4] at hrow
    rw [if_neg h5] at hrow
    rw [if_neg h6] at hrow
    rw [if_neg h7] at hrow
    rw [if_neg h8] at hrow
    rw [if_pos hk] at hrow
    cases hrow
  have h10 : k ≠ kStart := fun hk => by
    rw [if_neg h0] at hrow
    rw [if_neg h1] at hrow
    rw [if_neg h2] at hrow
    rw [if_neg h3] at hrow
    rw [if_neg h4] at hrow
    rw [if_neg h5] at hrow
    rw [if_neg h6] at hrow
    rw [if_neg h7] at hrow
    rw [if_neg h8] at hrow
    rw [if_neg h9] at hrow
    rw [if_pos hk] at hrow
    cases hrow
  exact lineNno p k r (fun _ => ⟨h0, h1, h2⟩) (fun _ => ⟨h8, h10, h3, h4⟩) (fun _ => ⟨h6, h9⟩) (fun _ => ⟨h5, h7⟩)
theorem row_of (k : ByteArray) (n f : Nat) (hrow : rowOf k = some (n, f)) : (n ≠ 2 → k ≠ kStack ∧ k ≠ kTrusted ∧ k ≠ kComp) ∧ (n ≠ 3 → k ≠ kShare ∧ k ≠ kStart ∧ k ≠ kObject ∧ k ≠ kArchive) ∧ (n ≠ 4 → k ≠ kImport ∧ k ≠ kGive) ∧ (n ≠ 5 → k ≠ kExport ∧ k ≠ kDevice) := by
  unfold rowOf at hrow
  by_cases h0 : k = kStack
  · rw [if_pos h0] at hrow
    simp only [Option.some.injEq, Prod.mk.injEq] at hrow
    subst h0
    obtain ⟨rfl, -⟩ := hrow
    exact ⟨fun h => by first | exact absurd rfl h | (refine ⟨?_, ?_, ?_⟩ <;> decide), fun h => by first | exact absurd rfl h | (refine ⟨?_, ?_, ?_, ?_⟩ <;> decide), fun h => by first | exact absurd rfl h | (refine ⟨?_, ?_⟩ <;> decide), fun h => by first | exact absurd rfl h | (refine ⟨?_, ?_⟩ <;> decide)⟩
  rw [if_neg h0] at hrow
  by_cases h1 : k = kTrusted
  · rw [if_pos h1] at hrow
    simp only [Option.some.injEq, Prod.mk.injEq] at hrow
    subst h1
    obtain ⟨rfl, -⟩ := hrow
    exact ⟨fun h => by first | exact absurd rfl h | (refine ⟨?_, ?_, ?_⟩ <;> decide), fun h => by first | exact absurd rfl h | (refine ⟨?_, ?_, ?_, ?_⟩ <;> decide), fun h => by first | exact absurd rfl h | (refine ⟨?_, ?_⟩ <;> decide), fun h => by first | exact absurd rfl h | (refine ⟨?_, ?_⟩ <;> decide)⟩
  rw [if_neg h1] at hrow
  by_cases h2 : k = kComp
  · rw [if_pos h2] at hrow
    simp only [Option.some.injEq, Prod.mk.injEq] at hrow
    subst h2
    obtain ⟨rfl, -⟩ := hrow
    exact ⟨fun h => by first | exact absurd rfl h | (refine ⟨?_, ?_, ?_⟩ <;> decide), fun h => by first | exact absurd rfl h | (refine ⟨?_, ?_, ?_, ?_⟩ <;> decide), fun h => by first | exact absurd rfl h | (refine ⟨?_, ?_⟩ <;> decide), fun h => by first | exact absurd rfl h | (refine ⟨?_, ?_⟩ <;> decide)⟩
  rw [if_neg h2] at hrow
  by_cases h3 : k = kObject
  · rw [if_pos h3] at hrow
    simp only [Option.some.injEq, Prod.mk.injEq] at hrow
    subst h3
    obtain ⟨rfl, -⟩ := hrow
    exact ⟨fun h => by first | exact absurd rfl h | (refine ⟨?_, ?_, ?_⟩ <;> decide), fun h => by first | exact absurd rfl h | (refine ⟨?_, ?_, ?_, ?_⟩ <;> decide), fun h => by first | exact absurd rfl h | (refine ⟨?_, ?_⟩ <;> decide), fun h => by first | exact absurd rfl h | (refine ⟨?_, ?_⟩ <;> decide)⟩
  rw [if_neg h3] at hrow
  by_cases h4 : k = kArchive
  · rw [if_pos h4] at hrow
    simp only [Option.some.injEq, Prod.mk.injEq] at hrow
    subst h4
    obtain ⟨rfl, -⟩ := hrow
    exact ⟨fun h => by first | exact absurd rfl h | (refine ⟨?_, ?_, ?_⟩ <;> decide), fun h => by first | exact absurd rfl h | (refine ⟨?_, ?_, ?_, ?_⟩ <;> decide), fun h => by first | exact absurd rfl h | (refine ⟨?_, ?_⟩ <;> decide), fun h => by first | exact absurd rfl h | (refine ⟨?_, ?_⟩ <;> decide)⟩
  rw [if_neg h4] at hrow
  by_cases h5 : k = kExport
  · rw [if_pos h5] at hrow
    simp only [Option.some.injEq, Prod.mk.injEq] at hrow
    subst h5
    obtain ⟨rfl, -⟩ := hrow
    exact ⟨fun h => by first | exact absurd rfl h | (refine ⟨?_, ?_, ?_⟩ <;> decide), fun h => by first | exact absurd rfl h | (refine ⟨?_, ?_, ?_, ?_⟩ <;> decide), fun h => by first | exact absurd rfl h | (refine ⟨?_, ?_⟩ <;> decide), fun h => by first | exact absurd rfl h | (refine ⟨?_, ?_⟩ <;> decide)⟩
  rw [if_neg h5] at hrow
  by_cases h6 : k = kImport
  · rw [if_pos h6] at hrow
    simp only [Option.some.injEq, Prod.mk.injEq] at hrow
    subst h6
    obtain ⟨rfl, -⟩ := hrow
    exact ⟨fun h => by first | exact absurd rfl h | (refine ⟨?_, ?_, ?_⟩ <;> decide), fun h => by first | exact absurd rfl h | (refine ⟨?_, ?_, ?_, ?_⟩ <;> decide), fun h => by first | exact absurd rfl h | (refine ⟨?_, ?_⟩ <;> decide), fun h => by first | exact absurd rfl h | (refine ⟨?_, ?_⟩ <;> decide)⟩
  rw [if_neg h6] at hrow
  by_cases h7 : k = kDevice
  · rw [if_pos h7] at hrow
    simp only [Option.some.injEq, Prod.mk.injEq] at hrow
    subst h7
    obtain ⟨rfl, -⟩ := hrow
    exact ⟨fun h => by first | exact absurd rfl h | (refine ⟨?_, ?_, ?_⟩ <;> decide), fun h => by first | exact absurd rfl h | (refine ⟨?_, ?_, ?_, ?_⟩ <;> decide), fun h => by first | exact absurd rfl h | (refine ⟨?_, ?_⟩ <;> decide), fun h => by first | exact absurd rfl h | (refine ⟨?_, ?_⟩ <;> decide)⟩
  rw [if_neg h7] at hrow
  by_cases h8 : k = kShare
  · rw [if_pos h8] at hrow
    simp only [Option.some.injEq, Prod.mk.injEq] at hrow
    subst h8
    obtain ⟨rfl, -⟩ := hrow
    exact ⟨fun h => by first | exact absurd rfl h | (refine ⟨?_, ?_, ?_⟩ <;> decide), fun h => by first | exact absurd rfl h | (refine ⟨?_, ?_, ?_, ?_⟩ <;> decide), fun h => by first | exact absurd rfl h | (refine ⟨?_, ?_⟩ <;> decide), fun h => by first | exact absurd rfl h | (refine ⟨?_, ?_⟩ <;> decide)⟩
  rw [if_neg h8] at hrow
  by_cases h9 : k = kGive
  · rw [if_pos h9] at hrow
    simp only [Option.some.injEq, Prod.mk.injEq] at hrow
    subst h9
    obtain ⟨rfl, -⟩ := hrow
    exact ⟨fun h => by first | exact absurd rfl h | (refine ⟨?_, ?_, ?_⟩ <;> decide), fun h => by first | exact absurd rfl h | (refine ⟨?_, ?_, ?_, ?_⟩ <;> decide), fun h => by first | exact absurd rfl h | (refine ⟨?_, ?_⟩ <;> decide), fun h => by first | exact absurd rfl h | (refine ⟨?_, ?_⟩ <;> decide)⟩
  rw [if_neg h9] at hrow
  by_cases h10 : k = kStart
  · rw [if_pos h10] at hrow
    simp only [Option.some.injEq, Prod.mk.injEq] at hrow
    subst h10
    obtain ⟨rfl, -⟩ := hrow
    exact ⟨fun h => by first | exact absurd rfl h | (refine ⟨?_, ?_, ?_⟩ <;> decide), fun h => by first | exact absurd rfl h | (refine ⟨?_, ?_, ?_, ?_⟩ <;> decide), fun h => by first | exact absurd rfl h | (refine ⟨?_, ?_⟩ <;> decide), fun h => by first | exact absurd rfl h | (refine ⟨?_, ?_⟩ <;> decide)⟩
  rw [if_neg h10] at hrow
  cases hrow
theorem row_len (p : Pm) (k : ByteArray) (r : List ByteArray) (n f : Nat) (hrow : rowOf k = some (n, f)) (hn : r.length + 1 ≠ n) : lineV p (k :: r) = (5, p) := by
  obtain ⟨h2, h3, h4, h5⟩ := row_of k n f hrow
  exact lineNno p k r (fun h => h2 (by omega)) (fun h => h3 (by omega)) (fun h => h4 (by omega)) (fun h => h5 (by omega))
/-- a row's function is entered -/
theorem row_enter {k : ByteArray} {n f : Nat} (hrow : rowOf k = some (n, f)) (args : Array Value) (W : World) : (callFunc f args).run Tryz.prog W = .ok (.enter f args) W := by
  unfold rowOf at hrow
  repeat (split at hrow; · (simp only [Option.some.injEq, Prod.mk.injEq] at hrow; obtain ⟨-, rfl⟩ := hrow; kernel_rfl))
  cases hrow
end Go.Proofs.YtapdiionikfgpaaGreatDoor
