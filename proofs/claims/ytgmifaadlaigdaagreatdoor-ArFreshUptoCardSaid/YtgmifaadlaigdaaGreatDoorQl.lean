import Derived.Test.YtgmifaadlaigdaaGreatDoorQk
namespace Go.Proofs.YtgmifaadlaigdaaGreatDoor
open Go.ChangeShapes Go.WideShapes Go.ChangeAt Go.RowKit
set_option linter.unusedVariables false
theorem hb_bs {w : World} {b : Nat} {s : ByteArray} (h : Hb w b s) : Bs w b 0 s.size (bb s) := by
  obtain ⟨cs, fr, h1, h2⟩ := h
  exact ⟨lt_of h1, fun k hk => ⟨bb_lt s k, by rw [Nat.zero_add, Lib.cell_of_heap h1]; exact h2 k hk⟩⟩
/-- a member's bytes: a whole row of the call's own -/
def Fs (w : World) (B : Nat) (A : Option Addr) (C : Nat) : Prop := ∃ b cs fr, A = some ⟨b, 0, none⟩ ∧ B ≤ b ∧ C ≤ maxLen ∧ w.heap[b]? = some (.cells cs 5 fr) ∧ cs.size = C ∧ C ≤ fr.1 ∧ ∀ j, j < C → ∃ x : Nat, cs[j]? = some (.int .u8 (x : Int))
theorem Fs.below {w w' : World} {B B' C : Nat} {A : Option Addr} (h : Fs w B A C) (hb : Below w.heap.size w w') (hB : B' ≤ B) : Fs w' B' A C := by
  obtain ⟨b, cs, fr, h1, h2, h3, h4, h5⟩ := h
  exact ⟨b, cs, fr, h1, by omega, h3, k5_below hb b cs fr h4, h5⟩
theorem ms_row {w : World} {B n : Nat} {v : Value} {p : Nat → Pc} {sl : Nat → Value} (h : w.ownsRow B 39 2 v n (mcC p sl n)) (hs : ∀ j, j < n → Sl B w (p j).body (sl j)) (hz : ∀ j, j < n → (p j).nm.size ≤ 65536 ∧ (p j).body.size ≤ 65536) :
    ∃ A c G, v = .slice A n c ∧ Ms w A n G ∧ MemS p n G ∧ ∀ i, i < n → Fs w B (G i).A (G i).c := by
  obtain ⟨A, c, hv, ho⟩ := row_open h
  have hc : ∀ j, ∃ q : Nat × Nat, j < n → sl j = .slice (some ⟨q.1, 0, none⟩) (p j).body.size q.2 ∧ (p j).body.size ≤ q.2 ∧ Hb w q.1 (p j).body ∧ Fs w B (some ⟨q.1, 0, none⟩) q.2 := fun j => by
    by_cases hj : j < n
    · obtain ⟨b, c, h1, h2, h3, h4, h5, cs, fr, h6⟩ := hs j hj
      exact ⟨(b, c), fun _ => ⟨h1, h2, h3, b, cs, fr, rfl, h4, h5, h6⟩⟩
    · exact ⟨(0, 0), fun h => absurd h hj⟩
  obtain ⟨q, hq⟩ := Classical.axiomOfChoice hc
  refine ⟨A, c, fun j => ⟨nmS (p j).nm, some ⟨(q j).1, 0, none⟩, (p j).body.size, (q j).2, bb (p j).body⟩, hv, fun h0 => ?_, fun i hi => ⟨rfl, rfl, fun _ _ => rfl, fun e => by cases e⟩, fun i hi => (hq i hi).2.2.2⟩
  obtain ⟨b, e, hb, _, _, hcell⟩ := ho h0
  refine ⟨b, 0, e, hb, fun k hk => ?_⟩
  obtain ⟨c1, c2⟩ := mcC_at p sl n k hk
  obtain ⟨s1, s2, s3, _⟩ := hq k hk
  have hsz := hz k hk
  have hnm : (nmS (p k).nm).size ≤ 9223372036854775807 := by
    unfold nmS
    rw [strN_size]
    have := trimN_le (bb (p k).nm) (p k).nm.size
    omega
  refine ⟨by rw [Nat.zero_add]; exact hcell _ _ c1, by rw [Nat.zero_add, ← s1]; exact hcell _ _ c2, fun _ => ⟨_, 0, rfl, hb_bs s3⟩, ?_, s2, hnm⟩
  show (p k).body.size ≤ _
  omega
theorem is_row {w : World} {B m : Nat} {v : Value} {t : ByteArray} {mf : Nat → Nat} {P : Nat → Nat} {n : Nat} (h : w.ownsRow B 58 2 v m (icC t mf m)) (hm : ∀ i, i < m → mf i < n ∧ P (mf i) = bigN (bb t) (4 + 4 * i)) (ht : t.size ≤ 65536) (hn : n ≤ 65536) :
    ∃ A c x, v = .slice A m c ∧ Is w A m x ∧ IxS t P n m x := by
  obtain ⟨A, c, hv, ho⟩ := row_open h
  refine ⟨A, c, fun i => ⟨t.extract (np (bb t) t.size i) (zN (bb t) t.size (np (bb t) t.size i)), (mf i : Int)⟩, hv, fun h0 => ?_, fun i hi => ⟨rfl, mf i, rfl, hm i hi⟩⟩
  obtain ⟨b, e, hb, _, _, hcell⟩ := ho h0
  refine ⟨b, 0, e, hb, fun k hk => ?_⟩
  obtain ⟨c1, c2⟩ := icC_at t mf m k hk
  have := (hm k hk).1
  refine ⟨by rw [Nat.zero_add]; exact hcell _ _ c1, by rw [Nat.zero_add]; exact hcell _ _ c2, ?_, ?_, ?_⟩
  · show (t.extract _ _).size ≤ _
    rw [ByteArray.size_extract]
    omega
  · show (-9223372036854775808 : Int) ≤ (mf k : Int)
    omega
  · show (mf k : Int) ≤ 9223372036854775807
    omega
theorem pcs_at_lt (s : ByteArray) {i j : Nat} (h : i < j) : (pcS s i).at' < (pcS s j).at' := by
  show atN (bb s) i < atN (bb s) j
  have key : ∀ d i, posN (bb s) i + 60 ≤ posN (bb s) (i + 1 + d) := by
    intro d
    induction d with
    | zero => intro i; exact posN_lt (bb s) i
    | succ d ih => intro i; have := ih i; have := posN_lt (bb s) (i + 1 + d); rw [← Nat.add_assoc]; omega
  obtain ⟨d, rfl⟩ := Nat.exists_eq_add_of_le (show i + 1 ≤ j from h)
  have := key d i
  unfold atN evn
  omega
/-- the pieces are no greater than the text -/
theorem pcs_small {s : ByteArray} {k : Nat} {b : Bool} (hs : s.size ≤ 65536) (h : Parts (bb s) s.size k b) : ∀ i, i < k → (pcS s i).nm.size ≤ 65536 ∧ (pcS s i).body.size ≤ 65536 ∧ (pcS s i).at' ≤ 65536 := fun i hi => by
  obtain ⟨h1, h2⟩ := h.1 i hi
  have h3 := h2.2.1
  refine ⟨?_, ?_, ?_⟩
  · show (s.extract _ _).size ≤ _
    rw [ByteArray.size_extract]; omega
  · show (s.extract _ _).size ≤ _
    rw [ByteArray.size_extract]; omega
  · show atN (bb s) i ≤ _
    omega
theorem parts_k {s : ByteArray} {k : Nat} {b : Bool} (hs : s.size ≤ 65536) (h : Parts (bb s) s.size k b) : k ≤ 65536 := by
  by_cases h0 : k = 0
  · omega
  · have h1 := (h.1 (k - 1) (by omega)).1
    have h2 := posN_ge (bb s) (k - 1)
    omega
theorem ps_row {w : World} {B k c : Nat} {A : Option Addr} {s : ByteArray} (h : w.ownsRow B 65 3 (.slice A k c) k (pcC s k)) (hs : s.size ≤ 65536) {b : Bool} (hp : Parts (bb s) s.size k b) : Ps w A k (pcS s) := fun h0 => by
  obtain ⟨A', c', hv, ho⟩ := row_open h
  injection hv with e1 e2 e3
  obtain ⟨g, hg, hl, _, _, hcell⟩ := ho h0
  refine ⟨g, 0, by rw [e1]; exact hg, hl, fun i hi => ?_⟩
  obtain ⟨c1, c2, c3⟩ := pcC_at s k i hi
  rw [Nat.zero_add]
  exact ⟨hcell _ _ c1, hcell _ _ c2, hcell _ _ c3, pcs_small hs hp i hi⟩
theorem ps_tail {w : World} {k g : Nat} {p : Nat → Pc} {A : Option Addr} (h : Ps w (some ⟨g, 0, none⟩) k p) (hA : A = some ⟨g, 3, none⟩ ∨ k - 1 = 0) : Ps w A (k - 1) (fun i => p (i + 1)) := fun h0 => by
  obtain ⟨b, o, e, hl, hc⟩ := h (by omega)
  injection e with e
  injection e with e1 e2
  subst e1 e2
  rcases hA with rfl | hA
  · refine ⟨g, 3, rfl, hl, fun i hi => ?_⟩
    have := hc (i + 1) (by omega)
    have e3 : 0 + (i + 1) * 3 = 3 + i * 3 := by omega
    rw [e3] at this
    exact this
  · omega
end Go.Proofs.YtgmifaadlaigdaaGreatDoor
