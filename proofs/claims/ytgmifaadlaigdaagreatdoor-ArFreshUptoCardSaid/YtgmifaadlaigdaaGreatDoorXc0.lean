import Derived.Test.YtgmifaadlaigdaaGreatDoorXb
import Derived.Test.YtgmifaadlaigdaaGreatDoorQm
namespace Go.Proofs.YtgmifaadlaigdaaGreatDoor
open Go.ChangeShapes Go.WideShapes Go.ChangeAt Go.RowKit
set_option linter.unusedVariables false
/-- the members of the pieces, wherever their bytes lie -/
def MemT (p : Nat → Pc) (n : Nat) (g : Nat → Mem) : Prop := ∀ i, i < n → (g i).nm = nmS (p i).nm ∧ (g i).n = (p i).body.size ∧ (∀ j, j < (g i).n → (g i).f j = bb (p i).body j)
/-- what the reference's Read answers -/
def RefOut (s : ByteArray) (w : World) (e : Ending) (w' : World) : Prop :=
  (∃ er : Nat, ReadErr s er ∧ e = .returned (.tuple #[.slice none 0 0, .slice none 0 0, .int .i64 (er : Int)]) ∧ Below w.heap.size w w') ∨
  (∃ k, ReadGood s k ∧ ∃ A c B d g x, e = .returned (.tuple #[.slice A (k - ix1 s k) c, .slice B (cntR s k) d, .int .i64 0]) ∧ Ms w' A (k - ix1 s k) g ∧ MemT (fun i => pcS s (i + ix1 s k)) (k - ix1 s k) g ∧ Is w' B (cntR s k) x ∧ (ix1 s k = 1 → IxS (pcS s 0).body (fun i => (pcS s (i + 1)).at') (k - 1) (cntR s k) x) ∧ Below w.heap.size w w')
theorem mt_row {w : World} {B n : Nat} {v : Value} {p : Nat → Pc} {sl : Nat → Value} (h : w.ownsRow B 39 2 v n (mcC p sl n)) (hs : ∀ j, j < n → SlOk w (sl j) (p j).body) (hz : ∀ j, j < n → (p j).nm.size ≤ 65536 ∧ (p j).body.size ≤ 65536) :
    ∃ A c G, v = .slice A n c ∧ Ms w A n G ∧ MemT p n G := by
  obtain ⟨A, c, hv, ho⟩ := row_open h
  have hc : ∀ j, ∃ q : Option Addr × Nat, j < n → sl j = .slice q.1 (p j).body.size q.2 ∧ (p j).body.size ≤ q.2 ∧ Bz w q.1 (p j).body.size (bb (p j).body) := fun j => by
    by_cases hj : j < n
    · obtain ⟨A, c, h1, h2, _, _, h3⟩ := hs j hj
      refine ⟨(A, c), fun _ => ⟨h1, h2, fun h0 => ?_⟩⟩
      obtain ⟨g, e, hb⟩ := h3 h0
      exact ⟨g, 0, e, hb_bs hb⟩
    · exact ⟨(none, 0), fun h => absurd h hj⟩
  obtain ⟨q, hq⟩ := Classical.axiomOfChoice hc
  refine ⟨A, c, fun j => ⟨nmS (p j).nm, (q j).1, (p j).body.size, (q j).2, bb (p j).body⟩, hv, fun h0 => ?_, fun i hi => ⟨rfl, rfl, fun _ _ => rfl⟩⟩
  obtain ⟨b, e, hb, _, _, hcell⟩ := ho h0
  refine ⟨b, 0, e, hb, fun k hk => ?_⟩
  obtain ⟨c1, c2⟩ := mcC_at p sl n k hk
  obtain ⟨s1, s2, s3⟩ := hq k hk
  have hsz := hz k hk
  have hnm : (nmS (p k).nm).size ≤ 9223372036854775807 := by
    unfold nmS
    rw [strN_size]
    have := trimN_le (bb (p k).nm) (p k).nm.size
    omega
  refine ⟨by rw [Nat.zero_add]; exact hcell _ _ c1, by rw [Nat.zero_add, ← s1]; exact hcell _ _ c2, s3, ?_, s2, hnm⟩
  show (p k).body.size ≤ _
  omega
/-- a part's name is the head's, trimmed -/
theorem rp_nm {s : ByteArray} {i : Nat} (h : atN (bb s) i + 60 ≤ s.size) : strN (fun j => bb s (atN (bb s) i + j)) (trimN (fun j => bb s (atN (bb s) i + j)) 16) = trS (pcS s i).nm ∧ (pcS s i).nm.size = 16 := by
  have hz : (pcS s i).nm.size = 16 := by
    show (s.extract _ _).size = 16
    rw [ext_size _ _ _ (by omega)]; omega
  have hc : ∀ k, k < 16 → bb (pcS s i).nm k = bb s (atN (bb s) i + k) := fun k hk => bb_ext s _ _ k (by omega) (by omega)
  refine ⟨?_, hz⟩
  unfold trS
  rw [hz, trimN_congr hc]
  have := trimN_le (fun j => bb s (atN (bb s) i + j)) 16
  exact (strN_congr (fun k hk => hc k (by omega))).symm
theorem rpC_at (s : ByteArray) (sl : Nat → Value) : ∀ n k, k < n → (rpC s sl n)[k * 3]? = some (.string (strN (fun j => bb s (atN (bb s) k + j)) (trimN (fun j => bb s (atN (bb s) k + j)) 16))) ∧ (rpC s sl n)[k * 3 + 1]? = some (.int .i64 (atN (bb s) k : Int)) ∧ (rpC s sl n)[k * 3 + 2]? = some (sl k)
  | 0, k, h => by omega
  | n + 1, k, h => by
    have hl : ∀ n, (rpC s sl n).length = n * 3 := by
      intro n
      induction n with
      | zero => rfl
      | succ n ih => rw [rpC, List.length_append, ih]; simp; omega
    rw [rpC]
    by_cases e : k = n
    · subst e
      rw [List.getElem?_append_right (by rw [hl]; omega), List.getElem?_append_right (by rw [hl]; omega), List.getElem?_append_right (by rw [hl]; omega), hl]
      have e1 : k * 3 - k * 3 = 0 := by omega
      have e2 : k * 3 + 1 - k * 3 = 1 := by omega
      have e3 : k * 3 + 2 - k * 3 = 2 := by omega
      rw [e1, e2, e3]
      exact ⟨rfl, rfl, rfl⟩
    · rw [List.getElem?_append_left (by rw [hl]; omega), List.getElem?_append_left (by rw [hl]; omega), List.getElem?_append_left (by rw [hl]; omega)]
      exact rpC_at s sl n k (by omega)
theorem rs_row {w : World} {B k c : Nat} {A : Option Addr} {s : ByteArray} {sl : Nat → Value} (h : w.ownsRow B 75 3 (.slice A k c) k (rpC s sl k)) (hs : s.size ≤ 65536) {b : Bool} (hp : Parts (bb s) s.size k b) : Rs w A k (fun i => trS (pcS s i).nm) (fun i => (pcS s i).at') sl := fun h0 => by
  obtain ⟨A', c', hv, ho⟩ := row_open h
  injection hv with e1 e2 e3
  obtain ⟨g, hg, hl, _, _, hcell⟩ := ho h0
  refine ⟨g, 0, by rw [e1]; exact hg, hl, fun i hi => ?_⟩
  obtain ⟨c1, c2, c3⟩ := rpC_at s sl k i hi
  obtain ⟨n1, n2⟩ := rp_nm (hp.1 i hi).2.2.1
  rw [Nat.zero_add]
  refine ⟨by show w.cell? _ = some (.string (trS (pcS s i).nm)); rw [← n1]; exact hcell _ _ c1, hcell _ _ c2, hcell _ _ c3, ?_, (pcs_small hs hp i hi).2.2⟩
  show (trS (pcS s i).nm).size ≤ _
  unfold trS
  rw [strN_size]
  have := trimN_le (bb (pcS s i).nm) (pcS s i).nm.size
  omega
theorem rs_tail {w : World} {k g : Nat} {nm : Nat → ByteArray} {P : Nat → Nat} {sl : Nat → Value} {A : Option Addr} (h : Rs w (some ⟨g, 0, none⟩) k nm P sl) (hA : A = some ⟨g, 3, none⟩ ∨ k - 1 = 0) : Rs w A (k - 1) (fun i => nm (i + 1)) (fun i => P (i + 1)) (fun i => sl (i + 1)) := fun h0 => by
  obtain ⟨b, o, e, hl, hc⟩ := h (by omega)
  injection e with e
  injection e with e1 e2
  subst e1 e2
  rcases hA with rfl | hA
  · refine ⟨g, 3, rfl, hl, fun i hi => ?_⟩
    have := hc (i + 1) (by omega)
    have e3 : 0 + (i + 1) * 3 = 3 + i * 3 := by omega
    rw [e3] at this
    exact this
  · omega
set_option maxRecDepth 100000 in
theorem sl71 (b k c : Nat) (h1 : 1 ≤ k) (h2 : k ≤ c) (W : World) : (Instr.slice 71 (.slice (some ⟨b, 0, none⟩) k c) (some (.int .i64 1)) none none).run Tryz.prog W = .ok (.slice (some (if c = 1 then ⟨b, 0, none⟩ else ⟨b, 3, none⟩)) (k - 1) (c - 1)) W := by
  have he : Tryz.prog.elem 71 = 75 := by simp [Program.elem, Tryz.underlying71]
  have ht : Tryz.prog.underlying 71 = some (.slice (Tryz.prog.elem 71)) := by rw [he]; exact Tryz.underlying71
  rw [run_slice_l W 71 (some ⟨b, 0, none⟩) k c ht .i64 1 (by omega) (by omega), he, Tryz.sizeOf75 W]
  simp only [Result.andThen, sliced]
  by_cases hc : c = 1
  · have e : c = (1 : Int).toNat := hc
    rw [if_pos e, if_pos hc]
    rfl
  · have e : ¬ c = (1 : Int).toNat := hc
    rw [if_neg e, if_neg hc]
    rfl
theorem str_47' (t : ByteArray) : (t.toList == ((⟨#[47]⟩ : ByteArray)).toList) = decide (t = ⟨#[47]⟩) := by
  rw [show ((⟨#[47]⟩ : ByteArray)).toList = [47] by kernel_rfl]
  exact str_47 t
theorem k5_row39 {w w' : World} {B size n : Nat} {v : Value} {xs : List Value} (ho : w.ownsRow B 39 size v n xs) (hg : w.grownBy w' v.ownBlock) : K5 w w' := k5_row ho hg
/-- the members so far -/
def R14b (W0 : World) (p : Nat → Pc) (sl : Nat → Value) (n : Nat) (out i : Value) (wr : World) : Prop := ∃ k : Nat, k ≤ n ∧ i = .int .i64 (k : Int) ∧ wr.ownsRow W0.heap.size 39 2 out k (mcC p sl k) ∧ AllS p k ∧ Below W0.heap.size W0 wr
/-- behind the index -/
def RelI (s : ByteArray) (k : Nat) (sl : Nat → Value) (w1 : World) (l x okv : Value) (wx : World) : Prop :=
  ∃ (AL : Option Addr) (cL : Nat) (ib : Bool), l = .slice AL (k - ix1 s k) cL ∧ okv = .bool ib ∧ Rs wx AL (k - ix1 s k) (fun i => trS (pcS s (i + ix1 s k)).nm) (fun i => (pcS s (i + ix1 s k)).at') (fun i => sl (i + ix1 s k)) ∧ Below w1.heap.size w1 wx ∧
  ((ib = false ∧ ix1 s k = 1 ∧ ¬ IdxGood (pcS s 0).body (fun i => (pcS s (i + 1)).at') (k - 1)) ∨
   (ib = true ∧ ∃ B d y, x = .slice B (cntR s k) d ∧ Is wx B (cntR s k) y ∧ (ix1 s k = 1 → IdxGood (pcS s 0).body (fun i => (pcS s (i + 1)).at') (k - 1) ∧ IxS (pcS s 0).body (fun i => (pcS s (i + 1)).at') (k - 1) (cntR s k) y)))
theorem gd_tr (h : ByteArray) : gdS h ↔ (1 ≤ (trS h).size ∧ bb (trS h) ((trS h).size - 1) = 47 ∧ nmB (nmS h) = true) := by
  have hz : (trS h).size = trimN (bb h) h.size := strN_size _ _
  rw [hz]
  unfold gdS
  have e : 1 ≤ trimN (bb h) h.size → bb (trS h) (trimN (bb h) h.size - 1) = bb h (trimN (bb h) h.size - 1) := fun h1 => bb_strN _ _ _ (by omega) (bb_lt _ _)
  constructor
  · rintro ⟨h1, h2, h3⟩
    exact ⟨h1, by rw [e h1]; exact h2, h3⟩
  · rintro ⟨h1, h2, h3⟩
    exact ⟨h1, by rw [← e h1]; exact h2, h3⟩
theorem nm_tr (h : ByteArray) : (trS h).extract 0 ((trS h).size - 1) = nmS h := by
  rw [ext0 _ _ (by omega)]
  unfold nmS
  have hz : (trS h).size = trimN (bb h) h.size := strN_size _ _
  rw [hz]
  exact strN_congr fun k hk => bb_strN _ _ _ (by omega) (bb_lt _ _)
end Go.Proofs.YtgmifaadlaigdaaGreatDoor
