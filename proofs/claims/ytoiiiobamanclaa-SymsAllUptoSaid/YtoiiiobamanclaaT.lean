import Derived.Test.YtoiiiobamanclaaRows
import Derived.Deep.Slices
import Derived.Deep.Fields
import Derived.SliceStrings
import Derived.Lib.SmallJoins
import Derived.Test.YtoiiiobamanclaaF
namespace Go.Proofs.Ytoiiiobamanclaa
open Go.ChangeShapes Go.WideShapes Go.ChangeAt Go.RowKit Go.Deep Go.Joins
set_option linter.unusedVariables false
theorem bulk_one {H : Type} (d : DataW H) : 1 ≤ Rows.uptoBulk d := by
  cases d with
  | lit l => cases l <;> simp [Rows.uptoBulk]
  | nil => simp [Rows.uptoBulk]
  | ptr d => simp [Rows.uptoBulk]
  | slice elems spare => simp [Rows.uptoBulk]
  | agg parts => simp [Rows.uptoBulk]
  | iface t d => simp [Rows.uptoBulk]
  | map entries => simp [Rows.uptoBulk]
  | held h => simp [Rows.uptoBulk]
theorem bulk_part {H : Type} {d : DataW H} {l : List (DataW H)} (h : d ∈ l) : Rows.uptoBulk d ≤ Rows.uptoBulkAll l := by
  induction l with
  | nil => cases h
  | cons x r ih =>
    simp only [Rows.uptoBulkAll]
    cases List.mem_cons.1 h with
    | inl e => subst e; omega
    | inr e => have := ih e; omega
theorem bulk_len {H : Type} : ∀ l : List (DataW H), l.length ≤ Rows.uptoBulkAll l
  | [] => Nat.le_refl _
  | d :: r => by
    have := bulk_len r
    have := bulk_one d
    simp only [Rows.uptoBulkAll, List.length_cons]
    omega
theorem bulk_agg {H : Type} {d : DataW H} {l : List (DataW H)} {B : Nat} (h : d ∈ l) (hb : Rows.uptoBulk (.agg l) ≤ B) : Rows.uptoBulk d ≤ B := by
  have := bulk_part h
  simp only [Rows.uptoBulk] at hb
  omega
theorem bulk_sum {H : Type} {α : Type} (μ : α → Nat) (F : Nat → α) (D : Nat → DataW H) : ∀ l : List Nat, (∀ i ∈ l, μ (F i) ≤ Rows.uptoBulk (D i)) → ((l.map F).map μ).sum ≤ Rows.uptoBulkAll (l.map D)
  | [], _ => by simp [Rows.uptoBulkAll]
  | i :: r, h => by
    have h1 := h i (by simp)
    have h2 := bulk_sum μ F D r (fun j hj => h j (by simp [hj]))
    simp only [List.map_cons, List.sum_cons, Rows.uptoBulkAll]
    omega
theorem spot_of_cell {w : World} {a : Addr} {v : Value} (h : w.cell? a = some v) : a.spot = none := by
  unfold World.cell? at h
  split at h
  · split at h
    · cases h
    · rename_i hs
      cases hs' : a.spot <;> simp [hs'] at hs ⊢
  · cases h
theorem add_at (b o i : Nat) : (⟨b, o, none⟩ : Addr).add i = ⟨b, o + i, none⟩ := by
  unfold Addr.add
  split
  · rename_i h; rw [h]; rfl
  · rfl
section
variable {H : Type} {enc : TypeId × Value → H} {W : World} {base : Nat} {spare : Nat → Bool} {held : Bool} {B : Nat}
/-- a slice of whatever rows, opened as a list -/
theorem open_ly {T e sz : Nat} (hT : Try.prog.underlying T = some (.slice e)) (hc : Try.prog.cellsOf e = sz) (hz : 0 < sz) {α : Type} (dflt : α) (f : α → List Value) (Q : α → Prop) (μ : α → Nat)
    (one : ∀ n cs (y : DataW H × List MemPlace), cs.length = sz → DataW.trod enc Try.prog W base spare held n e cs = some y → Rows.uptoBulk y.1 ≤ B → ∃ x, f x = cs ∧ Q x ∧ μ x ≤ Rows.uptoBulk y.1)
    {fuel : Nat} {cs : List Value} {x : DataW H × List MemPlace} (h : DataW.trod enc Try.prog W base spare held fuel T cs = some x) (hb : Rows.uptoBulk x.1 ≤ B) :
    ∃ v L, cs = [v] ∧ Ly W v sz f L ∧ (∀ x ∈ L, Q x) ∧ (L.map μ).sum ≤ Rows.uptoBulk x.1 ∧ L.length ≤ Rows.uptoBulk x.1 := by
  rcases open_slice hT h with ⟨h0, _⟩ | ⟨a, len, cap, m, n, D, Pl, hcs, hba, hl, hm, hmm, hx, hi⟩
  · exact ⟨_, [], h0, ⟨none, 0, rfl, fun h => absurd h (by simp)⟩, (fun x hx => by cases hx), by simp, by simp⟩
  · have hle : len ≤ m := by rw [hmm]; split <;> omega
    rw [hx] at hb ⊢
    simp only [Rows.uptoBulk] at hb ⊢
    have hlen := bulk_len ((List.range len).map D)
    simp only [List.length_map, List.length_range] at hlen
    have hone : ∀ i, ∃ r : α, i < len → (f r).length = sz ∧ (∀ j v, (f r)[j]? = some v → W.cell? ((a.add (i * sz)).add j) = some v) ∧ Q r ∧ μ r ≤ Rows.uptoBulk (D i) := by
      intro i
      by_cases hlt : i < len
      · obtain ⟨cs', hcc, ht⟩ := hi i (by omega)
        rw [hc] at hcc
        obtain ⟨_, hcl, hat⟩ := World.cells?_some hcc
        obtain ⟨r, rfl, hq, hmu⟩ := one _ _ _ hcl ht (by
          have := bulk_part (List.mem_map.2 ⟨i, List.mem_range.2 hlt, rfl⟩ : D i ∈ (List.range len).map D)
          simp only
          omega)
        refine ⟨r, fun _ => ⟨hcl, fun j v hj => ?_, hq, hmu⟩⟩
        have hj2 : j < sz := by
          rcases Nat.lt_or_ge j sz with h | h
          · exact h
          · rw [List.getElem?_eq_none (by omega)] at hj; cases hj
        rw [hat j hj2]
        exact hj
      · exact ⟨dflt, fun h => absurd h hlt⟩
    obtain ⟨F, hF⟩ := Classical.axiomOfChoice hone
    have hsum := bulk_sum μ F D (List.range len) (fun i hi => (hF i (List.mem_range.1 hi)).2.2.2)
    refine ⟨.slice (some a) len cap, (List.range len).map F, hcs, ⟨some a, cap, by simp, fun h0 => ?_⟩, fun x hx => ?_, by omega, by simp; omega⟩
    · simp only [List.length_map, List.length_range] at h0
      have hl0 := (hF 0 h0).1
      have c0 := (hF 0 h0).2.1 0 _ (List.getElem?_eq_getElem (by omega))
      have e0 : (a.add (0 * sz)).add 0 = a := by simp [Addr.add]
      rw [e0] at c0
      have hs := spot_of_cell c0
      obtain ⟨b, o, s⟩ := a
      simp only at hs
      subst hs
      refine ⟨b, o, rfl, World.block_lt_of_cell? W _ c0, fun k x hx j v hj => ?_⟩
      rw [List.getElem?_map] at hx
      obtain ⟨i, hi, rfl⟩ := Option.map_eq_some_iff.1 hx
      obtain ⟨hk, he⟩ := List.getElem?_eq_some_iff.1 hi
      simp at he hk
      subst he
      rw [← add_at, ← add_at]
      exact (hF k hk).2.1 j v hj
    · obtain ⟨i, hi, rfl⟩ := List.mem_map.1 hx
      exact (hF i (List.mem_range.1 hi)).2.2.1
theorem cl3 : Try.prog.cellsOf 3 = 1 := by kernel_rfl
theorem cl4 : Try.prog.cellsOf 4 = 1 := by kernel_rfl
theorem cl5 : Try.prog.cellsOf 5 = 1 := by kernel_rfl
theorem cl9 : Try.prog.cellsOf 9 = 1 := by kernel_rfl
theorem cl45 : Try.prog.cellsOf 45 = 1 := by kernel_rfl
theorem cl47 : Try.prog.cellsOf 47 = 7 := by kernel_rfl
theorem cl44 : Try.prog.cellsOf 44 = 4 := by kernel_rfl
theorem cl42 : Try.prog.cellsOf 42 = 3 := by kernel_rfl
theorem cl38 : Try.prog.cellsOf 38 = 1 := by kernel_rfl
theorem cl39 : Try.prog.cellsOf 39 = 1 := by kernel_rfl
theorem cl40 : Try.prog.cellsOf 40 = 1 := by kernel_rfl
/-- a text within a bulk -/
theorem one_str {n : Nat} {cs : List Value} {y : DataW H × List MemPlace} (h : DataW.trod enc Try.prog W base spare held n 9 cs = some y) (hb : Rows.uptoBulk y.1 ≤ B) : ∃ s : ByteArray, cs = [.string s] ∧ s.size ≤ B := by
  obtain ⟨s, e, rfl, hs⟩ := DataW.trod_string Try.underlying9 h
  simp only [Rows.uptoBulk] at hb
  have : s.data.toList.length = s.size := rfl
  exact ⟨s, e, by omega⟩
/-- a slice of something, its rows left closed -/
theorem any_slice {T e : Nat} (hT : Try.prog.underlying T = some (.slice e)) {fuel : Nat} {cs : List Value} {x : DataW H × List MemPlace} (h : DataW.trod enc Try.prog W base spare held fuel T cs = some x) : ∃ A N c, cs = [.slice A N c] := by
  rcases open_slice hT h with ⟨h0, _⟩ | ⟨a, len, cap, m, n, D, Pl, hcs, _⟩
  · exact ⟨none, 0, 0, h0⟩
  · exact ⟨_, _, _, hcs⟩
/-- a symbol within a bulk -/
theorem one_sm {n : Nat} {cs : List Value} {y : DataW H × List MemPlace} (hl : cs.length = 7) (h : DataW.trod enc Try.prog W base spare held n 47 cs = some y) (hb : Rows.uptoBulk y.1 ≤ B) : ∃ x : Sm, Sm.c x = cs ∧ x.nm.size ≤ B ∧ 1 ≤ Rows.uptoBulk y.1 := by
  match cs, hl with
  | [a0, a1, a2, a3, a4, a5, a6], _ =>
    obtain ⟨xs, n, _, hx, _, hlen, hg⟩ := DataW.trod_struct Try.underlying47 h
    match xs, hlen with
    | [y0, y1, y2, y3, y4, y5, y6], _ =>
      have g0 : DataW.trod enc Try.prog W base spare held n 9 (([a0, a1, a2, a3, a4, a5, a6].drop 0).take (Try.prog.cellsOf 9)) = some y0 := hg 0 _ rfl
      have g1 : DataW.trod enc Try.prog W base spare held n 45 (([a0, a1, a2, a3, a4, a5, a6].drop 1).take (Try.prog.cellsOf 45)) = some y1 := hg 1 _ rfl
      have g2 : DataW.trod enc Try.prog W base spare held n 45 (([a0, a1, a2, a3, a4, a5, a6].drop 2).take (Try.prog.cellsOf 45)) = some y2 := hg 2 _ rfl
      have g3 : DataW.trod enc Try.prog W base spare held n 5 (([a0, a1, a2, a3, a4, a5, a6].drop 3).take (Try.prog.cellsOf 5)) = some y3 := hg 3 _ rfl
      have g4 : DataW.trod enc Try.prog W base spare held n 5 (([a0, a1, a2, a3, a4, a5, a6].drop 4).take (Try.prog.cellsOf 5)) = some y4 := hg 4 _ rfl
      have g5 : DataW.trod enc Try.prog W base spare held n 4 (([a0, a1, a2, a3, a4, a5, a6].drop 5).take (Try.prog.cellsOf 4)) = some y5 := hg 5 _ rfl
      have g6 : DataW.trod enc Try.prog W base spare held n 3 (([a0, a1, a2, a3, a4, a5, a6].drop 6).take (Try.prog.cellsOf 3)) = some y6 := hg 6 _ rfl
      rw [cl9] at g0
      rw [cl45] at g1 g2
      rw [cl5] at g3 g4
      rw [cl4] at g5
      rw [cl3] at g6
      rw [hx] at hb ⊢
      obtain ⟨s0, e0, hs0⟩ := one_str (B := B) g0 (bulk_agg (by simp) hb)
      obtain rfl : a0 = .string s0 := List.cons.inj e0 |>.1
      obtain ⟨s1, e1, _, _⟩ := DataW.trod_int Try.underlying45 g1
      obtain rfl : a1 = .int .u32 s1 := List.cons.inj e1 |>.1
      obtain ⟨s2, e2, _, _⟩ := DataW.trod_int Try.underlying45 g2
      obtain rfl : a2 = .int .u32 s2 := List.cons.inj e2 |>.1
      obtain ⟨s3, e3, _, _⟩ := DataW.trod_int Try.underlying5 g3
      obtain rfl : a3 = .int .u8 s3 := List.cons.inj e3 |>.1
      obtain ⟨s4, e4, _, _⟩ := DataW.trod_int Try.underlying5 g4
      obtain rfl : a4 = .int .u8 s4 := List.cons.inj e4 |>.1
      obtain ⟨s5, e5, _⟩ := DataW.trod_bool Try.underlying4 g5
      obtain rfl : a5 = .bool s5 := List.cons.inj e5 |>.1
      obtain ⟨s6, e6, _, _⟩ := DataW.trod_int Try.underlying3 g6
      obtain rfl : a6 = .int .i64 s6 := List.cons.inj e6 |>.1
      exact ⟨⟨s0, s1, s2, s3, s4, s5, s6⟩, rfl, hs0, bulk_one _⟩
def QLo (W : World) (B : Nat) (x : Lo × List Sm) : Prop := Ly W x.1.yv 7 Sm.c x.2 ∧ ∀ s ∈ x.2, s.nm.size ≤ B
/-- an object with its symbols -/
theorem one_lo {n : Nat} {cs : List Value} {y : DataW H × List MemPlace} (hl : cs.length = 4) (h : DataW.trod enc Try.prog W base spare held n 44 cs = some y) (hb : Rows.uptoBulk y.1 ≤ B) : ∃ x : Lo × List Sm, Lo.c x.1 = cs ∧ QLo W B x ∧ x.2.length ≤ Rows.uptoBulk y.1 := by
  match cs, hl with
  | [a0, a1, a2, a3], _ =>
    obtain ⟨xs, n, _, hx, _, hlen, hg⟩ := DataW.trod_struct Try.underlying44 h
    match xs, hlen with
    | [y0, y1], _ =>
      have g0 : DataW.trod enc Try.prog W base spare held n 9 (([a0, a1, a2, a3].drop 0).take (Try.prog.cellsOf 9)) = some y0 := hg 0 _ rfl
      have g1 : DataW.trod enc Try.prog W base spare held n 42 (([a0, a1, a2, a3].drop 1).take (Try.prog.cellsOf 42)) = some y1 := hg 1 _ rfl
      rw [cl9] at g0
      rw [cl42] at g1
      have g1' : DataW.trod enc Try.prog W base spare held n 42 [a1, a2, a3] = some y1 := g1
      rw [hx] at hb ⊢
      have hb1 : Rows.uptoBulk y1.1 ≤ B := bulk_agg (by simp) hb
      have hb1' : Rows.uptoBulk y1.1 ≤ Rows.uptoBulk (.agg ([y0, y1].map (·.1))) := bulk_agg (by simp) (Nat.le_refl _)
      obtain ⟨s0, e0, hs0⟩ := one_str (B := B) g0 (bulk_agg (by simp) hb)
      obtain rfl : a0 = .string s0 := List.cons.inj e0 |>.1
      obtain ⟨zs, n2, _, hz, _, hlen2, hg2⟩ := DataW.trod_struct Try.underlying42 g1'
      match zs, hlen2 with
      | [z0, z1, z2], _ =>
        have k0 : DataW.trod enc Try.prog W base spare held n2 38 (([a1, a2, a3].drop 0).take (Try.prog.cellsOf 38)) = some z0 := hg2 0 _ rfl
        have k1 : DataW.trod enc Try.prog W base spare held n2 39 (([a1, a2, a3].drop 1).take (Try.prog.cellsOf 39)) = some z1 := hg2 1 _ rfl
        have k2 : DataW.trod enc Try.prog W base spare held n2 40 (([a1, a2, a3].drop 2).take (Try.prog.cellsOf 40)) = some z2 := hg2 2 _ rfl
        rw [cl38] at k0
        rw [cl39] at k1
        rw [cl40] at k2
        have h6 : Rows.uptoBulk (.agg ([z0, z1, z2].map (·.1))) ≤ Rows.uptoBulk y1.1 := by rw [hz]; exact Nat.le_refl _
        rw [hz] at hb1
        obtain ⟨A0, N0, c0, e1⟩ := any_slice Try.underlying38 k0
        obtain rfl : a1 = .slice A0 N0 c0 := List.cons.inj e1 |>.1
        obtain ⟨A2, N2, c2, e2⟩ := any_slice Try.underlying40 k2
        obtain rfl : a3 = .slice A2 N2 c2 := List.cons.inj e2 |>.1
        obtain ⟨yv, S, e3, hly, hq, _, hlS⟩ := open_ly (B := B) Try.underlying39 cl47 (by decide) ⟨⟨#[]⟩, 0, 0, 0, 0, false, 0⟩ Sm.c (fun x => x.nm.size ≤ B) (fun _ => 1) (fun n cs y h1 h2 h3 => one_sm h1 h2 h3) k1 (bulk_agg (by simp) hb1)
        obtain rfl : a2 = yv := List.cons.inj e3 |>.1
        have h5 : Rows.uptoBulk z1.1 ≤ Rows.uptoBulk (.agg ([z0, z1, z2].map (·.1))) := bulk_agg (by simp) (Nat.le_refl _)
        exact ⟨(⟨s0, A0, N0, c0, a2, A2, N2, c2⟩, S), rfl, ⟨hly, hq⟩, Nat.le_trans hlS (Nat.le_trans h5 (Nat.le_trans h6 hb1'))⟩
end
/-- objects, opened within a bulk -/
theorem open_lds {H : Type} {enc : TypeId × Value → H} {W : World} {base : Nat} {spare : Nat → Bool} {held : Bool} {B : Nat} {fuel : Nat} {v : Value} {x : DataW H × List MemPlace} (h : DataW.trod enc Try.prog W base spare held fuel 22 [v] = some x) (hb : Rows.uptoBulk x.1 ≤ B) :
    ∃ D, Lds W v D ∧ tot (D.map (·.2)) ≤ B ∧ (∀ x ∈ D, ∀ s ∈ x.2, s.nm.size ≤ B) ∧ D.length ≤ B := by
  obtain ⟨v', D, e, hly, hq, hs, hl⟩ := open_ly (B := B) Try.underlying22 cl44 (by decide) (⟨⟨#[]⟩, none, 0, 0, .slice none 0 0, none, 0, 0⟩, []) (fun x : Lo × List Sm => Lo.c x.1) (QLo W B) (fun x => x.2.length) (fun n cs y h1 h2 h3 => one_lo h1 h2 h3) h hb
  obtain rfl : v = v' := List.cons.inj e |>.1
  refine ⟨D, ⟨hly, fun x hx => (hq x hx).1⟩, ?_, fun x hx => (hq x hx).2, by omega⟩
  unfold tot
  rw [List.map_map]
  have : (D.map (List.length ∘ fun x => x.2)).sum = (D.map fun x => x.2.length).sum := rfl
  rw [this]
  omega
/-- texts, opened within a bulk -/
theorem open_sts {H : Type} {enc : TypeId × Value → H} {W : World} {base : Nat} {spare : Nat → Bool} {held : Bool} {B : Nat} {fuel : Nat} {v : Value} {x : DataW H × List MemPlace} (h : DataW.trod enc Try.prog W base spare held fuel 23 [v] = some x) (hb : Rows.uptoBulk x.1 ≤ B) :
    ∃ O : List ByteArray, Ly W v 1 (fun s => [Value.string s]) O ∧ (∀ s ∈ O, s.size ≤ B) ∧ O.length ≤ B := by
  obtain ⟨v', O, e, hly, hq, _, hl⟩ := open_ly (B := B) Try.underlying23 cl9 (by decide) (ByteArray.empty) (fun s => [Value.string s]) (fun s => s.size ≤ B) (fun _ => 1) (fun n cs y h1 h2 h3 => by
    obtain ⟨s, e, hs⟩ := one_str h2 h3
    exact ⟨s, e.symm, hs, bulk_one _⟩) h hb
  obtain rfl : v = v' := List.cons.inj e |>.1
  exact ⟨O, hly, hq, by omega⟩
end Go.Proofs.Ytoiiiobamanclaa
