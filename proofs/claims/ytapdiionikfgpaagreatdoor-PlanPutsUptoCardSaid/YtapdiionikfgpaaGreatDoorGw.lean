import Derived.Test.YtapdiionikfgpaaGreatDoorGq
import Derived.Lib.ItoaLen
namespace Go.Proofs.YtapdiionikfgpaaGreatDoor
open Go.ChangeShapes Go.WideShapes Go.ChangeAt Go.RowKit Go.Deep Go.Joins
set_option linter.unusedVariables false
theorem bulk_len {H : Type} : ∀ l : List (DataW H), l.length ≤ Rows.uptoBulkAll l
  | [] => Nat.le_refl _
  | d :: r => by
    have := bulk_len r
    have := bulk_one d
    simp only [Rows.uptoBulkAll, List.length_cons]
    omega
theorem bulk_agg {H : Type} {d : DataW H} {l : List (DataW H)} {B : Nat} (h : d ∈ l) (hb : Rows.uptoBulk (.agg l) ≤ B) : Rows.uptoBulk d ≤ B := by
  have := bulk_part h
  simp only [Rows.uptoBulk] at hb
  omega
theorem bulk_sum {H : Type} {α : Type} (μ : α → Nat) (F : Nat → α) (D : Nat → DataW H) : ∀ l : List Nat, (∀ i ∈ l, μ (F i) ≤ Rows.uptoBulk (D i)) → ((l.map F).map μ).sum ≤ Rows.uptoBulkAll (l.map D)
  | [], _ => by simp [Rows.uptoBulkAll]
  | i :: r, h => by
    have h1 := h i (by simp)
    have h2 := bulk_sum μ F D r (fun j hj => h j (by simp [hj]))
    simp only [List.map_cons, List.sum_cons, Rows.uptoBulkAll]
    omega
theorem spot_of_cell {w : World} {a : Addr} {v : Value} (h : w.cell? a = some v) : a.spot = none := by
  unfold World.cell? at h
  split at h
  · split at h
    · cases h
    · rename_i hs
      cases hs' : a.spot <;> simp [hs'] at hs ⊢
  · cases h
theorem add_at (b o i : Nat) : (⟨b, o, none⟩ : Addr).add i = ⟨b, o + i, none⟩ := by
  unfold Addr.add
  split
  · rename_i h; rw [h]; rfl
  · rfl
section
variable {H : Type} {enc : TypeId × Value → H} {W : World} {base : Nat} {spare : Nat → Bool} {held : Bool} {B : Nat}
/-- a slice of whatever rows, opened as a list -/
theorem open_ly {T e sz : Nat} (hT : Tryz.prog.underlying T = some (.slice e)) (hc : Tryz.prog.cellsOf e = sz) (hz : 0 < sz) {α : Type} (dflt : α) (f : α → List Value) (Q : α → Prop) (μ : α → Nat)
    (one : ∀ n cs (y : DataW H × List MemPlace), cs.length = sz → DataW.trod enc Tryz.prog W base spare held n e cs = some y → Rows.uptoBulk y.1 ≤ B → ∃ x, f x = cs ∧ Q x ∧ μ x ≤ Rows.uptoBulk y.1)
    {fuel : Nat} {cs : List Value} {x : DataW H × List MemPlace} (h : DataW.trod enc Tryz.prog W base spare held fuel T cs = some x) (hb : Rows.uptoBulk x.1 ≤ B) :
    ∃ v L, cs = [v] ∧ Ly W v sz f L ∧ (∀ x ∈ L, Q x) ∧ (L.map μ).sum ≤ Rows.uptoBulk x.1 ∧ L.length ≤ Rows.uptoBulk x.1 := by
  rcases open_slice hT h with ⟨h0, _⟩ | ⟨a, len, cap, m, n, D, Pl, hcs, hba, hl, hm, hmm, hx, hi⟩
  · exact ⟨_, [], h0, ⟨none, 0, rfl, fun h => absurd h (by simp)⟩, (fun x hx => by cases hx), by simp, by simp⟩
  · have hle : len ≤ m := by rw [hmm]; split <;> omega
    rw [hx] at hb ⊢
    simp only [Rows.uptoBulk] at hb ⊢
    have hlen := bulk_len ((List.range len).map D)
    simp only [List.length_map, List.length_range] at hlen
    have hone : ∀ i, ∃ r : α, i < len → (f r).length = sz ∧ (∀ j v, (f r)[j]? = some v → W.cell? ((a.add (i * sz)).add j) = some v) ∧ Q r ∧ μ r ≤ Rows.uptoBulk (D i) := by
      intro i
      by_cases hlt : i < len
      · obtain ⟨cs', hcc, ht⟩ := hi i (by omega)
        rw [hc] at hcc
        obtain ⟨_, hcl, hat⟩ := World.cells?_some hcc
        obtain ⟨r, rfl, hq, hmu⟩ := one _ _ _ hcl ht (by
          have := bulk_part (List.mem_map.2 ⟨i, List.mem_range.2 hlt, rfl⟩ : D i ∈ (List.range len).map D)
          simp only
          omega)
        refine ⟨r, fun _ => ⟨hcl, fun j v hj => ?_, hq, hmu⟩⟩
        have hj2 : j < sz := by
          rcases Nat.lt_or_ge j sz with h | h
          · exact h
          · rw [List.getElem?_eq_none (by omega)] at hj; cases hj
        rw [hat j hj2]
        exact hj
      · exact ⟨dflt, fun h => absurd h hlt⟩
    obtain ⟨F, hF⟩ := Classical.axiomOfChoice hone
    have hsum := bulk_sum μ F D (List.range len) (fun i hi => (hF i (List.mem_range.1 hi)).2.2.2)
    refine ⟨.slice (some a) len cap, (List.range len).map F, hcs, ⟨some a, cap, by simp, fun h0 => ?_⟩, fun x hx => ?_, by omega, by simp; omega⟩
    · simp only [List.length_map, List.length_range] at h0
      have hl0 := (hF 0 h0).1
      have c0 := (hF 0 h0).2.1 0 _ (List.getElem?_eq_getElem (by omega))
      have e0 : (a.add (0 * sz)).add 0 = a := by simp [Addr.add]
      rw [e0] at c0
      have hs := spot_of_cell c0
      obtain ⟨b, o, s⟩ := a
      simp only at hs
      subst hs
      refine ⟨b, o, rfl, World.block_lt_of_cell? W _ c0, fun k x hx j v hj => ?_⟩
      rw [List.getElem?_map] at hx
      obtain ⟨i, hi, rfl⟩ := Option.map_eq_some_iff.1 hx
      obtain ⟨hk, he⟩ := List.getElem?_eq_some_iff.1 hi
      simp at he hk
      subst he
      rw [← add_at, ← add_at]
      exact (hF k hk).2.1 j v hj
    · obtain ⟨i, hi, rfl⟩ := List.mem_map.1 hx
      exact (hF i (List.mem_range.1 hi)).2.2.1
theorem cl3 : Tryz.prog.cellsOf 3 = 1 := by kernel_rfl
theorem cl4 : Tryz.prog.cellsOf 4 = 1 := by kernel_rfl
theorem cl9 : Tryz.prog.cellsOf 9 = 1 := by kernel_rfl
theorem cl82 : Tryz.prog.cellsOf 82 = 1 := by kernel_rfl
theorem cl22 : Tryz.prog.cellsOf 22 = 1 := by kernel_rfl
theorem cl23 : Tryz.prog.cellsOf 23 = 1 := by kernel_rfl
theorem cl42 : Tryz.prog.cellsOf 42 = 1 := by kernel_rfl
theorem cl43 : Tryz.prog.cellsOf 43 = 1 := by kernel_rfl
theorem cl44 : Tryz.prog.cellsOf 44 = 1 := by kernel_rfl
theorem cl45 : Tryz.prog.cellsOf 45 = 1 := by kernel_rfl
theorem cl46 : Tryz.prog.cellsOf 46 = 1 := by kernel_rfl
theorem cl88 : Tryz.prog.cellsOf 88 = 2 := by kernel_rfl
theorem cl50 : Tryz.prog.cellsOf 50 = 3 := by kernel_rfl
theorem cl79 : Tryz.prog.cellsOf 79 = 2 := by kernel_rfl
theorem cl90 : Tryz.prog.cellsOf 90 = 3 := by kernel_rfl
theorem cl92 : Tryz.prog.cellsOf 92 = 2 := by kernel_rfl
theorem cl68 : Tryz.prog.cellsOf 68 = 2 := by kernel_rfl
theorem cl48 : Tryz.prog.cellsOf 48 = 6 := by kernel_rfl
theorem cl25 : Tryz.prog.cellsOf 25 = 6 := by kernel_rfl
/-- a text within a bulk -/
theorem one_str {n : Nat} {cs : List Value} {y : DataW H × List MemPlace} (h : DataW.trod enc Tryz.prog W base spare held n 9 cs = some y) (hb : Rows.uptoBulk y.1 ≤ B) : ∃ s : ByteArray, cs = [.string s] ∧ s.size ≤ B := by
  obtain ⟨s, e, rfl, hs⟩ := DataW.trod_string Tryz.underlying9 h
  simp only [Rows.uptoBulk] at hb
  have : s.data.toList.length = s.size := rfl
  exact ⟨s, e, by omega⟩
def QFs (B : Nat) (x : ByteArray × Bool) : Prop := x.1.size ≤ B
def QEs (B : Nat) (x : ByteArray × Int × Int) : Prop := x.1.size ≤ B ∧ InI x.2.1 ∧ InI x.2.2
def QIs (B : Nat) (x : Int × ByteArray) : Prop := x.2.size ≤ B
def QDs (B : Nat) (x : ByteArray × Int × Int) : Prop := x.1.size ≤ B ∧ (0 ≤ x.2.1 ∧ x.2.1 ≤ 4294967295) ∧ 0 ≤ x.2.2 ∧ x.2.2 ≤ 4294967295
def QGs (x : Int × Bool) : Prop := True
def QSs (B : Nat) (x : ByteArray × Int) : Prop := x.1.size ≤ B ∧ InI x.2
theorem one_Fs {n : Nat} {cs : List Value} {y : DataW H × List MemPlace} (hl : cs.length = 2) (h : DataW.trod enc Tryz.prog W base spare held n 88 cs = some y) (hb : Rows.uptoBulk y.1 ≤ B) : ∃ x, iFs x = cs ∧ QFs B x ∧ 1 ≤ Rows.uptoBulk y.1 := by
  match cs, hl with
  | [a0, a1], _ =>
    obtain ⟨xs, n, _, hx, _, hlen, hg⟩ := DataW.trod_struct Tryz.underlying88 h
    match xs, hlen with
    | [y0, y1], _ =>
      have g0 : DataW.trod enc Tryz.prog W base spare held n 9 (([a0, a1].drop 0).take (Tryz.prog.cellsOf 9)) = some y0 := hg 0 _ rfl
      have g1 : DataW.trod enc Tryz.prog W base spare held n 4 (([a0, a1].drop 1).take (Tryz.prog.cellsOf 4)) = some y1 := hg 1 _ rfl
      rw [cl9] at g0
      rw [cl4] at g1
      rw [hx] at hb ⊢
      obtain ⟨s0, e0, hs0⟩ := one_str (B := B) g0 (bulk_agg (by simp) hb)
      obtain rfl : a0 = .string s0 := List.cons.inj e0 |>.1
      obtain ⟨s1, e1, _⟩ := DataW.trod_bool Tryz.underlying4 g1
      obtain rfl : a1 = .bool s1 := List.cons.inj e1 |>.1
      exact ⟨(s0, s1), rfl, hs0, bulk_one _⟩
theorem one_Es {n : Nat} {cs : List Value} {y : DataW H × List MemPlace} (hl : cs.length = 3) (h : DataW.trod enc Tryz.prog W base spare held n 50 cs = some y) (hb : Rows.uptoBulk y.1 ≤ B) : ∃ x, iEs x = cs ∧ QEs B x ∧ 1 ≤ Rows.uptoBulk y.1 := by
  match cs, hl with
  | [a0, a1, a2], _ =>
    obtain ⟨xs, n, _, hx, _, hlen, hg⟩ := DataW.trod_struct Tryz.underlying50 h
    match xs, hlen with
    | [y0, y1, y2], _ =>
      have g0 : DataW.trod enc Tryz.prog W base spare held n 9 (([a0, a1, a2].drop 0).take (Tryz.prog.cellsOf 9)) = some y0 := hg 0 _ rfl
      have g1 : DataW.trod enc Tryz.prog W base spare held n 3 (([a0, a1, a2].drop 1).take (Tryz.prog.cellsOf 3)) = some y1 := hg 1 _ rfl
      have g2 : DataW.trod enc Tryz.prog W base spare held n 3 (([a0, a1, a2].drop 2).take (Tryz.prog.cellsOf 3)) = some y2 := hg 2 _ rfl
      rw [cl9] at g0
      rw [cl3] at g1
      rw [cl3] at g2
      rw [hx] at hb ⊢
      obtain ⟨s0, e0, hs0⟩ := one_str (B := B) g0 (bulk_agg (by simp) hb)
      obtain rfl : a0 = .string s0 := List.cons.inj e0 |>.1
      obtain ⟨s1, e1, _, hs1⟩ := DataW.trod_int Tryz.underlying3 g1
      obtain rfl : a1 = .int .i64 s1 := List.cons.inj e1 |>.1
      have hs1 := bounds_i64 hs1
      obtain ⟨s2, e2, _, hs2⟩ := DataW.trod_int Tryz.underlying3 g2
      obtain rfl : a2 = .int .i64 s2 := List.cons.inj e2 |>.1
      have hs2 := bounds_i64 hs2
      exact ⟨(s0, s1, s2), rfl, ⟨hs0, hs1, hs2⟩, bulk_one _⟩
theorem one_Is {n : Nat} {cs : List Value} {y : DataW H × List MemPlace} (hl : cs.length = 2) (h : DataW.trod enc Tryz.prog W base spare held n 79 cs = some y) (hb : Rows.uptoBulk y.1 ≤ B) : ∃ x, iIs x = cs ∧ QIs B x ∧ 1 ≤ Rows.uptoBulk y.1 := by
  match cs, hl with
  | [a0, a1], _ =>
    obtain ⟨xs, n, _, hx, _, hlen, hg⟩ := DataW.trod_struct Tryz.underlying79 h
    match xs, hlen with
    | [y0, y1], _ =>
      have g0 : DataW.trod enc Tryz.prog W base spare held n 3 (([a0, a1].drop 0).take (Tryz.prog.cellsOf 3)) = some y0 := hg 0 _ rfl
      have g1 : DataW.trod enc Tryz.prog W base spare held n 9 (([a0, a1].drop 1).take (Tryz.prog.cellsOf 9)) = some y1 := hg 1 _ rfl
      rw [cl3] at g0
      rw [cl9] at g1
      rw [hx] at hb ⊢
      obtain ⟨s0, e0, _, hs0⟩ := DataW.trod_int Tryz.underlying3 g0
      obtain rfl : a0 = .int .i64 s0 := List.cons.inj e0 |>.1
      have hs0 := bounds_i64 hs0
      obtain ⟨s1, e1, hs1⟩ := one_str (B := B) g1 (bulk_agg (by simp) hb)
      obtain rfl : a1 = .string s1 := List.cons.inj e1 |>.1
      exact ⟨(s0, s1), rfl, hs1, bulk_one _⟩
theorem one_Ds {n : Nat} {cs : List Value} {y : DataW H × List MemPlace} (hl : cs.length = 3) (h : DataW.trod enc Tryz.prog W base spare held n 90 cs = some y) (hb : Rows.uptoBulk y.1 ≤ B) : ∃ x, iDs x = cs ∧ QDs B x ∧ 1 ≤ Rows.uptoBulk y.1 := by
  match cs, hl with
  | [a0, a1, a2], _ =>
    obtain ⟨xs, n, _, hx, _, hlen, hg⟩ := DataW.trod_struct Tryz.underlying90 h
    match xs, hlen with
    | [y0, y1, y2], _ =>
      have g0 : DataW.trod enc Tryz.prog W base spare held n 9 (([a0, a1, a2].drop 0).take (Tryz.prog.cellsOf 9)) = some y0 := hg 0 _ rfl
      have g1 : DataW.trod enc Tryz.prog W base spare held n 82 (([a0, a1, a2].drop 1).take (Tryz.prog.cellsOf 82)) = some y1 := hg 1 _ rfl
      have g2 : DataW.trod enc Tryz.prog W base spare held n 82 (([a0, a1, a2].drop 2).take (Tryz.prog.cellsOf 82)) = some y2 := hg 2 _ rfl
      rw [cl9] at g0
      rw [cl82] at g1
      rw [cl82] at g2
      rw [hx] at hb ⊢
      obtain ⟨s0, e0, hs0⟩ := one_str (B := B) g0 (bulk_agg (by simp) hb)
      obtain rfl : a0 = .string s0 := List.cons.inj e0 |>.1
      obtain ⟨s1, e1, _, hs1⟩ := DataW.trod_int Tryz.underlying82 g1
      obtain rfl : a1 = .int .u32 s1 := List.cons.inj e1 |>.1
      have hs1 := bounds_u32 hs1
      obtain ⟨s2, e2, _, hs2⟩ := DataW.trod_int Tryz.underlying82 g2
      obtain rfl : a2 = .int .u32 s2 := List.cons.inj e2 |>.1
      have hs2 := bounds_u32 hs2
      exact ⟨(s0, s1, s2), rfl, ⟨hs0, hs1, hs2⟩, bulk_one _⟩
theorem one_Gs {n : Nat} {cs : List Value} {y : DataW H × List MemPlace} (hl : cs.length = 2) (h : DataW.trod enc Tryz.prog W base spare held n 92 cs = some y) (hb : Rows.uptoBulk y.1 ≤ B) : ∃ x, iGs x = cs ∧ QGs x ∧ 1 ≤ Rows.uptoBulk y.1 := by
  match cs, hl with
  | [a0, a1], _ =>
    obtain ⟨xs, n, _, hx, _, hlen, hg⟩ := DataW.trod_struct Tryz.underlying92 h
    match xs, hlen with
    | [y0, y1], _ =>
      have g0 : DataW.trod enc Tryz.prog W base spare held n 3 (([a0, a1].drop 0).take (Tryz.prog.cellsOf 3)) = some y0 := hg 0 _ rfl
      have g1 : DataW.trod enc Tryz.prog W base spare held n 4 (([a0, a1].drop 1).take (Tryz.prog.cellsOf 4)) = some y1 := hg 1 _ rfl
      rw [cl3] at g0
      rw [cl4] at g1
      rw [hx] at hb ⊢
      obtain ⟨s0, e0, _, hs0⟩ := DataW.trod_int Tryz.underlying3 g0
      obtain rfl : a0 = .int .i64 s0 := List.cons.inj e0 |>.1
      have hs0 := bounds_i64 hs0
      obtain ⟨s1, e1, _⟩ := DataW.trod_bool Tryz.underlying4 g1
      obtain rfl : a1 = .bool s1 := List.cons.inj e1 |>.1
      exact ⟨(s0, s1), rfl, trivial, bulk_one _⟩
theorem one_Ss {n : Nat} {cs : List Value} {y : DataW H × List MemPlace} (hl : cs.length = 2) (h : DataW.trod enc Tryz.prog W base spare held n 68 cs = some y) (hb : Rows.uptoBulk y.1 ≤ B) : ∃ x, iSs x = cs ∧ QSs B x ∧ 1 ≤ Rows.uptoBulk y.1 := by
  match cs, hl with
  | [a0, a1], _ =>
    obtain ⟨xs, n, _, hx, _, hlen, hg⟩ := DataW.trod_struct Tryz.underlying68 h
    match xs, hlen with
    | [y0, y1], _ =>
      have g0 : DataW.trod enc Tryz.prog W base spare held n 9 (([a0, a1].drop 0).take (Tryz.prog.cellsOf 9)) = some y0 := hg 0 _ rfl
      have g1 : DataW.trod enc Tryz.prog W base spare held n 3 (([a0, a1].drop 1).take (Tryz.prog.cellsOf 3)) = some y1 := hg 1 _ rfl
      rw [cl9] at g0
      rw [cl3] at g1
      rw [hx] at hb ⊢
      obtain ⟨s0, e0, hs0⟩ := one_str (B := B) g0 (bulk_agg (by simp) hb)
      obtain rfl : a0 = .string s0 := List.cons.inj e0 |>.1
      obtain ⟨s1, e1, _, hs1⟩ := DataW.trod_int Tryz.underlying3 g1
      obtain rfl : a1 = .int .i64 s1 := List.cons.inj e1 |>.1
      have hs1 := bounds_i64 hs1
      exact ⟨(s0, s1), rfl, ⟨hs0, hs1⟩, bulk_one _⟩
def QCo (W : World) (B : Nat) (x : Sv × CoI) : Prop := CoL W x ∧ x.2.nm.size ≤ B ∧ (∀ y ∈ x.2.fs, QFs B y) ∧ (∀ y ∈ x.2.es, QEs B y) ∧ (∀ y ∈ x.2.is, QIs B y) ∧ ∀ y ∈ x.2.ds, QDs B y
def muC (c : CoI) : Nat := 1 + c.fs.length + c.es.length + c.is.length + c.ds.length + c.gs.length
theorem one_Co {n : Nat} {cs : List Value} {y : DataW H × List MemPlace} (hl : cs.length = 6) (h : DataW.trod enc Tryz.prog W base spare held n 48 cs = some y) (hb : Rows.uptoBulk y.1 ≤ B) : ∃ x, iCo x = cs ∧ QCo W B x ∧ muC x.2 ≤ Rows.uptoBulk y.1 := by
  match cs, hl with
  | [a0, a1, a2, a3, a4, a5], _ =>
    obtain ⟨xs, n, _, hx, _, hlen, hg⟩ := DataW.trod_struct Tryz.underlying48 h
    match xs, hlen with
    | [y0, y1, y2, y3, y4, y5], _ =>
      have g0 : DataW.trod enc Tryz.prog W base spare held n 9 (([a0, a1, a2, a3, a4, a5].drop 0).take (Tryz.prog.cellsOf 9)) = some y0 := hg 0 _ rfl
      have g1 : DataW.trod enc Tryz.prog W base spare held n 42 (([a0, a1, a2, a3, a4, a5].drop 1).take (Tryz.prog.cellsOf 42)) = some y1 := hg 1 _ rfl
      have g2 : DataW.trod enc Tryz.prog W base spare held n 43 (([a0, a1, a2, a3, a4, a5].drop 2).take (Tryz.prog.cellsOf 43)) = some y2 := hg 2 _ rfl
      have g3 : DataW.trod enc Tryz.prog W base spare held n 44 (([a0, a1, a2, a3, a4, a5].drop 3).take (Tryz.prog.cellsOf 44)) = some y3 := hg 3 _ rfl
      have g4 : DataW.trod enc Tryz.prog W base spare held n 45 (([a0, a1, a2, a3, a4, a5].drop 4).take (Tryz.prog.cellsOf 45)) = some y4 := hg 4 _ rfl
      have g5 : DataW.trod enc Tryz.prog W base spare held n 46 (([a0, a1, a2, a3, a4, a5].drop 5).take (Tryz.prog.cellsOf 46)) = some y5 := hg 5 _ rfl
      rw [cl9] at g0
      rw [cl42] at g1
      rw [cl43] at g2
      rw [cl44] at g3
      rw [cl45] at g4
      rw [cl46] at g5
      rw [hx] at hb ⊢
      obtain ⟨s0, e0, hs0⟩ := one_str (B := B) g0 (bulk_agg (by simp) hb)
      obtain rfl : a0 = .string s0 := List.cons.inj e0 |>.1
      obtain ⟨v1, L1, e1, hy1, hq1, -, hn1⟩ := open_ly (B := B) Tryz.underlying42 cl88 (by decide) (ByteArray.empty, false) iFs (QFs B) (fun _ => 1) (fun _ _ _ a b c => one_Fs a b c) g1 (bulk_agg (by simp) hb)
      obtain rfl : a1 = v1 := List.cons.inj e1 |>.1
      obtain ⟨v2, L2, e2, hy2, hq2, -, hn2⟩ := open_ly (B := B) Tryz.underlying43 cl50 (by decide) (ByteArray.empty, 0, 0) iEs (QEs B) (fun _ => 1) (fun _ _ _ a b c => one_Es a b c) g2 (bulk_agg (by simp) hb)
      obtain rfl : a2 = v2 := List.cons.inj e2 |>.1
      obtain ⟨v3, L3, e3, hy3, hq3, -, hn3⟩ := open_ly (B := B) Tryz.underlying44 cl79 (by decide) (0, ByteArray.empty) iIs (QIs B) (fun _ => 1) (fun _ _ _ a b c => one_Is a b c) g3 (bulk_agg (by simp) hb)
      obtain rfl : a3 = v3 := List.cons.inj e3 |>.1
      obtain ⟨v4, L4, e4, hy4, hq4, -, hn4⟩ := open_ly (B := B) Tryz.underlying45 cl90 (by decide) (ByteArray.empty, 0, 0) iDs (QDs B) (fun _ => 1) (fun _ _ _ a b c => one_Ds a b c) g4 (bulk_agg (by simp) hb)
      obtain rfl : a4 = v4 := List.cons.inj e4 |>.1
      obtain ⟨v5, L5, e5, hy5, hq5, -, hn5⟩ := open_ly (B := B) Tryz.underlying46 cl92 (by decide) (0, false) iGs (QGs) (fun _ => 1) (fun _ _ _ a b c => one_Gs a b c) g5 (bulk_agg (by simp) hb)
      obtain rfl : a5 = v5 := List.cons.inj e5 |>.1
      refine ⟨(⟨a1, a2, a3, a4, a5⟩, ⟨s0, L1, L2, L3, L4, L5⟩), rfl, ⟨⟨hy1, hy2, hy3, hy4, hy5⟩, hs0, hq1, hq2, hq3, hq4⟩, ?_⟩
      simp only [muC, Rows.uptoBulk, Rows.uptoBulkAll, List.map_cons, List.map_nil]
      omega
/-- a plan in memory that fits -/
def Pla (W : World) (B : Nat) (v : Value) : Prop := ∃ SV CV P D, v = plV SV CV P ∧ PlL W SV CV P D ∧ InI P.st ∧ InI P.tr ∧ InI P.s0 ∧ P.mn.size ≤ B ∧ (∀ x ∈ P.ss, QSs B x) ∧ (∀ x ∈ D, QCo W B x) ∧ P.ss.length + (P.cs.map muC).sum ≤ B
set_option maxRecDepth 100000 in
theorem open_plan {r : Reach} {b0 : Nat} {v : Value} {d : DataW H} {p : List MemPlace} (hv : Value.okWide Tryz.prog W r b0 25 v) (h : DataW.Trod enc Tryz.prog W base spare held 25 v d p) (hb : Rows.uptoBulk d ≤ B) : Pla W B v := by
  obtain ⟨cs, rfl, hsz⟩ := okWide_struct Tryz.underlying25 hv
  obtain ⟨l⟩ := cs
  match l, hsz.trans cl25 with
  | [a0, a1, a2, a3, a4, a5], _ =>
    obtain ⟨fuel, hf⟩ := h
    obtain ⟨xs, n, _, hx, _, hlen, hg⟩ := DataW.trod_struct Tryz.underlying25 hf
    match xs, hlen with
    | [y0, y1, y2, y3, y4, y5], _ =>
      have g0 : DataW.trod enc Tryz.prog W base spare held n 3 (([a0, a1, a2, a3, a4, a5].drop 0).take (Tryz.prog.cellsOf 3)) = some y0 := hg 0 _ rfl
      have g1 : DataW.trod enc Tryz.prog W base spare held n 3 (([a0, a1, a2, a3, a4, a5].drop 1).take (Tryz.prog.cellsOf 3)) = some y1 := hg 1 _ rfl
      have g2 : DataW.trod enc Tryz.prog W base spare held n 22 (([a0, a1, a2, a3, a4, a5].drop 2).take (Tryz.prog.cellsOf 22)) = some y2 := hg 2 _ rfl
      have g3 : DataW.trod enc Tryz.prog W base spare held n 23 (([a0, a1, a2, a3, a4, a5].drop 3).take (Tryz.prog.cellsOf 23)) = some y3 := hg 3 _ rfl
      have g4 : DataW.trod enc Tryz.prog W base spare held n 3 (([a0, a1, a2, a3, a4, a5].drop 4).take (Tryz.prog.cellsOf 3)) = some y4 := hg 4 _ rfl
      have g5 : DataW.trod enc Tryz.prog W base spare held n 9 (([a0, a1, a2, a3, a4, a5].drop 5).take (Tryz.prog.cellsOf 9)) = some y5 := hg 5 _ rfl
      rw [cl3] at g0
      rw [cl3] at g1
      rw [cl22] at g2
      rw [cl23] at g3
      rw [cl3] at g4
      rw [cl9] at g5
      have hx1 : d = _ := (Prod.mk.inj hx).1
      rw [hx1] at hb
      obtain ⟨s0, e0, _, hs0⟩ := DataW.trod_int Tryz.underlying3 g0
      obtain rfl : a0 = .int .i64 s0 := List.cons.inj e0 |>.1
      have hs0 := bounds_i64 hs0
      obtain ⟨s1, e1, _, hs1⟩ := DataW.trod_int Tryz.underlying3 g1
      obtain rfl : a1 = .int .i64 s1 := List.cons.inj e1 |>.1
      have hs1 := bounds_i64 hs1
      obtain ⟨s4, e4, _, hs4⟩ := DataW.trod_int Tryz.underlying3 g4
      obtain rfl : a4 = .int .i64 s4 := List.cons.inj e4 |>.1
      have hs4 := bounds_i64 hs4
      obtain ⟨s5, e5, hs5⟩ := one_str (B := B) g5 (bulk_agg (by simp) hb)
      obtain rfl : a5 = .string s5 := List.cons.inj e5 |>.1
      obtain ⟨v2, L2, e2, hy2, hq2, -, hn2⟩ := open_ly (B := B) Tryz.underlying22 cl68 (by decide) (ByteArray.empty, 0) iSs (QSs B) (fun _ => 1) (fun _ _ _ a b c => one_Ss a b c) g2 (bulk_agg (by simp) hb)
      obtain rfl : a2 = v2 := List.cons.inj e2 |>.1
      obtain ⟨v3, L3, e3, hy3, hq3, hn3, -⟩ := open_ly (B := B) Tryz.underlying23 cl48 (by decide) (⟨.nilIface, .nilIface, .nilIface, .nilIface, .nilIface⟩, ⟨⟨#[]⟩, [], [], [], [], []⟩) iCo (QCo W B) (fun x => muC x.2) (fun _ _ _ a b c => one_Co a b c) g3 (bulk_agg (by simp) hb)
      obtain rfl : a3 = v3 := List.cons.inj e3 |>.1
      refine ⟨a2, a3, ⟨s0, s1, L2, L3.map (·.2), s4, s5⟩, L3, rfl, ⟨hy2, hy3, rfl, fun x hx => (hq3 x hx).1⟩, hs0, hs1, hs4, hs5, hq2, hq3, ?_⟩
      simp only [Rows.uptoBulk, Rows.uptoBulkAll, List.map_cons, List.map_nil, List.map_map] at hb ⊢
      have : (List.map (fun x : Sv × CoI => muC x.2) L3).sum = (List.map (muC ∘ fun x => x.2) L3).sum := rfl
      omega
end
theorem tnI_size (n : Int) (h : InI n) : (tnI n).size ≤ 1048576 := by
  have h1 := Lib.itoa_length_le n h.1 h.2
  have : (tnI n).size = (Lib.itoa n).length := by
    unfold tnI
    exact List.size_toArray
  omega
theorem fm_sum {α β : Type} (f : α → List β) (μ : α → Nat) : ∀ l : List α, (∀ x ∈ l, (f x).length ≤ μ x) → (l.flatMap f).length ≤ (l.map μ).sum
  | [], _ => by simp
  | x :: r, h => by
    have h1 := h x (by simp)
    have h2 := fm_sum f μ r (fun y hy => h y (by simp [hy]))
    simp only [List.flatMap_cons, List.length_append, List.map_cons, List.sum_cons]
    omega
theorem sum_len {α : Type} (μ : α → Nat) : ∀ l : List α, (∀ x ∈ l, 1 ≤ μ x) → l.length ≤ (l.map μ).sum
  | [], _ => by simp
  | x :: r, h => by
    have h1 := h x (by simp)
    have h2 := sum_len μ r (fun y hy => h y (by simp [hy]))
    simp only [List.length_cons, List.map_cons, List.sum_cons]
    omega
theorem sum_one {α : Type} (μ : α → Nat) : ∀ (l : List α) (x : α), x ∈ l → μ x ≤ (l.map μ).sum
  | y :: r, x, h => by
    simp only [List.map_cons, List.sum_cons]
    rcases List.mem_cons.1 h with rfl | h
    · omega
    · have := sum_one μ r x h; omega
def SzP (P : PlI) : Prop := P.mn.size ≤ 1048576 ∧ (∀ x ∈ P.ss, QSs 1048576 x) ∧ ∀ c ∈ P.cs, c.nm.size ≤ 1048576 ∧ (∀ y ∈ c.fs, QFs 1048576 y) ∧ (∀ y ∈ c.es, QEs 1048576 y) ∧ (∀ y ∈ c.is, QIs 1048576 y) ∧ ∀ y ∈ c.ds, QDs 1048576 y
theorem nmS_size {P : PlI} (h : SzP P) (i : Int) : ((nmS P.ss i).getD ⟨#[]⟩).size ≤ 1048576 := by
  unfold nmS
  split
  · cases hx : P.ss[i.toNat]? with
    | none => exact Nat.zero_le _
    | some x => exact (h.2.1 x (List.mem_of_getElem? hx)).1
  · exact Nat.zero_le _
theorem nmC_size {P : PlI} (h : SzP P) (i : Int) : ((nmC P.cs i).getD ⟨#[]⟩).size ≤ 1048576 := by
  unfold nmC
  split
  · cases hx : P.cs[i.toNat]? with
    | none => exact Nat.zero_le _
    | some x => exact (h.2.2 x (List.mem_of_getElem? hx)).1
  · exact Nat.zero_le _
theorem shl_txt {P : PlI} (h : SzP P) (h0 : InI P.st) (h1 : InI P.tr) : ShL (txt P) := by
  intro l hl
  unfold txt at hl
  simp only [List.mem_cons, List.mem_append, List.mem_map, List.mem_flatMap, List.not_mem_nil, or_false] at hl
  have q2 : ∀ (a b : ByteArray), a.size ≤ 1048576 → b.size ≤ 1048576 → [a, b].length ≤ 5 ∧ ∀ u ∈ [a, b], u.size ≤ 1048576 := by
    intro a b ha hb; refine ⟨by simp, fun u hu => ?_⟩
    simp only [List.mem_cons, List.not_mem_nil, or_false] at hu
    rcases hu with rfl | rfl <;> assumption
  have q3 : ∀ (a b c : ByteArray), a.size ≤ 1048576 → b.size ≤ 1048576 → c.size ≤ 1048576 → [a, b, c].length ≤ 5 ∧ ∀ u ∈ [a, b, c], u.size ≤ 1048576 := by
    intro a b c ha hb hc; refine ⟨by simp, fun u hu => ?_⟩
    simp only [List.mem_cons, List.not_mem_nil, or_false] at hu
    rcases hu with rfl | rfl | rfl <;> assumption
  have q4 : ∀ (a b c d : ByteArray), a.size ≤ 1048576 → b.size ≤ 1048576 → c.size ≤ 1048576 → d.size ≤ 1048576 → [a, b, c, d].length ≤ 5 ∧ ∀ u ∈ [a, b, c, d], u.size ≤ 1048576 := by
    intro a b c d ha hb hc hd; refine ⟨by simp, fun u hu => ?_⟩
    simp only [List.mem_cons, List.not_mem_nil, or_false] at hu
    rcases hu with rfl | rfl | rfl | rfl <;> assumption
  have q5 : ∀ (a b c d e : ByteArray), a.size ≤ 1048576 → b.size ≤ 1048576 → c.size ≤ 1048576 → d.size ≤ 1048576 → e.size ≤ 1048576 → [a, b, c, d, e].length ≤ 5 ∧ ∀ u ∈ [a, b, c, d, e], u.size ≤ 1048576 := by
    intro a b c d e ha hb hc hd he; refine ⟨by simp, fun u hu => ?_⟩
    simp only [List.mem_cons, List.not_mem_nil, or_false] at hu
    rcases hu with rfl | rfl | rfl | rfl | rfl <;> assumption
  rcases hl with rfl | rfl | ((⟨x, hx, rfl⟩ | ⟨c, hc, hl⟩) | ⟨c, hc, x, hx, rfl⟩) | rfl
  · exact q2 _ _ (by decide) (tnI_size _ h0)
  · exact q2 _ _ (by decide) (tnI_size _ h1)
  · exact q3 _ _ _ (by decide) (h.2.1 x hx).1 (tnI_size _ (h.2.1 x hx).2)
  · obtain ⟨z0, z1, z2, z3, z4⟩ := h.2.2 c hc
    unfold coLs at hl
    simp only [List.mem_cons, List.mem_append, List.mem_map] at hl
    rcases hl with rfl | ((⟨x, hx, rfl⟩ | ⟨x, hx, rfl⟩) | ⟨x, hx, rfl⟩) | ⟨x, hx, rfl⟩
    · exact q2 _ _ (by decide) z0
    · exact q3 _ _ _ (by split <;> decide) z0 (z1 x hx)
    · exact q5 _ _ _ _ _ (by decide) z0 (z2 x hx).1 (tnI_size _ (z2 x hx).2.1) (tnI_size _ (z2 x hx).2.2)
    · have := z4 x hx
      exact q5 _ _ _ _ _ (by decide) z0 this.1 (tnI_size _ ⟨by have := this.2.1; omega, by have := this.2.1; omega⟩) (tnI_size _ ⟨by have := this.2.2; omega, by have := this.2.2; omega⟩)
    · exact q4 _ _ _ _ (by decide) z0 (nmS_size h _) (by split <;> decide)
  · obtain ⟨z0, z1, z2, z3, z4⟩ := h.2.2 c hc
    exact q4 _ _ _ _ (by decide) z0 (nmC_size h _) (z3 x hx)
  · exact q3 _ _ _ (by decide) (nmC_size h _) h.1
theorem txt_len {P : PlI} : (txt P).length ≤ 3 + P.ss.length + 2 * (P.cs.map muC).sum := by
  have h1 := fm_sum (coLs P.ss) muC P.cs (fun c _ => by unfold coLs muC; simp; omega)
  have h2 := fm_sum (fun c : CoI => c.is.map (impL P.cs c.nm)) muC P.cs (fun c _ => by unfold muC; simp; omega)
  unfold txt
  simp only [List.length_cons, List.length_append, List.length_map, List.length_nil]
  omega
theorem okp_of {P : PlI} (h : SzP P) (h0 : InI P.st) (h1 : InI P.tr) (hl : P.ss.length + (P.cs.map muC).sum ≤ 1048576) : OkP P := by
  have hc := sum_len muC P.cs (fun c _ => by unfold muC; omega)
  refine ⟨⟨by omega, by omega, fun c hc => ?_⟩, ⟨h0, h1, fun x hx => (h.2.1 x hx).2, fun c hc => ⟨fun y hy => ((h.2.2 c hc).2.2.1 y hy).2, fun y hy => ((h.2.2 c hc).2.2.2.2 y hy).2⟩⟩, shl_txt h h0 h1, ?_⟩
  · have := sum_one muC P.cs c hc
    have h7 : muC c = 1 + c.fs.length + c.es.length + c.is.length + c.ds.length + c.gs.length := rfl
    exact ⟨by omega, by omega, by omega, by omega, by omega⟩
  · have := @txt_len P
    omega
theorem ok_pla {W : World} {v : Value} (h : Pla W 1048576 v) : ∃ SV CV P D, v = plV SV CV P ∧ PlL W SV CV P D ∧ OkP P := by
  obtain ⟨SV, CV, P, D, rfl, hp, h0, h1, h2, h3, h4, h5, h6⟩ := h
  refine ⟨SV, CV, P, D, rfl, hp, okp_of ⟨h3, h4, fun c hc => ?_⟩ h0 h1 h6⟩
  rw [← hp.2.2.1] at hc
  obtain ⟨x, hx, rfl⟩ := List.mem_map.1 hc
  exact (h5 x hx).2
end Go.Proofs.YtapdiionikfgpaaGreatDoor
namespace Go.Proofs.YtapdiionikfgpaaGreatDoor
set_option linter.unusedVariables false
set_option linter.unusedSimpArgs false
/-- what is read fits: names and numbers are small -/
def IvC (c : Co) : Prop := c.nm.size ≤ 1048576 ∧ (∀ y ∈ c.fs, y.1.size ≤ 1048576) ∧ (∀ y ∈ c.es, y.1.size ≤ 1048576 ∧ y.2.1 ≤ 65536 ∧ y.2.2 ≤ 65536) ∧ (∀ y ∈ c.is, y.2.size ≤ 1048576) ∧ ∀ y ∈ c.ds, y.1.size ≤ 1048576 ∧ y.2.1 ≤ 65536 ∧ y.2.2 ≤ 65536
def Iv (p : Pm) : Prop := p.st ≤ 65536 ∧ p.tr ≤ 65536 ∧ p.mn.size ≤ 1048576 ∧ (∀ x ∈ p.ss, x.1.size ≤ 1048576 ∧ x.2 ≤ 65536) ∧ ∀ c ∈ p.cs, IvC c
theorem numO_cap {s : ByteArray} {lo hi of n : Nat} (h : numO s lo hi of = some n) (hh : hi ≤ 65536) : n ≤ 65536 := by
  unfold numO at h
  obtain ⟨m, -, hm⟩ := Option.bind_eq_some_iff.1 h
  split at hm
  · rename_i hp
    cases hm
    omega
  · cases hm
theorem iv_app {α : Type} {Q : α → Prop} {l : List α} {x : α} (h : ∀ y ∈ l, Q y) (hx : Q x) : ∀ y ∈ l ++ [x], Q y := fun y hy => by
  rcases List.mem_append.1 hy with h1 | h1
  · exact h y h1
  · rw [List.mem_singleton.1 h1]; exact hx
theorem iv_add {α : Type} {l : List α} {x : α} {same : α → Bool} {lim : Nat} {set : List α → Pm} {p : Pm} (h : Iv p) (hset : Iv (set (l ++ [x]))) : Iv (addV l x same lim set p).2 := by
  unfold addV
  split
  · exact h
  · split
    · exact h
    · exact hset
theorem iv_once {old : Nat} {n : Option Nat} {set : Nat → Pm} {p : Pm} (h : Iv p) (hset : ∀ x, n = some x → Iv (set x)) : Iv (onceV old n set p).2 := by
  unfold onceV
  split
  · exact h
  · split
    · exact h
    · exact hset _ rfl
theorem iv_upd {p : Pm} {k : Nat} {c : Co} (h : Iv p) (hc : IvC c) : Iv (upd p k c) := by
  refine ⟨h.1, h.2.1, h.2.2.1, h.2.2.2.1, fun x hx => ?_⟩
  rcases List.mem_or_eq_of_mem_set (show x ∈ p.cs.set k c from hx) with h1 | rfl
  · exact h.2.2.2.2 x h1
  · exact hc
theorem iv_at {p : Pm} {k : Nat} {c : Co} (h : Iv p) (hc : p.cs[k]? = some c) : IvC c := h.2.2.2.2 c (List.mem_of_getElem? hc)
theorem iv_two (p : Pm) (k a : ByteArray) (h : Iv p) (ha : a.size ≤ 1048576) : Iv (two p k a).2 := by
  unfold two
  split
  · exact iv_once h (fun x hx => ⟨numO_cap hx (by omega), h.2⟩)
  split
  · exact iv_once h (fun x hx => ⟨h.1, numO_cap hx (by omega), h.2.2⟩)
  split
  · split
    · refine iv_add h ⟨h.1, h.2.1, h.2.2.1, h.2.2.2.1, iv_app h.2.2.2.2 ⟨ha, ?_, ?_, ?_, ?_⟩⟩ <;> (intro y hy; cases hy)
    · exact h
  · exact h
theorem iv_file (p : Pm) (q : Bool) (a b : ByteArray) (h : Iv p) (hb : b.size ≤ 1048576) : Iv (fileV p q a b).2 := by
  unfold fileV
  split
  · split
    · exact h
    · split
      · exact h
      · rename_i hx
        have hc := iv_at h hx
        exact iv_add h (iv_upd h ⟨hc.1, iv_app hc.2.1 hb, hc.2.2⟩)
  · exact h
theorem iv_shareO (o : Option Nat) (p : Pm) (a : ByteArray) (h : Iv p) (ha : a.size ≤ 1048576) (ho : ∀ n, o = some n → n ≤ 65536) : Iv (shareO o p a).2 := by
  unfold shareO
  split
  · exact h
  · split
    · exact iv_add h ⟨h.1, h.2.1, h.2.2.1, iv_app h.2.2.2.1 ⟨ha, ho _ rfl⟩, h.2.2.2.2⟩
    · exact h
theorem iv_share (p : Pm) (a b : ByteArray) (h : Iv p) (ha : a.size ≤ 1048576) : Iv (shareV p a b).2 := by
  unfold shareV
  exact iv_shareO _ p a h ha (fun n hn => numO_cap hn (by omega))
theorem iv_start (p : Pm) (a b : ByteArray) (h : Iv p) (hb : b.size ≤ 1048576) : Iv (startV p a b).2 := by
  unfold startV
  split
  · split
    · exact h
    · split
      · exact h
      · exact ⟨h.1, h.2.1, hb, h.2.2.2⟩
  · exact h
theorem iv_three (p : Pm) (k a b : ByteArray) (h : Iv p) (ha : a.size ≤ 1048576) (hb : b.size ≤ 1048576) : Iv (three p k a b).2 := by
  unfold three
  split
  · exact iv_share p a b h ha
  split
  · exact iv_start p a b h hb
  split
  · exact iv_file p _ a b h hb
  split
  · exact iv_file p _ a b h hb
  · exact h
theorem iv_import (p : Pm) (a b c : ByteArray) (h : Iv p) (hcz : c.size ≤ 1048576) : Iv (importV p a b c).2 := by
  unfold importV
  split
  · split
    · split
      · exact h
      · rename_i hx
        have hc := iv_at h hx
        exact iv_add h (iv_upd h ⟨hc.1, hc.2.1, hc.2.2.1, iv_app hc.2.2.2.1 hcz, hc.2.2.2.2⟩)
    · exact h
  · exact h
theorem iv_give (p : Pm) (a b c : ByteArray) (h : Iv p) : Iv (giveV p a b c).2 := by
  unfold giveV
  split
  · split
    · split
      · exact h
      · rename_i hx
        have hc := iv_at h hx
        exact iv_add h (iv_upd h hc)
    · exact h
  · exact h
theorem iv_four (p : Pm) (k a b c : ByteArray) (h : Iv p) (hc : c.size ≤ 1048576) : Iv (four p k a b c).2 := by
  unfold four
  split
  · exact iv_import p a b c h hc
  split
  · exact iv_give p a b c h
  · exact h
theorem iv_export (o1 o2 : Option Nat) (p : Pm) (a b : ByteArray) (h : Iv p) (hb : b.size ≤ 1048576) (h1 : ∀ n, o1 = some n → n ≤ 65536) (h2 : ∀ n, o2 = some n → n ≤ 65536) : Iv (exportO o1 o2 p a b).2 := by
  unfold exportO
  split
  · split
    · split
      · exact h
      · split
        · exact h
        · rename_i hx
          have hc := iv_at h hx
          exact iv_add h (iv_upd h ⟨hc.1, hc.2.1, iv_app hc.2.2.1 ⟨hb, h1 _ rfl, h2 _ rfl⟩, hc.2.2.2⟩)
    · exact h
  · exact h
theorem iv_device (o1 o2 : Option Nat) (p : Pm) (a b : ByteArray) (h : Iv p) (hb : b.size ≤ 1048576) (h1 : ∀ n, o1 = some n → n ≤ 65536) (h2 : ∀ n, o2 = some n → n ≤ 65536) : Iv (deviceO o1 o2 p a b).2 := by
  unfold deviceO
  split
  · split
    · split
      · exact h
      · split
        · exact h
        · rename_i hx
          have hc := iv_at h hx
          exact iv_add h (iv_upd h ⟨hc.1, hc.2.1, hc.2.2.1, hc.2.2.2.1, iv_app hc.2.2.2.2 ⟨hb, h1 _ rfl, h2 _ rfl⟩⟩)
    · exact h
  · exact h
theorem iv_five (p : Pm) (k a b c d : ByteArray) (h : Iv p) (hb : b.size ≤ 1048576) : Iv (five p k a b c d).2 := by
  unfold five
  split
  · exact iv_export _ _ p a b h hb (fun n hn => numO_cap hn (by omega)) (fun n hn => numO_cap hn (by omega))
  split
  · exact iv_device _ _ p a b h hb (fun n hn => numO_cap hn (by omega)) (fun n hn => numO_cap hn (by omega))
  · exact h
theorem iv_line (p : Pm) (ws : List ByteArray) (h : Iv p) (hw : ∀ y ∈ ws, y.size ≤ 1048576) : Iv (lineV p ws).2 := by
  unfold lineV
  split
  · exact iv_two p _ _ h (hw _ (by simp))
  · exact iv_three p _ _ _ h (hw _ (by simp)) (hw _ (by simp))
  · exact iv_four p _ _ _ _ h (hw _ (by simp))
  · exact iv_five p _ _ _ _ _ h (hw _ (by simp))
  · exact h
theorem iv_lines : ∀ (l : List (Nat × List ByteArray)) (p : Pm), Iv p → (∀ x ∈ l, ∀ y ∈ x.2, y.size ≤ 1048576) → Iv (linesV p l).2.2
  | [], p, h, _ => h
  | (n, w) :: r, p, h, hl => by
    rw [linesV]
    have h1 := iv_line p w h (hl (n, w) (by simp))
    split
    · rename_i q hq
      rw [hq] at h1
      exact iv_lines r q h1 (fun x hx => hl x (by simp [hx]))
    · exact h
theorem iv_zero : Iv Pm.zero := ⟨Nat.zero_le _, Nat.zero_le _, Nat.zero_le _, (fun x hx => by cases hx), (fun x hx => by cases hx)⟩
theorem iv_read {s : ByteArray} {q : Pm} (h : readP s = ((0, 0), some q)) : Iv q := by
  unfold readP at h
  split at h
  · rename_i he
    split at h
    · split at h
      · simp only [Prod.mk.injEq, Option.some.injEq, true_and] at h
        subst h
        exact iv_lines _ _ iv_zero (fun x hx y hy => by have := ((rdV_short he).2 x hx).2.2 y hy; omega)
      · simp at h
    · simp at h
  · simp at h
theorem ini_nat {n : Nat} (h : n ≤ 65536) : InI (n : Int) := ⟨by omega, by omega⟩
/-- what is read can be put -/
theorem okp_read {s : ByteArray} {q : Pm} (h : readP s = ((0, 0), some q)) (hs : Sm q) : OkP (toI q) := by
  obtain ⟨i1, i2, i3, i4, i5⟩ := iv_read h
  refine okp_of ⟨i3, ?_, ?_⟩ (ini_nat i1) (ini_nat i2) ?_
  · intro x hx
    obtain ⟨y, hy, rfl⟩ := List.mem_map.1 hx
    exact ⟨(i4 y hy).1, ini_nat (i4 y hy).2⟩
  · intro c hc
    obtain ⟨y, hy, rfl⟩ := List.mem_map.1 hc
    obtain ⟨j1, j2, j3, j4, j5⟩ := i5 y hy
    refine ⟨j1, j2, fun z hz => ?_, fun z hz => ?_, fun z hz => ?_⟩
    · obtain ⟨u, hu, rfl⟩ := List.mem_map.1 hz
      exact ⟨(j3 u hu).1, ini_nat (j3 u hu).2.1, ini_nat (j3 u hu).2.2⟩
    · obtain ⟨u, hu, rfl⟩ := List.mem_map.1 hz
      exact j4 u hu
    · obtain ⟨u, hu, rfl⟩ := List.mem_map.1 hz
      have := j5 u hu
      exact ⟨this.1, ⟨by simp only; omega, by simp only; omega⟩, by simp only; omega, by simp only; omega⟩
  · have h1 : (toI q).ss.length ≤ 8 := by show (q.ss.map _).length ≤ 8; rw [List.length_map]; exact hs.2.1
    have h2 : (toI q).cs.length ≤ 12 := by show (q.cs.map _).length ≤ 12; rw [List.length_map]; exact hs.1
    have h3 : ∀ c ∈ (toI q).cs, muC c ≤ 81 := fun c hc => by
      obtain ⟨y, hy, rfl⟩ := List.mem_map.1 hc
      obtain ⟨z1, z2, z3, z4, z5⟩ := hs.2.2 y hy
      unfold muC toC
      simp only [List.length_map]
      omega
    have h4 : ∀ l : List CoI, (∀ c ∈ l, muC c ≤ 81) → (l.map muC).sum ≤ l.length * 81 := by
      intro l
      induction l with
      | nil => intro _; simp
      | cons a r ih =>
        intro h
        have := ih (fun c hc => h c (by simp [hc]))
        have := h a (by simp)
        simp only [List.map_cons, List.sum_cons, List.length_cons]
        omega
    have := h4 _ h3
    omega
end Go.Proofs.YtapdiionikfgpaaGreatDoor
namespace Go.Proofs.YtapdiionikfgpaaGreatDoor
open Go.ChangeShapes Go.WideShapes Go.ChangeAt Go.RowKit
open Li (Gl)
set_option linter.unusedVariables false
set_option linter.unusedSimpArgs false
theorem putP_or (P : PlI) : putP P = (⟨#[]⟩, 5) ∨ ∃ t q, putP P = (t, 0) ∧ readP t = ((0, 0), some q) ∧ toI q = P ∧ t.size ≤ 16777215 := by
  classical
  by_cases h : (outT P).2 = 0 ∧ ∃ q, readP (outT P).1 = ((0, 0), some q) ∧ toI q = P
  · obtain ⟨h0, q, h1, h2⟩ := h
    exact Or.inr ⟨_, q, putP_yes ⟨h0, q, h1, h2⟩, h1, h2, outT_size P⟩
  · exact Or.inl (putP_no h)
theorem readP_or (s : ByteArray) : (∃ n k, readP s = ((n, k), none)) ∨ ∃ q, readP s = ((0, 0), some q) := by
  unfold readP
  split
  · split
    · split
      · exact Or.inr ⟨_, rfl⟩
      · exact Or.inl ⟨_, _, rfl⟩
    · exact Or.inl ⟨_, _, rfl⟩
  · exact Or.inl ⟨_, _, rfl⟩
/-- a read plan, laid -/
def Rdd (P : PlI) (W : World) (e : Ending) (w' : World) : Prop := ∃ A n c E m d D, PlL w' (.slice A n c) (.slice E m d) P D ∧ e = .returned (.tuple #[.agg #[.int .i64 P.st, .int .i64 P.tr, .slice A n c, .slice E m d, .int .i64 P.s0, .string P.mn], .int .i64 0, .int .i64 0]) ∧ Below W.heap.size W w'
theorem kRead {t : ByteArray} {q : Pm} {P : PlI} (h : readP t = ((0, 0), some q)) (hP : toI q = P) (ht : t.size ≤ 16777215) (W : World) (hG : Gl W) : Calls Tryz.prog 8 #[.string t] W fun e w' => Rdd P W e w' ∧ Sm q := by
  refine (n8 t ht W hG).mono ?_
  rintro e w' ⟨hb, ⟨n, k, h1, h2⟩ | ⟨q', SV, CV, D, B, h1, hB, hpl, hD, hsm, rfl⟩⟩
  · rw [h] at h1; cases h1
  · rw [h] at h1
    cases h1
    subst hP
    have hly := pl_ly hpl hD
    obtain ⟨A, n, c, e1⟩ := isS_ly hly.1
    obtain ⟨E, m, d, e2⟩ := isS_ly hly.2.1
    subst e1 e2
    exact ⟨⟨A, n, c, E, m, d, _, hly, rfl, hb⟩, hsm⟩
theorem sm_lines : ∀ (l : List (Nat × List ByteArray)) (p : Pm), Sm p → Sm (linesV p l).2.2
  | [], p, h => h
  | (n, w) :: r, p, h => by
    rw [linesV]
    have h1 := sm_line p w h
    split
    · rename_i q hq
      rw [hq] at h1
      exact sm_lines r q h1
    · exact h
theorem sm_read {t : ByteArray} {q : Pm} (h : readP t = ((0, 0), some q)) : Sm q := by
  unfold readP at h
  split at h
  · split at h
    · split at h
      · simp only [Prod.mk.injEq, Option.some.injEq, true_and] at h
        subst h
        exact sm_lines _ _ sm_zero
      · simp at h
    · simp at h
  · simp at h
theorem kSame {P : PlI} {W : World} {A E : Option Addr} {n c m d : Nat} {A' E' : Option Addr} {n' c' m' d' : Nat} {D D' : List (Sv × CoI)} (h1 : PlL W (.slice A n c) (.slice E m d) P D) (h2 : PlL W (.slice A' n' c') (.slice E' m' d') P D') (hb : BdP P) :
    Calls Tryz.prog 10 #[.agg #[.int .i64 P.st, .int .i64 P.tr, .slice A n c, .slice E m d, .int .i64 P.s0, .string P.mn], .agg #[.int .i64 P.st, .int .i64 P.tr, .slice A' n' c', .slice E' m' d', .int .i64 P.s0, .string P.mn]] W fun e w' => e = .returned (.bool true) ∧ Below W.heap.size W w' := by
  refine (r10 _ _ _ _ P P D D' W h1 h2 hb hb).mono ?_
  rintro _ w' ⟨⟨b, rfl, h⟩, hb'⟩
  obtain rfl : b = true := h.2 rfl
  exact ⟨rfl, hb'⟩
end Go.Proofs.YtapdiionikfgpaaGreatDoor
