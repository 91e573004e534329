import Derived.Test.YtbbcljffcjhiaaaChecked
import Derived.Test.YtbbcljffcjhiaaaRows
import Derived.Deep.Slices
import Derived.Deep.Fields
import Derived.SliceStrings
import Derived.Lib.SmallJoins
import Derived.Lib.Hide
namespace Go.Proofs.Ytbbcljffcjhiaaa
open Go.ChangeShapes Go.WideShapes Go.ChangeAt Go.RowKit Go.Deep Go.Joins
set_option linter.unusedVariables false
/-- so many rows of so many cells each -/
def Rw (W : World) (A : Option Addr) (n sz : Nat) (F : Nat → List Value) : Prop :=
  0 < n → ∃ b o, A = some ⟨b, o, none⟩ ∧ b < W.heap.size ∧ ∀ k, k < n → ∀ j v, (F k)[j]? = some v → W.cell? ⟨b, o + k * sz + j, none⟩ = some v
theorem Rw.below {w w' : World} {A : Option Addr} {n sz : Nat} {F : Nat → List Value} (h : Rw w A n sz F) (hb : Below w.heap.size w w') : Rw w' A n sz F := fun h0 => by
  obtain ⟨b, o, e, hl, hc⟩ := h h0
  refine ⟨b, o, e, Nat.lt_of_lt_of_le hl hb.size, fun k hk j v hv => ?_⟩
  rw [hb.cell (p := ⟨b, _, none⟩) hl]
  exact hc k hk j v hv
theorem bulk_one {H : Type} (d : DataW H) : 1 ≤ Rows.uptoBulk d := by
  cases d with
  | lit l => cases l <;> simp [Rows.uptoBulk]
  | nil => simp [Rows.uptoBulk]
  | ptr d => simp [Rows.uptoBulk]
  | slice elems spare => simp [Rows.uptoBulk]
  | agg parts => simp [Rows.uptoBulk]
  | iface t d => simp [Rows.uptoBulk]
  | map entries => simp [Rows.uptoBulk]
  | held h => simp [Rows.uptoBulk]
theorem bulk_part {H : Type} {d : DataW H} {l : List (DataW H)} (h : d ∈ l) : Rows.uptoBulk d ≤ Rows.uptoBulkAll l := by
  induction l with
  | nil => cases h
  | cons x r ih =>
    simp only [Rows.uptoBulkAll]
    cases List.mem_cons.1 h with
    | inl e => subst e; omega
    | inr e => have := ih e; omega
theorem bulk_len {H : Type} : ∀ l : List (DataW H), l.length ≤ Rows.uptoBulkAll l
  | [] => Nat.le_refl _
  | d :: r => by
    have := bulk_len r
    have := bulk_one d
    simp only [Rows.uptoBulkAll, List.length_cons]
    omega
theorem bulk_agg {H : Type} {d : DataW H} {l : List (DataW H)} {B : Nat} (h : d ∈ l) (hb : Rows.uptoBulk (.agg l) ≤ B) : Rows.uptoBulk d ≤ B := by
  have := bulk_part h
  simp only [Rows.uptoBulk] at hb
  omega
theorem spot_of_cell {w : World} {a : Addr} {v : Value} (h : w.cell? a = some v) : a.spot = none := by
  unfold World.cell? at h
  split at h
  · split at h
    · cases h
    · rename_i hs
      cases hs' : a.spot <;> simp [hs'] at hs ⊢
  · cases h
theorem add_at (b o i : Nat) : (⟨b, o, none⟩ : Addr).add i = ⟨b, o + i, none⟩ := by
  unfold Addr.add
  split
  · rename_i h; rw [h]; rfl
  · rfl
section
variable {H : Type} {enc : TypeId × Value → H} {W : World} {base : Nat} {spare : Nat → Bool} {held : Bool} {B : Nat}
/-- a slice of whatever rows, opened -/
theorem open_rows {T e sz : Nat} (hT : Try.prog.underlying T = some (.slice e)) (hc : Try.prog.cellsOf e = sz) (hz : 0 < sz) {Qd : List Value → Prop}
    (one : ∀ n cs (y : DataW H × List MemPlace), cs.length = sz → DataW.trod enc Try.prog W base spare held n e cs = some y → Rows.uptoBulk y.1 ≤ B → Qd cs)
    {fuel : Nat} {cs : List Value} {x : DataW H × List MemPlace} (h : DataW.trod enc Try.prog W base spare held fuel T cs = some x) (hb : Rows.uptoBulk x.1 ≤ B) :
    ∃ A N c F, cs = [.slice A N c] ∧ N ≤ B ∧ Rw W A N sz F ∧ ∀ k, k < N → Qd (F k) := by
  rcases open_slice hT h with ⟨h0, _⟩ | ⟨a, len, cap, m, n, D, Pl, hcs, hba, hl, hm, hmm, hx, hi⟩
  · exact ⟨none, 0, 0, fun _ => [], h0, Nat.zero_le _, fun h => absurd h (by omega), fun k hk => absurd hk (by omega)⟩
  · have hle : len ≤ m := by rw [hmm]; split <;> omega
    rw [hx] at hb
    simp only [Rows.uptoBulk] at hb
    have hlen := bulk_len ((List.range len).map D)
    simp only [List.length_map, List.length_range] at hlen
    have hone : ∀ i, ∃ r : List Value, i < len → r.length = sz ∧ (∀ j v, r[j]? = some v → W.cell? ((a.add (i * sz)).add j) = some v) ∧ Qd r := by
      intro i
      by_cases hlt : i < len
      · obtain ⟨cs', hcc, ht⟩ := hi i (by omega)
        rw [hc] at hcc
        obtain ⟨_, hcl, hat⟩ := World.cells?_some hcc
        refine ⟨cs', fun _ => ⟨hcl, fun j v hj => ?_, one _ _ _ hcl ht ?_⟩⟩
        · have hj2 : j < sz := by
            rcases Nat.lt_or_ge j sz with h | h
            · exact h
            · rw [List.getElem?_eq_none (by omega)] at hj; cases hj
          rw [hat j hj2]
          exact hj
        · have := bulk_part (List.mem_map.2 ⟨i, List.mem_range.2 hlt, rfl⟩ : D i ∈ (List.range len).map D)
          simp only
          omega
      · exact ⟨[], fun h => absurd h hlt⟩
    obtain ⟨F, hF⟩ := Classical.axiomOfChoice hone
    refine ⟨some a, len, cap, F, hcs, by omega, fun h0 => ?_, fun k hk => (hF k hk).2.2⟩
    have hl0 := (hF 0 h0).1
    have c0 := (hF 0 h0).2.1 0 _ (List.getElem?_eq_getElem (by omega))
    have e0 : (a.add (0 * sz)).add 0 = a := by simp [Addr.add]
    rw [e0] at c0
    have hs := spot_of_cell c0
    obtain ⟨b, o, s⟩ := a
    simp only at hs
    subst hs
    refine ⟨b, o, rfl, World.block_lt_of_cell? W _ c0, fun k hk j v hj => ?_⟩
    rw [← add_at, ← add_at]
    exact (hF k hk).2.1 j v hj
theorem c3 : Try.prog.cellsOf 3 = 1 := by kernel_rfl
theorem c4' : Try.prog.cellsOf 4 = 1 := by kernel_rfl
theorem c9 : Try.prog.cellsOf 9 = 1 := by kernel_rfl
theorem c22 : Try.prog.cellsOf 22 = 1 := by kernel_rfl
theorem c23 : Try.prog.cellsOf 23 = 1 := by kernel_rfl
theorem c31 : Try.prog.cellsOf 31 = 1 := by kernel_rfl
theorem c32 : Try.prog.cellsOf 32 = 1 := by kernel_rfl
theorem c33 : Try.prog.cellsOf 33 = 1 := by kernel_rfl
theorem c34 : Try.prog.cellsOf 34 = 1 := by kernel_rfl
theorem c35 : Try.prog.cellsOf 35 = 1 := by kernel_rfl
theorem c37 : Try.prog.cellsOf 37 = 6 := by kernel_rfl
theorem c39 : Try.prog.cellsOf 39 = 2 := by kernel_rfl
theorem c42 : Try.prog.cellsOf 42 = 3 := by kernel_rfl
theorem c44 : Try.prog.cellsOf 44 = 2 := by kernel_rfl
theorem c46 : Try.prog.cellsOf 46 = 2 := by kernel_rfl
theorem c25 : Try.prog.cellsOf 25 = 6 := by kernel_rfl
theorem c40 : Try.prog.cellsOf 40 = 1 := by kernel_rfl
/-- a text within a bulk -/
theorem one_str {n : Nat} {cs : List Value} {y : DataW H × List MemPlace} (h : DataW.trod enc Try.prog W base spare held n 9 cs = some y) (hb : Rows.uptoBulk y.1 ≤ B) : ∃ s : ByteArray, cs = [.string s] ∧ s.size ≤ B := by
  obtain ⟨s, e, rfl, hs⟩ := DataW.trod_string Try.underlying9 h
  simp only [Rows.uptoBulk] at hb
  have : s.data.toList.length = s.size := rfl
  exact ⟨s, e, by omega⟩
/-- an import -/
def QI (B : Nat) (cs : List Value) : Prop := ∃ fr nm, cs = [.int .i64 fr, .string nm] ∧ nm.size ≤ B
theorem one_import {n : Nat} {cs : List Value} {y : DataW H × List MemPlace} (hl : cs.length = 2) (h : DataW.trod enc Try.prog W base spare held n 39 cs = some y) (hb : Rows.uptoBulk y.1 ≤ B) : QI B cs := by
  match cs, hl with
  | [a0, a1], _ =>
    obtain ⟨xs, n, _, hx, _, hlen, hg⟩ := DataW.trod_struct Try.underlying39 h
    match xs, hlen with
    | [y0, y1], _ =>
      have g0 : DataW.trod enc Try.prog W base spare held n 3 (([a0, a1].drop 0).take (Try.prog.cellsOf 3)) = some y0 := hg 0 _ rfl
      have g1 : DataW.trod enc Try.prog W base spare held n 9 (([a0, a1].drop 1).take (Try.prog.cellsOf 9)) = some y1 := hg 1 _ rfl
      rw [c3] at g0
      rw [c9] at g1
      rw [hx] at hb
      obtain ⟨fr, e0, _, _⟩ := DataW.trod_int Try.underlying3 g0
      obtain ⟨s, e1, hs⟩ := one_str (B := B) g1 (bulk_agg (by simp) hb)
      obtain rfl : a0 = .int .i64 fr := List.cons.inj e0 |>.1
      obtain rfl : a1 = .string s := List.cons.inj e1 |>.1
      exact ⟨fr, s, rfl, hs⟩
/-- a device -/
def QD (B : Nat) (cs : List Value) : Prop := ∃ nm a n, cs = [.string nm, .int .u32 a, .int .u32 n] ∧ nm.size ≤ B
theorem one_device {n : Nat} {cs : List Value} {y : DataW H × List MemPlace} (hl : cs.length = 3) (h : DataW.trod enc Try.prog W base spare held n 42 cs = some y) (hb : Rows.uptoBulk y.1 ≤ B) : QD B cs := by
  match cs, hl with
  | [a0, a1, a2], _ =>
    obtain ⟨xs, n, _, hx, _, hlen, hg⟩ := DataW.trod_struct Try.underlying42 h
    match xs, hlen with
    | [y0, y1, y2], _ =>
      have g0 : DataW.trod enc Try.prog W base spare held n 9 (([a0, a1, a2].drop 0).take (Try.prog.cellsOf 9)) = some y0 := hg 0 _ rfl
      have g1 : DataW.trod enc Try.prog W base spare held n 40 (([a0, a1, a2].drop 1).take (Try.prog.cellsOf 40)) = some y1 := hg 1 _ rfl
      have g2 : DataW.trod enc Try.prog W base spare held n 40 (([a0, a1, a2].drop 2).take (Try.prog.cellsOf 40)) = some y2 := hg 2 _ rfl
      rw [c9] at g0
      rw [c40] at g1 g2
      rw [hx] at hb
      obtain ⟨s, e0, hs⟩ := one_str (B := B) g0 (bulk_agg (by simp) hb)
      obtain ⟨p, e1, _, _⟩ := DataW.trod_int Try.underlying40 g1
      obtain ⟨q, e2, _, _⟩ := DataW.trod_int Try.underlying40 g2
      obtain rfl : a0 = .string s := List.cons.inj e0 |>.1
      obtain rfl : a1 = .int .u32 p := List.cons.inj e1 |>.1
      obtain rfl : a2 = .int .u32 q := List.cons.inj e2 |>.1
      exact ⟨s, p, q, rfl, hs⟩
/-- a share that is given -/
def QG (cs : List Value) : Prop := ∃ s b, cs = [.int .i64 s, .bool b]
theorem one_give {n : Nat} {cs : List Value} {y : DataW H × List MemPlace} (hl : cs.length = 2) (h : DataW.trod enc Try.prog W base spare held n 44 cs = some y) : QG cs := by
  match cs, hl with
  | [a0, a1], _ =>
    obtain ⟨xs, n, _, hx, _, hlen, hg⟩ := DataW.trod_struct Try.underlying44 h
    match xs, hlen with
    | [y0, y1], _ =>
      have g0 : DataW.trod enc Try.prog W base spare held n 3 (([a0, a1].drop 0).take (Try.prog.cellsOf 3)) = some y0 := hg 0 _ rfl
      have g1 : DataW.trod enc Try.prog W base spare held n 4 (([a0, a1].drop 1).take (Try.prog.cellsOf 4)) = some y1 := hg 1 _ rfl
      rw [c3] at g0
      rw [c4'] at g1
      obtain ⟨fr, e0, _, _⟩ := DataW.trod_int Try.underlying3 g0
      obtain ⟨b, e1, _⟩ := DataW.trod_bool Try.underlying4 g1
      obtain rfl : a0 = .int .i64 fr := List.cons.inj e0 |>.1
      obtain rfl : a1 = .bool b := List.cons.inj e1 |>.1
      exact ⟨fr, b, rfl⟩
/-- a shared region -/
def QS (B : Nat) (cs : List Value) : Prop := ∃ nm n, cs = [.string nm, .int .i64 n] ∧ nm.size ≤ B
theorem one_share {n : Nat} {cs : List Value} {y : DataW H × List MemPlace} (hl : cs.length = 2) (h : DataW.trod enc Try.prog W base spare held n 46 cs = some y) (hb : Rows.uptoBulk y.1 ≤ B) : QS B cs := by
  match cs, hl with
  | [a0, a1], _ =>
    obtain ⟨xs, n, _, hx, _, hlen, hg⟩ := DataW.trod_struct Try.underlying46 h
    match xs, hlen with
    | [y0, y1], _ =>
      have g0 : DataW.trod enc Try.prog W base spare held n 9 (([a0, a1].drop 0).take (Try.prog.cellsOf 9)) = some y0 := hg 0 _ rfl
      have g1 : DataW.trod enc Try.prog W base spare held n 3 (([a0, a1].drop 1).take (Try.prog.cellsOf 3)) = some y1 := hg 1 _ rfl
      rw [c9] at g0
      rw [c3] at g1
      rw [hx] at hb
      obtain ⟨s, e0, hs⟩ := one_str (B := B) g0 (bulk_agg (by simp) hb)
      obtain ⟨q, e1, _, _⟩ := DataW.trod_int Try.underlying3 g1
      obtain rfl : a0 = .string s := List.cons.inj e0 |>.1
      obtain rfl : a1 = .int .i64 q := List.cons.inj e1 |>.1
      exact ⟨s, q, rfl, hs⟩
/-- a slice of something, its rows left closed -/
theorem any_slice {T e : Nat} (hT : Try.prog.underlying T = some (.slice e)) {fuel : Nat} {cs : List Value} {x : DataW H × List MemPlace} (h : DataW.trod enc Try.prog W base spare held fuel T cs = some x) : ∃ A N c, cs = [.slice A N c] := by
  rcases open_slice hT h with ⟨h0, _⟩ | ⟨a, len, cap, m, n, D, Pl, hcs, _⟩
  · exact ⟨none, 0, 0, h0⟩
  · exact ⟨_, _, _, hcs⟩
/-- a compartment: its name; imports, devices, gives -/
def QC (W : World) (B : Nat) (cs : List Value) : Prop := ∃ nm fv xv IA ni ic FI DA nd dc FD GA ng gc FG, cs = [.string nm, fv, xv, .slice IA ni ic, .slice DA nd dc, .slice GA ng gc] ∧ nm.size ≤ B ∧
  (∃ a b c, fv = .slice a b c) ∧ (∃ a b c, xv = .slice a b c) ∧ ni ≤ B ∧ Rw W IA ni 2 FI ∧ (∀ k, k < ni → QI B (FI k)) ∧ nd ≤ B ∧ Rw W DA nd 3 FD ∧ (∀ k, k < nd → QD B (FD k)) ∧ ng ≤ B ∧ Rw W GA ng 2 FG ∧ (∀ k, k < ng → QG (FG k))
theorem one_comp {n : Nat} {cs : List Value} {y : DataW H × List MemPlace} (hl : cs.length = 6) (h : DataW.trod enc Try.prog W base spare held n 37 cs = some y) (hb : Rows.uptoBulk y.1 ≤ B) : QC W B cs := by
  match cs, hl with
  | [a0, a1, a2, a3, a4, a5], _ =>
    obtain ⟨xs, n, _, hx, _, hlen, hg⟩ := DataW.trod_struct Try.underlying37 h
    match xs, hlen with
    | [y0, y1, y2, y3, y4, y5], _ =>
      have g0 : DataW.trod enc Try.prog W base spare held n 9 (([a0, a1, a2, a3, a4, a5].drop 0).take (Try.prog.cellsOf 9)) = some y0 := hg 0 _ rfl
      have g1 : DataW.trod enc Try.prog W base spare held n 31 (([a0, a1, a2, a3, a4, a5].drop 1).take (Try.prog.cellsOf 31)) = some y1 := hg 1 _ rfl
      have g2 : DataW.trod enc Try.prog W base spare held n 32 (([a0, a1, a2, a3, a4, a5].drop 2).take (Try.prog.cellsOf 32)) = some y2 := hg 2 _ rfl
      have g3 : DataW.trod enc Try.prog W base spare held n 33 (([a0, a1, a2, a3, a4, a5].drop 3).take (Try.prog.cellsOf 33)) = some y3 := hg 3 _ rfl
      have g4 : DataW.trod enc Try.prog W base spare held n 34 (([a0, a1, a2, a3, a4, a5].drop 4).take (Try.prog.cellsOf 34)) = some y4 := hg 4 _ rfl
      have g5 : DataW.trod enc Try.prog W base spare held n 35 (([a0, a1, a2, a3, a4, a5].drop 5).take (Try.prog.cellsOf 35)) = some y5 := hg 5 _ rfl
      rw [c9] at g0
      rw [c31] at g1
      rw [c32] at g2
      rw [c33] at g3
      rw [c34] at g4
      rw [c35] at g5
      rw [hx] at hb
      obtain ⟨s, e0, hs⟩ := one_str (B := B) g0 (bulk_agg (by simp) hb)
      obtain ⟨p1, p2, p3, e1⟩ := any_slice Try.underlying31 g1
      obtain ⟨q1, q2, q3, e2⟩ := any_slice Try.underlying32 g2
      obtain ⟨IA, ni, ic, FI, e3, hni, hI, hQI⟩ := open_rows (B := B) (Qd := QI B) Try.underlying33 c39 (by decide) (fun _ _ _ a b c => one_import a b c) g3 (bulk_agg (by simp) hb)
      obtain ⟨DA, nd, dc, FD, e4, hnd, hD, hQD⟩ := open_rows (B := B) (Qd := QD B) Try.underlying34 c42 (by decide) (fun _ _ _ a b c => one_device a b c) g4 (bulk_agg (by simp) hb)
      obtain ⟨GA, ng, gc, FG, e5, hng, hG, hQG⟩ := open_rows (B := B) (Qd := QG) Try.underlying35 c44 (by decide) (fun _ _ _ a b c => one_give a b) g5 (bulk_agg (by simp) hb)
      obtain rfl : a0 = .string s := List.cons.inj e0 |>.1
      obtain rfl : a1 = _ := List.cons.inj e1 |>.1
      obtain rfl : a2 = _ := List.cons.inj e2 |>.1
      obtain rfl : a3 = _ := List.cons.inj e3 |>.1
      obtain rfl : a4 = _ := List.cons.inj e4 |>.1
      obtain rfl : a5 = _ := List.cons.inj e5 |>.1
      exact ⟨s, _, _, IA, ni, ic, FI, DA, nd, dc, FD, GA, ng, gc, FG, rfl, hs, ⟨_, _, _, rfl⟩, ⟨_, _, _, rfl⟩, hni, hI, hQI, hnd, hD, hQD, hng, hG, hQG⟩
/-- a plan -/
def Pl (W : World) (B : Nat) (v : Value) : Prop := ∃ st tr SA ns sc FS CA nc cc FC start main, v = .agg #[.int .i64 st, .int .i64 tr, .slice SA ns sc, .slice CA nc cc, .int .i64 start, .string main] ∧ ns ≤ B ∧ Rw W SA ns 2 FS ∧ (∀ k, k < ns → QS B (FS k)) ∧ nc ≤ B ∧ Rw W CA nc 6 FC ∧ (∀ k, k < nc → QC W B (FC k))
set_option maxRecDepth 100000 in
theorem open_plan {r : Reach} {b0 : Nat} {v : Value} {d : DataW H} {p : List MemPlace} (hv : Value.okWide Try.prog W r b0 25 v) (h : DataW.Trod enc Try.prog W base spare held 25 v d p) (hb : Rows.uptoBulk d ≤ B) : Pl W B v := by
  obtain ⟨cs, rfl, hsz⟩ := okWide_struct Try.underlying25 hv
  obtain ⟨l⟩ := cs
  match l, hsz.trans c25 with
  | [a0, a1, a2, a3, a4, a5], _ =>
    obtain ⟨fuel, hf⟩ := h
    obtain ⟨xs, n, _, hx, _, hlen, hg⟩ := DataW.trod_struct Try.underlying25 hf
    match xs, hlen with
    | [y0, y1, y2, y3, y4, y5], _ =>
      have g0 : DataW.trod enc Try.prog W base spare held n 3 (([a0, a1, a2, a3, a4, a5].drop 0).take (Try.prog.cellsOf 3)) = some y0 := hg 0 _ rfl
      have g1 : DataW.trod enc Try.prog W base spare held n 3 (([a0, a1, a2, a3, a4, a5].drop 1).take (Try.prog.cellsOf 3)) = some y1 := hg 1 _ rfl
      have g2 : DataW.trod enc Try.prog W base spare held n 22 (([a0, a1, a2, a3, a4, a5].drop 2).take (Try.prog.cellsOf 22)) = some y2 := hg 2 _ rfl
      have g3 : DataW.trod enc Try.prog W base spare held n 23 (([a0, a1, a2, a3, a4, a5].drop 3).take (Try.prog.cellsOf 23)) = some y3 := hg 3 _ rfl
      have g4 : DataW.trod enc Try.prog W base spare held n 3 (([a0, a1, a2, a3, a4, a5].drop 4).take (Try.prog.cellsOf 3)) = some y4 := hg 4 _ rfl
      have g5 : DataW.trod enc Try.prog W base spare held n 9 (([a0, a1, a2, a3, a4, a5].drop 5).take (Try.prog.cellsOf 9)) = some y5 := hg 5 _ rfl
      rw [c3] at g0 g1 g4
      rw [c22] at g2
      rw [c23] at g3
      rw [c9] at g5
      have hx1 : d = _ := (Prod.mk.inj hx).1
      rw [hx1] at hb
      obtain ⟨st, e0, _, _⟩ := DataW.trod_int Try.underlying3 g0
      obtain ⟨tr, e1, _, _⟩ := DataW.trod_int Try.underlying3 g1
      obtain ⟨SA, ns, sc, FS, e2, hns, hS, hQS⟩ := open_rows (B := B) (Qd := QS B) Try.underlying22 c46 (by decide) (fun _ _ _ a b c => one_share a b c) g2 (bulk_agg (by simp) hb)
      obtain ⟨CA, nc, cc, FC, e3, hnc, hC, hQC⟩ := open_rows (B := B) (Qd := QC W B) Try.underlying23 c37 (by decide) (fun _ _ _ a b c => one_comp a b c) g3 (bulk_agg (by simp) hb)
      obtain ⟨sta, e4, _, _⟩ := DataW.trod_int Try.underlying3 g4
      obtain ⟨mn, e5, _⟩ := one_str (B := B) g5 (bulk_agg (by simp) hb)
      obtain rfl : a0 = _ := List.cons.inj e0 |>.1
      obtain rfl : a1 = _ := List.cons.inj e1 |>.1
      obtain rfl : a2 = _ := List.cons.inj e2 |>.1
      obtain rfl : a3 = _ := List.cons.inj e3 |>.1
      obtain rfl : a4 = _ := List.cons.inj e4 |>.1
      obtain rfl : a5 = _ := List.cons.inj e5 |>.1
      exact ⟨st, tr, SA, ns, sc, FS, CA, nc, cc, FC, sta, mn, rfl, hns, hS, hQS, hnc, hC, hQC⟩
end
end Go.Proofs.Ytbbcljffcjhiaaa
