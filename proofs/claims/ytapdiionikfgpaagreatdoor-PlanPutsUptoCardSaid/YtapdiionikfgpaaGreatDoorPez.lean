import Derived.Test.YtapdiionikfgpaaGreatDoorGc
import Derived.Test.YtapdiionikfgpaaGreatDoorGk
import Derived.Test.YtapdiionikfgpaaGreatDoorGg
import Derived.WalkSmall
import Derived.Laws.Rows
namespace Go.Proofs.YtapdiionikfgpaaGreatDoor
open Go.ChangeShapes Go.WideShapes Go.ChangeAt Go.RowKit
set_option linter.unusedVariables false
set_option linter.unusedSimpArgs false
/-- the lines are short, and none is empty -/
theorem said_sz : ∀ (l : List ByteArray) (j : Nat), (∀ x ∈ l, x.size ≤ 100) → ∀ x ∈ Li.saidB j l, 0 < x.2.length ∧ x.2.length ≤ 101 ∧ ∀ y ∈ x.2, y.size ≤ 100
  | [], j, _ => fun x hx => by cases hx
  | y :: r, j, h => by
    have ih := said_sz r (j + 1) (fun x hx => h x (by simp [hx]))
    rw [Li.saidB]
    split
    · exact ih
    · rename_i hne
      intro x hx
      rcases List.mem_cons.1 hx with rfl | hx
      · have hy := h y (by simp)
        refine ⟨List.length_pos_iff.2 hne, by have := Li.wordsB_len y; simp only; omega, fun z hz => ?_⟩
        have hz2 : z ∈ Lib.goFieldsP Li.pB y := (List.takeWhile_sublist _).subset hz
        have := Li.fields_sz Li.pB y z hz2
        omega
      · exact ih x hx
theorem said_len : ∀ (l : List ByteArray) (j : Nat), (Li.saidB j l).length ≤ l.length
  | [], _ => Nat.le_refl _
  | y :: r, j => by
    have := said_len r (j + 1)
    rw [Li.saidB]
    split
    · simp; omega
    · simp; omega
theorem rdV_short {s : ByteArray} (h : Li.rdE s = 0) : (Li.rdV s).length ≤ 400 ∧ ∀ x ∈ Li.rdV s, 0 < x.2.length ∧ x.2.length ≤ 101 ∧ ∀ y ∈ x.2, y.size ≤ 100 := by
  rw [Li.rdV_ok s h]
  have hm : ¬ Li.manyP s := fun hm => by
    unfold Li.rdE at h
    rw [if_pos hm] at h
    split at h <;> cases h
  refine ⟨Nat.le_trans (said_len _ _) (Nat.le_of_not_lt (fun hh => hm (Or.inl hh))), said_sz _ _ (fun x hx => Li.mem_size hx hm)⟩
/-- what Read answers -/
noncomputable def readP (s : ByteArray) : (Nat × Nat) × Option Pm :=
  if Li.rdE s = 0 then
    (if (linesV Pm.zero (Li.rdV s)).2.1 = 0 then
      (if wholeB (linesV Pm.zero (Li.rdV s)).2.2 = true then ((0, 0), some (linesV Pm.zero (Li.rdV s)).2.2) else ((0, 6), none))
    else (((linesV Pm.zero (Li.rdV s)).1, (linesV Pm.zero (Li.rdV s)).2.1), none))
  else ((0, Li.rdE s), none)
def zeroPl : Value := .agg #[.int .i64 0, .int .i64 0, .slice none 0 0, .slice none 0 0, .int .i64 0, .string ⟨#[]⟩]
def plA (SV CV : Value) (q : Pm) : Value := .agg #[.int .i64 (q.st : Int), .int .i64 (q.tr : Int), SV, CV, .int .i64 (q.s0 : Int), .string q.mn]
def RdP (s : ByteArray) (w : World) (e : Ending) (w' : World) : Prop := Below w.heap.size w w' ∧
  ((∃ n k, readP s = ((n, k), none) ∧ e = .returned (.tuple #[zeroPl, .int .i64 (n : Int), .int .i64 (k : Int)])) ∨
   ∃ q SV CV D B, readP s = ((0, 0), some q) ∧ w.heap.size ≤ B ∧ PlIn w' B SV CV q.ss D ∧ D.map (·.2) = q.cs ∧ Sm q ∧ e = .returned (.tuple #[plA SV CV q, .int .i64 0, .int .i64 0]))
theorem rdp_err {s : ByteArray} {w w' : World} {n k : Nat} (h : readP s = ((n, k), none)) (hb : Below w.heap.size w w') : RdP s w (.returned (.tuple #[zeroPl, .int .i64 (n : Int), .int .i64 (k : Int)])) w' := ⟨hb, Or.inl ⟨n, k, h, rfl⟩⟩
theorem rdp_err2 {s : ByteArray} {w w' : World} {n k : Nat} {zn zk : Int} (h : readP s = ((n, k), none)) (hb : Below w.heap.size w w') (h1 : zn = (n : Int)) (h2 : zk = (k : Int)) : RdP s w (.returned (.tuple #[zeroPl, .int .i64 zn, .int .i64 zk])) w' := by
  subst h1 h2
  exact rdp_err h hb
theorem Bx.drew {W : World} {b t : Nat} {cs : Array Value} (h : Bx W b cs t) : Bx W.drew b cs t := h
theorem Bx.blk {W : World} {b t : Nat} {cs : Array Value} (h : Bx W b cs t) : W.heap[b]? = some (.cells cs t (0, 0)) := h
theorem sm_zero : Sm Pm.zero := ⟨by decide, by decide, fun x hx => by cases hx⟩
def zs6 : Array Value := #[.int .i64 0, .int .i64 0, .slice none 0 0, .slice none 0 0, .int .i64 0, .string ⟨#[]⟩]
def zs9 : Array Value := #[.int .i64 0, .int .i64 0, .slice none 0 0, .slice none 0 0, .int .i64 0, .string ⟨#[]⟩, .bool false, .bool false, .bool false]
theorem bx_new (w : World) (cs : Array Value) (t : Nat) : Bx (w.alloc (.cells cs t)) w.heap.size cs t := heap_alloc_new w (.cells cs t)
theorem plin_nil (w : World) (B : Nat) : PlIn w B (.slice none 0 0) (.slice none 0 0) [] [] := by
  refine ⟨World.ownsRow_nil _ _ _ _, World.ownsRow_nil _ _ _ _, ?_, ?_⟩
  · intro i x hx; simp at hx
  · intro i j x y _ hx; simp at hx
theorem rs_zero (w : World) : RS (w.alloc (.cells zs9 65)) (w.heap.size + 1) w.heap.size (.slice none 0 0) (.slice none 0 0) Pm.zero [] :=
  ⟨bx_new w zs9 65, plin_nil _ _, rfl, by omega, by decide, by decide⟩
theorem results_cell3 {P : Program} {fn : Func} {p u v : Tmp} {ty : TypeId} (h : fn.results = #[.cell p ty, .tmp u, .tmp v]) (tmps : Array Value) (w : World) (g : Nat) (t : TypeId) (cs : Array Value) (fr : Nat × Nat) (d : TypeDesc)
    (hp : tmps.getD p undef = .pointer (some ⟨g, 0, none⟩)) (hg : w.heap[g]? = some (.cells cs t fr))
    (hu : P.underlying ty = some d) (hd : (match d with | .struct _ | .array _ _ => true | _ => false) = true) (hi : (P.info? ty).map (·.size) = some cs.size) :
    (results fn tmps).run P w = .ok (.tuple #[.agg cs, tmps.getD u undef, tmps.getD v undef]) w := by
  have hp' : tmps[p]?.getD undef = .pointer (some ⟨g, 0, none⟩) := by simpa using hp
  simp [results, h, hp', asAddr, run_loadVar_row w g t ty cs fr d hg hu hd hi]
theorem bx_set6 {W : World} {h : Nat} (hb : Bx W h zs6 25) (a0 a1 a2 a3 a4 a5 : Value) : Bx ((((((W.setCell ⟨h, 0, none⟩ a0).setCell ⟨h, 1, none⟩ a1).setCell ⟨h, 2, none⟩ a2).setCell ⟨h, 3, none⟩ a3).setCell ⟨h, 4, none⟩ a4).setCell ⟨h, 5, none⟩ a5) h #[a0, a1, a2, a3, a4, a5] 25 :=
  (((((hb.set 0 a0).set 1 a1).set 2 a2).set 3 a3).set 4 a4).set 5 a5
theorem below_set6 {W w : World} {h : Nat} (hb : Below h w W) (a0 a1 a2 a3 a4 a5 : Value) : Below h w ((((((W.setCell ⟨h, 0, none⟩ a0).setCell ⟨h, 1, none⟩ a1).setCell ⟨h, 2, none⟩ a2).setCell ⟨h, 3, none⟩ a3).setCell ⟨h, 4, none⟩ a4).setCell ⟨h, 5, none⟩ a5) :=
  tb_set (tb_set (tb_set (tb_set (tb_set (tb_set hb)))))
theorem plin_set6 {W : World} {h B : Nat} {SV CV : Value} {ss : List (ByteArray × Nat)} {D : List (Sv × Co)} (hp : PlIn W B SV CV ss D) (hh : h < B) (a0 a1 a2 a3 a4 a5 : Value) : PlIn ((((((W.setCell ⟨h, 0, none⟩ a0).setCell ⟨h, 1, none⟩ a1).setCell ⟨h, 2, none⟩ a2).setCell ⟨h, 3, none⟩ a3).setCell ⟨h, 4, none⟩ a4).setCell ⟨h, 5, none⟩ a5) B SV CV ss D :=
  (((((hp.off (grown_set h 0 a0) hh).off (grown_set h 1 a1) hh).off (grown_set h 2 a2) hh).off (grown_set h 3 a3) hh).off (grown_set h 4 a4) hh).off (grown_set h 5 a5) hh
theorem linesV_ok {p q : Pm} {n : Nat} {ws : List ByteArray} {r : List (Nat × List ByteArray)} (h : lineV p ws = (0, q)) : linesV p ((n, ws) :: r) = linesV q r := by
  show (match lineV p ws with | (0, q) => linesV q r | (e + 1, _) => (n, e + 1, p)) = _
  rw [h]
theorem linesV_err {p q : Pm} {n e : Nat} {ws : List ByteArray} {r : List (Nat × List ByteArray)} (h : lineV p ws = (e + 1, q)) : linesV p ((n, ws) :: r) = (n, e + 1, p) := by
  show (match lineV p ws with | (0, q) => linesV q r | (e + 1, _) => (n, e + 1, p)) = _
  rw [h]
theorem map_fm (l : List ByteArray) : l.map Value.string = l.flatMap (fun u => [Value.string u]) := by
  induction l with
  | nil => rfl
  | cons a t ih => rw [List.map_cons, List.flatMap_cons, ih]; rfl
/-- a line, in memory -/
theorem line_at {B : Nat} {A : Option Addr} {n c : Nat} {R : List (Nat × List ByteArray)} {W : World} (h : Li.RdOut B (.slice A n c) R W) {k : Nat} {x : Nat × List ByteArray} (hx : R[k]? = some x) (hne : x.2 ≠ []) :
    ∃ g b cc, A = some ⟨g, 0, none⟩ ∧ B ≤ g ∧ g < W.heap.size ∧ b < W.heap.size ∧ W.cell? ⟨g, k * 2, none⟩ = some (.int .i64 (x.1 : Int)) ∧ W.cell? ⟨g, k * 2 + 1, none⟩ = some (.slice (some ⟨b, 0, none⟩) x.2.length cc) ∧ ∀ i u, x.2[i]? = some u → W.cell? ⟨b, 0 + i, none⟩ = some (.string u) := by
  obtain ⟨D, h1, h2, h3⟩ := h
  have hk : k < R.length := (List.getElem?_eq_some_iff.1 hx).1
  have hkD : k < D.length := by rw [← h1, List.length_map] at hk; exact hk
  obtain ⟨y, hy⟩ : ∃ y, D[k]? = some y := ⟨_, List.getElem?_eq_getElem hkD⟩
  have hxy : (y.1, y.2.2) = x := by
    rw [← h1, List.getElem?_map, hy] at hx
    simpa using hx
  subst hxy
  obtain ⟨g, c', hce, hg, hBg, hat⟩ := own_at (f := fun x : Nat × Value × List ByteArray => [.int .i64 (x.1 : Int), x.2.1]) (sz := 2) (fun _ => rfl) h2 (by omega)
  have i0 := hat k y hy 0 (by omega)
  have i1 := hat k y hy 1 (by omega)
  have hw := h3 y (List.mem_of_getElem? hy)
  rw [map_fm] at hw
  obtain ⟨b, c2, hce2, hb, _, hat2⟩ := own_at (f := fun u : ByteArray => [Value.string u]) (sz := 1) (fun _ => rfl) hw (List.length_pos_iff.2 hne)
  simp only [Value.slice.injEq] at hce
  refine ⟨g, b, c2, hce.1, hBg, hg, hb, ?_, ?_, fun i u hu => ?_⟩
  · simpa using i0
  · rw [i1, hce2]; rfl
  · have := hat2 i u hu 0 (by omega)
    simp only [Nat.mul_one, Nat.add_zero] at this
    rw [Nat.zero_add, this]; rfl
end Go.Proofs.YtapdiionikfgpaaGreatDoor
