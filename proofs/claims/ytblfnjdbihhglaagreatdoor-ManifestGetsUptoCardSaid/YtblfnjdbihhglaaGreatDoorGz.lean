import Derived.Test.YtblfnjdbihhglaaGreatDoorFz
import Derived.Maps.OwnOps
import Derived.MapKept
import Derived.ChangeMaps5
namespace Go.Proofs.YtblfnjdbihhglaaGreatDoor
open Go.ChangeShapes Go.WideShapes Go.ChangeAt Go.RowKit Go.MapKept Go.ChangeMaps
set_option linter.unusedVariables false
set_option linter.unusedSimpArgs false
/-- the entries of a map of names' numbers -/
def nmEs : Nat → List ByteArray → List MapEntry
  | _, [] => []
  | j, s :: r => ⟨.string s, .int .i64 (j : Int), j⟩ :: nmEs (j + 1) r
theorem nmEs_len : ∀ (l : List ByteArray) (j : Nat), (nmEs j l).length = l.length
  | [], _ => rfl
  | _ :: r, j => by simp [nmEs, nmEs_len r]
theorem nmEs_snoc (y : ByteArray) : ∀ (l : List ByteArray) (j : Nat), nmEs j (l ++ [y]) = nmEs j l ++ [⟨.string y, .int .i64 ((j + l.length : Nat) : Int), j + l.length⟩]
  | [], j => by simp [nmEs]
  | x :: r, j => by
    rw [List.cons_append, nmEs, nmEs, nmEs_snoc y r (j + 1), List.length_cons, show j + 1 + r.length = j + (r.length + 1) by omega, List.cons_append]
theorem nmEs_at : ∀ (l : List ByteArray) (j k : Nat) (e : MapEntry), (nmEs j l)[k]? = some e → ∃ s, l[k]? = some s ∧ e = ⟨.string s, .int .i64 ((j + k : Nat) : Int), j + k⟩
  | [], _, _, _, h => by simp [nmEs] at h
  | x :: r, j, 0, e, h => by
    simp [nmEs] at h
    exact ⟨x, rfl, by simp [← h]⟩
  | x :: r, j, k + 1, e, h => by
    simp only [nmEs, List.getElem?_cons_succ] at h
    obtain ⟨s, h1, h2⟩ := nmEs_at r (j + 1) k e h
    exact ⟨s, by simpa using h1, by rw [h2, show j + 1 + k = j + (k + 1) by omega]⟩
theorem nmEs_mem (l : List ByteArray) (j : Nat) : ∀ x ∈ nmEs j l, ∃ s ∈ l, x.key = .string s := by
  intro x hx
  obtain ⟨k, hk, rfl⟩ := List.getElem_of_mem hx
  obtain ⟨s, h1, h2⟩ := nmEs_at l j k _ (List.getElem?_eq_getElem hk)
  exact ⟨s, List.mem_of_getElem? h1, by rw [h2]⟩
theorem nmEs_has (s : ByteArray) : ∀ (l : List ByteArray) (j : Nat), s ∈ l → ∃ x ∈ nmEs j l, x.key = .string s
  | [], _, h => by cases h
  | y :: r, j, h => by
    by_cases e : y = s
    · subst e; exact ⟨_, List.mem_cons_self .., rfl⟩
    · obtain ⟨x, h1, h2⟩ := nmEs_has s r (j + 1) (by rcases List.mem_cons.1 h with rfl | h; exact absurd rfl e; exact h)
      exact ⟨x, List.mem_cons_of_mem _ h1, h2⟩
/-- the number of the first one of a name -/
def nmAt : List ByteArray → ByteArray → Option Nat
  | [], _ => none
  | x :: r, s => if x = s then some 0 else (nmAt r s).map (· + 1)
theorem nmAt_none : ∀ (l : List ByteArray) (s : ByteArray), s ∉ l → nmAt l s = none
  | [], _, _ => rfl
  | x :: r, s, h => by
    rw [nmAt, if_neg (fun e => h (by rw [e]; exact List.mem_cons_self ..)), nmAt_none r s (fun e => h (List.mem_cons_of_mem _ e))]
    rfl
theorem nmAt_some : ∀ (l : List ByteArray) (s : ByteArray) (k : Nat), nmAt l s = some k → l[k]? = some s
  | [], _, _, h => by cases h
  | x :: r, s, k, h => by
    rw [nmAt] at h
    split at h
    · rename_i e
      cases h
      rw [e]; rfl
    · obtain ⟨m, h1, rfl⟩ := Option.map_eq_some_iff.1 h
      rw [List.getElem?_cons_succ]
      exact nmAt_some r s m h1
theorem nmAt_nodup : ∀ (l : List ByteArray), l.Nodup → ∀ (k : Nat) (s : ByteArray), l[k]? = some s → nmAt l s = some k
  | [], _, _, _, h => by simp at h
  | x :: r, hn, 0, s, h => by
    simp at h
    rw [nmAt, if_pos h]
  | x :: r, hn, k + 1, s, h => by
    rw [List.getElem?_cons_succ] at h
    have hs := List.mem_of_getElem? h
    rw [nmAt, if_neg (fun e => (List.nodup_cons.1 hn).1 (by rw [e]; exact hs)), nmAt_nodup r (List.nodup_cons.1 hn).2 k s h]
    rfl
theorem nmAt_lt {l : List ByteArray} {s : ByteArray} {k : Nat} (h : nmAt l s = some k) : k < l.length := (List.getElem?_eq_some_iff.1 (nmAt_some l s k h)).1
theorem nmAt_mem {l : List ByteArray} {s : ByteArray} (h : nmAt l s = none) : s ∉ l := by
  intro hs
  induction l with
  | nil => cases hs
  | cons x r ih =>
    rw [nmAt] at h
    split at h
    · cases h
    · rename_i e
      rcases List.mem_cons.1 hs with rfl | hs
      · exact e rfl
      · exact ih (by simpa using h) hs
/-- the map's block -/
def Nm (w : World) (B : Nat) (C : List ByteArray) : Prop := w.heap[B]? = some (.map (nmEs 0 C).toArray C.length)
theorem Nm.lt {w : World} {B : Nat} {C : List ByteArray} (h : Nm w B C) : B < w.heap.size := (Array.getElem?_eq_some_iff.1 h).1
theorem Nm.below {w w' : World} {B b : Nat} {C : List ByteArray} (h : Nm w B C) (hb : Below b w w') (hB : B < b) : Nm w' B C := (hb.block B hB).trans h
theorem nm_zero (w : World) : Nm (w.alloc (.map #[] 0)) w.heap.size [] := (MapKept.heap_alloc w _).1
theorem find_nm {P : Program} {k9 : TypeId} (h9 : P.underlying k9 = some .string) (C : List ByteArray) (hC : C.Nodup) (s : ByteArray) (w : World) :
    (Instr.findKey k9 (.string s) (nmEs 0 C)).run P w = .ok ((nmAt C s).map fun k => (k, .int .i64 (k : Int))) w := by
  refine MapKept.run_findKey h9 ?_
  have hk : ∀ x ∈ nmEs 0 C, IsKey .string x.key := fun x hx => by
    obtain ⟨t, _, e⟩ := nmEs_mem C 0 x hx
    rw [e]; trivial
  rcases MapKept.findNow_spec (d := .string) (k := .string s) trivial (nmEs 0 C) 0 hk with ⟨h1, h2⟩ | ⟨j, e, h1, h2, h3⟩
  · rw [h1, nmAt_none C s (fun hs => by
      obtain ⟨x, hx, e⟩ := nmEs_has s C 0 hs
      exact h2 x hx e)]
    rfl
  · obtain ⟨t, h4, rfl⟩ := nmEs_at C 0 j e h2
    have : t = s := by simpa using h3
    subst this
    rw [h1, nmAt_nodup C hC j t h4]
    simp
theorem lookup_nm {P : Program} {T k9 k3 : TypeId} (hT : P.underlying T = some (.map k9 k3)) (h9 : P.underlying k9 = some .string) (h3 : ∀ w, (zeroValue k3).run P w = .ok (.int .i64 0) w)
    {w : World} {B : Nat} {C : List ByteArray} (h : Nm w B C) (hC : C.Nodup) (s : ByteArray) :
    (Instr.lookup T (.map (some B)) (.string s) true).run P w = .ok (.tuple #[.int .i64 (((nmAt C s).getD 0 : Nat) : Int), .bool (nmAt C s).isSome]) w := by
  unfold Instr.lookup
  simp only [Sem.run_bind, run_underlying hT, Result.andThen, MapKept.run_getObj_map h, MapKept.run_checkKey (w := w) h9 (show IsKey .string (.string s) from trivial)]
  simp only [Sem.run_pure, Result.andThen, show (nmEs 0 C).toArray.toList = nmEs 0 C from rfl, MapKept.run_checkKey (w := w) h9 (show IsKey .string (.string s) from trivial), find_nm h9 C hC s w]
  cases hq : nmAt C s with
  | none => simp [h3, Result.andThen]
  | some k => simp [Result.andThen]
theorem update_nm {P : Program} {T k9 k3 : TypeId} (hT : P.underlying T = some (.map k9 k3)) (h9 : P.underlying k9 = some .string)
    {w : World} {B : Nat} {C : List ByteArray} (h : Nm w B C) (hC : C.Nodup) (s : ByteArray) (hs : nmAt C s = none) :
    ∃ w', (Instr.mapUpdate T (.map (some B)) (.string s) (.int .i64 (C.length : Int))).run P w = .ok () w' ∧ Nm w' B (C ++ [s]) ∧ w.grownBy w' (some B) := by
  refine ⟨setBlock w B (.map (nmEs 0 (C ++ [s])).toArray (C ++ [s]).length), ?_, ?_, ⟨rfl, rfl, rfl, by simp [setBlock], fun i _ hi => heap_setBlock_other h _ (fun e => hi (by rw [e]))⟩⟩
  · unfold Instr.mapUpdate
    simp only [Sem.run_bind, run_underlying hT, Result.andThen, MapKept.run_getObj_map h, MapKept.run_checkKey (w := w) h9 (show IsKey .string (.string s) from trivial)]
    simp only [find_nm h9 C hC s w, hs, Option.map_none, Result.andThen]
    rw [MapKept.run_setObj_map _ h, nmEs_snoc]
    simp [setBlock]
  · exact heap_setBlock_same h _
open Li (Ss)
/-- so many edges stand there -/
def Es (w : World) (A : Option Addr) (n : Nat) (f : Nat → Ed) : Prop :=
  0 < n → ∃ b o, A = some ⟨b, o, none⟩ ∧ b < w.heap.size ∧ ∀ k, k < n → (f k).ok ∧ w.cell? ⟨b, o + k * 5, none⟩ = some (.int .u8 ((f k).k : Int)) ∧ w.cell? ⟨b, o + k * 5 + 1, none⟩ = some (.int .i64 (f k).fr) ∧
    w.cell? ⟨b, o + k * 5 + 2, none⟩ = some (.int .i64 (f k).dt) ∧ w.cell? ⟨b, o + k * 5 + 3, none⟩ = some (.string (f k).nm) ∧ w.cell? ⟨b, o + k * 5 + 4, none⟩ = some (.int .u32 ((f k).wh : Int))
theorem Es.below {w w' : World} {A : Option Addr} {n : Nat} {f : Nat → Ed} (h : Es w A n f) (hb : Below w.heap.size w w') : Es w' A n f := fun h0 => by
  obtain ⟨b, o, e, hl, hc⟩ := h h0
  have z : ∀ j, w'.cell? ⟨b, j, none⟩ = w.cell? ⟨b, j, none⟩ := fun j => hb.cell (p := ⟨b, j, none⟩) hl
  refine ⟨b, o, e, Nat.lt_of_lt_of_le hl hb.size, fun k hk => ?_⟩
  simp only [z]
  exact hc k hk
/-- what a graph must be -/
def GrP (nc : Nat) (g : Nat → ByteArray) (n : Nat) (f : Nat → Ed) : Prop :=
  (∀ i, i < nc → nameB (g i) = true ∧ ∀ j, j < i → g i ≠ g j) ∧ ∀ k, k < n → edB (f k) nc = true ∧ (0 < k → ltE (f (k - 1)) (f k) = true)
open Classical in
noncomputable def grB (nc : Nat) (g : Nat → ByteArray) (n : Nat) (f : Nat → Ed) : Bool := decide (GrP nc g n f)
open Classical in
theorem grB_no {nc : Nat} {g : Nat → ByteArray} {n : Nat} {f : Nat → Ed} (h : ¬ GrP nc g n f) : grB nc g n f = false := by unfold grB; exact decide_eq_false h
open Classical in
theorem grB_yes {nc : Nat} {g : Nat → ByteArray} {n : Nat} {f : Nat → Ed} (h : GrP nc g n f) : grB nc g n f = true := by unfold grB; exact decide_eq_true h
theorem kcell {W W' : World} {p : Addr} {v : Value} (h : W.cell? p = some v) (hl : p.block < W.heap.size) (hb : Below W.heap.size W W') : W'.cell? p = some v := (hb.cell hl).trans h
theorem ksize {W W' : World} {b : Nat} (h : b < W.heap.size) (hb : Below W.heap.size W W') : b < W'.heap.size := Nat.lt_of_lt_of_le h hb.size
theorem nlist (g : Nat → ByteArray) (i : Nat) (h : ∀ a, a < i → ∀ j, j < a → g a ≠ g j) : ((List.range i).map g).Nodup := by
  induction i with
  | zero => simp
  | succ i ih =>
    rw [List.range_succ, List.map_append, List.map_cons, List.map_nil, List.nodup_append]
    refine ⟨ih (fun a ha => h a (by omega)), by simp, fun x hx y hy => ?_⟩
    obtain ⟨j, hj, rfl⟩ := List.mem_map.1 hx
    obtain rfl : y = g i := by simpa using hy
    exact fun e => h i (by omega) j (List.mem_range.1 hj) e.symm
end Go.Proofs.YtblfnjdbihhglaaGreatDoor
