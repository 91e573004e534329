import Derived.Maps.OwnOps
import Derived.Maps.OwnSet
import Derived.Maps.Views
import Derived.StringKeys
import Derived.Laws.Strings
import Derived.Laws.Strings2
import Derived.Laws.Strings3
import Derived.Test.YtoiiiobamanclaaE
namespace Go.Proofs.Ytoiiiobamanclaa
open Go.ChangeShapes Go.WideShapes Go.ChangeAt Go.RowKit Go.Shelf
set_option linter.unusedVariables false
/-- a list lies there -/
def Ly {α : Type} (W : World) (v : Value) (sz : Nat) (f : α → List Value) (L : List α) : Prop :=
  ∃ A c, v = .slice A L.length c ∧ (0 < L.length → ∃ b o, A = some ⟨b, o, none⟩ ∧ b < W.heap.size ∧ ∀ k x, L[k]? = some x → ∀ j u, (f x)[j]? = some u → W.cell? ⟨b, o + k * sz + j, none⟩ = some u)
theorem Ly.below {α : Type} {W W' : World} {v : Value} {sz : Nat} {f : α → List Value} {L : List α} (h : Ly W v sz f L) (hb : Below W.heap.size W W') : Ly W' v sz f L := by
  obtain ⟨A, c, e, h2⟩ := h
  refine ⟨A, c, e, fun h0 => ?_⟩
  obtain ⟨b, o, e2, hl, hc⟩ := h2 h0
  refine ⟨b, o, e2, Nat.lt_of_lt_of_le hl hb.size, fun k x hx j u hu => ?_⟩
  rw [hb.cell (p := ⟨b, _, none⟩) hl]
  exact hc k x hx j u hu
theorem Ly.at' {α : Type} {W : World} {A : Option Addr} {n c sz : Nat} {f : α → List Value} {L : List α} (h : Ly W (.slice A n c) sz f L) : n = L.length ∧ (0 < L.length → ∃ b o, A = some ⟨b, o, none⟩ ∧ b < W.heap.size ∧ ∀ k x, L[k]? = some x → ∀ j u, (f x)[j]? = some u → W.cell? ⟨b, o + k * sz + j, none⟩ = some u) := by
  obtain ⟨A', c', e, h2⟩ := h
  cases e
  exact ⟨rfl, h2⟩
/-- what stands at an object's place -/
structure Lo where (nm : ByteArray) (sa : Option Addr) (sn sc : Nat) (yv : Value) (ra : Option Addr) (rn rc : Nat)
abbrev Lo.c (x : Lo) : List Value := [.string x.nm, .slice x.sa x.sn x.sc, x.yv, .slice x.ra x.rn x.rc]
/-- objects with their symbols -/
def Lds (W : World) (v : Value) (D : List (Lo × List Sm)) : Prop := Ly W v 4 (fun x => Lo.c x.1) D ∧ ∀ x ∈ D, Ly W x.1.yv 7 Sm.c x.2
theorem Lds.below {W W' : World} {v : Value} {D : List (Lo × List Sm)} (h : Lds W v D) (hb : Below W.heap.size W W') : Lds W' v D := ⟨h.1.below hb, fun x hx => (h.2 x hx).below hb⟩
/-- a name of which nothing is known -/
def nw (s : ByteArray) : Nm := ⟨s, tn, tn, tn, false, false⟩
def idx (E : List Nm) (s : ByteArray) : Option Nat := E.findIdx? fun n => decide (n.tx = s)
/-- a symbol more -/
def step (E : List Nm) (s : Sm) (t : Tg) : List Nm :=
  if s.bd = 0 then E else
  match idx E s.nm with
  | some i => E.set i (take (E.getD i (nw s.nm)) s t)
  | none => E ++ [take (nw s.nm) s t]
/-- the first symbols of an object -/
def inn (E : List Nm) (o : Nat) (S : List Sm) : Nat → List Nm
  | 0 => E
  | k + 1 => match S[k]? with
    | some s => step (inn E o S k) s ⟨(o : Int), (k : Int), -1⟩
    | none => inn E o S k
/-- the first objects -/
def outE (D : List (List Sm)) : Nat → List Nm
  | 0 => []
  | o + 1 => match D[o]? with
    | some S => inn (outE D o) o S S.length
    | none => outE D o
theorem step_len (E : List Nm) (s : Sm) (t : Tg) : (step E s t).length ≤ E.length + 1 := by
  unfold step
  split
  · omega
  · split <;> simp
theorem inn_len (E : List Nm) (o : Nat) (S : List Sm) : ∀ k, (inn E o S k).length ≤ E.length + k
  | 0 => Nat.le_refl _
  | k + 1 => by
    have h := inn_len E o S k
    unfold inn
    split
    · have := step_len (inn E o S k) (by assumption) ⟨(o : Int), (k : Int), -1⟩; omega
    · omega
/-- how many symbols there are -/
def tot (D : List (List Sm)) : Nat := (D.map List.length).sum
theorem outE_len (D : List (List Sm)) : ∀ o, (outE D o).length ≤ tot (D.take o)
  | 0 => Nat.le_refl _
  | o + 1 => by
    have h := outE_len D o
    unfold outE
    cases hd : D[o]? with
    | none =>
      rw [List.take_of_length_le (by rw [List.getElem?_eq_none_iff] at hd; omega)] at h ⊢
      exact h
    | some S =>
      have := inn_len (outE D o) o S S.length
      have e : D.take (o + 1) = D.take o ++ [S] := by rw [List.take_add_one, hd]; rfl
      rw [e]
      unfold tot at h ⊢
      simp only [List.map_append, List.sum_append, List.map_cons, List.map_nil, List.sum_cons, List.sum_nil]
      omega
theorem tot_take (D : List (List Sm)) (o : Nat) : tot (D.take o) ≤ tot D := by
  have e : tot D = tot (D.take o) + tot (D.drop o) := by
    unfold tot
    rw [← List.sum_append, ← List.map_append, List.take_append_drop]
  omega
/-- so many at most stand in the map -/
theorem law9 : Maps.Keyed Try.prog 9 := Maps.string_keyed Try.underlying9
theorem zero3 (w : World) : (zeroValue 3).run Try.prog w = .ok (.int .i64 0) w := by kernel_rfl
theorem key9 (s : ByteArray) (h : s.size ≤ 9223372036854775807) : keyOf Try.prog 9 (.string s) = some (.string s.data.toList) := WideMaps.keyOf_string_mk Try.underlying9 (by unfold maxLen; exact h)
theorem wf_nat (k : Nat) (h : k ≤ 9223372036854775807) : (Lit.int .i64 (k : Int)).wf = true := by
  simp [Lit.wf, IntKind.min, IntKind.max, IntKind.bits, IntKind.signed]
  omega
theorem lit_ne {s t : ByteArray} (h : s ≠ t) : (Lit.string s.data.toList) ≠ .string t.data.toList := fun e => h (by
  obtain ⟨⟨a⟩⟩ := s
  obtain ⟨⟨b⟩⟩ := t
  simpa using e)
/-- a map of texts to numbers -/
def Mf (w : World) (B n : Nat) (f : ByteArray → Option Nat) : Prop :=
  ∃ D : DataW Unit, w.ownsMap Try.prog 9 (plainElem Try.prog 3) B n D ∧ Maps.IsMap D ∧ (∀ s : ByteArray, Maps.has D (.string s.data.toList) = (f s).isSome) ∧
    ∀ s i, f s = some i → D.atKey (.string s.data.toList) (.lit (.int .i64 0)) = .lit (.int .i64 (i : Int))
theorem grown_below {w w' : World} (hb : Below w.heap.size w w') : w.grownBy w' none := ⟨hb.os, hb.tape, hb.output, hb.size, fun k hk _ => hb.block k hk⟩
theorem Mf.below {w w' : World} {B n : Nat} {f : ByteArray → Option Nat} (h : Mf w B n f) (hb : Below w.heap.size w w') : Mf w' B n f := by
  obtain ⟨D, h1, h2⟩ := h
  exact ⟨D, h1.kept (grown_below hb) (by simp), h2⟩
theorem mf_zero (w : World) : Mf (w.alloc (.map #[] 0)) w.heap.size 0 (fun _ => none) :=
  ⟨.map [], World.ownsMap_made w _ _ _, Maps.isMap_empty, fun s => rfl, fun s i h => by cases h⟩
theorem mf_put {w' : World} {B n : Nat} {f : ByteArray → Option Nat} {D : DataW Unit} {s : ByteArray} {i : Nat} (h2 : Maps.IsMap D) (h3 : ∀ s : ByteArray, Maps.has D (.string s.data.toList) = (f s).isSome)
    (h4 : ∀ s i, f s = some i → D.atKey (.string s.data.toList) (.lit (.int .i64 0)) = .lit (.int .i64 (i : Int)))
    (h1 : w'.ownsMap Try.prog 9 (plainElem Try.prog 3) B (n + 1) (D.put (.string s.data.toList) (.lit (.int .i64 (i : Int))))) : Mf w' B (n + 1) (fun t => if t = s then some i else f t) := by
  refine ⟨_, h1, h2.put _ _, fun t => ?_, fun t j hj => ?_⟩
  · by_cases ht : t = s
    · subst ht
      rw [Maps.has_put_same h2 (show WideAt.IsKeyLit (.string _) from trivial)]
      simp
    · rw [Maps.has_put_other (lit_ne ht), h3 t]
      simp only [if_neg ht]
  · by_cases ht : t = s
    · subst ht
      simp only [if_pos] at hj
      cases hj
      exact Maps.atKey_put_same h2 (show WideAt.IsKeyLit (.string _) from trivial) _ _
    · simp only [if_neg ht] at hj
      rw [Maps.atKey_put_other (lit_ne ht)]
      exact h4 t j hj
/-- what a symbol more does to the numbers of names -/
theorem idx_set (E : List Nm) (i : Nat) (n : Nm) (h : ∀ m, E[i]? = some m → m.tx = n.tx) (s : ByteArray) : idx (E.set i n) s = idx E s := by
  unfold idx
  induction E generalizing i with
  | nil => rfl
  | cons a E ih =>
    cases i with
    | zero =>
      rw [List.set_cons_zero, List.findIdx?_cons, List.findIdx?_cons]
      have := h a rfl
      rw [this]
    | succ i =>
      rw [List.set_cons_succ, List.findIdx?_cons, List.findIdx?_cons, ih i (fun m hm => h m (by rw [List.getElem?_cons_succ]; exact hm))]
theorem idx_app (E : List Nm) (n : Nm) (hn : idx E n.tx = none) (s : ByteArray) : idx (E ++ [n]) s = if s = n.tx then some E.length else idx E s := by
  unfold idx at hn ⊢
  rw [List.findIdx?_append]
  by_cases h : s = n.tx
  · subst h
    rw [if_pos rfl, hn, List.findIdx?_cons]
    simp
  · rw [if_neg h, List.findIdx?_cons]
    have : decide (n.tx = s) = false := decide_eq_false (fun e => h e.symm)
    rw [this]
    cases List.findIdx? (fun n => decide (n.tx = s)) E <;> rfl
theorem take_tx (n : Nm) (s : Sm) (t : Tg) : (take n s t).tx = n.tx := by
  unfold take
  split
  · rfl
  split
  · rfl
  split <;> rfl
theorem idx_at {E : List Nm} {s : ByteArray} {i : Nat} (h : idx E s = some i) : ∃ n, E[i]? = some n ∧ n.tx = s := by
  unfold idx at h
  rw [List.findIdx?_eq_some_iff_getElem] at h
  obtain ⟨hi, h1, _⟩ := h
  exact ⟨E[i], List.getElem?_eq_getElem hi, by simpa using h1⟩
end Go.Proofs.Ytoiiiobamanclaa
