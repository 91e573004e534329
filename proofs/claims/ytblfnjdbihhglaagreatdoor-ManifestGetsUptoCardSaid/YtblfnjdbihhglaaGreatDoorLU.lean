import Derived.Test.YtblfnjdbihhglaaGreatDoorLT
namespace Go.Proofs.YtblfnjdbihhglaaGreatDoor.Li
open Go.ChangeShapes Go.WideShapes Go.ChangeAt Go.RowKit
set_option linter.unusedVariables false
/-- may a byte stand in a text? -/
def okb (n : Nat) : Bool := decide (n = 9 ∨ n = 10 ∨ (32 ≤ n ∧ n ≤ 126))
open Classical in
noncomputable def okT (s : ByteArray) : Bool := decide (∀ i, i < s.size → okb (bb s i) = true)
def saidB : Nat → List ByteArray → List (Nat × List ByteArray)
  | _, [] => []
  | k, x :: r => if wordsB x = [] then saidB (k + 1) r else (k, wordsB x) :: saidB (k + 1) r
theorem saidB_snoc (x : ByteArray) : ∀ (l : List ByteArray) (j : Nat), saidB j (l ++ [x]) = saidB j l ++ (if wordsB x = [] then [] else [(j + l.length, wordsB x)])
  | [], j => by
    simp only [List.nil_append, saidB, List.length_nil, Nat.add_zero]
  | y :: r, j => by
    have ih := saidB_snoc x r (j + 1)
    rw [List.cons_append, saidB, saidB, ih]
    split
    · rw [List.length_cons, show j + 1 + r.length = j + (r.length + 1) by omega]
    · rw [List.length_cons, show j + 1 + r.length = j + (r.length + 1) by omega, List.cons_append]
/-- is there too much of it? -/
def manyP (s : ByteArray) : Prop := 400 < (lnsB s).length ∨ ∃ x ∈ lnsB s, 100 < x.size
open Classical in
noncomputable def rdE (s : ByteArray) : Nat := if okT s = false then 5 else if manyP s then 3 else 0
open Classical in
noncomputable def rdV (s : ByteArray) : List (Nat × List ByteArray) := if rdE s = 0 then saidB 1 (lnsB s) else []
/-- what Read answers, in memory -/
def RdOut (B : Nat) (V : Value) (R : List (Nat × List ByteArray)) (w : World) : Prop :=
  ∃ D : List (Nat × Value × List ByteArray), D.map (fun x => (x.1, x.2.2)) = R ∧ w.ownsRow B 44 2 V D.length (D.flatMap fun x => [.int .i64 (x.1 : Int), x.2.1]) ∧ ∀ x ∈ D, w.ownsRow B 9 1 x.2.1 x.2.2.length (x.2.2.map Value.string)
theorem own_slice {w : World} {B e size n : Nat} {v : Value} {xs : List Value} (h : w.ownsRow B e size v n xs) : ∃ A c, v = .slice A n c ∧ n ≤ c := by
  obtain ⟨h1, h2⟩ := h
  rcases h2 with ⟨h2, h3⟩ | ⟨g, cap, cur, a, b, c, d, e⟩
  · subst h3; exact ⟨none, 0, h2, Nat.le_refl _⟩
  · exact ⟨_, cap, a, d⟩
theorem rd_nil (B : Nat) (w : World) : RdOut B (.slice none 0 0) [] w := ⟨[], rfl, World.ownsRow_nil _ _ _ _, fun x hx => by cases hx⟩
theorem rd_below {B : Nat} {V : Value} {R : List (Nat × List ByteArray)} {w w' : World} (h : RdOut B V R w) (hb : Below w.heap.size w w') : RdOut B V R w' := by
  obtain ⟨D, h1, h2, h3⟩ := h
  exact ⟨D, h1, own_below h2 hb, fun x hx => own_below (h3 x hx) hb⟩
theorem rd_base {B B' : Nat} {V : Value} {R : List (Nat × List ByteArray)} {w : World} (h : RdOut B V R w) (hB : B' ≤ B) : RdOut B' V R w := by
  obtain ⟨D, h1, h2, h3⟩ := h
  exact ⟨D, h1, own_base h2 hB, fun x hx => own_base (h3 x hx) hB⟩
theorem own_block {w : World} {B e size n g : Nat} {v : Value} {xs : List Value} (h : w.ownsRow B e size v n xs) (hg : v.ownBlock = some g) : ∃ cur, w.heap[g]? = some (.cells cur e (0, 0)) := by
  obtain ⟨h1, h2⟩ := h
  rcases h2 with ⟨h2, h3⟩ | ⟨g', cap, cur, a, b, c, d⟩
  · subst h2; simp [Value.ownBlock] at hg
  · subst a; simp [Value.ownBlock] at hg; subst hg; exact ⟨cur, c⟩
/-- rows of two kinds lie apart -/
theorem own_apart {w : World} {B B' e e' size size' n n' : Nat} {v v' : Value} {xs xs' : List Value} (h : w.ownsRow B e size v n xs) (h' : w.ownsRow B' e' size' v' n' xs') (he : e ≠ e') : v.ownBlock = none ∨ v.ownBlock ≠ v'.ownBlock := by
  cases hv : v.ownBlock with
  | none => exact Or.inl rfl
  | some g =>
    refine Or.inr (fun hh => ?_)
    obtain ⟨c, hc⟩ := own_block h hv
    obtain ⟨c', hc'⟩ := own_block h' hh.symm
    rw [hc] at hc'
    simp at hc'
    exact he hc'.2
/-- one line more -/
theorem rd_snoc {B : Nat} {V V' v : Value} {D : List (Nat × Value × List ByteArray)} {R : List (Nat × List ByteArray)} {w w' : World} {j : Nat} {l : List ByteArray} (h1 : D.map (fun x => (x.1, x.2.2)) = R) (h2 : w.ownsRow B 44 2 V D.length (D.flatMap fun x => [.int .i64 (x.1 : Int), x.2.1]))
    (h3 : ∀ x ∈ D, w.ownsRow B 9 1 x.2.1 x.2.2.length (x.2.2.map Value.string)) (hv : w.ownsRow B 9 1 v l.length (l.map Value.string))
    (ho : w'.ownsRow B 44 2 V' (D.length + 1) ((D.flatMap fun x => [.int .i64 (x.1 : Int), x.2.1]) ++ [.int .i64 (j : Int), v])) (hg : w.grownBy w' V.ownBlock) : RdOut B V' (R ++ [(j, l)]) w' := by
  refine ⟨D ++ [(j, v, l)], by rw [List.map_append, h1]; rfl, ?_, ?_⟩
  · rw [List.length_append, List.flatMap_append]
    exact ho
  · intro x hx
    rcases List.mem_append.1 hx with hx | hx
    · exact (h3 x hx).kept hg (own_apart (h3 x hx) h2 (by decide))
    · obtain rfl : x = (j, v, l) := by simpa using hx
      exact hv.kept hg (own_apart hv h2 (by decide))
theorem spans_len (p : Nat → Bool) (s : ByteArray) : ∀ (f pos : Nat) (st : Option Nat) (acc : List (Nat × Nat)), (Lib.spansFromP p s f pos st acc).1.length ≤ acc.length + f
  | 0, _, _, _ => Nat.le_refl _
  | f + 1, pos, st, acc => by
    unfold Lib.spansFromP
    split
    · split
      · split
        · refine Nat.le_trans (spans_len p s f _ _ _) ?_
          simp; omega
        · refine Nat.le_trans (spans_len p s f _ _ _) ?_
          omega
      · split
        · refine Nat.le_trans (spans_len p s f _ _ _) ?_
          omega
        · refine Nat.le_trans (spans_len p s f _ _ _) ?_
          omega
    · simp
theorem fields_len (p : Nat → Bool) (s : ByteArray) : (Lib.goFieldsP p s).length ≤ s.size + 1 := by
  unfold Lib.goFieldsP Lib.spansOfP Lib.closeSpans
  have := spans_len p s s.size 0 none []
  rw [List.length_map]
  split
  · simp at this ⊢; omega
  · simp at this ⊢; omega
theorem fields_sz (p : Nat → Bool) (s : ByteArray) : ∀ x ∈ Lib.goFieldsP p s, x.size ≤ s.size := by
  intro x hx
  unfold Lib.goFieldsP at hx
  obtain ⟨y, _, rfl⟩ := List.mem_map.1 hx
  rw [ByteArray.size_extract]
  omega
theorem c19s (s : ByteArray) (hs : s.size ≤ 16777215) (w : World) :
    Calls Tryz.prog 41 #[.string s] w fun e w' => ∃ A c, e = .returned (.slice A (wordsB s).length c) ∧ w'.ownsRow w.heap.size 9 1 (.slice A (wordsB s).length c) (wordsB s).length ((wordsB s).map Value.string) ∧ Below w.heap.size w w' := by
  refine (c19 s (by omega) w (Nat.le_trans (fields_len pB s) (by omega)) (fun x hx => Nat.le_trans (fields_sz pB s x hx) (by omega))).mono ?_
  rintro e w' ⟨v, he, ho, hb⟩
  obtain ⟨A, c, rfl, _⟩ := own_slice ho
  exact ⟨A, c, he, ho, hb⟩
theorem wordsB_len (s : ByteArray) : (wordsB s).length ≤ s.size + 1 := Nat.le_trans ((List.takeWhile_sublist _).length_le) (fields_len pB s)
end Go.Proofs.YtblfnjdbihhglaaGreatDoor.Li
