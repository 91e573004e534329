import Derived.Test.YtblfnjdbihhglaaGreatDoorVz
import Derived.Test.YtblfnjdbihhglaaGreatDoorUz
import Derived.Laws.EntriesVeiled
namespace Go.Proofs.YtblfnjdbihhglaaGreatDoor
open Go.ChangeShapes Go.WideShapes Go.ChangeAt Go.RowKit Go.MapKept Go.ChangeMaps
open Li (Ss Gl)
set_option linter.unusedVariables false
set_option linter.unusedSimpArgs false
/-- the entries of a table of words -/
def rwEs : Nat → List (ByteArray × Value) → List MapEntry
  | _, [] => []
  | j, x :: r => ⟨.string x.1, x.2, j⟩ :: rwEs (j + 1) r
theorem rwEs_snoc (y : ByteArray × Value) : ∀ (l : List (ByteArray × Value)) (j : Nat), rwEs j (l ++ [y]) = rwEs j l ++ [⟨.string y.1, y.2, j + l.length⟩]
  | [], j => by simp [rwEs]
  | x :: r, j => by
    rw [List.cons_append, rwEs, rwEs, rwEs_snoc y r (j + 1), List.length_cons, show j + 1 + r.length = j + (r.length + 1) by omega, List.cons_append]
def rwFind : List (ByteArray × Value) → ByteArray → Nat → Option (Nat × Value)
  | [], _, _ => none
  | x :: r, s, i => if s = x.1 then some (i, x.2) else rwFind r s (i + 1)
theorem find_rw (s : ByteArray) : ∀ (l : List (ByteArray × Value)) (j i : Nat), Instr.findNow .string (.string s) (rwEs j l) i = some (rwFind l s i)
  | [], _, _ => rfl
  | x :: r, j, i => by
    rw [rwEs, rwFind, Instr.findNow]
    by_cases h : s = x.1
    · have : Instr.sameNow .string (.string s) (.string x.1) = some true := by rw [Instr.sameNow, (bytes_beq s x.1).2 h]
      rw [this, if_pos h]
    · have : Instr.sameNow .string (.string s) (.string x.1) = some false := by
        rw [Instr.sameNow]
        congr 1
        cases hq : (s == x.1)
        · rfl
        · exact absurd ((bytes_beq _ _).1 hq) h
      rw [this, if_neg h]
      exact find_rw s r (j + 1) (i + 1)
def rwO (l : List (ByteArray × Value)) : Obj := .map (rwEs 0 l).toArray l.length
theorem lookup_rw {P : Program} {T k9 k3 : TypeId} {z : Value} (hT : P.underlying T = some (.map k9 k3)) (h9 : P.underlying k9 = some .string) (h3 : ∀ w, (zeroValue k3).run P w = .ok z w)
    {w : World} {B : Nat} {l : List (ByteArray × Value)} (h : w.heap[B]? = some (rwO l)) (s : ByteArray) :
    (Instr.lookup T (.map (some B)) (.string s) true).run P w = .ok (.tuple #[((rwFind l s 0).map (·.2)).getD z, .bool (rwFind l s 0).isSome]) w := by
  unfold Instr.lookup
  simp only [Sem.run_bind, run_underlying hT, Result.andThen, MapKept.run_getObj_map h, MapKept.run_checkKey (w := w) h9 (show IsKey .string (.string s) from trivial)]
  simp only [Sem.run_pure, Result.andThen, show (rwEs 0 l).toArray.toList = rwEs 0 l from rfl, MapKept.run_checkKey (w := w) h9 (show IsKey .string (.string s) from trivial), run_findKey (w := w) h9 (find_rw s l 0 0)]
  cases hq : rwFind l s 0 with
  | none => simp [h3, Result.andThen]
  | some k => simp [Result.andThen]
theorem push_set {α : Type} (a : Array α) (x y : α) : (a.push x).setIfInBounds a.size y = a.push y := by
  apply Array.toList_inj.1
  rw [Array.toList_setIfInBounds, Array.toList_push, Array.toList_push, List.set_append_right _ _ (by simp)]
  simp
theorem update_rw {P : Program} {T k9 k3 : TypeId} (hT : P.underlying T = some (.map k9 k3)) (h9 : P.underlying k9 = some .string)
    {w : World} {l : List (ByteArray × Value)} (s : ByteArray) (v : Value) (hs : rwFind l s 0 = none) (H : Nat) (hH : w.heap.size = H) :
    (Instr.mapUpdate T (.map (some H)) (.string s) v).run P (w.alloc (rwO l)) = .ok () (w.alloc (rwO (l ++ [(s, v)]))) := by
  subst hH
  have h : (w.alloc (rwO l)).heap[w.heap.size]? = some (rwO l) := (MapKept.heap_alloc w _).1
  unfold Instr.mapUpdate
  simp only [Sem.run_bind, run_underlying hT, Result.andThen, MapKept.run_getObj_map h, MapKept.run_checkKey (w := w.alloc (rwO l)) h9 (show IsKey .string (.string s) from trivial)]
  simp only [run_findKey (w := w.alloc (rwO l)) h9 (find_rw s l 0 0), hs, Result.andThen]
  rw [MapKept.run_setObj_map _ h]
  have hlen : (l ++ [(s, v)]).length = l.length + 1 := by simp
  show Result.ok () { w with heap := (w.heap.push _).setIfInBounds w.heap.size _ } = Result.ok () { w with heap := w.heap.push _ }
  rw [push_set]
  unfold rwO
  rw [rwEs_snoc, hlen]
  simp
def rowV (r n f : Nat) : Value := .agg #[.int .i64 (n : Int), .func (.func f) #[.pointer (some ⟨r, 0, none⟩)] #[]]
def sComp : ByteArray := ⟨#[99, 111, 109, 112, 97, 114, 116, 109, 101, 110, 116]⟩
def sExport : ByteArray := ⟨#[101, 120, 112, 111, 114, 116]⟩
def sCall : ByteArray := ⟨#[99, 97, 108, 108]⟩
def sDevice : ByteArray := ⟨#[100, 101, 118, 105, 99, 101]⟩
def sShare : ByteArray := ⟨#[115, 104, 97, 114, 101]⟩
def sStart : ByteArray := ⟨#[115, 116, 97, 114, 116]⟩
def allR (r : Nat) : List (ByteArray × Value) := [(sComp, rowV r 2 42), (sExport, rowV r 5 43), (sCall, rowV r 4 44), (sDevice, rowV r 5 45), (sShare, rowV r 4 46), (sStart, rowV r 3 47)]
def rwL (r k : Nat) : List (ByteArray × Value) := (allR r).take k
def rowO (r k : Nat) : Obj := rwO (rwL r k)
/-- the row of a word -/
def rowOf (s : ByteArray) : Option (Nat × Nat) :=
  if s = sComp then some (2, 42) else if s = sExport then some (5, 43) else if s = sCall then some (4, 44) else if s = sDevice then some (5, 45) else if s = sShare then some (4, 46) else if s = sStart then some (3, 47) else none
theorem rows_find (r : Nat) (s : ByteArray) : (rwFind (rwL r 6) s 0).map (·.2) = (rowOf s).map (fun x => rowV r x.1 x.2) := by
  show (rwFind (allR r) s 0).map (·.2) = _
  simp only [allR, rwFind]
  unfold rowOf
  repeat' split
  all_goals rfl
theorem rows_none (r k : Nat) (s : ByteArray) (h : ∀ x ∈ rwL r k, s ≠ x.1) : rwFind (rwL r k) s 0 = none := by
  generalize rwL r k = l at h
  generalize 0 = i
  induction l generalizing i with
  | nil => rfl
  | cons x l ih =>
    rw [rwFind, if_neg (h x (List.mem_cons_self ..))]
    exact ih (fun y hy => h y (List.mem_cons_of_mem _ hy)) _
set_option maxRecDepth 100000 in
set_option maxHeartbeats 4000000 in
theorem c21 (r : Nat) (w : World) : Calls Tryz.prog 21 #[.pointer (some ⟨r, 0, none⟩)] w fun e w' => e = .returned (.map (some w.heap.size)) ∧ Below w.heap.size w w' ∧ w'.heap[w.heap.size]? = some (rowO r 6) ∧ w'.heap.size = w.heap.size + 1 := by
  have u1 : (Instr.mapUpdate 51 (.map (some w.heap.size)) (.string ⟨#[99, 111, 109, 112, 97, 114, 116, 109, 101, 110, 116]⟩) (.agg #[.int .i64 2, .func (.func 42) #[.pointer (some ⟨r, 0, none⟩)] #[]])).run Tryz.prog (w.alloc (.map #[] 0)) = .ok () (w.alloc (rowO r 1)) := update_rw (T := 51) (k9 := 9) (k3 := 55) Tryz.underlying51 Tryz.underlying9 (l := rwL r 0) sComp (rowV r 2 42) rfl _ rfl
  have u2 : (Instr.mapUpdate 51 (.map (some w.heap.size)) (.string ⟨#[101, 120, 112, 111, 114, 116]⟩) (.agg #[.int .i64 5, .func (.func 43) #[.pointer (some ⟨r, 0, none⟩)] #[]])).run Tryz.prog (w.alloc (rowO r 1)) = .ok () (w.alloc (rowO r 2)) := update_rw (T := 51) (k9 := 9) (k3 := 55) Tryz.underlying51 Tryz.underlying9 (l := rwL r 1) sExport (rowV r 5 43) (rows_none r 1 _ (by simp [rwL, allR]; decide)) _ rfl
  have u3 : (Instr.mapUpdate 51 (.map (some w.heap.size)) (.string ⟨#[99, 97, 108, 108]⟩) (.agg #[.int .i64 4, .func (.func 44) #[.pointer (some ⟨r, 0, none⟩)] #[]])).run Tryz.prog (w.alloc (rowO r 2)) = .ok () (w.alloc (rowO r 3)) := update_rw (T := 51) (k9 := 9) (k3 := 55) Tryz.underlying51 Tryz.underlying9 (l := rwL r 2) sCall (rowV r 4 44) (rows_none r 2 _ (by simp [rwL, allR]; decide)) _ rfl
  have u4 : (Instr.mapUpdate 51 (.map (some w.heap.size)) (.string ⟨#[100, 101, 118, 105, 99, 101]⟩) (.agg #[.int .i64 5, .func (.func 45) #[.pointer (some ⟨r, 0, none⟩)] #[]])).run Tryz.prog (w.alloc (rowO r 3)) = .ok () (w.alloc (rowO r 4)) := update_rw (T := 51) (k9 := 9) (k3 := 55) Tryz.underlying51 Tryz.underlying9 (l := rwL r 3) sDevice (rowV r 5 45) (rows_none r 3 _ (by simp [rwL, allR]; decide)) _ rfl
  have u5 : (Instr.mapUpdate 51 (.map (some w.heap.size)) (.string ⟨#[115, 104, 97, 114, 101]⟩) (.agg #[.int .i64 4, .func (.func 46) #[.pointer (some ⟨r, 0, none⟩)] #[]])).run Tryz.prog (w.alloc (rowO r 4)) = .ok () (w.alloc (rowO r 5)) := update_rw (T := 51) (k9 := 9) (k3 := 55) Tryz.underlying51 Tryz.underlying9 (l := rwL r 4) sShare (rowV r 4 46) (rows_none r 4 _ (by simp [rwL, allR]; decide)) _ rfl
  have u6 : (Instr.mapUpdate 51 (.map (some w.heap.size)) (.string ⟨#[115, 116, 97, 114, 116]⟩) (.agg #[.int .i64 3, .func (.func 47) #[.pointer (some ⟨r, 0, none⟩)] #[]])).run Tryz.prog (w.alloc (rowO r 5)) = .ok () (w.alloc (rowO r 6)) := update_rw (T := 51) (k9 := 9) (k3 := 55) Tryz.underlying51 Tryz.underlying9 (l := rwL r 5) sStart (rowV r 3 47) (rows_none r 5 _ (by simp [rwL, allR]; decide)) _ rfl
  have hmk : (Instr.makeMap 51 none).run Tryz.prog w = .ok (.map (some w.heap.size)) (w.alloc (.map #[] 0)) := by first | rfl | (simp [Instr.makeMap, go_sem]; done)
  have hmf : ∀ (fn : Fn) (first cap : Array Value) (w : World), (Instr.makeFunc fn first cap).run Tryz.prog w = .ok (.func fn first cap) w := fun _ _ _ _ => rfl
  go_enter Tryz.func21, Tryz.ntmps21
  go_wp2_with fail
  go_ret
  exact ⟨rfl, (Below.refl _ w).alloc (Nat.le_refl _) _, (MapKept.heap_alloc w _).1, by simp⟩
end Go.Proofs.YtblfnjdbihhglaaGreatDoor
namespace Go.Proofs.YtblfnjdbihhglaaGreatDoor
open Go.ChangeShapes Go.WideShapes Go.ChangeAt Go.RowKit Go.MapKept
open Li (Ss Gl Wl Ws Reads)
set_option linter.unusedVariables false
set_option linter.unusedSimpArgs false
noncomputable def addS (cs : List ByteArray) (es : List Ed) (o : Nat × Ed) : Nat × List ByteArray × List Ed := (o.1, cs, pushE es o)
/-- what a line of so many words does -/
noncomputable def stepM (cs : List ByteArray) (es : List Ed) (n : Nat) (h : Nat → ByteArray) : Nat × List ByteArray × List Ed :=
  if h 0 = sComp then (if n = 2 then compM cs es (h 1) else (5, cs, es))
  else if h 0 = sExport then (if n = 5 then addS cs es (addM cs es ⟨1, 0, 0, h 2, twoN 256 4088 (h 3) (h 4)⟩ (twoK 256 4088 (h 3) (h 4)) (h 1) ⟨#[]⟩) else (5, cs, es))
  else if h 0 = sCall then (if n = 4 then addS cs es (addM cs es ⟨2, 0, 0, h 3, 0⟩ true (h 1) (h 2)) else (5, cs, es))
  else if h 0 = sDevice then (if n = 5 then addS cs es (addM cs es ⟨3, 0, 0, h 2, twoN 65536 256 (h 3) (h 4)⟩ (twoK 65536 256 (h 3) (h 4)) (h 1) ⟨#[]⟩) else (5, cs, es))
  else if h 0 = sShare then (if n = 4 then addS cs es (addM cs es ⟨4, 0, 0, h 2, if h 3 = ⟨#[114, 119]⟩ then 3 else 1⟩ (decide (h 3 = ⟨#[114]⟩) || decide (h 3 = ⟨#[114, 119]⟩)) (h 1) ⟨#[]⟩) else (5, cs, es))
  else if h 0 = sStart then (if n = 3 then addS cs es (addM cs es ⟨5, 0, 0, h 2, 0⟩ true (h 1) ⟨#[]⟩) else (5, cs, es))
  else (5, cs, es)
theorem add_m {w w' : World} {B r m : Nat} {V U : Value} {cs : List ByteArray} {es : List Ed} {o : Nat × Ed} {e : Ending} (h : AddPost w B r m V U cs es o e w') : MPost w B r m V U (addS cs es o) e w' := by
  obtain ⟨U', h1, h2, h3⟩ := h
  exact ⟨V, U', h1, h2, h3⟩
/-- a row's function does what its line does -/
theorem row_call {n f : Nat} (A : Option Addr) (c : Nat) (h : Nat → ByteArray) (hrow : rowOf (h 0) = some (n, f)) (w : World) (hA : Ss w A n h) (hs : ∀ j, j < n → (h j).size ≤ 281474976710656) (B r m : Nat) (V U : Value) (cs : List ByteArray) (es : List Ed) (hR : Rd w B r m V U cs es)
    (hC : cs.Nodup) (hE : ∀ y ∈ es, y.ok) (hcl : cs.length ≤ 400) (hel : es.length ≤ 400) (hG : Gl w) :
    Calls Tryz.prog f #[.pointer (some ⟨r, 0, none⟩), .slice A n c] w fun e w' => MPost w B r m V U (stepM cs es n h) e w' := by
  unfold rowOf at hrow
  unfold stepM
  by_cases h1 : h 0 = sComp
  · rw [if_pos h1] at hrow ⊢
    cases hrow
    rw [if_pos rfl]
    exact c42 A c h w hA hs B r m V U cs es hR hC hcl hel
  rw [if_neg h1] at hrow ⊢
  by_cases h1 : h 0 = sExport
  · rw [if_pos h1] at hrow ⊢
    cases hrow
    rw [if_pos rfl]
    exact (c43 A c h w hA hs B r m V U cs es hR hC hE hcl hel hG).mono fun e w' hp => add_m hp
  rw [if_neg h1] at hrow ⊢
  by_cases h1 : h 0 = sCall
  · rw [if_pos h1] at hrow ⊢
    cases hrow
    rw [if_pos rfl]
    exact (c44 A c h w hA hs B r m V U cs es hR hC hE hcl hel).mono fun e w' hp => add_m hp
  rw [if_neg h1] at hrow ⊢
  by_cases h1 : h 0 = sDevice
  · rw [if_pos h1] at hrow ⊢
    cases hrow
    rw [if_pos rfl]
    exact (c45 A c h w hA hs B r m V U cs es hR hC hE hcl hel hG).mono fun e w' hp => add_m hp
  rw [if_neg h1] at hrow ⊢
  by_cases h1 : h 0 = sShare
  · rw [if_pos h1] at hrow ⊢
    cases hrow
    rw [if_pos rfl]
    exact (c46 A c h w hA hs B r m V U cs es hR hC hE hcl hel).mono fun e w' hp => add_m hp
  rw [if_neg h1] at hrow ⊢
  by_cases h1 : h 0 = sStart
  · rw [if_pos h1] at hrow ⊢
    cases hrow
    rw [if_pos rfl]
    exact (c47 A c h w hA hs B r m V U cs es hR hC hE hcl hel).mono fun e w' hp => add_m hp
  rw [if_neg h1] at hrow
  cases hrow
theorem row_none (cs : List ByteArray) (es : List Ed) (n : Nat) (h : Nat → ByteArray) (hrow : rowOf (h 0) = none) : stepM cs es n h = (5, cs, es) := by
  unfold rowOf at hrow
  unfold stepM
  repeat (split at hrow; · cases hrow)
  simp only [*, if_false]
theorem row_len (cs : List ByteArray) (es : List Ed) (n : Nat) (h : Nat → ByteArray) (m f : Nat) (hrow : rowOf (h 0) = some (m, f)) (hn : n ≠ m) : stepM cs es n h = (5, cs, es) := by
  unfold rowOf at hrow
  unfold stepM
  by_cases h1 : h 0 = sComp
  · rw [if_pos h1] at hrow ⊢
    cases hrow
    rw [if_neg hn]
  rw [if_neg h1] at hrow ⊢
  by_cases h1 : h 0 = sExport
  · rw [if_pos h1] at hrow ⊢
    cases hrow
    rw [if_neg hn]
  rw [if_neg h1] at hrow ⊢
  by_cases h1 : h 0 = sCall
  · rw [if_pos h1] at hrow ⊢
    cases hrow
    rw [if_neg hn]
  rw [if_neg h1] at hrow ⊢
  by_cases h1 : h 0 = sDevice
  · rw [if_pos h1] at hrow ⊢
    cases hrow
    rw [if_neg hn]
  rw [if_neg h1] at hrow ⊢
  by_cases h1 : h 0 = sShare
  · rw [if_pos h1] at hrow ⊢
    cases hrow
    rw [if_neg hn]
  rw [if_neg h1] at hrow ⊢
  by_cases h1 : h 0 = sStart
  · rw [if_pos h1] at hrow ⊢
    cases hrow
    rw [if_neg hn]
  rw [if_neg h1] at hrow
  cases hrow
/-- what add leaves of an edge -/
theorem addM_ok {cs : List ByteArray} {es : List Ed} {x : Ed} {ok : Bool} {a b : ByteArray} (hx : x.ok) : (addM cs es x ok a b).2.ok := by
  unfold addM
  split
  · exact hx
  split
  · split
    · exact hx
    · split
      · exact hx
      · exact hx
  · split
    · exact hx
    · exact hx
theorem pushE_ok {es : List Ed} {o : Nat × Ed} (h : ∀ y ∈ es, y.ok) (ho : o.2.ok) : ∀ y ∈ pushE es o, y.ok := by
  unfold pushE
  split
  · intro y hy
    rcases List.mem_append.1 hy with hy | hy
    · exact h y hy
    · rw [List.mem_singleton.1 hy]; exact ho
  · exact h
theorem pushE_len (es : List Ed) (o : Nat × Ed) : (pushE es o).length ≤ es.length + 1 := by
  unfold pushE
  split <;> simp
/-- what every line keeps -/
def StOk (k : Nat) (cs : List ByteArray) (es : List Ed) : Prop := cs.Nodup ∧ (∀ y ∈ es, y.ok) ∧ cs.length + es.length ≤ k
theorem stM_ok {k : Nat} {cs : List ByteArray} {es : List Ed} (hk : StOk k cs es) (n : Nat) (h : Nat → ByteArray) (hs : ∀ j, j < n → (h j).size ≤ 281474976710656) : StOk (k + 1) (stepM cs es n h).2.1 (stepM cs es n h).2.2 := by
  obtain ⟨h1, h2, h3⟩ := hk
  have base : StOk (k + 1) cs es := ⟨h1, h2, by omega⟩
  have hadd : ∀ x ok a b, x.ok → StOk (k + 1) (addS cs es (addM cs es x ok a b)).2.1 (addS cs es (addM cs es x ok a b)).2.2 := fun x ok a b hx =>
    ⟨h1, pushE_ok h2 (addM_ok hx), by have := pushE_len es (addM cs es x ok a b); show cs.length + (pushE _ _).length ≤ _; omega⟩
  unfold stepM
  split
  · split
    · unfold compM
      split
      · exact base
      · split
        · exact base
        · rename_i hq
          refine ⟨?_, h2, by simp; omega⟩
          show (cs ++ [h 1]).Nodup
          rw [List.nodup_append]
          exact ⟨h1, by simp, fun x hx y hy => by rw [List.mem_singleton.1 hy]; exact fun e => nmAt_mem hq (by rw [← e]; exact hx)⟩
    · exact base
  split
  · split
    · rename_i hn
      refine hadd _ _ _ _ ⟨by simp only; omega, twoN_lt _ _ _ _ (by decide), ?_⟩
      have := hs 2 (by omega); simp only; omega
    · exact base
  split
  · split
    · rename_i hn
      refine hadd _ _ _ _ ⟨by simp only; omega, by simp only; omega, ?_⟩
      have := hs 3 (by omega); simp only; omega
    · exact base
  split
  · split
    · rename_i hn
      refine hadd _ _ _ _ ⟨by simp only; omega, twoN_lt _ _ _ _ (by decide), ?_⟩
      have := hs 2 (by omega); simp only; omega
    · exact base
  split
  · split
    · rename_i hn
      refine hadd _ _ _ _ ⟨by simp only; omega, by simp only; split <;> omega, ?_⟩
      have := hs 2 (by omega); simp only; omega
    · exact base
  split
  · split
    · rename_i hn
      refine hadd _ _ _ _ ⟨by simp only; omega, by simp only; omega, ?_⟩
      have := hs 2 (by omega); simp only; omega
    · exact base
  · exact base
/-- what lines do, from the k-th on -/
noncomputable def runG (g : Nat → Wl) : Nat → Nat → List ByteArray → List Ed → (Int × Nat) × List ByteArray × List Ed
  | 0, _, cs, es => ((0, 0), cs, es)
  | m + 1, k, cs, es => if (stepM cs es (g k).n (g k).f).1 = 0 then runG g m (k + 1) (stepM cs es (g k).n (g k).f).2.1 (stepM cs es (g k).n (g k).f).2.2 else (((g k).line, (stepM cs es (g k).n (g k).f).1), [], [])
/-- what Get answers -/
noncomputable def getV (s : ByteArray) : (Int × Nat) × List ByteArray × List Ed :=
  if Li.rdE s = 0 then runG (fun k => Li.wlOf (((Li.rdV s)[k]?.map fun x => (x.1, Value.slice none x.2.length 0, x.2)).getD (0, .slice none 0 0, []))) (Li.rdV s).length 0 [] [] else ((0, Li.rdE s), [], [])
theorem runG_congr (g g' : Nat → Wl) (N : Nat) (h : ∀ k, k < N → (g k).line = (g' k).line ∧ (g k).n = (g' k).n ∧ (g k).f = (g' k).f) : ∀ m k cs es, k + m ≤ N → runG g m k cs es = runG g' m k cs es
  | 0, _, _, _, _ => rfl
  | m + 1, k, cs, es, hk => by
    obtain ⟨h1, h2, h3⟩ := h k (by omega)
    rw [runG, runG, h1, h2, h3]
    split
    · exact runG_congr g g' N h m (k + 1) _ _ (by omega)
    · rfl
theorem getV_reads {s : ByteArray} {g : Nat → Wl} (h0 : Li.rdE s = 0) (h : Reads g (Li.rdV s)) : getV s = runG g (Li.rdV s).length 0 [] [] := by
  unfold getV
  rw [if_pos h0]
  refine runG_congr _ _ (Li.rdV s).length (fun k hk => ?_) _ _ _ _ (by omega)
  obtain ⟨h1, h2, h3⟩ := h k hk
  simp only [List.getElem?_eq_getElem hk, Option.map_some, Option.getD_some, Li.wlOf]
  exact ⟨h1.symm, h2.symm, funext fun j => (h3 j).symm⟩
theorem getV_err {s : ByteArray} (h0 : Li.rdE s ≠ 0) : getV s = ((0, Li.rdE s), [], []) := by unfold getV; rw [if_neg h0]
/-- the lines are short, and none is empty -/
theorem said_sz : ∀ (l : List ByteArray) (j : Nat), (∀ x ∈ l, x.size ≤ 100) → ∀ x ∈ Li.saidB j l, 0 < x.2.length ∧ x.2.length ≤ 101 ∧ ∀ y ∈ x.2, y.size ≤ 100
  | [], j, _ => fun x hx => by cases hx
  | y :: r, j, h => by
    have ih := said_sz r (j + 1) (fun x hx => h x (by simp [hx]))
    rw [Li.saidB]
    split
    · exact ih
    · rename_i hne
      intro x hx
      rcases List.mem_cons.1 hx with rfl | hx
      · have hy := h y (by simp)
        refine ⟨List.length_pos_iff.2 hne, by have := Li.wordsB_len y; simp only; omega, fun z hz => ?_⟩
        have hz2 : z ∈ Lib.goFieldsP Li.pB y := (List.takeWhile_sublist _).subset hz
        have := Li.fields_sz Li.pB y z hz2
        omega
      · exact ih x hx
theorem said_len : ∀ (l : List ByteArray) (j : Nat), (Li.saidB j l).length ≤ l.length
  | [], _ => Nat.le_refl _
  | y :: r, j => by
    have := said_len r (j + 1)
    rw [Li.saidB]
    split
    · simp; omega
    · simp; omega
theorem rdV_short {s : ByteArray} (h : Li.rdE s = 0) : (Li.rdV s).length ≤ 400 ∧ ∀ x ∈ Li.rdV s, 0 < x.2.length ∧ x.2.length ≤ 101 ∧ ∀ y ∈ x.2, y.size ≤ 100 := by
  rw [Li.rdV_ok s h]
  have hm : ¬ Li.manyP s := fun hm => by
    unfold Li.rdE at h
    rw [if_pos hm] at h
    split at h <;> cases h
  refine ⟨Nat.le_trans (said_len _ _) (Nat.le_of_not_lt (fun hh => hm (Or.inl hh))), said_sz _ _ (fun x hx => Li.mem_size hx hm)⟩
/-- Get's answer, in memory -/
def GetPost (s : ByteArray) (w : World) (e : Ending) (w' : World) : Prop :=
  ∃ V U, e = .returned (.tuple #[.agg #[V, U], .int .i64 (getV s).1.1, .int .i64 ((getV s).1.2 : Int)]) ∧ w'.ownsRow w.heap.size 9 1 V (getV s).2.1.length ((getV s).2.1.map Value.string) ∧ w'.ownsRow w.heap.size 42 5 U (getV s).2.2.length ((getV s).2.2.flatMap Ed.cs) ∧ Below w.heap.size w w'
end Go.Proofs.YtblfnjdbihhglaaGreatDoor
namespace Go.Proofs.YtblfnjdbihhglaaGreatDoor
open Go.ChangeShapes Go.WideShapes Go.ChangeAt Go.RowKit Go.MapKept
open Li (Ss Gl Wl Ws Reads)
set_option linter.unusedVariables false
set_option linter.unusedSimpArgs false
theorem zero55 : ∀ w, (zeroValue 55).run Tryz.prog w = .ok (.agg #[.int .i64 0, .nilFunc]) w := fun w => by simp [go_sem]
/-- the round of Get -/
def RG (w1 : World) (B r m q : Nat) (g : Nat → Wl) (N : Nat) (i : Value) (wr : World) : Prop :=
  ∃ k cs es V U, k ≤ N ∧ i = .int .i64 ((k : Nat) : Int) ∧ Rd wr B r m V U cs es ∧ StOk k cs es ∧ wr.heap[q]? = some (rowO r 6) ∧ Below m w1 wr ∧ runG g N 0 [] [] = runG g (N - k) k cs es
theorem runG_fail {g : Nat → Wl} {N k : Nat} {cs : List ByteArray} {es : List Ed} {c : Nat} (hk : k < N) (h : runG g N 0 [] [] = runG g (N - k) k cs es) (ho : (stepM cs es (g k).n (g k).f).1 = c) (hc : c ≠ 0) : runG g N 0 [] [] = (((g k).line, c), [], []) := by
  rw [h, show N - k = (N - k - 1) + 1 by omega, runG, if_neg (by omega), ho]
theorem runG_go {g : Nat → Wl} {N k : Nat} {cs : List ByteArray} {es : List Ed} (hk : k < N) (h : runG g N 0 [] [] = runG g (N - k) k cs es) (ho : (stepM cs es (g k).n (g k).f).1 = 0) :
    runG g N 0 [] [] = runG g (N - (k + 1)) (k + 1) (stepM cs es (g k).n (g k).f).2.1 (stepM cs es (g k).n (g k).f).2.2 := by
  rw [h, show N - k = (N - (k + 1)) + 1 by omega, runG, if_pos ho]
theorem get_err {s : ByteArray} {w w' : World} {ln : Int} {c : Nat} (h : getV s = ((ln, c), [], [])) (hb : Below w.heap.size w w') (q : Int) (hq : q = (c : Int)) : GetPost s w (.returned (.tuple #[.agg #[.slice none 0 0, .slice none 0 0], .int .i64 ln, .int .i64 q])) w' := by
  refine ⟨.slice none 0 0, .slice none 0 0, by rw [h, hq], ?_, ?_, hb⟩
  · rw [h]; exact World.ownsRow_nil _ _ _ _
  · rw [h]; exact World.ownsRow_nil _ _ _ _
theorem row_enter {t : ByteArray} {n f : Nat} (h : rowOf t = some (n, f)) (args : Array Value) (W : World) : (callFunc f args).run Tryz.prog W = .ok (.enter f args) W := by
  unfold rowOf at h
  repeat' split at h
  all_goals cases h
  all_goals simp [go_sem]
theorem st_two {X : World} {g : Nat} {a b : Value} {T : TypeId} (h : X.heap[g]? = some (.cells #[a, b] T (0, 0))) (V U : Value) : ((X.setCell ⟨g, 0, none⟩ V).setCell ⟨g, 1, none⟩ U).cell? ⟨g, 0, none⟩ = some V ∧ ((X.setCell ⟨g, 0, none⟩ V).setCell ⟨g, 1, none⟩ U).cell? ⟨g, 1, none⟩ = some U := by
  have h1 := heap_setCell_at _ g 1 U (heap_setCell_at X g 0 V h)
  exact ⟨by rw [cell_of_row _ g 0 _ _ _ h1]; rfl, by rw [cell_of_row _ g 1 _ _ _ h1]; rfl⟩
theorem st_two2 {X : World} {g : Nat} {a b : Value} {T : TypeId} (h : X.heap[g]? = some (.cells #[a, b] T (0, 0))) (V U : Value) (o o' : Obj) : ((((X.setCell ⟨g, 0, none⟩ V).setCell ⟨g, 1, none⟩ U).alloc o).alloc o').cell? ⟨g, 0, none⟩ = some V ∧ ((((X.setCell ⟨g, 0, none⟩ V).setCell ⟨g, 1, none⟩ U).alloc o).alloc o').cell? ⟨g, 1, none⟩ = some U := by
  have hl : g < X.heap.size := (Array.getElem?_eq_some_iff.1 h).1
  have hz : ((X.setCell ⟨g, 0, none⟩ V).setCell ⟨g, 1, none⟩ U).heap.size = X.heap.size := by rw [setCell_size, setCell_size]
  obtain ⟨h0, h1⟩ := st_two h V U
  have z : ∀ j, ((((X.setCell ⟨g, 0, none⟩ V).setCell ⟨g, 1, none⟩ U).alloc o).alloc o').cell? ⟨g, j, none⟩ = ((X.setCell ⟨g, 0, none⟩ V).setCell ⟨g, 1, none⟩ U).cell? ⟨g, j, none⟩ := fun j =>
    World.cell?_of_block ((Below.heap_alloc _ _ _ (by simp only [World.alloc, Array.size_push]; omega)).trans (Below.heap_alloc _ _ _ (by show g < _; omega)))
  exact ⟨(z 0).trans h0, (z 1).trans h1⟩
theorem get_ok {s : ByteArray} {w wr : World} {B r m : Nat} {V U : Value} {cs : List ByteArray} {es : List Ed} (hb : Below w.heap.size w wr) (hR : Rd wr B r m V U cs es) (hV : getV s = ((0, 0), cs, es)) (hB : w.heap.size < B) :
    GetPost s w (.returned (.tuple #[.agg #[V, U], .int .i64 0, .int .i64 0])) ((wr.setCell ⟨w.heap.size, 0, none⟩ V).setCell ⟨w.heap.size, 1, none⟩ U) := by
  refine ⟨V, U, by rw [hV]; rfl, ?_, ?_, (hb.setCell (Nat.le_refl _) _).setCell (Nat.le_refl _) _⟩
  · rw [hV]; exact Li.own_base (own_set (own_set hR.ns hB) hB) (Nat.le_of_lt hB)
  · rw [hV]; exact Li.own_base (own_set (own_set hR.ed hB) hB) (Nat.le_of_lt hB)
theorem round_keeps {wr W3 w4 : World} {m : Nat} {V U : Value} {cs : List ByteArray} {es : List Ed} (hR : Rd wr (m + 3) (m + 1) m V U cs es) (hb : Below wr.heap.size wr W3) (hF : Fr (m + 1) m V U W3 w4) :
    Below m wr w4 ∧ (w4.heap[m + 2]? = wr.heap[m + 2]?) ∧ ∀ i, wr.heap.size ≤ i → i < W3.heap.size → w4.heap[i]? = W3.heap[i]? := by
  have hR3 := hR.below hb
  have hBw := hR.Bw
  refine ⟨(hb.mono (by omega)).trans (hF.below hR3 (by omega) (Nat.le_refl _)), (hF.low hR3 (by omega) (by omega) (by omega)).trans (hb.block _ (by omega)), fun i h1 h2 => hF.block i h2 (by omega) (by omega) (fun e => ?_) (fun e => ?_)⟩
  · have := (hR.ns.lt i e).2; omega
  · have := (hR.ed.lt i e).2; omega
theorem rd_start {w1 w3 : World} (hb3 : Below ((w1.alloc (.map #[] 0)).alloc (.cells #[.slice none 0 0, .slice none 0 0, .map (some w1.heap.size)] 50)).heap.size ((w1.alloc (.map #[] 0)).alloc (.cells #[.slice none 0 0, .slice none 0 0, .map (some w1.heap.size)] 50)) w3) (hs : w3.heap.size = w1.heap.size + 3) :
    Rd w3 (w1.heap.size + 3) (w1.heap.size + 1) w1.heap.size (.slice none 0 0) (.slice none 0 0) [] [] ∧ Below w1.heap.size w1 w3 := by
  have hz : ((w1.alloc (.map #[] 0)).alloc (.cells #[.slice none 0 0, .slice none 0 0, .map (some w1.heap.size)] 50)).heap.size = w1.heap.size + 2 := by simp
  have hz1 : (w1.alloc (.map #[] 0)).heap.size = w1.heap.size + 1 := by simp
  refine ⟨⟨?_, World.ownsRow_nil _ _ _ _, World.ownsRow_nil _ _ _ _, ?_, by omega, by omega, by omega, by omega⟩, ?_⟩
  · rw [hb3.block _ (by omega)]
    have := heap_alloc_new (w1.alloc (.map #[] 0)) (.cells #[.slice none 0 0, .slice none 0 0, .map (some w1.heap.size)] 50)
    rw [hz1] at this
    exact this
  · show w3.heap[w1.heap.size]? = _
    rw [hb3.block _ (by omega), Below.heap_alloc _ _ _ (by omega)]
    exact (MapKept.heap_alloc w1 _).1
  · exact (((Below.refl _ w1).alloc (Nat.le_refl _) _).alloc (by omega) _).trans (hb3.mono (by omega))
set_option maxRecDepth 100000 in
set_option maxHeartbeats 16000000 in
theorem c9 (s : ByteArray) (hs : s.size ≤ 16777215) (w : World) (hG : Gl w) : Calls Tryz.prog 9 #[.string s] w fun e w' => GetPost s w e w' := by
  have K20 : Hid (Calls Tryz.prog 20 #[.string s] (w.alloc (.cells #[.slice none 0 0, .slice none 0 0] 25)) fun e w' => Li.RdPost s (w.alloc (.cells #[.slice none 0 0, .slice none 0 0] 25)) e w') := Lib.hid (Li.c8 s hs _ (hG.below ((Below.refl _ _).alloc (Nat.le_refl _) _)))
  have HG := Lib.hid hG
  clear hG hs
  obtain ⟨rd, hrd0⟩ : ∃ x, Li.rdE s = x := ⟨_, rfl⟩
  go_enter Tryz.func9, Tryz.ntmps9
  go_wp2_with fail
  refine K20.out.mono ?_
  intro e w1 hp
  obtain ⟨A, c, g, rfl, hws, hreads, hro, hb1⟩ := Li.post_ws hp
  clear hp K20 hro
  have HB1 : Hid (Below (w.heap.size + 1) (w.alloc (.cells #[.slice none 0 0, .slice none 0 0] 25)) w1) := Lib.hid (hb1.mono (by simp))
  have HBW : Hid (∀ W, Below (w.heap.size + 1) (w.alloc (.cells #[.slice none 0 0, .slice none 0 0] 25)) W → Below w.heap.size w W ∧ W.heap[w.heap.size]? = some (.cells #[.slice none 0 0, .slice none 0 0] 25 (0, 0)) ∧ w.heap.size < W.heap.size) := Lib.hid (fun W hW =>
    ⟨((Below.refl _ w).alloc (Nat.le_refl _) _).trans (hW.mono (Nat.le_succ _)), (hW.block _ (Nat.lt_succ_self _)).trans (heap_alloc_new w _), by have := hW.size; simp at this; omega⟩)
  clear hb1
  rw [hrd0]
  by_cases h0 : rd = 0
  · subst h0
    have HV := Lib.hid (getV_reads hrd0 hreads)
    obtain ⟨hN4, hsh⟩ := rdV_short hrd0
    have HWO : Hid (∀ k, (hk : k < (Li.rdV s).length) → 0 < (g k).n ∧ ∀ j, j < (g k).n → ((g k).f j).size ≤ 281474976710656) := Lib.hid (fun k hk => by
      obtain ⟨_, r2, r3⟩ := hreads k hk
      obtain ⟨s1, s2, s3⟩ := hsh _ (List.getElem_mem hk)
      refine ⟨by omega, fun j hj => ?_⟩
      rw [r3 j, List.getElem?_eq_getElem (by omega)]
      have := s3 _ (List.getElem_mem (l := (Li.rdV s)[k].2) (n := j) (by omega))
      simp only [Option.getD_some]
      omega)
    generalize (Li.rdV s).length = N at *
    have HWS := Lib.hid hws
    clear hsh hreads hws hrd0
    obtain ⟨f0, f1, f2⟩ := HBW.out _ HB1.out
    obtain ⟨y0, y1⟩ : w1.cell? ⟨w.heap.size, 0, none⟩ = some (.slice none 0 0) ∧ w1.cell? ⟨w.heap.size, 1, none⟩ = some (.slice none 0 0) := ⟨by rw [cell_of_row w1 _ 0 _ _ _ f1]; rfl, by rw [cell_of_row w1 _ 1 _ _ _ f1]; rfl⟩
    have hmm := @run_makeMap Tryz.prog
    go_wp2_with fail
    refine (c21 _ _).mono ?_
    rintro _ w3 ⟨rfl, hb3, hq3, hs3⟩
    obtain ⟨hr3, hb13⟩ := rd_start hb3 (by rw [hs3]; simp)
    rw [show ((w1.alloc (.map #[] 0)).alloc (.cells #[.slice none 0 0, .slice none 0 0, .map (some w1.heap.size)] 50)).heap.size = w1.heap.size + 2 from by simp] at hq3 ⊢
    have HR3 := Lib.hid hr3
    have HB13 := Lib.hid hb13
    have HQ3 := Lib.hid hq3
    have HQL : Hid (w1.heap.size + 2 < w1.heap.size + 3) := Lib.hid (Nat.lt_succ_self _)
    clear hr3 hb13 hq3 hb3 hs3 y0 y1 hmm
    obtain ⟨m, hm⟩ : ∃ m, w1.heap.size = m := ⟨_, rfl⟩
    have HM := Lib.hid hm
    rw [hm] at HR3 HB13 HQ3 HQL ⊢
    clear hm f0 f1 f2
    go_wp2_with fail
    go_loopw [30] (fun i wr => RG w1 (m + 3) (m + 1) m (m + 2) g N i wr) (fun i _ => N - (intOf i).toNat)
    case atStart => exact ⟨0, [], [], _, _, Nat.zero_le _, rfl, HR3.out, ⟨List.nodup_nil, (fun y hy => by cases hy), Nat.le_refl _⟩, HQ3.out, HB13.out, rfl⟩
    case round =>
      obtain ⟨k, cs, es, V, U, hk, rfl, hR, hSt, hq, hb, hrun⟩ := hrel
      have HR := Lib.hid hR
      have HST := Lib.hid hSt
      have HQ := Lib.hid hq
      have HB := Lib.hid hb
      have HRUN := Lib.hid hrun
      have hbw : Below (w.heap.size + 1) (w.alloc (.cells #[.slice none 0 0, .slice none 0 0] 25)) wr := HB1.out.trans (hb.mono (by have := (HBW.out _ HB1.out).2.2; have := HM.out; omega))
      have HBR := Lib.hid hbw
      clear hSt hb hrun hbw
      by_cases hlt : k < N
      · obtain ⟨b, o, rfl, hbl, hc⟩ := HWS.out (by omega)
        obtain ⟨q0, q1, hss, hn, hnc⟩ := hc k hlt
        obtain ⟨hn0, hwo⟩ := HWO.out k hlt
        have hbm : Below w1.heap.size w1 wr := by rw [HM.out]; exact HB.out
        obtain ⟨b2, o2, hA2, hbl2, hc2⟩ := hss hn0
        have p0 := (hc2 0 hn0).1
        rw [Nat.add_zero] at p0
        rw [← hbm.cell (p := ⟨b2, o2, none⟩) hbl2] at p0
        have hb2r : b2 < wr.heap.size := Nat.lt_of_lt_of_le hbl2 hbm.size
        rw [← hbm.cell (p := ⟨b, _, none⟩) hbl] at q0 q1
        rw [hA2] at q1
        have hssr := hss.below hbm
        rw [hA2] at hssr
        have HFL : Hid (∀ c, (stepM cs es (g k).n (g k).f).1 = c → c ≠ 0 → getV s = (((g k).line, c), [], [])) := Lib.hid (fun c ho hc => by rw [HV.out]; exact runG_fail hlt HRUN.out ho hc)
        have HGO : Hid ((stepM cs es (g k).n (g k).f).1 = 0 → runG g N 0 [] [] = runG g (N - (k + 1)) (k + 1) (stepM cs es (g k).n (g k).f).2.1 (stepM cs es (g k).n (g k).f).2.2) := Lib.hid (fun ho => runG_go hlt HRUN.out ho)
        have HSO := Lib.hid (stM_ok HST.out (g k).n (g k).f hwo)
        have HRN := row_none cs es (g k).n (g k).f
        have HRL := row_len cs es (g k).n (g k).f
        have HGR : Hid (Gl wr) := Lib.hid (HG.out.below (HBW.out _ HBR.out).1)
        have HKM : Hid (∀ f, rowOf ((g k).f 0) = some ((g k).n, f) → ∀ W, Below wr.heap.size wr W → Calls Tryz.prog f #[.pointer (some ⟨m + 1, 0, none⟩), .slice (some ⟨b2, o2, none⟩) (g k).n (g k).c] W fun e w' => MPost W (m + 3) (m + 1) m V U (stepM cs es (g k).n (g k).f) e w') := Lib.hid (fun f hf W hW =>
          row_call _ _ _ hf W (hssr.below hW) hwo _ _ _ V U cs es (HR.out.below hW) HST.out.1 HST.out.2.1 (by have := HST.out.2.2; omega) (by have := HST.out.2.2; omega) (HGR.out.below hW))
        obtain ⟨ov, hov⟩ : ∃ ov, stepM cs es (g k).n (g k).f = ov := ⟨_, rfl⟩
        rw [hov] at HFL HGO HSO HRN HRL HKM
        clear hov
        obtain ⟨ln, hln⟩ : ∃ ln, (g k).line = ln := ⟨_, rfl⟩
        obtain ⟨nn, hnn⟩ : ∃ nn, (g k).n = nn := ⟨_, rfl⟩
        obtain ⟨c2, hc2e⟩ : ∃ c2, (g k).c = c2 := ⟨_, rfl⟩
        obtain ⟨t0, ht0⟩ : ∃ t0, (g k).f 0 = t0 := ⟨_, rfl⟩
        rw [hln] at HFL q0
        rw [hnn] at HRL HKM q1 hn0 hn hnc
        rw [hc2e] at HKM q1 hnc
        rw [ht0] at HRN HRL HKM p0
        have HRN2 := Lib.hid HRN
        have HRL2 := Lib.hid HRL
        clear HRN HRL hln hnn hc2e ht0 hA2 hss hssr hc hc2 hwo hbl2 hbm
        have hlk := lookup_rw (T := 51) Tryz.underlying51 Tryz.underlying9 zero55 (((Below.refl _ wr).alloc (Nat.le_refl _) (.cells #[.int .i64 ln, .slice (some ⟨b2, o2, none⟩) nn c2] 44)).block (m + 2) (by have := HR.out.Bw; omega) |>.trans HQ.out) t0
        rw [rows_find, show (rwFind (rwL (m + 1) 6) t0 0).isSome = (rowOf t0).isSome from by have := congrArg Option.isSome (rows_find (m + 1) t0); simpa using this] at hlk
        have hkn : (k : Int) < (N : Int) := by omega
        have hn0i : (0 : Int) < (nn : Int) := by omega
        obtain ⟨g0, g1, g2⟩ := HBW.out _ HBR.out
        obtain ⟨z0, z1⟩ : wr.cell? ⟨w.heap.size, 0, none⟩ = some (.slice none 0 0) ∧ wr.cell? ⟨w.heap.size, 1, none⟩ = some (.slice none 0 0) := ⟨by rw [cell_of_row wr _ 0 _ _ _ g1]; rfl, by rw [cell_of_row wr _ 1 _ _ _ g1]; rfl⟩
        have z2 : ∀ j, wr.frozen? ⟨w.heap.size, j, none⟩ = false := fun j => by simp [World.frozen?, g1]
        have HG0 := Lib.hid g0
        have HG1 := Lib.hid g1
        have hgm : w.heap.size < m := by have := (HBW.out _ HB1.out).2.2; have := HM.out; omega
        have HGM := Lib.hid hgm
        clear hR hq g0 g1
        obtain ⟨row, hrow⟩ : ∃ row, rowOf t0 = row := ⟨_, rfl⟩
        rw [hrow] at hlk
        cases row with
        | none =>
          have HX := Lib.hid (HFL.out 5 (by rw [HRN2.out hrow]) (by decide))
          simp only [Option.map_none, Option.getD_none, Option.isSome_none] at hlk
          have HS2 := Lib.hid (st_two2 HG1.out (.slice none 0 0) (.slice none 0 0) (.cells #[.int .i64 ln, .slice (some ⟨b2, o2, none⟩) nn c2] 44) (.cells #[.int .i64 0, .nilFunc] 55))
          have HBF : Hid (Below w.heap.size w ((((wr.setCell ⟨w.heap.size, 0, none⟩ (.slice none 0 0)).setCell ⟨w.heap.size, 1, none⟩ (.slice none 0 0)).alloc (.cells #[.int .i64 ln, .slice (some ⟨b2, o2, none⟩) nn c2] 44)).alloc (.cells #[.int .i64 0, .nilFunc] 55)).drew) := Lib.hid (Below.drew ((((HG0.out.setCell (Nat.le_refl _) _).setCell (Nat.le_refl _) _).alloc (by rw [setCell_size, setCell_size]; exact Nat.le_of_lt g2) _).alloc (by simp only [World.alloc, Array.size_push, setCell_size]; omega) _))
          clear HKM HGO HSO HRN2 HRL2 HFL hrow
          go_upto_region 11 with fail
          go_region
          all_goals
            go_wp2_with fail
            obtain ⟨x0, x1⟩ := HS2.out
            refine bodyPost_ret (v := .tuple #[.agg #[.slice none 0 0, .slice none 0 0], .int .i64 ln, .int .i64 5]) (by simp [results, Tryz.results9, go_sem, x0, x1]) rfl ?_
            exact get_err HX.out HBF.out _ rfl
        | some nf =>
          obtain ⟨nw, f⟩ := nf
          simp only [Option.map_some, Option.getD_some, Option.isSome_some, rowV] at hlk
          by_cases hne : nn = nw
          · subst hne
            have KM := Lib.hid (HKM.out f hrow ((wr.alloc (.cells #[.int .i64 ln, .slice (some ⟨b2, o2, none⟩) nn c2] 44)).alloc (.cells #[.int .i64 (nn : Int), .func (.func f) #[.pointer (some ⟨m + 1, 0, none⟩)] #[]] 55)) (((Below.refl _ wr).alloc (Nat.le_refl _) _).alloc (by simp) _))
            have hcf := row_enter hrow
            clear HKM HRN2 HRL2 hrow
            go_wp2_with fail
            refine KM.out.mono ?_
            rintro _ w4 ⟨V', U', rfl, hR4, hF4⟩
            have hbW3 : Below wr.heap.size wr ((wr.alloc (.cells #[.int .i64 ln, .slice (some ⟨b2, o2, none⟩) nn c2] 44)).alloc (.cells #[.int .i64 (nn : Int), .func (.func f) #[.pointer (some ⟨m + 1, 0, none⟩)] #[]] 55)) := ((Below.refl _ wr).alloc (Nat.le_refl _) _).alloc (by simp) _
            obtain ⟨rk1, rk2, rk3⟩ := round_keeps HR.out hbW3 hF4
            have HR4 := Lib.hid hR4
            have HK1 := Lib.hid rk1
            have HK2 := Lib.hid rk2
            have hP : w4.heap[wr.heap.size]? = some (.cells #[.int .i64 ln, .slice (some ⟨b2, o2, none⟩) nn c2] 44 (0, 0)) := (rk3 _ (Nat.le_refl _) (by simp; omega)).trans ((Below.heap_alloc _ _ _ (by simp)).trans (heap_alloc_new wr _))
            have hP0 : w4.cell? ⟨wr.heap.size, 0, none⟩ = some (.int .i64 ln) := by rw [cell_of_row w4 _ 0 _ _ _ hP]; rfl
            have hg4 := (rk1.block _ HGM.out).trans HG1.out
            obtain ⟨e0, e1⟩ : w4.cell? ⟨w.heap.size, 0, none⟩ = some (.slice none 0 0) ∧ w4.cell? ⟨w.heap.size, 1, none⟩ = some (.slice none 0 0) := ⟨by rw [cell_of_row w4 _ 0 _ _ _ hg4]; rfl, by rw [cell_of_row w4 _ 1 _ _ _ hg4]; rfl⟩
            have e2 : ∀ j, w4.frozen? ⟨w.heap.size, j, none⟩ = false := fun j => by simp [World.frozen?, hg4]
            have HS2 := Lib.hid (st_two hg4 (.slice none 0 0) (.slice none 0 0))
            clear hP hg4 hR4 hF4 hbW3 rk1 rk2 rk3 KM hcf hlk z0 z1 z2 q0 q1 p0
            obtain ⟨oc, hoc⟩ : ∃ oc, ov.1 = oc := ⟨_, rfl⟩
            by_cases ho : oc = 0
            · subst ho
              have HGX := Lib.hid (HGO.out hoc)
              rw [hoc]
              clear hoc
              go_wp2_with fail
              go_roundw
              case rel => exact ⟨k + 1, ov.2.1, ov.2.2, V', U', hlt, by go_num, HR4.out, HSO.out, HK2.out.trans HQ.out, HB.out.trans HK1.out, HGX.out⟩
              case measure => simp [intOf]; omega
            · have HX := Lib.hid (HFL.out oc hoc ho)
              have hnz : ((oc : Int) != 0) = true := by simp; omega
              have HBF : Hid (Below w.heap.size w (((w4.setCell ⟨w.heap.size, 0, none⟩ (.slice none 0 0)).setCell ⟨w.heap.size, 1, none⟩ (.slice none 0 0)).drew)) := Lib.hid (Below.drew (((HG0.out.trans (HK1.out.mono (Nat.le_of_lt HGM.out))).setCell (Nat.le_refl _) _).setCell (Nat.le_refl _) _))
              rw [hoc]
              clear hoc HFL HGO
              go_upto_region 14 with fail
              go_region
              all_goals
                go_wp2_with fail
                obtain ⟨x0, x1⟩ := HS2.out
                refine bodyPost_ret (v := .tuple #[.agg #[.slice none 0 0, .slice none 0 0], .int .i64 ln, .int .i64 (oc : Int)]) (by simp [results, Tryz.results9, go_sem, x0, x1]) rfl ?_
                exact get_err HX.out HBF.out _ rfl
          · have HX := Lib.hid (HFL.out 5 (by rw [HRL2.out nw f hrow hne]) (by decide))
            have hnei : ((nn : Int) != (nw : Int)) = true := by simp; omega
            have HS2 := Lib.hid (st_two2 HG1.out (.slice none 0 0) (.slice none 0 0) (.cells #[.int .i64 ln, .slice (some ⟨b2, o2, none⟩) nn c2] 44) (.cells #[.int .i64 (nw : Int), .func (.func f) #[.pointer (some ⟨m + 1, 0, none⟩)] #[]] 55))
            have HBF : Hid (Below w.heap.size w ((((wr.setCell ⟨w.heap.size, 0, none⟩ (.slice none 0 0)).setCell ⟨w.heap.size, 1, none⟩ (.slice none 0 0)).alloc (.cells #[.int .i64 ln, .slice (some ⟨b2, o2, none⟩) nn c2] 44)).alloc (.cells #[.int .i64 (nw : Int), .func (.func f) #[.pointer (some ⟨m + 1, 0, none⟩)] #[]] 55)).drew) := Lib.hid (Below.drew ((((HG0.out.setCell (Nat.le_refl _) _).setCell (Nat.le_refl _) _).alloc (by rw [setCell_size, setCell_size]; exact Nat.le_of_lt g2) _).alloc (by simp only [World.alloc, Array.size_push, setCell_size]; omega) _))
            clear HKM HGO HSO HRN2 HRL2 HFL hrow
            go_upto_region 11 with fail
            go_region
            all_goals
              go_wp2_with fail
              obtain ⟨x0, x1⟩ := HS2.out
              refine bodyPost_ret (v := .tuple #[.agg #[.slice none 0 0, .slice none 0 0], .int .i64 ln, .int .i64 5]) (by simp [results, Tryz.results9, go_sem, x0, x1]) rfl ?_
              exact get_err HX.out HBF.out _ rfl
      · obtain rfl : k = N := by omega
        have HX : Hid (getV s = ((0, 0), cs, es)) := Lib.hid (by rw [HV.out, HRUN.out, Nat.sub_self]; rfl)
        obtain ⟨AV, cV, hVe, _⟩ := Li.own_slice hR.ns
        obtain ⟨AU, cU, hUe, _⟩ := Li.own_slice hR.ed
        subst hVe hUe
        have y0 := hR.V0
        have y1 := hR.U0
        obtain ⟨g0, g1, g2⟩ := HBW.out _ HBR.out
        obtain ⟨z0, z1⟩ : wr.cell? ⟨w.heap.size, 0, none⟩ = some (.slice none 0 0) ∧ wr.cell? ⟨w.heap.size, 1, none⟩ = some (.slice none 0 0) := ⟨by rw [cell_of_row wr _ 0 _ _ _ g1]; rfl, by rw [cell_of_row wr _ 1 _ _ _ g1]; rfl⟩
        have z2 : ∀ j, wr.frozen? ⟨w.heap.size, j, none⟩ = false := fun j => by simp [World.frozen?, g1]
        have HST2 := Lib.hid (st_two g1 (.slice AV cs.length cV) (.slice AU es.length cU))
        have hB : w.heap.size < m + 3 := by have := (HBW.out _ HB1.out).2.2; have := HM.out; omega
        clear hk hR hq g1
        go_wp2_with fail
        obtain ⟨x0, x1⟩ := HST2.out
        refine bodyPost_ret (v := .tuple #[.agg #[.slice AV cs.length cV, .slice AU es.length cU], .int .i64 0, .int .i64 0]) (by simp [results, Tryz.results9, go_sem, x0, x1]) rfl ?_
        exact get_ok g0 HR.out HX.out hB
  · have HX := Lib.hid (getV_err (s := s) (by rw [hrd0]; exact h0))
    rw [hrd0] at HX
    obtain ⟨f0, f1, f2⟩ := HBW.out _ HB1.out
    obtain ⟨y0, y1⟩ : w1.cell? ⟨w.heap.size, 0, none⟩ = some (.slice none 0 0) ∧ w1.cell? ⟨w.heap.size, 1, none⟩ = some (.slice none 0 0) := ⟨by rw [cell_of_row w1 _ 0 _ _ _ f1]; rfl, by rw [cell_of_row w1 _ 1 _ _ _ f1]; rfl⟩
    have z2 : ∀ j, w1.frozen? ⟨w.heap.size, j, none⟩ = false := fun j => by simp [World.frozen?, f1]
    have HST2 := Lib.hid (st_two f1 (.slice none 0 0) (.slice none 0 0))
    have hne : ((rd : Int) != 0) = true := by simp; omega
    clear hws hreads hrd0 f1
    go_wp2_with fail
    obtain ⟨x0, x1⟩ := HST2.out
    refine bodyPost_ret (v := .tuple #[.agg #[.slice none 0 0, .slice none 0 0], .int .i64 0, .int .i64 (rd : Int)]) (by simp [results, Tryz.results9, go_sem, x0, x1]) rfl ?_
    exact get_err HX.out ((f0.setCell (Nat.le_refl _) _).setCell (Nat.le_refl _) _) _ rfl
end Go.Proofs.YtblfnjdbihhglaaGreatDoor
