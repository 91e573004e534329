import Derived.Test.YtmanoheofloimaaGreatDoorRkz
namespace Go.Proofs.YtmanoheofloimaaGreatDoor
open Go.ChangeShapes Go.WideShapes Go.ChangeAt Go.RowKit
set_option linter.unusedVariables false
/-- do all operations wait for such of lower rank alone? -/
def rankOk (ops : Array Oper) (rank : Nat → Nat) : Bool := (List.range ops.size).all fun i => ((ops[i]?).map fun o => o.after.toList.all fun e => !Region.binds .any e || (decide (rank e.on < rank i) && decide (e.on < ops.size))).getD true
/-- where nothing is ready all is done -/
theorem ready_done {ops : Array Oper} (rank : Nat → Nat) (hk : rankOk ops rank = true) {l : Array Bool} (hs : l.size = ops.size) (hr : Region.ready .any ops l = []) : ∀ i, i < ops.size → l.getD i false = true := by
  have key : ∀ n i, rank i < n → i < ops.size → l.getD i false = true := by
    intro n
    induction n with
    | zero => intro i h; omega
    | succ n ih =>
      intro i hn hi
      cases hb : l.getD i false with
      | true => rfl
      | false =>
        exfalso
        have hmem : i ∈ Region.ready .any ops l := by
          refine mem_ready.2 ⟨?_, ops[i], Array.getElem?_eq_getElem hi, ?_⟩
          · simp only [Array.getD_eq_getD_getElem?] at hb ⊢
            have hl : i < l.size := by omega
            simp only [Array.getElem?_eq_getElem hl, Option.getD_some] at hb ⊢
            exact hb
          · intro e he hbi
            have h1 := List.all_eq_true.1 hk i (List.mem_range.2 hi)
            rw [Array.getElem?_eq_getElem hi] at h1
            simp only [Option.map_some, Option.getD_some] at h1
            have h2 := List.all_eq_true.1 h1 e (by simpa using he)
            simp only [hbi, Bool.not_true, Bool.false_or, Bool.and_eq_true, decide_eq_true_eq] at h2
            exact ih e.on (by omega) h2.2
        rw [hr] at hmem
        cases hmem
  exact fun i hi => key (rank i + 1) i (Nat.lt_succ_self _) hi
/-- a table of operations, slots and values: what is done has its value -/
def Tv (T : List (Nat × Nat × Value)) (l : Array Bool) (a : Act) : Prop := ∀ e ∈ T, l.getD e.1 false = true → a.tmps.getD e.2.1 undef = e.2.2
/-- slots that stay -/
def Fx (F : List (Nat × Value)) (a : Act) : Prop := ∀ e ∈ F, a.tmps.getD e.1 undef = e.2
theorem Fx.put {F : List (Nat × Value)} {a : Act} (h : Fx F a) (d : Nat) (v : Value) (hd : (F.all fun e => decide (e.1 ≠ d)) = true) : Fx F (a.put (some d) v) := fun e he => by
  have := List.all_eq_true.1 hd e he
  rw [decide_eq_true_eq] at this
  rw [put_at, if_neg (by omega)]
  exact h e he
theorem Tv.put {T : List (Nat × Nat × Value)} {l : Array Bool} {a : Act} (h : Tv T l a) (i d : Nat) (v : Value) (hi : i < l.size) (hd : d < a.tmps.size) (hT : ∀ e ∈ T, e.2.1 = d → e = (i, d, v)) (hi2 : ∀ e ∈ T, e.1 = i → e = (i, d, v)) : Tv T (l.setIfInBounds i true) (a.put (some d) v) := fun e he hb => by
  rw [put_at]
  by_cases c : d = e.2.1
  · rw [if_pos ⟨c, hd⟩, hT e he c.symm]
  · rw [if_neg (fun k => c k.1)]
    rw [set_at] at hb
    by_cases ci : i = e.1
    · exact absurd (by rw [hi2 e he ci.symm]) c
    · rw [if_neg (fun k => ci k.1)] at hb
      exact h e he hb
/-- an operation without an entry -/
theorem Tv.set {T : List (Nat × Nat × Value)} {l : Array Bool} {a : Act} (h : Tv T l a) (i : Nat) (hT : (T.all fun e => decide (e.1 ≠ i)) = true) : Tv T (l.setIfInBounds i true) a := fun e he hb => by
  have := List.all_eq_true.1 hT e he
  rw [decide_eq_true_eq] at this
  rw [set_at, if_neg (fun k => this k.1.symm)] at hb
  exact h e he hb
end Go.Proofs.YtmanoheofloimaaGreatDoor
