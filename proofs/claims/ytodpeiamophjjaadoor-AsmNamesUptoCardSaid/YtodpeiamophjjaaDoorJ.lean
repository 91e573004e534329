import Derived.Test.YtodpeiamophjjaaDoorI
import Derived.Test.YtodpeiamophjjaaDoorKN
import Derived.LaidSub
import Derived.Clock
import Derived.Deep.DeepWitnessRowRef
import Derived.Deep.Slices
import Derived.Deep.Fields
namespace Go.Proofs.YtodpeiamophjjaaDoor
open Go.ChangeShapes Go.WideShapes Go.ChangeAt Go.RowKit Go.Deep Go.Joins
set_option linter.unusedVariables false
def laidB : List (String × DataW Unit) := Rows.asmBackUptoRow.laid
def laidN : List (String × DataW Unit) := Rows.asmNamesRow.laid
theorem laidB_eq : laidB = In.laid3 := by rfl
theorem gl_of {W : World} (h : laidMetH Tryd.prog laidB W) (_ : W.ShapedOpen Tryd.prog) : In.Glob W := In.glob_of_laid (by rw [laidB_eq] at h; exact h)
theorem gl_ofN {W : World} (h : laidMetH Tryd.prog laidN W) (hs : W.ShapedOpen Tryd.prog) : Gl2 W := by
  have h3 : 3 ≤ W.heap.size := by
    have : ∃ zero t, ((begin Tryd.prog (fun _ _ => 0) default).world.heap[2]?).bind Obj.row? = some (zero, t) := by
      have hh : (((begin Tryd.prog (fun _ _ => 0) default).world.heap[2]?).bind Obj.row?).isSome = true := by kernel_rfl
      obtain ⟨x, hx⟩ := Option.isSome_iff_exists.1 hh
      exact ⟨x.1, x.2, hx⟩
    obtain ⟨zero, t, h0⟩ := this
    obtain ⟨cs, hh, _⟩ := hs.1 2 zero t (of_decide_eq_true (by kernel_rfl)) h0
    have := (Array.getElem?_eq_some_iff.1 hh).1
    omega
  have h2 : laidN = [("bulwark/instr.words", Rows.laid_bulwark_instr_words), ("bulwark/instr.forms", Rows.laid_bulwark_instr_forms)] := by rfl
  rw [h2, MakeChecks.laidMetH_plain _ _ _ (by kernel_rfl)] at h
  obtain ⟨ps, ⟨g1, t1, cs1, f1, p1, q1, hg1, ht1, hv1, hd1, ⟨g2, t2, cs2, f2, p2, q2, hg2, ht2, hv2, hd2, _, _⟩, _⟩, _, _⟩ := h
  obtain rfl := Option.some.inj (In.gW.symm.trans hg1)
  obtain rfl := Option.some.inj (In.gF.symm.trans hg2)
  obtain rfl := Option.some.inj (In.tW.symm.trans ht1)
  obtain rfl := Option.some.inj (In.tF.symm.trans ht2)
  rw [In.eW] at hd1
  rw [In.eF] at hd2
  have a1 := In.ints_of_trod In.u47 Tryd.underlying22 In.cells25 In.cells47 hd1
  have a2 := In.ints_of_trod In.u45 Tryd.underlying5 In.cells5 In.cells45 hd2
  subst a1 a2
  exact ⟨In.block_of_var hg2 hv2, In.block_of_var hg1 hv1, h3⟩
noncomputable def wit (os : Os) : World := World.doorLaid Tryd.prog 42 os
set_option maxRecDepth 100000 in
theorem wit_met (os : Os) (args : Array Value) : laidMetH Tryd.prog laidB ((wit os).forCall (fun _ _ => 0) ⟨#[], args, []⟩).memory := by
  rw [laidB_eq]; unfold wit; exact In.door_met os args
theorem wit_metN (os : Os) (args : Array Value) : laidMetH Tryd.prog laidN ((wit os).forCall (fun _ _ => 0) ⟨#[], args, []⟩).memory := by
  have h := (wit_met os args).filter (fun x => x.1 != "bulwark/instr.fixed")
  rw [show laidB.filter (fun x => x.1 != "bulwark/instr.fixed") = laidN by rfl] at h
  exact h
theorem bulk_one {H : Type} (d : DataW H) : 1 ≤ Rows.uptoBulk d := by
  cases d with
  | lit l => cases l <;> simp [Rows.uptoBulk]
  | nil => simp [Rows.uptoBulk]
  | ptr d => simp [Rows.uptoBulk]
  | slice elems spare => simp [Rows.uptoBulk]
  | agg parts => simp [Rows.uptoBulk]
  | iface t d => simp [Rows.uptoBulk]
  | map entries => simp [Rows.uptoBulk]
  | held h => simp [Rows.uptoBulk]
theorem bulk_part {H : Type} {d : DataW H} {l : List (DataW H)} (h : d ∈ l) : Rows.uptoBulk d ≤ Rows.uptoBulkAll l := by
  induction l with
  | nil => cases h
  | cons x r ih =>
    simp only [Rows.uptoBulkAll]
    cases List.mem_cons.1 h with
    | inl e => subst e; omega
    | inr e => have := ih e; omega
theorem part_small {H : Type} {d : DataW H} {l : List (DataW H)} (hk : Rows.uptoSmall H l = true) (h : d ∈ l) : Rows.uptoBulk d ≤ 1048576 := by
  have h1 : Rows.uptoBulkAll l ≤ 1048576 := of_decide_eq_true hk
  have := bulk_part h
  omega
theorem bulk_len {H : Type} (l : List (DataW H)) : l.length ≤ Rows.uptoBulkAll l := by
  induction l with
  | nil => simp [Rows.uptoBulkAll]
  | cons x r ih => have := bulk_one x; simp only [Rows.uptoBulkAll, List.length_cons]; omega
theorem spot_of_cell {w : World} {a : Addr} {v : Value} (h : w.cell? a = some v) : a.spot = none := by
  unfold World.cell? at h
  split at h
  · split at h
    · cases h
    · rename_i hs
      cases hs' : a.spot <;> simp [hs'] at hs ⊢
  · cases h
theorem add_at (b o i : Nat) : (⟨b, o, none⟩ : Addr).add i = ⟨b, o + i, none⟩ := by
  unfold Addr.add
  split
  · rename_i h; rw [h]; rfl
  · rfl
/-- so many words, of bounded bulk -/
def Ub (W : World) (A : Option Addr) (n c : Nat) (f : Nat → Nat) : Prop := Us W A n f ∧ (∀ k, k < n → f k < 4294967296) ∧ n ≤ 1048576
section
variable {H : Type} {enc : TypeId × Value → H} {W : World} {base : Nat} {spare : Nat → Bool} {held : Bool}
theorem open_us {fuel : Nat} {A : Option Addr} {N c : Nat} {x : DataW H × List MemPlace} (hk : Rows.uptoBulk x.1 ≤ 1048576) (h : DataW.trod enc Tryd.prog W base spare held fuel 23 [.slice A N c] = some x) : ∃ f, Ub W A N c f := by
  rcases open_slice Tryd.underlying23 h with ⟨h0, _⟩ | ⟨a, len, cap, m, n, D, Pl, hcs, hb, hl, hm, hmm, hx, hi⟩
  · simp at h0
    obtain ⟨rfl, rfl, rfl⟩ := h0
    exact ⟨fun _ => 0, fun h => absurd h (by omega), fun k hk => absurd hk (by omega), by omega⟩
  · simp at hcs
    obtain ⟨rfl, rfl, rfl⟩ := hcs
    have hle : N ≤ m := by rw [hmm]; split <;> omega
    have hone : ∀ i, ∃ y : Nat, i < N → y < 4294967296 ∧ W.cell? (a.add i) = some (.int .u32 (y : Int)) := by
      intro i
      by_cases hlt : i < N
      · obtain ⟨cs', hc, ht⟩ := hi i (by omega)
        rw [In.cells25, Nat.mul_one] at hc
        obtain ⟨_, hcl, hat⟩ := World.cells?_some hc
        obtain ⟨z, e1, _, wf⟩ := DataW.trod_int Tryd.underlying22 ht
        have hz := bounds_u32 wf
        obtain ⟨y, rfl⟩ := Int.eq_ofNat_of_zero_le hz.1
        refine ⟨y, fun _ => ⟨by omega, ?_⟩⟩
        have h1 := hat 0 (by omega)
        rw [e1] at h1
        have e0 : (a.add i).add 0 = a.add i := by simp [Addr.add]
        rw [e0] at h1
        exact h1
      · exact ⟨0, fun h => absurd h hlt⟩
    obtain ⟨f, hf⟩ := Classical.axiomOfChoice hone
    refine ⟨f, fun h0 => ?_, fun k hk => (hf k hk).1, ?_⟩
    · have c0 := (hf 0 h0).2
      have e0 : a.add 0 = a := by simp [Addr.add]
      rw [e0] at c0
      have hs := spot_of_cell c0
      obtain ⟨b, o, s⟩ := a
      simp only at hs
      subst hs
      refine ⟨b, o, rfl, World.block_lt_of_cell? W _ c0, fun k hk => ?_⟩
      have := (hf k hk).2
      rw [add_at] at this
      exact this
    · subst hx
      simp only [Rows.uptoBulk] at hk
      have := bulk_len ((List.range N).map D)
      simp at this
      omega
end
theorem back_walk (b1 b2 : Int) (A : Option Addr) (n c : Nat) (f : Nat → Nat) {W : World} (hb : Ub W A n c f) (w : World) (hw : W = w) (hG : In.Glob w) :
    Calls Tryd.prog 3 #[.int .u32 b1, .int .u32 b2, .slice A n c] w fun e w' => e = .returned (.bool true) ∧ Below w.heap.size w w' := by
  subst hw
  exact walk3 b1 b2 A n c f W hb.1 hb.2.1 hb.2.2 hG
end Go.Proofs.YtodpeiamophjjaaDoor
