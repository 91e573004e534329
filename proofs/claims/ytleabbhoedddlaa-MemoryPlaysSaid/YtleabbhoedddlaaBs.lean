import Derived.Test.YtleabbhoedddlaaBr
namespace Go.Proofs.Ytleabbhoedddlaa
open Go.ChangeShapes Go.WideShapes Go.ChangeAt Go.RowKit Go.Deep Go.Joins
set_option linter.unusedVariables false
section
variable {H : Type} {enc : TypeId × Value → H} {W : World} {base : Nat} {spare : Nat → Bool} {held : Bool}
theorem open_is {fuel : Nat} {A : Option Addr} {N c : Nat} {x : DataW H × List MemPlace} (h : DataW.trod enc Try.prog W base spare held fuel 23 [.slice A N c] = some x) : ∃ f, Is W A N f ∧ N ≤ 9223372036854775807 ∧ N ≤ c := by
  rcases open_slice Try.underlying23 h with ⟨h0, _⟩ | ⟨a, len, cap, m, n, D, Pl, hcs, hb, hl, hm, hmm, hx, hi⟩
  · simp at h0
    obtain ⟨rfl, rfl, rfl⟩ := h0
    exact ⟨fun _ => 0, fun h => absurd h (by omega), by omega, by omega⟩
  · simp at hcs
    obtain ⟨rfl, rfl, rfl⟩ := hcs
    have hle : N ≤ m := by rw [hmm]; split <;> omega
    have hone : ∀ i, ∃ r : Int, i < N → W.cell? ((a.add (i * 1)).add 0) = some (.int .i64 r) ∧ -9223372036854775808 ≤ r ∧ r ≤ 9223372036854775807 := by
      intro i
      by_cases hlt : i < N
      · obtain ⟨cs', hc, ht⟩ := hi i (by omega)
        rw [cells3] at hc
        obtain ⟨_, hcl, hat⟩ := World.cells?_some hc
        obtain ⟨r, rfl, -, hw⟩ := DataW.trod_int Try.underlying3 ht
        have hbd := bounds_i64 hw
        exact ⟨r, fun _ => ⟨hat 0 (by omega), hbd⟩⟩
      · exact ⟨0, fun h => absurd h hlt⟩
    obtain ⟨f, hf⟩ := Classical.axiomOfChoice hone
    refine ⟨f, fun h0 => ?_, by unfold maxLen at hm; omega, hl⟩
    have c0 := (hf 0 h0).1
    have e0 : (a.add (0 * 1)).add 0 = a := by simp [Addr.add]
    rw [e0] at c0
    have hs := spot_of_cell c0
    obtain ⟨b, o, s⟩ := a
    simp only at hs
    subst hs
    refine ⟨b, o, rfl, World.block_lt_of_cell? W _ c0, fun k hk => ?_⟩
    obtain ⟨hc, hok⟩ := hf k hk
    have ea : ((⟨b, o, none⟩ : Addr).add (k * 1)).add 0 = ⟨b, o + k, none⟩ := by
      rw [Nat.mul_one]
      by_cases h1 : k = 0
      · subst h1; simp [Addr.add]
      · simp [Addr.add, h1]
    rw [ea] at hc
    exact ⟨hc, hok⟩
end
theorem law3f {w0 : World} (A : Option Addr) (N c : Nat) (f : Nat → Ac) (A1 : Option Addr) (n1 c1 : Nat) (f1 : Nat → Int) (A2 : Option Addr) (n2 c2 : Nat) (f2 : Nat → Int) (A3 : Option Addr) (n3 c3 : Nat) (f3 : Nat → Int)
    (hA : Acs w0 A N f) (hN : N ≤ 9223372036854775807) (h1 : Is w0 A1 n1 f1) (i1 : n1 ≤ 9223372036854775807) (j1 : n1 ≤ c1) (h2 : Is w0 A2 n2 f2) (i2 : n2 ≤ 9223372036854775807) (j2 : n2 ≤ c2) (h3 : Is w0 A3 n3 f3) (i3 : n3 ≤ 9223372036854775807) (j3 : n3 ≤ c3) (w : World) (hw : w0 = w := by rfl) :
    Calls Try.prog 3 #[.slice A N c, .slice A1 n1 c1, .slice A2 n2 c2, .slice A3 n3 c3] w fun en w' => en = .returned (.bool true) ∧ Below w.heap.size w w' := by
  subst hw
  exact law3 A N c f A1 n1 c1 f1 A2 n2 c2 f2 A3 n3 c3 f3 _ hA h1 h2 h3
end Go.Proofs.Ytleabbhoedddlaa
