import Derived.Test.YtbclgkjljgcfbaaC
import Derived.Test.YtbclgkjljgcfbaaKN
import Derived.Deep.Slices
import Derived.Deep.Fields
namespace Go.Proofs.Ytbclgkjljgcfbaa
open Go.ChangeShapes Go.WideShapes Go.ChangeAt Go.RowKit Go.Deep Go.Joins
open Cp (nat_u8 nat_u16 nat_u32)
set_option linter.unusedVariables false
theorem cells25 : Try.prog.cellsOf 25 = 4 := by kernel_rfl
theorem cells27 : Try.prog.cellsOf 27 = 3 := by kernel_rfl
theorem cells23 : Try.prog.cellsOf 23 = 1 := by kernel_rfl
theorem cells3 : Try.prog.cellsOf 3 = 1 := by kernel_rfl
theorem cells5 : Try.prog.cellsOf 5 = 1 := by kernel_rfl
theorem cells9 : Try.prog.cellsOf 9 = 1 := by kernel_rfl
section
variable {H : Type} {enc : TypeId × Value → H} {W : World} {base : Nat} {spare : Nat → Bool} {held : Bool}
def Rg.cells (x : Rg) : List Value := [.int .u8 (x.k : Int), .int .i64 x.o, .int .u32 (x.a : Int), .int .u32 (x.n : Int)]
theorem one_rg {fuel : Nat} {cs : List Value} {x : DataW H × List MemPlace} (hl : cs.length = 4) (h : DataW.trod enc Try.prog W base spare held fuel 25 cs = some x) : ∃ r : Rg, r.ok ∧ cs = r.cells := by
  match cs, hl with
  | [c0, c1, c2, c3], _ =>
    obtain ⟨xs, n, _, hx, _, hlen, hg⟩ := DataW.trod_struct Try.underlying25 h
    match xs, hlen with
    | [y0, y1, y2, y3], _ =>
      have g0 : DataW.trod enc Try.prog W base spare held n 5 (([c0, c1, c2, c3].drop 0).take (Try.prog.cellsOf 5)) = some y0 := hg 0 _ rfl
      rw [cells5] at g0
      have g1 : DataW.trod enc Try.prog W base spare held n 3 (([c0, c1, c2, c3].drop 1).take (Try.prog.cellsOf 3)) = some y1 := hg 1 _ rfl
      rw [cells3] at g1
      have g2 : DataW.trod enc Try.prog W base spare held n 23 (([c0, c1, c2, c3].drop 2).take (Try.prog.cellsOf 23)) = some y2 := hg 2 _ rfl
      rw [cells23] at g2
      have g3 : DataW.trod enc Try.prog W base spare held n 23 (([c0, c1, c2, c3].drop 3).take (Try.prog.cellsOf 23)) = some y3 := hg 3 _ rfl
      rw [cells23] at g3
      obtain ⟨k, e0, -, w0⟩ := DataW.trod_int Try.underlying5 g0
      obtain ⟨o, e1, -, w1⟩ := DataW.trod_int Try.underlying3 g1
      obtain ⟨a, e2, -, w2⟩ := DataW.trod_int Try.underlying23 g2
      obtain ⟨m, e3, -, w3⟩ := DataW.trod_int Try.underlying23 g3
      obtain rfl : c0 = .int .u8 k := List.cons.inj e0 |>.1
      obtain rfl : c1 = .int .i64 o := List.cons.inj e1 |>.1
      obtain rfl : c2 = .int .u32 a := List.cons.inj e2 |>.1
      obtain rfl : c3 = .int .u32 m := List.cons.inj e3 |>.1
      obtain ⟨k, rfl, h0⟩ := nat_u8 w0
      obtain ⟨a, rfl, h2⟩ := nat_u32 w2
      obtain ⟨m, rfl, h3⟩ := nat_u32 w3
      exact ⟨⟨k, o, a, m⟩, ⟨h0, h2, h3⟩, rfl⟩
theorem open_rg {r : Reach} {b0 : Nat} {v : Value} {d : DataW H} {p : List MemPlace} (hv : Value.okWide Try.prog W r b0 25 v) (h : DataW.Trod enc Try.prog W base spare held 25 v d p) :
    ∃ (k : Nat) (o : Int) (a n : Nat), v = rg k o a n ∧ k < 256 ∧ a < 4294967296 ∧ n < 4294967296 := by
  obtain ⟨cs, rfl, hsz⟩ := okWide_struct Try.underlying25 hv
  obtain ⟨l⟩ := cs
  obtain ⟨fuel, hf⟩ := h
  obtain ⟨r, ⟨h1, h2, h3⟩, e⟩ := one_rg (cs := l) (by have := hsz.trans cells25; simpa using this) hf
  subst e
  exact ⟨r.k, r.o, r.a, r.n, rfl, h1, h2, h3⟩
theorem open_dev {r : Reach} {b0 : Nat} {v : Value} {d : DataW H} {p : List MemPlace} (hv : Value.okWide Try.prog W r b0 27 v) (h : DataW.Trod enc Try.prog W base spare held 27 v d p) :
    ∃ (s : ByteArray) (a n : Nat), v = .agg #[.string s, .int .u32 (a : Int), .int .u32 (n : Int)] ∧ a < 4294967296 ∧ n < 4294967296 := by
  obtain ⟨cs, rfl, hsz⟩ := okWide_struct Try.underlying27 hv
  obtain ⟨l⟩ := cs
  match l, hsz.trans cells27 with
  | [c0, c1, c2], _ =>
    obtain ⟨fuel, hf⟩ := h
    obtain ⟨xs, n, _, hx, _, hlen, hg⟩ := DataW.trod_struct Try.underlying27 hf
    match xs, hlen with
    | [y0, y1, y2], _ =>
      have g0 : DataW.trod enc Try.prog W base spare held n 9 (([c0, c1, c2].drop 0).take (Try.prog.cellsOf 9)) = some y0 := hg 0 _ rfl
      rw [cells9] at g0
      have g1 : DataW.trod enc Try.prog W base spare held n 23 (([c0, c1, c2].drop 1).take (Try.prog.cellsOf 23)) = some y1 := hg 1 _ rfl
      rw [cells23] at g1
      have g2 : DataW.trod enc Try.prog W base spare held n 23 (([c0, c1, c2].drop 2).take (Try.prog.cellsOf 23)) = some y2 := hg 2 _ rfl
      rw [cells23] at g2
      obtain ⟨s, e0, -⟩ := DataW.trod_string Try.underlying9 g0
      obtain ⟨a, e1, -, w1⟩ := DataW.trod_int Try.underlying23 g1
      obtain ⟨m, e2, -, w2⟩ := DataW.trod_int Try.underlying23 g2
      obtain rfl : c0 = .string s := List.cons.inj e0 |>.1
      obtain rfl : c1 = .int .u32 a := List.cons.inj e1 |>.1
      obtain rfl : c2 = .int .u32 m := List.cons.inj e2 |>.1
      obtain ⟨a, rfl, h1⟩ := nat_u32 w1
      obtain ⟨m, rfl, h2⟩ := nat_u32 w2
      exact ⟨s, a, m, rfl, h1, h2⟩
theorem spot_of_cell {w : World} {a : Addr} {v : Value} (h : w.cell? a = some v) : a.spot = none := by
  unfold World.cell? at h
  split at h
  · split at h
    · cases h
    · rename_i hs
      cases hs' : a.spot <;> simp [hs'] at hs ⊢
  · cases h
theorem open_rgs {fuel : Nat} {A : Option Addr} {N c : Nat} {x : DataW H × List MemPlace} (h : DataW.trod enc Try.prog W base spare held fuel 22 [.slice A N c] = some x) : ∃ f, Rgs W A N f ∧ N ≤ 9223372036854775807 ∧ N ≤ c := by
  rcases open_slice Try.underlying22 h with ⟨h0, _⟩ | ⟨a, len, cap, m, n, D, Pl, hcs, hb, hl, hm, hmm, hx, hi⟩
  · simp at h0
    obtain ⟨rfl, rfl, rfl⟩ := h0
    exact ⟨fun _ => ⟨0, 0, 0, 0⟩, fun h => absurd h (by omega), by omega, by omega⟩
  · simp at hcs
    obtain ⟨rfl, rfl, rfl⟩ := hcs
    have hle : N ≤ m := by rw [hmm]; split <;> omega
    have hone : ∀ i, ∃ r : Rg, i < N → r.ok ∧ ∀ j v, r.cells[j]? = some v → W.cell? ((a.add (i * 4)).add j) = some v := by
      intro i
      by_cases hlt : i < N
      · obtain ⟨cs', hc, ht⟩ := hi i (by omega)
        rw [cells25] at hc
        obtain ⟨_, hcl, hat⟩ := World.cells?_some hc
        obtain ⟨r, hok, rfl⟩ := one_rg hcl ht
        refine ⟨r, fun _ => ⟨hok, fun j v hj => ?_⟩⟩
        have hj11 : j < 4 := by
          rcases Nat.lt_or_ge j 4 with h | h
          · exact h
          · rw [List.getElem?_eq_none (by simp [Rg.cells]; omega)] at hj; cases hj
        rw [hat j hj11]
        exact hj
      · exact ⟨⟨0, 0, 0, 0⟩, fun h => absurd h hlt⟩
    obtain ⟨f, hf⟩ := Classical.axiomOfChoice hone
    refine ⟨f, fun h0 => ?_, by unfold maxLen at hm; omega, hl⟩
    have c0 := (hf 0 h0).2 0 _ rfl
    have e0 : (a.add (0 * 4)).add 0 = a := by simp [Addr.add]
    rw [e0] at c0
    have hs := spot_of_cell c0
    obtain ⟨b, o, s⟩ := a
    simp only at hs
    subst hs
    refine ⟨b, o, rfl, World.block_lt_of_cell? W _ c0, fun k hk => ?_⟩
    obtain ⟨hok, hc⟩ := hf k hk
    have ea : ∀ j, ((⟨b, o, none⟩ : Addr).add (k * 4)).add j = ⟨b, o + k * 4 + j, none⟩ := by
      intro j
      unfold Addr.add
      split
      · rename_i h1; subst h1
        split
        · rename_i h2; rw [h2]; rfl
        · rename_i h2; rw [Nat.add_zero]
      · split
        · rename_i h2; simp [h2]
        · rfl
    have z : ∀ j v, (f k).cells[j]? = some v → W.cell? ⟨b, o + k * 4 + j, none⟩ = some v := fun j v hj => by rw [← ea]; exact hc j v hj
    exact ⟨hok, z 0 _ rfl, z 1 _ rfl, z 2 _ rfl, z 3 _ rfl⟩
end
end Go.Proofs.Ytbclgkjljgcfbaa
