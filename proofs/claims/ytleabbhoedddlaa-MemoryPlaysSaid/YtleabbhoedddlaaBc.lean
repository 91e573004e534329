import Derived.Test.YtleabbhoedddlaaY
import Derived.Test.YtleabbhoedddlaaKN
import Derived.Deep.Slices
import Derived.Deep.Fields
namespace Go.Proofs.Ytleabbhoedddlaa
open Go.ChangeShapes Go.WideShapes Go.ChangeAt Go.RowKit Go.Deep
open Cp (nat_u8 nat_u16 nat_u32)
set_option linter.unusedVariables false
theorem cells35 : Try.prog.cellsOf 35 = 7 := by kernel_rfl
theorem cells30 : Try.prog.cellsOf 30 = 1 := by kernel_rfl
theorem cells37 : Try.prog.cellsOf 37 = 11 := by kernel_rfl
theorem cells3 : Try.prog.cellsOf 3 = 1 := by kernel_rfl
theorem cells5 : Try.prog.cellsOf 5 = 1 := by kernel_rfl
theorem cells4 : Try.prog.cellsOf 4 = 1 := by kernel_rfl
theorem cells31 : Try.prog.cellsOf 31 = 1 := by kernel_rfl
theorem cells33 : Try.prog.cellsOf 33 = 3 := by kernel_rfl
section
variable {H : Type} {enc : TypeId × Value → H} {W : World} {base : Nat} {spare : Nat → Bool} {held : Bool}
def Ac.cells (x : Ac) : List Value := [.int .i64 x.d, .int .u32 (x.at_ : Int), .int .i64 x.s, .int .u32 (x.n : Int), .bool x.g, .int .u32 (x.a : Int), .int .u8 (x.p : Int), .int .u8 (x.y : Int), .int .u8 (x.e : Int), .int .u16 (x.b : Int), .int .u16 (x.t : Int)]
theorem one_act {fuel : Nat} {cs : List Value} {x : DataW H × List MemPlace} (hl : cs.length = 11) (h : DataW.trod enc Try.prog W base spare held fuel 37 cs = some x) : ∃ r : Ac, r.ok ∧ cs = r.cells := by
  match cs, hl with
  | [c0, c1, c2, c3, c4, c5, c6, c7, c8, c9, c10], _ =>
    obtain ⟨xs, n, _, hx, _, hlen, hg⟩ := DataW.trod_struct Try.underlying37 h
    match xs, hlen with
    | [y0, y1, y2, y3, y4], _ =>
      have g0 : DataW.trod enc Try.prog W base spare held n 3 (([c0, c1, c2, c3, c4, c5, c6, c7, c8, c9, c10].drop 0).take (Try.prog.cellsOf 3)) = some y0 := hg 0 _ rfl
      rw [cells3] at g0
      have g1 : DataW.trod enc Try.prog W base spare held n 30 (([c0, c1, c2, c3, c4, c5, c6, c7, c8, c9, c10].drop 1).take (Try.prog.cellsOf 30)) = some y1 := hg 1 _ rfl
      rw [cells30] at g1
      have g2 : DataW.trod enc Try.prog W base spare held n 3 (([c0, c1, c2, c3, c4, c5, c6, c7, c8, c9, c10].drop 2).take (Try.prog.cellsOf 3)) = some y2 := hg 2 _ rfl
      rw [cells3] at g2
      have g3 : DataW.trod enc Try.prog W base spare held n 30 (([c0, c1, c2, c3, c4, c5, c6, c7, c8, c9, c10].drop 3).take (Try.prog.cellsOf 30)) = some y3 := hg 3 _ rfl
      rw [cells30] at g3
      have g4 : DataW.trod enc Try.prog W base spare held n 35 (([c0, c1, c2, c3, c4, c5, c6, c7, c8, c9, c10].drop 4).take (Try.prog.cellsOf 35)) = some y4 := hg 4 _ rfl
      rw [cells35] at g4
      obtain ⟨d, e0, -, w0⟩ := DataW.trod_int Try.underlying3 g0
      obtain ⟨at_, e1, -, w1⟩ := DataW.trod_int Try.underlying30 g1
      obtain ⟨s, e2, -, w2⟩ := DataW.trod_int Try.underlying3 g2
      obtain ⟨m, e3, -, w3⟩ := DataW.trod_int Try.underlying30 g3
      obtain ⟨zs, k, _, hz, _, hzl, hh⟩ := DataW.trod_struct Try.underlying35 g4
      match zs, hzl with
      | [z0, z1, z2, z3, z4], _ =>
        have k0 : DataW.trod enc Try.prog W base spare held k 4 (((([c0, c1, c2, c3, c4, c5, c6, c7, c8, c9, c10].drop 4).take 7).drop 0).take (Try.prog.cellsOf 4)) = some z0 := hh 0 _ rfl
        rw [cells4] at k0
        have k1 : DataW.trod enc Try.prog W base spare held k 30 (((([c0, c1, c2, c3, c4, c5, c6, c7, c8, c9, c10].drop 4).take 7).drop 1).take (Try.prog.cellsOf 30)) = some z1 := hh 1 _ rfl
        rw [cells30] at k1
        have k2 : DataW.trod enc Try.prog W base spare held k 5 (((([c0, c1, c2, c3, c4, c5, c6, c7, c8, c9, c10].drop 4).take 7).drop 2).take (Try.prog.cellsOf 5)) = some z2 := hh 2 _ rfl
        rw [cells5] at k2
        have k3 : DataW.trod enc Try.prog W base spare held k 5 (((([c0, c1, c2, c3, c4, c5, c6, c7, c8, c9, c10].drop 4).take 7).drop 3).take (Try.prog.cellsOf 5)) = some z3 := hh 3 _ rfl
        rw [cells5] at k3
        have k4 : DataW.trod enc Try.prog W base spare held k 33 (((([c0, c1, c2, c3, c4, c5, c6, c7, c8, c9, c10].drop 4).take 7).drop 4).take (Try.prog.cellsOf 33)) = some z4 := hh 4 _ rfl
        rw [cells33] at k4
        obtain ⟨g, e4, -⟩ := DataW.trod_bool Try.underlying4 k0
        obtain ⟨a, e5, -, wa⟩ := DataW.trod_int Try.underlying30 k1
        obtain ⟨p, e6, -, wp⟩ := DataW.trod_int Try.underlying5 k2
        obtain ⟨y, e7, -, wy⟩ := DataW.trod_int Try.underlying5 k3
        obtain ⟨us, q, _, hu, _, hul, hj⟩ := DataW.trod_struct Try.underlying33 k4
        match us, hul with
        | [u0, u1, u2], _ =>
          have j0 : DataW.trod enc Try.prog W base spare held q 5 (((((([c0, c1, c2, c3, c4, c5, c6, c7, c8, c9, c10].drop 4).take 7).drop 4).take 3).drop 0).take (Try.prog.cellsOf 5)) = some u0 := hj 0 _ rfl
          rw [cells5] at j0
          have j1 : DataW.trod enc Try.prog W base spare held q 31 (((((([c0, c1, c2, c3, c4, c5, c6, c7, c8, c9, c10].drop 4).take 7).drop 4).take 3).drop 1).take (Try.prog.cellsOf 31)) = some u1 := hj 1 _ rfl
          rw [cells31] at j1
          have j2 : DataW.trod enc Try.prog W base spare held q 31 (((((([c0, c1, c2, c3, c4, c5, c6, c7, c8, c9, c10].drop 4).take 7).drop 4).take 3).drop 2).take (Try.prog.cellsOf 31)) = some u2 := hj 2 _ rfl
          rw [cells31] at j2
          obtain ⟨e, e8, -, we⟩ := DataW.trod_int Try.underlying5 j0
          obtain ⟨b, e9, -, wb⟩ := DataW.trod_int Try.underlying31 j1
          obtain ⟨t, e10, -, wt⟩ := DataW.trod_int Try.underlying31 j2
          obtain rfl : c0 = .int .i64 d := List.cons.inj e0 |>.1
          obtain rfl : c1 = .int .u32 at_ := List.cons.inj e1 |>.1
          obtain rfl : c2 = .int .i64 s := List.cons.inj e2 |>.1
          obtain rfl : c3 = .int .u32 m := List.cons.inj e3 |>.1
          obtain rfl : c4 = .bool g := List.cons.inj e4 |>.1
          obtain rfl : c5 = .int .u32 a := List.cons.inj e5 |>.1
          obtain rfl : c6 = .int .u8 p := List.cons.inj e6 |>.1
          obtain rfl : c7 = .int .u8 y := List.cons.inj e7 |>.1
          obtain rfl : c8 = .int .u8 e := List.cons.inj e8 |>.1
          obtain rfl : c9 = .int .u16 b := List.cons.inj e9 |>.1
          obtain rfl : c10 = .int .u16 t := List.cons.inj e10 |>.1
          obtain ⟨at_, rfl, h1⟩ := nat_u32 w1
          obtain ⟨m, rfl, h3⟩ := nat_u32 w3
          obtain ⟨a, rfl, ha⟩ := nat_u32 wa
          obtain ⟨p, rfl, hp⟩ := nat_u8 wp
          obtain ⟨y, rfl, hy⟩ := nat_u8 wy
          obtain ⟨e, rfl, he⟩ := nat_u8 we
          obtain ⟨b, rfl, hb⟩ := nat_u16 wb
          obtain ⟨t, rfl, ht⟩ := nat_u16 wt
          exact ⟨⟨d, at_, s, m, g, a, p, y, e, b, t⟩, ⟨h1, h3, ha, hp, hy, he, hb, ht⟩, rfl⟩
theorem spot_of_cell {w : World} {a : Addr} {v : Value} (h : w.cell? a = some v) : a.spot = none := by
  unfold World.cell? at h
  split at h
  · split at h
    · cases h
    · rename_i hs
      cases hs' : a.spot <;> simp [hs'] at hs ⊢
  · cases h
theorem open_acts {fuel : Nat} {A : Option Addr} {N c : Nat} {x : DataW H × List MemPlace} (h : DataW.trod enc Try.prog W base spare held fuel 22 [.slice A N c] = some x) : ∃ f, Acs W A N f ∧ N ≤ 9223372036854775807 := by
  rcases open_slice Try.underlying22 h with ⟨h0, _⟩ | ⟨a, len, cap, m, n, D, Pl, hcs, hb, hl, hm, hmm, hx, hi⟩
  · simp at h0
    obtain ⟨rfl, rfl, rfl⟩ := h0
    exact ⟨fun _ => ⟨0, 0, 0, 0, false, 0, 0, 0, 0, 0, 0⟩, fun h => absurd h (by omega), by omega⟩
  · simp at hcs
    obtain ⟨rfl, rfl, rfl⟩ := hcs
    have hle : N ≤ m := by rw [hmm]; split <;> omega
    have hone : ∀ i, ∃ r : Ac, i < N → r.ok ∧ ∀ j v, r.cells[j]? = some v → W.cell? ((a.add (i * 11)).add j) = some v := by
      intro i
      by_cases hlt : i < N
      · obtain ⟨cs', hc, ht⟩ := hi i (by omega)
        rw [cells37] at hc
        obtain ⟨_, hcl, hat⟩ := World.cells?_some hc
        obtain ⟨r, hok, rfl⟩ := one_act hcl ht
        refine ⟨r, fun _ => ⟨hok, fun j v hj => ?_⟩⟩
        have hj11 : j < 11 := by
          rcases Nat.lt_or_ge j 11 with h | h
          · exact h
          · rw [List.getElem?_eq_none (by simp [Ac.cells]; omega)] at hj; cases hj
        rw [hat j hj11]
        exact hj
      · exact ⟨⟨0, 0, 0, 0, false, 0, 0, 0, 0, 0, 0⟩, fun h => absurd h hlt⟩
    obtain ⟨f, hf⟩ := Classical.axiomOfChoice hone
    refine ⟨f, fun h0 => ?_, by unfold maxLen at hm; omega⟩
    have c0 := (hf 0 h0).2 0 _ rfl
    have e0 : (a.add (0 * 11)).add 0 = a := by simp [Addr.add]
    rw [e0] at c0
    have hs := spot_of_cell c0
    obtain ⟨b, o, s⟩ := a
    simp only at hs
    subst hs
    refine ⟨b, o, rfl, World.block_lt_of_cell? W _ c0, fun k hk => ?_⟩
    obtain ⟨hok, hc⟩ := hf k hk
    have ea : ∀ j, ((⟨b, o, none⟩ : Addr).add (k * 11)).add j = ⟨b, o + k * 11 + j, none⟩ := by
      intro j
      unfold Addr.add
      split
      · rename_i h1; subst h1
        split
        · rename_i h2; rw [h2]; rfl
        · rename_i h2; rw [Nat.add_zero]
      · split
        · rename_i h2; simp [h2]
        · rfl
    have z : ∀ j v, (f k).cells[j]? = some v → W.cell? ⟨b, o + k * 11 + j, none⟩ = some v := fun j v hj => by rw [← ea]; exact hc j v hj
    exact ⟨hok, z 0 _ rfl, z 1 _ rfl, z 2 _ rfl, z 3 _ rfl, z 4 _ rfl, z 5 _ rfl, z 6 _ rfl, z 7 _ rfl, z 8 _ rfl, z 9 _ rfl, z 10 _ rfl⟩
end
end Go.Proofs.Ytleabbhoedddlaa
