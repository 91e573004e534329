import Derived.Test.YtnkoknfihhdelaaGreatDoorGa
import Derived.Test.YtnkoknfihhdelaaGreatDoorGd
import Derived.LaidMore
namespace Go.Proofs.YtnkoknfihhdelaaGreatDoor
open Go.ChangeShapes Go.WideShapes Go.ChangeAt Go.RowKit Go.Joins
set_option linter.unusedVariables false
set_option maxRecDepth 100000
theorem cells30 : Tryz.prog.cellsOf 30 = 112 := by kernel_rfl
theorem cells32 : Tryz.prog.cellsOf 32 = 151 := by kernel_rfl
section
variable {H : Type} {enc : TypeId × Value → H} {W : World} {base : Nat} {spare : Nat → Bool} {held : Bool}
theorem cap_of_trod {fuel : Nat} {l : List Value} {x : DataW H × List MemPlace} (hl : l.length = 7) (hf : DataW.trod enc Tryz.prog W base spare held fuel 29 l = some x) : ∃ q : Cq, l = q.L ∧ q.fit := by
  match l, hl with
  | [c0, c1, c2, c3, c4, c5, c6], _ =>
    obtain ⟨xs, n, _, hx, _, hlen, hg⟩ := DataW.trod_struct Tryz.underlying29 hf
    match xs, hlen with
    | [y0, y1, y2, y3, y4], _ =>
      have g0 : DataW.trod enc Tryz.prog W base spare held n 4 (([c0, c1, c2, c3, c4, c5, c6].drop 0).take (Tryz.prog.cellsOf 4)) = some y0 := hg 0 _ rfl
      rw [Cp.cells4] at g0
      have g1 : DataW.trod enc Tryz.prog W base spare held n 25 (([c0, c1, c2, c3, c4, c5, c6].drop 1).take (Tryz.prog.cellsOf 25)) = some y1 := hg 1 _ rfl
      rw [Cp.cells22] at g1
      have g2 : DataW.trod enc Tryz.prog W base spare held n 5 (([c0, c1, c2, c3, c4, c5, c6].drop 2).take (Tryz.prog.cellsOf 5)) = some y2 := hg 2 _ rfl
      rw [Cp.cells5] at g2
      have g3 : DataW.trod enc Tryz.prog W base spare held n 5 (([c0, c1, c2, c3, c4, c5, c6].drop 3).take (Tryz.prog.cellsOf 5)) = some y3 := hg 3 _ rfl
      rw [Cp.cells5] at g3
      have g4 : DataW.trod enc Tryz.prog W base spare held n 27 (([c0, c1, c2, c3, c4, c5, c6].drop 4).take (Tryz.prog.cellsOf 27)) = some y4 := hg 4 _ rfl
      rw [Cp.cells25] at g4
      obtain ⟨g, e0, -⟩ := DataW.trod_bool Tryz.underlying4 g0
      obtain ⟨a, e1, -, wa⟩ := DataW.trod_int Tryz.underlying25 g1
      obtain ⟨p, e2, -, wp⟩ := DataW.trod_int Tryz.underlying5 g2
      obtain ⟨y, e3, -, wy⟩ := DataW.trod_int Tryz.underlying5 g3
      obtain ⟨zs, m, _, hz, _, hzl, hh⟩ := DataW.trod_struct Tryz.underlying27 g4
      match zs, hzl with
      | [z0, z1, z2], _ =>
        have k0 : DataW.trod enc Tryz.prog W base spare held m 5 (((([c0, c1, c2, c3, c4, c5, c6].drop 4).take 3).drop 0).take (Tryz.prog.cellsOf 5)) = some z0 := hh 0 _ rfl
        rw [Cp.cells5] at k0
        have k1 : DataW.trod enc Tryz.prog W base spare held m 22 (((([c0, c1, c2, c3, c4, c5, c6].drop 4).take 3).drop 1).take (Tryz.prog.cellsOf 22)) = some z1 := hh 1 _ rfl
        rw [Cp.cells23] at k1
        have k2 : DataW.trod enc Tryz.prog W base spare held m 22 (((([c0, c1, c2, c3, c4, c5, c6].drop 4).take 3).drop 2).take (Tryz.prog.cellsOf 22)) = some z2 := hh 2 _ rfl
        rw [Cp.cells23] at k2
        obtain ⟨e, e4, -, we⟩ := DataW.trod_int Tryz.underlying5 k0
        obtain ⟨b, e5, -, wb⟩ := DataW.trod_int Tryz.underlying22 k1
        obtain ⟨t, e6, -, wt⟩ := DataW.trod_int Tryz.underlying22 k2
        obtain rfl : c0 = .bool g := List.cons.inj e0 |>.1
        obtain rfl : c1 = .int .u32 a := List.cons.inj e1 |>.1
        obtain rfl : c2 = .int .u8 p := List.cons.inj e2 |>.1
        obtain rfl : c3 = .int .u8 y := List.cons.inj e3 |>.1
        obtain rfl : c4 = .int .u8 e := List.cons.inj e4 |>.1
        obtain rfl : c5 = .int .u16 b := List.cons.inj e5 |>.1
        obtain rfl : c6 = .int .u16 t := List.cons.inj e6 |>.1
        obtain ⟨a, rfl, ha⟩ := Cp.nat_u32 wa
        obtain ⟨p, rfl, hp⟩ := Cp.nat_u8 wp
        obtain ⟨y, rfl, hy⟩ := Cp.nat_u8 wy
        obtain ⟨e, rfl, he⟩ := Cp.nat_u8 we
        obtain ⟨b, rfl, hb⟩ := Cp.nat_u16 wb
        obtain ⟨t, rfl, ht⟩ := Cp.nat_u16 wt
        exact ⟨⟨g, a, p, y, e, b, t⟩, rfl, ha, hp, hy, he, hb, ht⟩
theorem flat_of {L : List Value} {c : Nat → Cq} : ∀ n, 7 * n ≤ L.length → (∀ r, r < n → (L.drop (7 * r)).take 7 = (c r).L) → L.take (7 * n) = flat c n
  | 0, _, _ => rfl
  | n + 1, hl, h => by
    rw [flat, ← flat_of n (by omega) (fun r hr => h r (by omega)), ← h n (by omega), show 7 * (n + 1) = 7 * n + 7 by omega, List.take_add]
theorem open_state {r : Reach} {b0 : Nat} {v : Value} {d : DataW H} {p : List MemPlace} (hv : Value.okWide Tryz.prog W r b0 32 v) (h : DataW.Trod enc Tryz.prog W base spare held 32 v d p) :
    ∃ s : St, v = .agg s.L.toArray ∧ (∀ i, (s.c i).fit) ∧ s.cause < 4294967296 := by
  obtain ⟨cs, rfl, hsz⟩ := okWide_struct Tryz.underlying32 hv
  obtain ⟨L⟩ := cs
  have hL : L.length = 151 := hsz.trans cells32
  obtain ⟨fuel, hf⟩ := h
  obtain ⟨xs, n, _, hx, _, hlen, hg⟩ := DataW.trod_struct Tryz.underlying32 hf
  match xs, hlen with
  | [y0, y1, y2, y3, y4, y5, y6, y7, y8, y9], _ =>
    have g0 : DataW.trod enc Tryz.prog W base spare held n 30 ((L.drop 0).take (Tryz.prog.cellsOf 30)) = some y0 := hg 0 _ rfl
    rw [cells30] at g0
    have g1 : DataW.trod enc Tryz.prog W base spare held n 29 ((L.drop 112).take (Tryz.prog.cellsOf 29)) = some y1 := hg 1 _ rfl
    have g2 : DataW.trod enc Tryz.prog W base spare held n 29 ((L.drop 119).take (Tryz.prog.cellsOf 29)) = some y2 := hg 2 _ rfl
    have g3 : DataW.trod enc Tryz.prog W base spare held n 29 ((L.drop 126).take (Tryz.prog.cellsOf 29)) = some y3 := hg 3 _ rfl
    have g4 : DataW.trod enc Tryz.prog W base spare held n 29 ((L.drop 133).take (Tryz.prog.cellsOf 29)) = some y4 := hg 4 _ rfl
    have g5 : DataW.trod enc Tryz.prog W base spare held n 29 ((L.drop 140).take (Tryz.prog.cellsOf 29)) = some y5 := hg 5 _ rfl
    rw [Cp.cells27] at g1 g2 g3 g4 g5
    have g6 : DataW.trod enc Tryz.prog W base spare held n 25 ((L.drop 147).take (Tryz.prog.cellsOf 25)) = some y6 := hg 6 _ rfl
    rw [Cp.cells22] at g6
    have g7 : DataW.trod enc Tryz.prog W base spare held n 4 ((L.drop 148).take (Tryz.prog.cellsOf 4)) = some y7 := hg 7 _ rfl
    have g8 : DataW.trod enc Tryz.prog W base spare held n 4 ((L.drop 149).take (Tryz.prog.cellsOf 4)) = some y8 := hg 8 _ rfl
    have g9 : DataW.trod enc Tryz.prog W base spare held n 4 ((L.drop 150).take (Tryz.prog.cellsOf 4)) = some y9 := hg 9 _ rfl
    rw [Cp.cells4] at g7 g8 g9
    obtain ⟨zs, m, _, hz, _, hzl, hel⟩ := DataW.trod_array Tryz.underlying30 g0
    have hex : ∀ i, i < 21 → ∃ q : Cq, (L.drop (7 * i)).take 7 = q.L ∧ q.fit := fun i hi => by
      by_cases h16 : i < 16
      · have h4 := hel i h16
        rw [Cp.cells27, List.getElem?_eq_getElem (show i < zs.length by omega)] at h4
        have e : (((L.drop 0).take 112).drop (i * 7)).take 7 = (L.drop (7 * i)).take 7 := by
          rw [List.drop_zero, List.drop_take, List.take_take, Nat.mul_comm i 7, Nat.min_eq_left (by omega)]
        rw [e] at h4
        exact cap_of_trod (by rw [List.length_take, List.length_drop, hL]; omega) h4
      · have : i = 16 ∨ i = 17 ∨ i = 18 ∨ i = 19 ∨ i = 20 := by omega
        rcases this with rfl | rfl | rfl | rfl | rfl
        · exact cap_of_trod (by rw [List.length_take, List.length_drop, hL]; omega) g1
        · exact cap_of_trod (by rw [List.length_take, List.length_drop, hL]; omega) g2
        · exact cap_of_trod (by rw [List.length_take, List.length_drop, hL]; omega) g3
        · exact cap_of_trod (by rw [List.length_take, List.length_drop, hL]; omega) g4
        · exact cap_of_trod (by rw [List.length_take, List.length_drop, hL]; omega) g5
    have hch : ∃ c : Nat → Cq, ∀ i, (i < 21 → (L.drop (7 * i)).take 7 = (c i).L) ∧ (c i).fit := by
      refine Classical.axiomOfChoice (r := fun i q => (i < 21 → (L.drop (7 * i)).take 7 = (Cq.L q)) ∧ q.fit) fun i => ?_
      by_cases hi : i < 21
      · obtain ⟨q, hq, hf⟩ := hex i hi
        exact ⟨q, fun _ => hq, hf⟩
      · exact ⟨nul, fun q => absurd q hi, by decide, by decide, by decide, by decide, by decide, by decide⟩
    obtain ⟨c, hc⟩ := hch
    have hfl := flat_of (c := c) (L := L) 21 (by omega) (fun r hr => (hc r).1 hr)
    have hd : (L.drop 147).length = 4 := by rw [List.length_drop, hL]
    have e7 : L.drop 148 = (L.drop 147).drop 1 := by rw [List.drop_drop]
    have e8 : L.drop 149 = (L.drop 147).drop 2 := by rw [List.drop_drop]
    have e9 : L.drop 150 = (L.drop 147).drop 3 := by rw [List.drop_drop]
    rw [e7] at g7
    rw [e8] at g8
    rw [e9] at g9
    have hsplit : L = L.take 147 ++ L.drop 147 := (List.take_append_drop _ _).symm
    generalize L.drop 147 = D at *
    match D, hd with
    | [d0, d1, d2, d3], _ =>
      obtain ⟨a, e0, -, wa⟩ := DataW.trod_int Tryz.underlying25 g6
      obtain ⟨x1, e1, -⟩ := DataW.trod_bool Tryz.underlying4 g7
      obtain ⟨x2, e2, -⟩ := DataW.trod_bool Tryz.underlying4 g8
      obtain ⟨x3, e3, -⟩ := DataW.trod_bool Tryz.underlying4 g9
      obtain rfl : d0 = .int .u32 a := List.cons.inj e0 |>.1
      obtain rfl : d1 = .bool x1 := List.cons.inj e1 |>.1
      obtain rfl : d2 = .bool x2 := List.cons.inj e2 |>.1
      obtain rfl : d3 = .bool x3 := List.cons.inj e3 |>.1
      obtain ⟨a, rfl, ha⟩ := Cp.nat_u32 wa
      refine ⟨⟨c, a, x1, x2, x3⟩, ?_, fun i => (hc i).2, ha⟩
      rw [hsplit, show L.take 147 = flat c 21 from hfl]
      rfl
end
end Go.Proofs.YtnkoknfihhdelaaGreatDoor
