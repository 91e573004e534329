import Derived.Test.YtleabbhoedddlaaKE
import Derived.ShutString
import Derived.ChangeOld
import Derived.Lib.SmallJoins
namespace Go.Proofs.Ytleabbhoedddlaa.Cp
open Go.ChangeShapes Go.WideShapes Go.ChangeAt Go.RowKit Go.Joins
set_option linter.unusedVariables false
theorem cells27 : Try.prog.cellsOf 35 = 7 := by kernel_rfl
theorem cells25 : Try.prog.cellsOf 33 = 3 := by kernel_rfl
theorem cells4 : Try.prog.cellsOf 4 = 1 := by kernel_rfl
theorem cells5 : Try.prog.cellsOf 5 = 1 := by kernel_rfl
theorem cells22 : Try.prog.cellsOf 30 = 1 := by kernel_rfl
theorem cells23 : Try.prog.cellsOf 31 = 1 := by kernel_rfl
theorem nat_u8 {n : Int} (h : (Lit.int .u8 n).wf = true) : ∃ k : Nat, n = (k : Int) ∧ k < 256 := by
  have := bounds_u8 h; exact ⟨n.toNat, by omega, by omega⟩
theorem nat_u16 {n : Int} (h : (Lit.int .u16 n).wf = true) : ∃ k : Nat, n = (k : Int) ∧ k < 65536 := by
  have := bounds_u16 h; exact ⟨n.toNat, by omega, by omega⟩
theorem nat_u32 {n : Int} (h : (Lit.int .u32 n).wf = true) : ∃ k : Nat, n = (k : Int) ∧ k < 4294967296 := by
  have := bounds_u32 h; exact ⟨n.toNat, by omega, by omega⟩
section
variable {H : Type} {enc : TypeId × Value → H} {W : World} {base : Nat} {spare : Nat → Bool} {held : Bool}
theorem open_cap {r : Reach} {b0 : Nat} {v : Value} {d : DataW H} {p : List MemPlace} (hv : Value.okWide Try.prog W r b0 35 v) (h : DataW.Trod enc Try.prog W base spare held 35 v d p) :
    ∃ (g : Bool) (a p y e b t : Nat), v = cp g a p y e b t ∧ a < 4294967296 ∧ p < 256 ∧ y < 256 ∧ e < 256 ∧ b < 65536 ∧ t < 65536 := by
  obtain ⟨cs, rfl, hsz⟩ := okWide_struct Try.underlying35 hv
  obtain ⟨l⟩ := cs
  match l, hsz.trans cells27 with
  | [c0, c1, c2, c3, c4, c5, c6], _ =>
    obtain ⟨fuel, hf⟩ := h
    obtain ⟨xs, n, _, hx, _, hlen, hg⟩ := DataW.trod_struct Try.underlying35 hf
    match xs, hlen with
    | [y0, y1, y2, y3, y4], _ =>
      have g0 : DataW.trod enc Try.prog W base spare held n 4 (([c0, c1, c2, c3, c4, c5, c6].drop 0).take (Try.prog.cellsOf 4)) = some y0 := hg 0 _ rfl
      rw [cells4] at g0
      have g1 : DataW.trod enc Try.prog W base spare held n 30 (([c0, c1, c2, c3, c4, c5, c6].drop 1).take (Try.prog.cellsOf 30)) = some y1 := hg 1 _ rfl
      rw [cells22] at g1
      have g2 : DataW.trod enc Try.prog W base spare held n 5 (([c0, c1, c2, c3, c4, c5, c6].drop 2).take (Try.prog.cellsOf 5)) = some y2 := hg 2 _ rfl
      rw [cells5] at g2
      have g3 : DataW.trod enc Try.prog W base spare held n 5 (([c0, c1, c2, c3, c4, c5, c6].drop 3).take (Try.prog.cellsOf 5)) = some y3 := hg 3 _ rfl
      rw [cells5] at g3
      have g4 : DataW.trod enc Try.prog W base spare held n 33 (([c0, c1, c2, c3, c4, c5, c6].drop 4).take (Try.prog.cellsOf 33)) = some y4 := hg 4 _ rfl
      rw [cells25] at g4
      obtain ⟨g, e0, -⟩ := DataW.trod_bool Try.underlying4 g0
      obtain ⟨a, e1, -, wa⟩ := DataW.trod_int Try.underlying30 g1
      obtain ⟨p, e2, -, wp⟩ := DataW.trod_int Try.underlying5 g2
      obtain ⟨y, e3, -, wy⟩ := DataW.trod_int Try.underlying5 g3
      obtain ⟨zs, m, _, hz, _, hzl, hh⟩ := DataW.trod_struct Try.underlying33 g4
      match zs, hzl with
      | [z0, z1, z2], _ =>
        have k0 : DataW.trod enc Try.prog W base spare held m 5 (((([c0, c1, c2, c3, c4, c5, c6].drop 4).take 3).drop 0).take (Try.prog.cellsOf 5)) = some z0 := hh 0 _ rfl
        rw [cells5] at k0
        have k1 : DataW.trod enc Try.prog W base spare held m 31 (((([c0, c1, c2, c3, c4, c5, c6].drop 4).take 3).drop 1).take (Try.prog.cellsOf 31)) = some z1 := hh 1 _ rfl
        rw [cells23] at k1
        have k2 : DataW.trod enc Try.prog W base spare held m 31 (((([c0, c1, c2, c3, c4, c5, c6].drop 4).take 3).drop 2).take (Try.prog.cellsOf 31)) = some z2 := hh 2 _ rfl
        rw [cells23] at k2
        obtain ⟨e, e4, -, we⟩ := DataW.trod_int Try.underlying5 k0
        obtain ⟨b, e5, -, wb⟩ := DataW.trod_int Try.underlying31 k1
        obtain ⟨t, e6, -, wt⟩ := DataW.trod_int Try.underlying31 k2
        obtain rfl : c0 = .bool g := List.cons.inj e0 |>.1
        obtain rfl : c1 = .int .u32 a := List.cons.inj e1 |>.1
        obtain rfl : c2 = .int .u8 p := List.cons.inj e2 |>.1
        obtain rfl : c3 = .int .u8 y := List.cons.inj e3 |>.1
        obtain rfl : c4 = .int .u8 e := List.cons.inj e4 |>.1
        obtain rfl : c5 = .int .u16 b := List.cons.inj e5 |>.1
        obtain rfl : c6 = .int .u16 t := List.cons.inj e6 |>.1
        obtain ⟨a, rfl, ha⟩ := nat_u32 wa
        obtain ⟨p, rfl, hp⟩ := nat_u8 wp
        obtain ⟨y, rfl, hy⟩ := nat_u8 wy
        obtain ⟨e, rfl, he⟩ := nat_u8 we
        obtain ⟨b, rfl, hb⟩ := nat_u16 wb
        obtain ⟨t, rfl, ht⟩ := nat_u16 wt
        exact ⟨g, a, p, y, e, b, t, rfl, ha, hp, hy, he, hb, ht⟩
end
end Go.Proofs.Ytleabbhoedddlaa.Cp
