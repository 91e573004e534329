import Derived.Test.YtnkoknfihhdelaaGreatDoorRows
import Derived.Test.YtnkoknfihhdelaaGreatDoorIG
import Derived.LaidMore
import Derived.Stop.Joined
import Derived.ShutString
import Derived.ChangeOld
import Derived.Lib.SmallJoins
namespace Go.Proofs.YtnkoknfihhdelaaGreatDoor.In
open Go.ChangeShapes Go.WideShapes Go.ChangeAt Go.RowKit Go.Joins
set_option linter.unusedVariables false
set_option maxRecDepth 100000
theorem cells24 : Tryz.prog.cellsOf 53 = 5 := by kernel_rfl
theorem cells22 : Tryz.prog.cellsOf 51 = 1 := by kernel_rfl
theorem cells5 : Tryz.prog.cellsOf 5 = 1 := by kernel_rfl
theorem cells21 : Tryz.prog.cellsOf 21 = 1 := by kernel_rfl
theorem cells25 : Tryz.prog.cellsOf 25 = 1 := by kernel_rfl
theorem nat_u8 {n : Int} (h : (Lit.int .u8 n).wf = true) : ∃ k : Nat, n = (k : Int) ∧ k < 256 := by
  have := bounds_u8 h; exact ⟨n.toNat, by omega, by omega⟩
section
variable {H : Type} {enc : TypeId × Value → H} {W : World} {base : Nat} {spare : Nat → Bool} {held : Bool}
theorem open_ins {r : Reach} {b0 : Nat} {v : Value} {d : DataW H} {p : List MemPlace} (hv : Value.okWide Tryz.prog W r b0 53 v) (h : DataW.Trod enc Tryz.prog W base spare held 53 v d p) :
    ∃ (o a b c : Nat) (n : Int), v = .agg #[.int .u8 (o : Int), .int .u8 (a : Int), .int .u8 (b : Int), .int .u8 (c : Int), .int .i32 n] ∧ o < 256 ∧ a < 256 ∧ b < 256 ∧ c < 256 ∧ i32 n := by
  obtain ⟨cs, rfl, hsz⟩ := okWide_struct Tryz.underlying53 hv
  obtain ⟨l⟩ := cs
  match l, hsz.trans cells24 with
  | [c0, c1, c2, c3, c4], _ =>
    obtain ⟨fuel, hf⟩ := h
    obtain ⟨xs, n, _, hx, _, hlen, hg⟩ := DataW.trod_struct Tryz.underlying53 hf
    match xs, hlen with
    | [y0, y1, y2, y3, y4], _ =>
      have g0 : DataW.trod enc Tryz.prog W base spare held n 51 (([c0, c1, c2, c3, c4].drop 0).take (Tryz.prog.cellsOf 51)) = some y0 := hg 0 _ rfl
      rw [cells22] at g0
      have g1 : DataW.trod enc Tryz.prog W base spare held n 5 (([c0, c1, c2, c3, c4].drop 1).take (Tryz.prog.cellsOf 5)) = some y1 := hg 1 _ rfl
      rw [cells5] at g1
      have g2 : DataW.trod enc Tryz.prog W base spare held n 5 (([c0, c1, c2, c3, c4].drop 2).take (Tryz.prog.cellsOf 5)) = some y2 := hg 2 _ rfl
      rw [cells5] at g2
      have g3 : DataW.trod enc Tryz.prog W base spare held n 5 (([c0, c1, c2, c3, c4].drop 3).take (Tryz.prog.cellsOf 5)) = some y3 := hg 3 _ rfl
      rw [cells5] at g3
      have g4 : DataW.trod enc Tryz.prog W base spare held n 21 (([c0, c1, c2, c3, c4].drop 4).take (Tryz.prog.cellsOf 21)) = some y4 := hg 4 _ rfl
      rw [cells21] at g4
      obtain ⟨o, e0, -, w0⟩ := DataW.trod_int Tryz.underlying51 g0
      obtain ⟨a, e1, -, w1⟩ := DataW.trod_int Tryz.underlying5 g1
      obtain ⟨b, e2, -, w2⟩ := DataW.trod_int Tryz.underlying5 g2
      obtain ⟨c, e3, -, w3⟩ := DataW.trod_int Tryz.underlying5 g3
      obtain ⟨m, e4, -, w4⟩ := DataW.trod_int Tryz.underlying21 g4
      obtain rfl : c0 = .int .u8 o := List.cons.inj e0 |>.1
      obtain rfl : c1 = .int .u8 a := List.cons.inj e1 |>.1
      obtain rfl : c2 = .int .u8 b := List.cons.inj e2 |>.1
      obtain rfl : c3 = .int .u8 c := List.cons.inj e3 |>.1
      obtain rfl : c4 = .int .i32 m := List.cons.inj e4 |>.1
      obtain ⟨o, rfl, ho⟩ := nat_u8 w0
      obtain ⟨a, rfl, ha⟩ := nat_u8 w1
      obtain ⟨b, rfl, hb⟩ := nat_u8 w2
      obtain ⟨c, rfl, hc⟩ := nat_u8 w3
      exact ⟨o, a, b, c, m, rfl, ho, ha, hb, hc, bounds_i32 w4⟩
/-- an array of numbers that reads as so many is just these cells -/
theorem ints_of_trod {t e : TypeId} {k : IntKind} {n f : Nat} {cs : Array Value} {L : List Nat} {p : List MemPlace} (ht : Tryz.prog.underlying t = some (.array n e)) (he : Tryz.prog.underlying e = some (.int k)) (hc : Tryz.prog.cellsOf e = 1)
    (hcs : Tryz.prog.cellsOf t = n) (h : DataW.trod enc Tryz.prog W base spare held f t cs.toList = some (.agg (L.map fun (x : Nat) => .lit (.int k (x : Int))), p)) : cs = (L.map fun (x : Nat) => Value.int k (x : Int)).toArray := by
  obtain ⟨xs, m, _, hx, hl, hn, hel⟩ := DataW.trod_array ht h
  have h1 : L.map (fun (x : Nat) => (DataW.lit (.int k (x : Int)) : DataW H)) = xs.map (·.1) := by
    have := (Prod.mk.inj hx).1
    exact DataW.agg.inj this
  have hLn : L.length = n := by
    have := congrArg List.length h1
    simp at this
    omega
  obtain ⟨l⟩ := cs
  simp only at hl hel
  congr 1
  apply List.ext_getElem
  · simp; omega
  · intro i h2 h3
    have hi : i < n := by omega
    have h4 := hel i hi
    rw [hc, Nat.mul_one] at h4
    have h5 : (List.drop i l).take 1 = [l[i]] := by
      rw [List.drop_eq_getElem_cons h2]
      rfl
    rw [h5, List.getElem?_eq_getElem (show i < xs.length by omega)] at h4
    obtain ⟨z, e1, e2, _⟩ := DataW.trod_int he h4
    have e3 : l[i] = .int k z := (List.cons.inj e1).1
    have e4 : (xs[i]).1 = DataW.lit (.int k ((L[i]'(by omega) : Nat) : Int)) := by
      have h6 : (L.map (fun (x : Nat) => (DataW.lit (.int k (x : Int)) : DataW H)))[i]? = (xs.map (·.1))[i]? := by rw [h1]
      rw [List.getElem?_map, List.getElem?_map, List.getElem?_eq_getElem (show i < xs.length by omega), List.getElem?_eq_getElem (show i < L.length by omega)] at h6
      exact (Option.some.inj h6).symm
    rw [e2] at e4
    simp only [DataW.lit.injEq, Lit.int.injEq] at e4
    rw [e3, e4.2]
    simp
end
theorem gF : Tryz.prog.globalNamed "bulwark/instr.forms" = some 0 := by kernel_rfl
theorem gW : Tryz.prog.globalNamed "bulwark/instr.words" = some 1 := by kernel_rfl
theorem gX : Tryz.prog.globalNamed "bulwark/instr.fixed" = some 2 := by kernel_rfl
theorem tF : (Tryz.prog.globals[0]?).map (·.type) = some 162 := by kernel_rfl
theorem tW : (Tryz.prog.globals[1]?).map (·.type) = some 169 := by kernel_rfl
theorem tX : (Tryz.prog.globals[2]?).map (·.type) = some 170 := by kernel_rfl
theorem cells45 : Tryz.prog.cellsOf 162 = 68 := by kernel_rfl
theorem cells47 : Tryz.prog.cellsOf 169 = 68 := by kernel_rfl
theorem cells69 : Tryz.prog.cellsOf 170 = 11 := by kernel_rfl
theorem u45 : Tryz.prog.underlying 162 = some (.array 68 5) := by kernel_rfl
theorem u47 : Tryz.prog.underlying 169 = some (.array 68 25) := by kernel_rfl
theorem u69 : Tryz.prog.underlying 170 = some (.array 11 25) := by kernel_rfl
theorem block_of_var {W : World} {n : String} {g : Nat} {cs : Array Value} (hg : Tryz.prog.globalNamed n = some g) (h : W.var? Tryz.prog n = some cs) : ∃ t f, W.heap[g]? = some (.cells cs t f) := by
  simp only [World.var?, hg, Option.bind_some] at h
  split at h
  · rename_i c t f hb
    exact ⟨t, f, by rw [hb, Option.some.inj h]⟩
  · cases h
def laid3 : List (String × DataW Unit) := [("bulwark/instr.fixed", Rows.laid_bulwark_instr_fixed), ("bulwark/instr.words", Rows.laid_bulwark_instr_words), ("bulwark/instr.forms", Rows.laid_bulwark_instr_forms)]
theorem eX : (Rows.laid_bulwark_instr_fixed : DataW Unit) = .agg (XLl.map fun (x : Nat) => .lit (.int .u32 (x : Int))) := rfl
theorem eW : (Rows.laid_bulwark_instr_words : DataW Unit) = .agg (WLl.map fun (x : Nat) => .lit (.int .u32 (x : Int))) := rfl
theorem eF : (Rows.laid_bulwark_instr_forms : DataW Unit) = .agg (FLl.map fun (x : Nat) => .lit (.int .u8 (x : Int))) := rfl
theorem glob_of_laid {W : World} (h : laidMetH Tryz.prog laid3 W) : Glob W := by
  rw [MakeChecks.laidMetH_plain _ _ _ (by kernel_rfl)] at h
  obtain ⟨ps, ⟨g0, t0, cs0, f0, p0, q0, hg0, ht0, hv0, hd0, ⟨g1, t1, cs1, f1, p1, q1, hg1, ht1, hv1, hd1, ⟨g2, t2, cs2, f2, p2, q2, hg2, ht2, hv2, hd2, _, _⟩, _⟩, _⟩, _, _⟩ := h
  obtain rfl := Option.some.inj (gX.symm.trans hg0)
  obtain rfl := Option.some.inj (gW.symm.trans hg1)
  obtain rfl := Option.some.inj (gF.symm.trans hg2)
  obtain rfl := Option.some.inj (tX.symm.trans ht0)
  obtain rfl := Option.some.inj (tW.symm.trans ht1)
  obtain rfl := Option.some.inj (tF.symm.trans ht2)
  rw [eX] at hd0
  rw [eW] at hd1
  rw [eF] at hd2
  have a0 := ints_of_trod u69 Tryz.underlying25 cells25 cells69 hd0
  have a1 := ints_of_trod u47 Tryz.underlying25 cells25 cells47 hd1
  have a2 := ints_of_trod u45 Tryz.underlying5 cells5 cells45 hd2
  subst a0 a1 a2
  exact ⟨block_of_var hg2 hv2, block_of_var hg1 hv1, block_of_var hg0 hv0⟩
theorem door_met (os : Os) (args : Array Value) : laidMetH Tryz.prog laid3 ((World.doorLaid Tryz.prog 178 os).forCall (fun _ _ => 0) ⟨#[], args, []⟩).memory :=
  laidMetH_of_parts3 (fuel := 8) (laidMet_of_run' 8 (by kernel_rfl) (by kernel_rfl)) (by kernel_rfl) (by kernel_rfl)
end Go.Proofs.YtnkoknfihhdelaaGreatDoor.In
