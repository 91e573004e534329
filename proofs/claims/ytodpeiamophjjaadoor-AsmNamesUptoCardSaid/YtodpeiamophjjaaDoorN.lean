import Derived.Test.YtodpeiamophjjaaDoorM
namespace Go.Proofs.YtodpeiamophjjaaDoor
open Go.ChangeShapes Go.WideShapes Go.ChangeAt Go.RowKit Go.Deep Go.Joins
open In (i32)
set_option linter.unusedVariables false
/-- so many lines, of bounded bulk -/
def Lb (W : World) (A : Option Addr) (n c : Nat) (g : Nat → Ln) : Prop := Ls W A n g ∧ (∀ k, k < n → (g k).lab.size ≤ 1048576 ∧ (g k).tt.size ≤ 1048576) ∧ n ≤ 1048576
theorem cells37 : Tryd.prog.cellsOf 37 = 7 := by kernel_rfl
theorem cells35 : Tryd.prog.cellsOf 35 = 5 := by kernel_rfl
theorem cells33 : Tryd.prog.cellsOf 33 = 1 := by kernel_rfl
theorem cells5 : Tryd.prog.cellsOf 5 = 1 := by kernel_rfl
theorem cells21 : Tryd.prog.cellsOf 21 = 1 := by kernel_rfl
theorem cells9 : Tryd.prog.cellsOf 9 = 1 := by kernel_rfl
section
variable {H : Type} {enc : TypeId × Value → H} {W : World} {base : Nat} {spare : Nat → Bool} {held : Bool}
theorem one_u8 {fuel : Nat} {t : TypeId} {c : Value} {x : DataW H × List MemPlace} (ht : Tryd.prog.underlying t = some (.int .u8)) (h : DataW.trod enc Tryd.prog W base spare held fuel t [c] = some x) : ∃ y : Nat, y < 256 ∧ c = .int .u8 (y : Int) := by
  obtain ⟨z, e1, _, wf⟩ := DataW.trod_int ht h
  have hz := bounds_u8 wf
  obtain ⟨y, rfl⟩ := Int.eq_ofNat_of_zero_le hz.1
  exact ⟨y, by omega, List.cons.inj e1 |>.1⟩
theorem one_ins {fuel : Nat} {cs : List Value} {x : DataW H × List MemPlace} (hl : cs.length = 5) (h : DataW.trod enc Tryd.prog W base spare held fuel 35 cs = some x) :
    ∃ (o d a b : Nat) (m : Int), o < 256 ∧ d < 256 ∧ a < 256 ∧ b < 256 ∧ i32 m ∧ cs = [.int .u8 (o : Int), .int .u8 (d : Int), .int .u8 (a : Int), .int .u8 (b : Int), .int .i32 m] := by
  match cs, hl with
  | [c0, c1, c2, c3, c4], _ =>
    obtain ⟨xs, n, _, hx, _, hlen, hg⟩ := DataW.trod_struct Tryd.underlying35 h
    match xs, hlen with
    | [y0, y1, y2, y3, y4], _ =>
      have g0 : DataW.trod enc Tryd.prog W base spare held n 33 (([c0, c1, c2, c3, c4].drop 0).take (Tryd.prog.cellsOf 33)) = some y0 := hg 0 _ rfl
      have g1 : DataW.trod enc Tryd.prog W base spare held n 5 (([c0, c1, c2, c3, c4].drop 1).take (Tryd.prog.cellsOf 5)) = some y1 := hg 1 _ rfl
      have g2 : DataW.trod enc Tryd.prog W base spare held n 5 (([c0, c1, c2, c3, c4].drop 2).take (Tryd.prog.cellsOf 5)) = some y2 := hg 2 _ rfl
      have g3 : DataW.trod enc Tryd.prog W base spare held n 5 (([c0, c1, c2, c3, c4].drop 3).take (Tryd.prog.cellsOf 5)) = some y3 := hg 3 _ rfl
      have g4 : DataW.trod enc Tryd.prog W base spare held n 21 (([c0, c1, c2, c3, c4].drop 4).take (Tryd.prog.cellsOf 21)) = some y4 := hg 4 _ rfl
      rw [cells33] at g0
      rw [cells5] at g1 g2 g3
      rw [cells21] at g4
      obtain ⟨o, ho, rfl⟩ := one_u8 Tryd.underlying33 g0
      obtain ⟨d, hd, rfl⟩ := one_u8 Tryd.underlying5 g1
      obtain ⟨a, ha, rfl⟩ := one_u8 Tryd.underlying5 g2
      obtain ⟨b, hb, rfl⟩ := one_u8 Tryd.underlying5 g3
      obtain ⟨m, e1, _, wf⟩ := DataW.trod_int Tryd.underlying21 g4
      obtain rfl : c4 = .int .i32 m := List.cons.inj e1 |>.1
      exact ⟨o, d, a, b, m, ho, hd, ha, hb, bounds_i32 wf, rfl⟩
theorem one_str {fuel : Nat} {c : Value} {x : DataW H × List MemPlace} (h : DataW.trod enc Tryd.prog W base spare held fuel 9 [c] = some x) : ∃ s : ByteArray, c = .string s ∧ s.size ≤ 9223372036854775807 ∧ s.size ≤ Rows.uptoBulk x.1 := by
  obtain ⟨s, e1, rfl, hs⟩ := DataW.trod_string Tryd.underlying9 h
  refine ⟨s, List.cons.inj e1 |>.1, by unfold maxLen at hs; exact hs, ?_⟩
  simp only [Rows.uptoBulk]
  rw [Array.length_toList]
  exact Nat.le_succ _
theorem one_line {fuel : Nat} {cs : List Value} {x : DataW H × List MemPlace} (hl : cs.length = 7) (h : DataW.trod enc Tryd.prog W base spare held fuel 37 cs = some x) :
    ∃ y : Ln, y.ok ∧ y.lab.size ≤ Rows.uptoBulk x.1 ∧ y.tt.size ≤ Rows.uptoBulk x.1 ∧ cs = lcells y := by
  match cs, hl with
  | [c0, c1, c2, c3, c4, c5, c6], _ =>
    obtain ⟨xs, n, _, hx, _, hlen, hg⟩ := DataW.trod_struct Tryd.underlying37 h
    match xs, hlen with
    | [y0, y1, y2], _ =>
      have g0 : DataW.trod enc Tryd.prog W base spare held n 9 (([c0, c1, c2, c3, c4, c5, c6].drop 0).take (Tryd.prog.cellsOf 9)) = some y0 := hg 0 _ rfl
      have g1 : DataW.trod enc Tryd.prog W base spare held n 35 (([c0, c1, c2, c3, c4, c5, c6].drop 1).take (Tryd.prog.cellsOf 35)) = some y1 := hg 1 _ rfl
      have g2 : DataW.trod enc Tryd.prog W base spare held n 9 (([c0, c1, c2, c3, c4, c5, c6].drop 6).take (Tryd.prog.cellsOf 9)) = some y2 := hg 2 _ rfl
      rw [cells9] at g0 g2
      rw [cells35] at g1
      obtain ⟨s, rfl, hs1, hs2⟩ := one_str g0
      obtain ⟨t, rfl, ht1, ht2⟩ := one_str g2
      obtain ⟨o, d, a, b, m, ho, hd, ha, hb, hm, e⟩ := one_ins rfl g1
      have e' : [c1, c2, c3, c4, c5] = [Value.int .u8 (o : Int), .int .u8 (d : Int), .int .u8 (a : Int), .int .u8 (b : Int), .int .i32 m] := e
      simp only [List.cons.injEq] at e'
      obtain ⟨rfl, rfl, rfl, rfl, rfl, -⟩ := e'
      subst hx
      refine ⟨⟨s, o, d, a, b, m, t⟩, ⟨ho, hd, ha, hb, hm, hs1, ht1⟩, ?_, ?_, rfl⟩
      · simp only [Rows.uptoBulk, Rows.uptoBulkAll, List.map_cons, List.map_nil]
        omega
      · simp only [Rows.uptoBulk, Rows.uptoBulkAll, List.map_cons, List.map_nil]
        omega
theorem open_lines {fuel : Nat} {A : Option Addr} {N c : Nat} {x : DataW H × List MemPlace} (hk : Rows.uptoBulk x.1 ≤ 1048576) (h : DataW.trod enc Tryd.prog W base spare held fuel 24 [.slice A N c] = some x) : ∃ g, Lb W A N c g := by
  rcases open_slice Tryd.underlying24 h with ⟨h0, _⟩ | ⟨a, len, cap, m, n, D, Pl, hcs, hb, hl, hm, hmm, hx, hi⟩
  · simp at h0
    obtain ⟨rfl, rfl, rfl⟩ := h0
    exact ⟨fun _ => ⟨⟨#[]⟩, 0, 0, 0, 0, 0, ⟨#[]⟩⟩, fun h => absurd h (by omega), fun k hk => absurd hk (by omega), by omega⟩
  · simp at hcs
    obtain ⟨rfl, rfl, rfl⟩ := hcs
    have hle : N ≤ m := by rw [hmm]; split <;> omega
    have hone : ∀ i, ∃ y : Ln, i < N → (∀ j v, (lcells y)[j]? = some v → W.cell? ((a.add (i * 7)).add j) = some v) ∧ y.ok ∧ y.lab.size ≤ Rows.uptoBulk (D i) ∧ y.tt.size ≤ Rows.uptoBulk (D i) := by
      intro i
      by_cases hlt : i < N
      · obtain ⟨cs', hc, ht⟩ := hi i (by omega)
        rw [cells37] at hc
        obtain ⟨_, hcl, hat⟩ := World.cells?_some hc
        obtain ⟨y, h1, h2, h3, rfl⟩ := one_line hcl ht
        refine ⟨y, fun _ => ⟨fun j v hj => ?_, h1, h2, h3⟩⟩
        have hj2 : j < 7 := by
          rcases Nat.lt_or_ge j 7 with h | h
          · exact h
          · rw [List.getElem?_eq_none (by simp [lcells]; omega)] at hj; cases hj
        rw [hat j hj2]
        exact hj
      · exact ⟨⟨⟨#[]⟩, 0, 0, 0, 0, 0, ⟨#[]⟩⟩, fun h => absurd h hlt⟩
    obtain ⟨g, hf⟩ := Classical.axiomOfChoice hone
    subst hx
    simp only [Rows.uptoBulk] at hk
    refine ⟨g, fun h0 => ?_, fun k hk' => ?_, ?_⟩
    · have c0 := (hf 0 h0).1 0 _ rfl
      have e0 : (a.add (0 * 7)).add 0 = a := by simp [Addr.add]
      rw [e0] at c0
      have hs := spot_of_cell c0
      obtain ⟨b, o, s⟩ := a
      simp only at hs
      subst hs
      refine ⟨b, o, rfl, World.block_lt_of_cell? W _ c0, fun k hk => ?_⟩
      obtain ⟨hc, h1, -, -⟩ := hf k hk
      have z : ∀ j v, (lcells (g k))[j]? = some v → W.cell? ⟨b, o + k * 7 + j, none⟩ = some v := fun j v hj => by rw [← add_at, ← add_at]; exact hc j v hj
      exact ⟨h1, z 0 _ rfl, z 1 _ rfl, z 2 _ rfl, z 3 _ rfl, z 4 _ rfl, z 5 _ rfl, z 6 _ rfl⟩
    · obtain ⟨-, -, h2, h3⟩ := hf k hk'
      have := bulk_part (d := D k) (l := (List.range N).map D) (List.mem_map.mpr ⟨k, List.mem_range.mpr hk', rfl⟩)
      omega
    · have := bulk_len ((List.range N).map D)
      simp at this
      omega
end
theorem names_walk (b1 : Int) (A : Option Addr) (n c : Nat) (g : Nat → Ln) {W : World} (hb : Lb W A n c g) (w : World) (hw : W = w) (hG : Gl2 w) :
    Calls Tryd.prog 4 #[.int .u32 b1, .slice A n c] w fun e w' => e = .returned (.bool true) ∧ Below w.heap.size w w' := by
  subst hw
  exact walk4 b1 A n c g W hb.1 hb.2.1 hb.2.2 hG
end Go.Proofs.YtodpeiamophjjaaDoor
