import Derived.Test.YtlomlgmajcdccaaDoorXh
import Derived.Test.YtlomlgmajcdccaaDoorG
import Derived.SliceStrings
namespace Go.Proofs.YtlomlgmajcdccaaDoor
open Go.ChangeShapes Go.WideShapes Go.ChangeAt Go.RowKit Go.Deep Go.Joins
set_option linter.unusedVariables false
/-- letters and words of a line -/
def sw (x : Wl) : Nat → Nat
  | 0 => 0
  | m + 1 => sw x m + ((x.f m).size + 1)
/-- letters, words and lines -/
def sg (g : Nat → Wl) : Nat → Nat
  | 0 => 0
  | k + 1 => sg g k + (sw (g k) (g k).n + 1)
theorem jn_le (x : Wl) : ∀ m, (jn x m).size ≤ sw x m
  | 0 => Nat.le_refl _
  | m + 1 => by
    have ih := jn_le x m
    rw [jn, sw]
    split
    · rw [ByteArray.size_append]; omega
    · rw [ByteArray.size_append, ByteArray.size_append]
      show _ + 1 + _ ≤ _
      omega
theorem outN_le (g : Nat → Wl) : ∀ k, (outN g k).size ≤ sg g k
  | 0 => Nat.le_refl _
  | k + 1 => by
    have ih := outN_le g k
    have h2 := jn_le (g k) (g k).n
    rw [outN, sg, ByteArray.size_append, ByteArray.size_append]
    show _ + _ + 1 ≤ _
    omega
theorem sw_mono (x : Wl) (m : Nat) : ∀ d, sw x m ≤ sw x (m + d)
  | 0 => Nat.le_refl _
  | d + 1 => by
    have := sw_mono x m d
    rw [← Nat.add_assoc, sw]
    omega
theorem sg_mono (g : Nat → Wl) (m : Nat) : ∀ d, sg g m ≤ sg g (m + d)
  | 0 => Nat.le_refl _
  | d + 1 => by
    have := sg_mono g m d
    rw [← Nat.add_assoc, sg]
    omega
theorem sw_le (x : Wl) {m n : Nat} (h : m ≤ n) : sw x m ≤ sw x n := by
  obtain ⟨d, rfl⟩ := Nat.exists_eq_add_of_le h
  exact sw_mono x m d
theorem sg_le (g : Nat → Wl) {m n : Nat} (h : m ≤ n) : sg g m ≤ sg g n := by
  obtain ⟨d, rfl⟩ := Nat.exists_eq_add_of_le h
  exact sg_mono g m d
theorem sw_n (x : Wl) : ∀ m, m ≤ sw x m
  | 0 => Nat.le_refl _
  | m + 1 => by have := sw_n x m; rw [sw]; omega
theorem sw_f (x : Wl) {m n : Nat} (h : m < n) : (x.f m).size ≤ sw x n := by
  have h1 := sw_le x (show m + 1 ≤ n from h)
  rw [sw] at h1
  omega
theorem sg_w (g : Nat → Wl) {k n : Nat} (h : k < n) : sw (g k) (g k).n ≤ sg g n := by
  have h1 := sg_le g (show k + 1 ≤ n from h)
  rw [sg] at h1
  omega
theorem sg_n (g : Nat → Wl) : ∀ m, m ≤ sg g m
  | 0 => Nat.le_refl _
  | m + 1 => by have := sg_n g m; rw [sg]; omega
/-- so many lines, of bounded bulk -/
def Wb (W : World) (A : Option Addr) (n c : Nat) (g : Nat → Wl) : Prop := Ws W A n g ∧ n ≤ c ∧ sg g n ≤ 1048576
theorem Wb.out {W : World} {A : Option Addr} {n c : Nat} {g : Nat → Wl} (h : Wb W A n c g) : Ws W A n g ∧ n ≤ 9223372036854775807 ∧ (∀ k, k ≤ n → (outN g k).size ≤ 16777216) ∧ (∀ k, k < n → ∀ m, m ≤ (g k).n → (jn (g k) m).size ≤ 16777216) ∧
    (∀ k, k < n → (g k).n ≤ 16777216) ∧ (∀ k, k < n → ∀ m, m < (g k).n → ((g k).f m).size ≤ 16777216) := by
  obtain ⟨h1, _, h2⟩ := h
  have hn := sg_n g n
  refine ⟨h1, by omega, fun k hk => ?_, fun k hk m hm => ?_, fun k hk => ?_, fun k hk m hm => ?_⟩
  · have := outN_le g k; have := sg_le g hk; omega
  · have := jn_le (g k) m; have := sw_le (g k) hm; have := sg_w g hk; omega
  · have := sw_n (g k) (g k).n; have := sg_w g hk; omega
  · have := sw_f (g k) hm; have := sg_w g hk; omega
section
variable {H : Type} {enc : TypeId × Value → H} {W : World} {base : Nat} {spare : Nat → Bool} {held : Bool}
theorem cells31 : Tryd.prog.cellsOf 31 = 2 := by kernel_rfl
theorem cells29 : Tryd.prog.cellsOf 29 = 1 := by kernel_rfl
theorem cells9 : Tryd.prog.cellsOf 9 = 1 := by kernel_rfl
theorem cells3 : Tryd.prog.cellsOf 3 = 1 := by kernel_rfl
theorem spot_of_cell {w : World} {a : Addr} {v : Value} (h : w.cell? a = some v) : a.spot = none := by
  unfold World.cell? at h
  split at h
  · split at h
    · cases h
    · rename_i hs
      cases hs' : a.spot <;> simp [hs'] at hs ⊢
  · cases h
theorem add_add0 (b o i : Nat) : (⟨b, o, none⟩ : Addr).add i = ⟨b, o + i, none⟩ := by
  unfold Addr.add
  split
  · rename_i h; rw [h]; rfl
  · rfl
theorem sw_strs (x : Wl) : ∀ (n : Nat) (l : List ByteArray), l.length = n → (∀ j, j < n → x.f j = l.getD j ByteArray.empty) → Rows.uptoBulkAll (strs (H := H) l) = sw x n := by
  intro n
  induction n with
  | zero =>
    intro l hl _
    have : l = [] := List.length_eq_zero_iff.mp hl
    subst this
    rfl
  | succ n ih =>
    intro l hl hf
    have hne : l ≠ [] := fun h => by rw [h] at hl; cases hl
    have hd : l = l.dropLast ++ [l.getLast hne] := (List.dropLast_concat_getLast hne).symm
    have hdl : l.dropLast.length = n := by rw [List.length_dropLast]; omega
    have h1 := ih l.dropLast hdl (fun j hj => by
      rw [hf j (by omega)]
      conv => lhs; rw [hd]
      rw [List.getD_eq_getElem?_getD, List.getD_eq_getElem?_getD, List.getElem?_append_left (by omega)])
    have h2 : x.f n = l.getLast hne := by
      rw [hf n (by omega)]
      conv => lhs; rw [hd]
      rw [List.getD_eq_getElem?_getD, List.getElem?_append_right (by omega), hdl]
      simp
    rw [sw, h2, ← h1]
    conv => lhs; rw [hd]
    have happ : ∀ (a b : List (DataW H)), Rows.uptoBulkAll (a ++ b) = Rows.uptoBulkAll a + Rows.uptoBulkAll b := by
      intro a b
      induction a with
      | nil => simp [Rows.uptoBulkAll]
      | cons y r ih => simp only [List.cons_append, Rows.uptoBulkAll, ih]; omega
    have hs : strs (H := H) (l.dropLast ++ [l.getLast hne]) = strs l.dropLast ++ [.lit (.string (l.getLast hne).data.toList)] := by simp [strs]
    rw [hs, happ]
    simp only [Rows.uptoBulkAll, Rows.uptoBulk, Nat.add_zero]
    rfl
theorem one_line {fuel : Nat} {cs : List Value} {x : DataW H × List MemPlace} (hl : cs.length = 2) (h : DataW.trod enc Tryd.prog W base spare held fuel 31 cs = some x) :
    ∃ y : Wl, cs = [.int .i64 y.line, .slice y.A y.n y.c] ∧ Ss W y.A y.n y.f ∧ y.n ≤ 9223372036854775807 ∧ y.n ≤ y.c ∧ sw y y.n + 1 ≤ Rows.uptoBulk x.1 := by
  match cs, hl with
  | [c0, c1], _ =>
    obtain ⟨xs, n, _, hx, _, hlen, hg⟩ := DataW.trod_struct Tryd.underlying31 h
    match xs, hlen with
    | [y0, y1], _ =>
      have g0 : DataW.trod enc Tryd.prog W base spare held n 3 (([c0, c1].drop 0).take (Tryd.prog.cellsOf 3)) = some y0 := hg 0 _ rfl
      rw [cells3] at g0
      have g1 : DataW.trod enc Tryd.prog W base spare held n 29 (([c0, c1].drop 1).take (Tryd.prog.cellsOf 29)) = some y1 := hg 1 _ rfl
      rw [cells29] at g1
      obtain ⟨ln, e0, -, w0⟩ := DataW.trod_int Tryd.underlying3 g0
      obtain rfl : c0 = .int .i64 ln := List.cons.inj e0 |>.1
      subst hx
      rcases open_strings Tryd.underlying29 Tryd.underlying9 cells9 g1 with ⟨e1, rfl⟩ | ⟨a, len, cap, ss, e1, hb, hlc, hm, hss, rfl, hc, hsz⟩
      · obtain rfl : c1 = .slice none 0 0 := List.cons.inj e1 |>.1
        refine ⟨⟨ln, none, 0, 0, fun _ => ⟨#[]⟩⟩, rfl, fun h0 => by simp at h0, by simp, by simp, ?_⟩
        have := bulk_one y0.1
        simp [Rows.uptoBulk, Rows.uptoBulkAll, sw]
      · obtain rfl : c1 = .slice (some a) len cap := List.cons.inj e1 |>.1
        have hle : len ≤ ss.length := by rw [hss]; split <;> omega
        refine ⟨⟨ln, some a, len, cap, fun j => ss.getD j ByteArray.empty⟩, rfl, fun h0 => ?_, by simp only; unfold maxLen at hm; omega, hlc, ?_⟩
        · simp only at h0
          have c0 := hc 0 (by omega)
          have hs := spot_of_cell c0
          obtain ⟨b, o, s⟩ := a
          have hs2 : s = none := by
            have : ((⟨b, o, s⟩ : Addr).add 0).spot = s := by simp [Addr.add]
            rw [this] at hs
            exact hs
          subst hs2
          refine ⟨b, o, rfl, ?_, fun k hk => ?_⟩
          · have := World.block_lt_of_cell? W _ c0
            rw [add_add0] at this
            exact this
          · have hk : k < len := hk
            have ck := hc k (by omega)
            rw [add_add0] at ck
            refine ⟨ck, ?_⟩
            have hk2 : k < ss.length := by omega
            have hmem : ss.getD k ByteArray.empty ∈ ss := by
              rw [List.getD_eq_getElem?_getD, List.getElem?_eq_getElem hk2]
              exact List.getElem_mem hk2
            have := hsz _ hmem
            unfold maxLen at this
            simp only
            omega
        · have h1 := sw_strs (H := H) ⟨ln, some a, len, cap, fun j => ss.getD j ByteArray.empty⟩ len (ss.take len) (by rw [List.length_take]; omega) (fun j hj => by
            simp only
            rw [List.getD_eq_getElem?_getD, List.getD_eq_getElem?_getD, List.getElem?_take, if_pos hj])
          have := bulk_one y0.1
          simp only [Rows.uptoBulk, Rows.uptoBulkAll, List.map_cons, List.map_nil]
          have h2 : sw ⟨ln, some a, len, cap, fun j => ss.getD j ByteArray.empty⟩ len ≤ Rows.uptoBulkAll (strs (H := H) (ss.take len)) := Nat.le_of_eq h1.symm
          show sw ⟨ln, some a, len, cap, fun j => ss.getD j ByteArray.empty⟩ len + 1 ≤ _
          omega
theorem sg_D (g : Nat → Wl) (D : Nat → DataW H) : ∀ n, (∀ k, k < n → sw (g k) (g k).n + 1 ≤ Rows.uptoBulk (D k)) → sg g n ≤ Rows.uptoBulkAll ((List.range n).map D)
  | 0, _ => Nat.zero_le _
  | n + 1, h => by
    have ih := sg_D g D n (fun k hk => h k (by omega))
    have h1 := h n (by omega)
    have happ : ∀ (a b : List (DataW H)), Rows.uptoBulkAll (a ++ b) = Rows.uptoBulkAll a + Rows.uptoBulkAll b := by
      intro a b
      induction a with
      | nil => simp [Rows.uptoBulkAll]
      | cons y r ih => simp only [List.cons_append, Rows.uptoBulkAll, ih]; omega
    rw [List.range_succ, List.map_append, happ, sg]
    simp only [List.map_cons, List.map_nil, Rows.uptoBulkAll]
    omega
theorem open_words {fuel : Nat} {A : Option Addr} {N c : Nat} {x : DataW H × List MemPlace} (hk : Rows.uptoBulk x.1 ≤ 1048576) (h : DataW.trod enc Tryd.prog W base spare held fuel 22 [.slice A N c] = some x) : ∃ g, Wb W A N c g := by
  rcases open_slice Tryd.underlying22 h with ⟨h0, _⟩ | ⟨a, len, cap, m, n, D, Pl, hcs, hb, hl, hm, hmm, hx, hi⟩
  · simp at h0
    obtain ⟨rfl, rfl, rfl⟩ := h0
    exact ⟨fun _ => ⟨0, none, 0, 0, fun _ => ⟨#[]⟩⟩, fun h => absurd h (by omega), Nat.le_refl _, by simp [sg]⟩
  · simp at hcs
    obtain ⟨rfl, rfl, rfl⟩ := hcs
    have hle : N ≤ m := by rw [hmm]; split <;> omega
    have hone : ∀ i, ∃ y : Wl, i < N → (∀ j v, [Value.int .i64 y.line, .slice y.A y.n y.c][j]? = some v → W.cell? ((a.add (i * 2)).add j) = some v) ∧ Ss W y.A y.n y.f ∧ y.n ≤ 9223372036854775807 ∧ y.n ≤ y.c ∧ sw y y.n + 1 ≤ Rows.uptoBulk (D i) := by
      intro i
      by_cases hlt : i < N
      · obtain ⟨cs', hc, ht⟩ := hi i (by omega)
        rw [cells31] at hc
        obtain ⟨_, hcl, hat⟩ := World.cells?_some hc
        obtain ⟨y, rfl, h1, h2, h3, h4⟩ := one_line hcl ht
        refine ⟨y, fun _ => ⟨fun j v hj => ?_, h1, h2, h3, h4⟩⟩
        have hj2 : j < 2 := by
          rcases Nat.lt_or_ge j 2 with h | h
          · exact h
          · rw [List.getElem?_eq_none (by simp; omega)] at hj; cases hj
        rw [hat j hj2]
        exact hj
      · exact ⟨⟨0, none, 0, 0, fun _ => ⟨#[]⟩⟩, fun h => absurd h hlt⟩
    obtain ⟨g, hf⟩ := Classical.axiomOfChoice hone
    refine ⟨g, fun h0 => ?_, hl, ?_⟩
    · have c0 := (hf 0 h0).1 0 _ rfl
      have e0 : (a.add (0 * 2)).add 0 = a := by simp [Addr.add]
      rw [e0] at c0
      have hs := spot_of_cell c0
      obtain ⟨b, o, s⟩ := a
      simp only at hs
      subst hs
      refine ⟨b, o, rfl, World.block_lt_of_cell? W _ c0, fun k hk => ?_⟩
      obtain ⟨hc, h1, h2, h3, h4⟩ := hf k hk
      have z : ∀ j v, [Value.int .i64 (g k).line, .slice (g k).A (g k).n (g k).c][j]? = some v → W.cell? ⟨b, o + k * 2 + j, none⟩ = some v := fun j v hj => by rw [← add_add0, ← add_add0]; exact hc j v hj
      exact ⟨z 0 _ rfl, z 1 _ rfl, h1, h2, h3⟩
    · have h1 := sg_D g D N (fun k hk => (hf k hk).2.2.2.2)
      subst hx
      simp only [Rows.uptoBulk] at hk
      omega
end
theorem lp_walk (A : Option Addr) (n c : Nat) (g : Nat → Wl) {W : World} (hb : Wb W A n c g) (w : World) (hw : W = w) (hg : Gl w) : Calls Tryd.prog 4 #[.slice A n c] w fun e w' => e = .returned (.bool true) ∧ Below w.heap.size w w' := by
  subst hw
  obtain ⟨h1, h2, h3, h4, h5, h6⟩ := hb.out
  exact walk4 Gl (fun w w' h hb => h.below hb) A n c g W hg h1 (Lib.hid (fun w hG => c13 w hG)) (Lib.hid (fun w hA => c14 A n c g w hA h2 h3 h4 h5)) (Lib.hid (fun w hA => c15 A n c g w hA h2 h3 h4 h6))
end Go.Proofs.YtlomlgmajcdccaaDoor
