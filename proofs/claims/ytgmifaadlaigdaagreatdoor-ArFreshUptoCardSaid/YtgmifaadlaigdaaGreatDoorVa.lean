import Derived.Test.YtgmifaadlaigdaaGreatDoorV
import Derived.SliceStrings
namespace Go.Proofs.YtgmifaadlaigdaaGreatDoor
open Go.ChangeShapes Go.WideShapes Go.ChangeAt Go.RowKit Go.Deep Go.Joins
set_option linter.unusedVariables false
theorem bulk_one {H : Type} (d : DataW H) : 1 ≤ Rows.uptoBulk d := by
  cases d with
  | lit l => cases l <;> simp [Rows.uptoBulk]
  | nil => simp [Rows.uptoBulk]
  | ptr d => simp [Rows.uptoBulk]
  | slice elems spare => simp [Rows.uptoBulk]
  | agg parts => simp [Rows.uptoBulk]
  | iface t d => simp [Rows.uptoBulk]
  | map entries => simp [Rows.uptoBulk]
  | held h => simp [Rows.uptoBulk]
theorem bulk_part {H : Type} {d : DataW H} {l : List (DataW H)} (h : d ∈ l) : Rows.uptoBulk d ≤ Rows.uptoBulkAll l := by
  induction l with
  | nil => cases h
  | cons x r ih =>
    simp only [Rows.uptoBulkAll]
    cases List.mem_cons.1 h with
    | inl e => subst e; omega
    | inr e => have := ih e; omega
theorem part_small {H : Type} {d : DataW H} {l : List (DataW H)} (hk : Rows.uptoSmall H l = true) (h : d ∈ l) : Rows.uptoBulk d ≤ 1048576 := by
  have h1 : Rows.uptoBulkAll l ≤ 1048576 := of_decide_eq_true hk
  have := bulk_part h
  omega
theorem bulk_len {H : Type} : ∀ l : List (DataW H), l.length ≤ Rows.uptoBulkAll l
  | [] => Nat.zero_le _
  | d :: l => by
    have h1 := bulk_one d
    have h2 := bulk_len l
    simp only [Rows.uptoBulkAll, List.length_cons]
    omega
theorem bulk_app {H : Type} (a b : List (DataW H)) : Rows.uptoBulkAll (a ++ b) = Rows.uptoBulkAll a + Rows.uptoBulkAll b := by
  induction a with
  | nil => simp [Rows.uptoBulkAll]
  | cons y r ih => simp only [List.cons_append, Rows.uptoBulkAll, ih]; omega
/-- letters and bytes of the members -/
def mg (g : Nat → Mem) : Nat → Nat
  | 0 => 0
  | k + 1 => mg g k + ((g k).nm.size + (g k).n + 1)
theorem mg_n (g : Nat → Mem) : ∀ n, n ≤ mg g n
  | 0 => Nat.le_refl _
  | n + 1 => by have := mg_n g n; rw [mg]; omega
theorem mg_mono (g : Nat → Mem) (m : Nat) : ∀ d, mg g m ≤ mg g (m + d)
  | 0 => Nat.le_refl _
  | d + 1 => by
    have := mg_mono g m d
    rw [← Nat.add_assoc, mg]
    omega
theorem end_mg (g : Nat → Mem) (e0 : Nat) : ∀ n, endN g e0 n ≤ e0 + 61 * n + mg g n
  | 0 => by simp [endN, mg]
  | n + 1 => by have := end_mg g e0 n; rw [endN, mg]; unfold evn; omega
/-- so many members, of bounded bulk -/
def Mb (W : World) (A : Option Addr) (n c : Nat) (g : Nat → Mem) : Prop := Ms W A n g ∧ n ≤ c ∧ Nz g n ∧ mg g n ≤ 1048576
/-- so many entries, of bounded bulk -/
def Ib (W : World) (A : Option Addr) (n c : Nat) (x : Nat → Ix) : Prop := Is W A n x ∧ n ≤ c ∧ lgN x n ≤ 1048576
section
variable {H : Type} {enc : TypeId × Value → H} {W : World} {base : Nat} {spare : Nat → Bool} {held : Bool}
theorem cells39 : Tryz.prog.cellsOf 39 = 2 := by kernel_rfl
theorem cells58 : Tryz.prog.cellsOf 58 = 2 := by kernel_rfl
theorem cells24 : Tryz.prog.cellsOf 24 = 1 := by kernel_rfl
theorem cells9 : Tryz.prog.cellsOf 9 = 1 := by kernel_rfl
theorem cells5 : Tryz.prog.cellsOf 5 = 1 := by kernel_rfl
theorem cells3 : Tryz.prog.cellsOf 3 = 1 := by kernel_rfl
theorem spot_of_cell {w : World} {a : Addr} {v : Value} (h : w.cell? a = some v) : a.spot = none := by
  unfold World.cell? at h
  split at h
  · split at h
    · cases h
    · rename_i hs
      cases hs' : a.spot <;> simp [hs'] at hs ⊢
  · cases h
theorem add_add0 (b o i : Nat) : (⟨b, o, none⟩ : Addr).add i = ⟨b, o + i, none⟩ := by
  unfold Addr.add
  split
  · rename_i h; rw [h]; rfl
  · rfl
theorem wf_u8 {z : Int} (h : (Lit.int .u8 z).wf = true) : 0 ≤ z ∧ z < 256 := by
  simp [Lit.wf, IntKind.min, IntKind.max, IntKind.bits, IntKind.signed] at h
  omega
theorem wf_i64 {z : Int} (h : (Lit.int .i64 z).wf = true) : -9223372036854775808 ≤ z ∧ z ≤ 9223372036854775807 := by
  simp [Lit.wf, IntKind.min, IntKind.max, IntKind.bits, IntKind.signed] at h
  omega
theorem open_u8s {fuel : Nat} {cs : List Value} {x : DataW H × List MemPlace} (h : DataW.trod enc Tryz.prog W base spare held fuel 24 cs = some x) :
    ∃ A n c f, cs = [.slice A n c] ∧ Bz W A n f ∧ n ≤ c ∧ (A = none → c = 0) ∧ n + 1 ≤ Rows.uptoBulk x.1 := by
  rcases open_ints Tryz.underlying24 Tryz.underlying5 cells5 h with ⟨rfl, rfl⟩ | ⟨a, len, cap, zs, rfl, hb, hl, hm, hz, rfl, hcell, hwz⟩
  · exact ⟨none, 0, 0, fun _ => 0, rfl, fun h => absurd h (by omega), Nat.le_refl _, fun _ => rfl, bulk_one _⟩
  · have hle : len ≤ zs.length := by rw [hz]; split <;> omega
    refine ⟨some a, len, cap, fun j => (zs.getD j 0).toNat, rfl, fun h0 => ?_, hl, (fun e => by cases e), ?_⟩
    · have c0 := hcell 0 (by omega)
      have hs := spot_of_cell c0
      obtain ⟨b, o, s⟩ := a
      have hs2 : s = none := by
        have : ((⟨b, o, s⟩ : Addr).add 0).spot = s := by simp [Addr.add]
        rw [this] at hs
        exact hs
      subst hs2
      refine ⟨b, o, rfl, ?_, fun k hk => ?_⟩
      · have := World.block_lt_of_cell? W _ c0
        rw [add_add0] at this
        exact this
      · have ck := hcell k (by omega)
        rw [add_add0] at ck
        have hk2 : k < zs.length := by omega
        have hmem : zs.getD k 0 ∈ zs := by
          rw [List.getD_eq_getElem?_getD, List.getElem?_eq_getElem hk2]
          exact List.getElem_mem hk2
        have hw := wf_u8 (hwz _ hmem)
        have e : ((zs.getD k 0).toNat : Int) = zs.getD k 0 := by omega
        refine ⟨?_, ?_⟩
        · show (zs.getD k 0).toNat < 256
          omega
        · show W.cell? ⟨b, o + k, none⟩ = some (.int .u8 ((zs.getD k 0).toNat : Int))
          rw [e]; exact ck
    · have h1 := bulk_len (lits (H := H) .u8 (zs.take len))
      have h2 : (lits (H := H) .u8 (zs.take len)).length = len := by simp [lits]; omega
      simp only [Rows.uptoBulk]
      omega
theorem one_mem {fuel : Nat} {cs : List Value} {x : DataW H × List MemPlace} (hl : cs.length = 2) (h : DataW.trod enc Tryz.prog W base spare held fuel 39 cs = some x) :
    ∃ y : Mem, cs = [.string y.nm, .slice y.A y.n y.c] ∧ Bz W y.A y.n y.f ∧ y.n ≤ y.c ∧ (y.A = none → y.c = 0) ∧ y.nm.size ≤ 9223372036854775807 ∧ y.nm.size + y.n + 1 ≤ Rows.uptoBulk x.1 := by
  match cs, hl with
  | [c0, c1], _ =>
    obtain ⟨xs, n, _, hx, _, hlen, hg⟩ := DataW.trod_struct Tryz.underlying39 h
    match xs, hlen with
    | [y0, y1], _ =>
      have g0 : DataW.trod enc Tryz.prog W base spare held n 9 (([c0, c1].drop 0).take (Tryz.prog.cellsOf 9)) = some y0 := hg 0 _ rfl
      rw [cells9] at g0
      have g1 : DataW.trod enc Tryz.prog W base spare held n 24 (([c0, c1].drop 1).take (Tryz.prog.cellsOf 24)) = some y1 := hg 1 _ rfl
      rw [cells24] at g1
      obtain ⟨sn, e0, rfl, hsn⟩ := DataW.trod_string Tryz.underlying9 g0
      obtain rfl : c0 = .string sn := List.cons.inj e0 |>.1
      obtain ⟨A, m, c, f, e1, hb, hmc, hA, hbk⟩ := open_u8s g1
      obtain rfl : c1 = .slice A m c := List.cons.inj e1 |>.1
      subst hx
      refine ⟨⟨sn, A, m, c, f⟩, rfl, hb, hmc, hA, by unfold maxLen at hsn; exact hsn, ?_⟩
      show sn.size + m + 1 ≤ _
      have hs2 : sn.data.toList.length = sn.size := Array.length_toList
      simp only [Rows.uptoBulk, Rows.uptoBulkAll, List.map_cons, List.map_nil]
      omega
theorem one_ix {fuel : Nat} {cs : List Value} {x : DataW H × List MemPlace} (hl : cs.length = 2) (h : DataW.trod enc Tryz.prog W base spare held fuel 58 cs = some x) :
    ∃ y : Ix, cs = [.string y.nm, .int .i64 y.m] ∧ y.nm.size ≤ 9223372036854775807 ∧ -9223372036854775808 ≤ y.m ∧ y.m ≤ 9223372036854775807 ∧ y.nm.size + 1 ≤ Rows.uptoBulk x.1 := by
  match cs, hl with
  | [c0, c1], _ =>
    obtain ⟨xs, n, _, hx, _, hlen, hg⟩ := DataW.trod_struct Tryz.underlying58 h
    match xs, hlen with
    | [y0, y1], _ =>
      have g0 : DataW.trod enc Tryz.prog W base spare held n 9 (([c0, c1].drop 0).take (Tryz.prog.cellsOf 9)) = some y0 := hg 0 _ rfl
      rw [cells9] at g0
      have g1 : DataW.trod enc Tryz.prog W base spare held n 3 (([c0, c1].drop 1).take (Tryz.prog.cellsOf 3)) = some y1 := hg 1 _ rfl
      rw [cells3] at g1
      obtain ⟨sn, e0, rfl, hsn⟩ := DataW.trod_string Tryz.underlying9 g0
      obtain rfl : c0 = .string sn := List.cons.inj e0 |>.1
      obtain ⟨z, e1, rfl, hz⟩ := DataW.trod_int Tryz.underlying3 g1
      obtain rfl : c1 = .int .i64 z := List.cons.inj e1 |>.1
      subst hx
      have hw := wf_i64 hz
      refine ⟨⟨sn, z⟩, rfl, by unfold maxLen at hsn; exact hsn, hw.1, hw.2, ?_⟩
      show sn.size + 1 ≤ _
      have hs2 : sn.data.toList.length = sn.size := Array.length_toList
      simp only [Rows.uptoBulk, Rows.uptoBulkAll, List.map_cons, List.map_nil]
      omega
theorem mg_D (g : Nat → Mem) (D : Nat → DataW H) : ∀ n, (∀ k, k < n → (g k).nm.size + (g k).n + 1 ≤ Rows.uptoBulk (D k)) → mg g n ≤ Rows.uptoBulkAll ((List.range n).map D)
  | 0, _ => Nat.zero_le _
  | n + 1, h => by
    have ih := mg_D g D n (fun k hk => h k (by omega))
    have h1 := h n (by omega)
    rw [List.range_succ, List.map_append, bulk_app, mg]
    simp only [List.map_cons, List.map_nil, Rows.uptoBulkAll]
    omega
theorem lg_D (g : Nat → Ix) (D : Nat → DataW H) : ∀ n, (∀ k, k < n → (g k).nm.size + 1 ≤ Rows.uptoBulk (D k)) → lgN g n ≤ Rows.uptoBulkAll ((List.range n).map D)
  | 0, _ => Nat.zero_le _
  | n + 1, h => by
    have ih := lg_D g D n (fun k hk => h k (by omega))
    have h1 := h n (by omega)
    rw [List.range_succ, List.map_append, bulk_app, lgN]
    simp only [List.map_cons, List.map_nil, Rows.uptoBulkAll]
    omega
theorem open_mems {fuel : Nat} {A : Option Addr} {N c : Nat} {x : DataW H × List MemPlace} (hk : Rows.uptoBulk x.1 ≤ 1048576) (h : DataW.trod enc Tryz.prog W base spare held fuel 22 [.slice A N c] = some x) : ∃ g, Mb W A N c g := by
  rcases open_slice Tryz.underlying22 h with ⟨h0, _⟩ | ⟨a, len, cap, m, n, D, Pl, hcs, hb, hl, hm, hmm, hx, hi⟩
  · simp at h0
    obtain ⟨rfl, rfl, rfl⟩ := h0
    exact ⟨fun _ => ⟨⟨#[]⟩, none, 0, 0, fun _ => 0⟩, fun h => absurd h (by omega), Nat.le_refl _, fun k hk => absurd hk (by omega), by simp [mg]⟩
  · simp at hcs
    obtain ⟨rfl, rfl, rfl⟩ := hcs
    have hle : N ≤ m := by rw [hmm]; split <;> omega
    have hone : ∀ i, ∃ y : Mem, i < N → (∀ j v, [Value.string y.nm, .slice y.A y.n y.c][j]? = some v → W.cell? ((a.add (i * 2)).add j) = some v) ∧ Bz W y.A y.n y.f ∧ y.n ≤ y.c ∧ (y.A = none → y.c = 0) ∧ y.nm.size ≤ 9223372036854775807 ∧ y.nm.size + y.n + 1 ≤ Rows.uptoBulk (D i) := by
      intro i
      by_cases hlt : i < N
      · obtain ⟨cs', hc, ht⟩ := hi i (by omega)
        rw [cells39] at hc
        obtain ⟨_, hcl, hat⟩ := World.cells?_some hc
        obtain ⟨y, rfl, h1, h2, h3, h4, h5⟩ := one_mem hcl ht
        refine ⟨y, fun _ => ⟨fun j v hj => ?_, h1, h2, h3, h4, h5⟩⟩
        have hj2 : j < 2 := by
          rcases Nat.lt_or_ge j 2 with h | h
          · exact h
          · rw [List.getElem?_eq_none (by simp; omega)] at hj; cases hj
        rw [hat j hj2]
        exact hj
      · exact ⟨⟨⟨#[]⟩, none, 0, 0, fun _ => 0⟩, fun h => absurd h hlt⟩
    obtain ⟨g, hf⟩ := Classical.axiomOfChoice hone
    have h1 := mg_D g D N (fun k hk => (hf k hk).2.2.2.2.2)
    have h2 : mg g N ≤ 1048576 := by
      subst hx
      simp only [Rows.uptoBulk] at hk
      omega
    refine ⟨g, fun h0 => ?_, hl, fun k hk => (hf k hk).2.2.2.1, h2⟩
    have c0 := (hf 0 h0).1 0 _ rfl
    have e0 : (a.add (0 * 2)).add 0 = a := by simp [Addr.add]
    rw [e0] at c0
    have hs := spot_of_cell c0
    obtain ⟨b, o, s⟩ := a
    simp only at hs
    subst hs
    refine ⟨b, o, rfl, World.block_lt_of_cell? W _ c0, fun k hk => ?_⟩
    obtain ⟨hc, q1, q2, q3, q4, q5⟩ := hf k hk
    have z : ∀ j v, [Value.string (g k).nm, .slice (g k).A (g k).n (g k).c][j]? = some v → W.cell? ⟨b, o + k * 2 + j, none⟩ = some v := fun j v hj => by rw [← add_add0, ← add_add0]; exact hc j v hj
    have hmk : (g k).n ≤ mg g N := by
      obtain ⟨d, hd⟩ := Nat.exists_eq_add_of_le (show k + 1 ≤ N from hk)
      have := mg_mono g (k + 1) d
      rw [← hd] at this
      rw [mg] at this
      omega
    exact ⟨z 0 _ rfl, z 1 _ rfl, q1, by omega, q2, q4⟩
theorem open_ixs {fuel : Nat} {A : Option Addr} {N c : Nat} {x : DataW H × List MemPlace} (hk : Rows.uptoBulk x.1 ≤ 1048576) (h : DataW.trod enc Tryz.prog W base spare held fuel 23 [.slice A N c] = some x) : ∃ g, Ib W A N c g := by
  rcases open_slice Tryz.underlying23 h with ⟨h0, _⟩ | ⟨a, len, cap, m, n, D, Pl, hcs, hb, hl, hm, hmm, hx, hi⟩
  · simp at h0
    obtain ⟨rfl, rfl, rfl⟩ := h0
    exact ⟨fun _ => ⟨⟨#[]⟩, 0⟩, fun h => absurd h (by omega), Nat.le_refl _, by simp [lgN]⟩
  · simp at hcs
    obtain ⟨rfl, rfl, rfl⟩ := hcs
    have hle : N ≤ m := by rw [hmm]; split <;> omega
    have hone : ∀ i, ∃ y : Ix, i < N → (∀ j v, [Value.string y.nm, .int .i64 y.m][j]? = some v → W.cell? ((a.add (i * 2)).add j) = some v) ∧ y.nm.size ≤ 9223372036854775807 ∧ -9223372036854775808 ≤ y.m ∧ y.m ≤ 9223372036854775807 ∧ y.nm.size + 1 ≤ Rows.uptoBulk (D i) := by
      intro i
      by_cases hlt : i < N
      · obtain ⟨cs', hc, ht⟩ := hi i (by omega)
        rw [cells58] at hc
        obtain ⟨_, hcl, hat⟩ := World.cells?_some hc
        obtain ⟨y, rfl, h1, h2, h3, h4⟩ := one_ix hcl ht
        refine ⟨y, fun _ => ⟨fun j v hj => ?_, h1, h2, h3, h4⟩⟩
        have hj2 : j < 2 := by
          rcases Nat.lt_or_ge j 2 with h | h
          · exact h
          · rw [List.getElem?_eq_none (by simp; omega)] at hj; cases hj
        rw [hat j hj2]
        exact hj
      · exact ⟨⟨⟨#[]⟩, 0⟩, fun h => absurd h hlt⟩
    obtain ⟨g, hf⟩ := Classical.axiomOfChoice hone
    have h1 := lg_D g D N (fun k hk => (hf k hk).2.2.2.2)
    have h2 : lgN g N ≤ 1048576 := by
      subst hx
      simp only [Rows.uptoBulk] at hk
      omega
    refine ⟨g, fun h0 => ?_, hl, h2⟩
    have c0 := (hf 0 h0).1 0 _ rfl
    have e0 : (a.add (0 * 2)).add 0 = a := by simp [Addr.add]
    rw [e0] at c0
    have hs := spot_of_cell c0
    obtain ⟨b, o, s⟩ := a
    simp only at hs
    subst hs
    refine ⟨b, o, rfl, World.block_lt_of_cell? W _ c0, fun k hk => ?_⟩
    obtain ⟨hc, q1, q2, q3, q4⟩ := hf k hk
    have z : ∀ j v, [Value.string (g k).nm, .int .i64 (g k).m][j]? = some v → W.cell? ⟨b, o + k * 2 + j, none⟩ = some v := fun j v hj => by rw [← add_add0, ← add_add0]; exact hc j v hj
    exact ⟨z 0 _ rfl, z 1 _ rfl, q1, q2, q3⟩
end
end Go.Proofs.YtgmifaadlaigdaaGreatDoor
