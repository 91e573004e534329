import Derived.Test.YtmanoheofloimaaGreatDoorOz
import Derived.Deep.RegionHeld3
namespace Go.Proofs.YtmanoheofloimaaGreatDoor
section
variable {P : Program} {ops : Array Oper} {Q : Exit → Act → World → Prop}
/-- whatever order a drawn region takes: an invariant that every operation that may come next keeps -/
theorem wpAny_inv (I : Array Bool → Act → World → Prop)
    (hstep : ∀ listed a w i, listed.size = ops.size → i ∈ Region.ready .any ops listed → I listed a w → wpOp P ops Q i (fun a' w' => I (listed.setIfInBounds i true) a' w') a w)
    (hend : ∀ listed a w, listed.size = ops.size → Region.ready .any ops listed = [] → I listed a w → Q .normal a w) :
    ∀ (fuel : Nat) (listed : Array Bool) (a : Act) (w : World), listed.size = ops.size → listed.toList.count false ≤ fuel → I listed a w → wpAny P .any ops Q fuel listed a w := by
  have hin : ∀ (listed : Array Bool) (i : Nat), i ∈ Region.ready .any ops listed → ∃ h : i < listed.toList.length, listed.toList[i] = false := fun listed i hi => by
    have h1 := (mem_ready.1 hi).1
    rcases Nat.lt_or_ge i listed.size with h | h
    · refine ⟨by simpa using h, ?_⟩
      simpa [h] using h1
    · simp [Array.getElem?_eq_none h] at h1
  intro fuel
  induction fuel with
  | zero =>
    intro listed a w hs hc hI
    have hnil : Region.ready .any ops listed = [] := by
      cases hr : Region.ready .any ops listed with
      | nil => rfl
      | cons x xs =>
        obtain ⟨h, hx⟩ := hin listed x (by rw [hr]; simp)
        have : false ∈ listed.toList := by rw [← hx]; exact List.getElem_mem h
        have := List.count_pos_iff.2 this
        omega
    exact ⟨hnil, hend _ _ _ hs hnil hI⟩
  | succ fuel ih =>
    intro listed a w hs hc hI
    refine ⟨fun h => hend _ _ _ hs h hI, fun i hi => wpOp_mono (fun a' w' h' => ih _ _ _ (by simpa using hs) ?_ h') (hstep _ _ _ _ hs hi hI)⟩
    obtain ⟨h, hx⟩ := hin listed i hi
    rw [Array.toList_setIfInBounds, List.count_set h, hx]
    have : false ∈ listed.toList := by rw [← hx]; exact List.getElem_mem h
    have := List.count_pos_iff.2 this
    rw [if_pos (by decide), if_neg (by decide)]
    omega
theorem wp_region_inv {id : Nat} {a : Act} {w : World} (hm : P.follows .mixedOrders = true) (I : Array Bool → Act → World → Prop)
    (h0 : I (Array.replicate ops.size false) a w.drew)
    (hstep : ∀ listed a w i, listed.size = ops.size → i ∈ Region.ready .any ops listed → I listed a w → wpOp P ops Q i (fun a' w' => I (listed.setIfInBounds i true) a' w') a w)
    (hend : ∀ listed a w, listed.size = ops.size → Region.ready .any ops listed = [] → I listed a w → Q .normal a w) : (Code.region id ops true).wp P Q a w :=
  wp_region_any hm (wpAny_inv I hstep hend ops.size _ _ _ (by simp) (by simp) h0)
theorem wpOp_of {i : Nat} {o : Oper} {a : Act} {w : World} {K : Act → World → Prop} (ho : ops[i]? = some o) (hg : o.guard = none) (h : o.wp P a w K Q) : wpOp P ops Q i K a w := by
  unfold wpOp
  rw [ho]
  show if Region.wanted o (yielded ops a.tmps) = true then _ else _
  rw [if_pos (by unfold Region.wanted; rw [hg])]
  exact Or.inl h
theorem put_at (a : Act) (d j : Nat) (v : Value) : (a.put (some d) v).tmps.getD j undef = if d = j ∧ d < a.tmps.size then v else a.tmps.getD j undef := by
  show (a.tmps.setIfInBounds d v).getD j undef = _
  simp only [Array.getD_eq_getD_getElem?, Array.getElem?_setIfInBounds]
  by_cases h : d = j
  · subst h
    by_cases h2 : d < a.tmps.size
    · simp [h2]
    · simp [h2]
  · simp [h]
theorem put_size (a : Act) (d : Option Nat) (v : Value) : (a.put d v).tmps.size = a.tmps.size := by
  cases d <;> simp [Act.put]
end
end Go.Proofs.YtmanoheofloimaaGreatDoor
namespace Go.Proofs.YtmanoheofloimaaGreatDoor
open Go.ChangeShapes Go.WideShapes Go.ChangeAt Go.RowKit
set_option linter.unusedVariables false
set_option maxRecDepth 100000
theorem fa152 (ev : Operand → Value) (g : Nat) (o : Oper) (w : World) (ho : o.op = .fieldAddr 78 (.tmp 13) 2) (he : ev (.tmp 13) = .pointer (some ⟨g, 0, none⟩)) : (execOp ev o).run Tryz.prog w = .ok (.value (.pointer (some ⟨g, 152, none⟩))) w := by
  unfold execOp
  simp only [ho, he]
  kernel_rfl
theorem fa309 (ev : Operand → Value) (g : Nat) (o : Oper) (w : World) (ho : o.op = .fieldAddr 78 (.tmp 13) 5) (he : ev (.tmp 13) = .pointer (some ⟨g, 0, none⟩)) : (execOp ev o).run Tryz.prog w = .ok (.value (.pointer (some ⟨g, 309, none⟩))) w := by
  unfold execOp
  simp only [ho, he]
  kernel_rfl
/-- region 14 -/
def O14 : Array Oper := #[{ dst := some 60, op := Op.fieldAddr 78 (Operand.tmp 13) 2, type := 0, pos := "cpu.go:50", after := #[], guard := none }, { dst := some 61, op := Op.load 34 (Operand.tmp 60), type := 34, pos := "cpu.go:50", after := #[{ on := 0, ground := Ground.data }], guard := none }, { dst := some 62, op := Op.fieldAddr 78 (Operand.tmp 13) 5, type := 0, pos := "cpu.go:50", after := #[{ on := 4, ground := Ground.gcOnly Departure.lateStores }], guard := none }, { dst := some 63, op := Op.load 39 (Operand.tmp 62), type := 39, pos := "cpu.go:50", after := #[{ on := 2, ground := Ground.data }, { on := 4, ground := Ground.gcOnly Departure.lateStores }], guard := none }, { dst := none, op := Op.store 34 (Operand.tmp 8) (Operand.tmp 61), type := 0, pos := "cpu.go:50", after := #[{ on := 1, ground := Ground.data }, { on := 0, ground := Ground.phase }, { on := 1, ground := Ground.phase }, { on := 2, ground := Ground.textOnly Departure.lateStores }, { on := 3, ground := Ground.textOnly Departure.lateStores }], guard := none }, { dst := none, op := Op.store 39 (Operand.tmp 9) (Operand.tmp 63), type := 0, pos := "cpu.go:50", after := #[{ on := 3, ground := Ground.data }, { on := 4, ground := Ground.chain }, { on := 0, ground := Ground.phase }, { on := 1, ground := Ground.phase }, { on := 2, ground := Ground.phase }, { on := 3, ground := Ground.phase }, { on := 4, ground := Ground.phase }], guard := none }, { dst := some 10, op := Op.assign (Operand.const (Value.int IntKind.i64 0)), type := 40, pos := "cpu.go:50", after := #[{ on := 5, ground := Ground.chain }, { on := 0, ground := Ground.phase }, { on := 1, ground := Ground.phase }, { on := 2, ground := Ground.phase }, { on := 3, ground := Ground.phase }, { on := 4, ground := Ground.phase }, { on := 5, ground := Ground.phase }], guard := none }]
theorem set_at (l : Array Bool) (i k : Nat) : (l.setIfInBounds i true).getD k false = if i = k ∧ i < l.size then true else l.getD k false := by
  simp only [Array.getD_eq_getD_getElem?, Array.getElem?_setIfInBounds]
  by_cases h : i = k
  · subst h
    by_cases h2 : i < l.size
    · simp [h2]
    · simp [h2]
  · simp [h]
structure J14 (g r1 r2 B : Nat) (w0 : World) (KL : Array Value) (NL DL : List Value) (l : Array Bool) (a : Act) (w : World) : Prop where
  sz : a.tmps.size = 64
  df : a.defers = []
  s8 : a.tmps.getD 8 undef = .pointer (some ⟨r1, 0, none⟩)
  s9 : a.tmps.getD 9 undef = .pointer (some ⟨r2, 0, none⟩)
  s13 : a.tmps.getD 13 undef = .pointer (some ⟨g, 0, none⟩)
  t0 : l.getD 0 false = true → a.tmps.getD 60 undef = .pointer (some ⟨g, 152, none⟩)
  t1 : l.getD 1 false = true → a.tmps.getD 61 undef = .agg NL.toArray
  t2 : l.getD 2 false = true → a.tmps.getD 62 undef = .pointer (some ⟨g, 309, none⟩)
  t3 : l.getD 3 false = true → a.tmps.getD 63 undef = .agg DL.toArray
  t6 : l.getD 6 false = true → a.tmps.getD 10 undef = .int .i64 0
  G : Blk w g 78 KL
  R : ∃ C, Blk w r1 34 C ∧ C.size = 151 ∧ (l.getD 4 false = true → C = NL.toArray)
  D : ∃ C, Blk w r2 39 C ∧ C.size = 5 ∧ (l.getD 5 false = true → C = DL.toArray)
  o : Below B w0 w
theorem ends14b (b0 b1 b2 b3 b4 b5 b6 : Bool) : (Region.ready .any O14 #[b0, b1, b2, b3, b4, b5, b6]).isEmpty = (b0 && b1 && b2 && b3 && b4 && b5 && b6) := by
  cases b0 <;> cases b1 <;> cases b2 <;> cases b3 <;> cases b4 <;> cases b5 <;> cases b6 <;> kernel_rfl
theorem ends14 (b0 b1 b2 b3 b4 b5 b6 : Bool) (h : Region.ready .any O14 #[b0, b1, b2, b3, b4, b5, b6] = []) : b0 = true ∧ b1 = true ∧ b2 = true ∧ b3 = true ∧ b4 = true ∧ b5 = true ∧ b6 = true := by
  have := ends14b b0 b1 b2 b3 b4 b5 b6
  rw [h] at this
  simp at this
  obtain ⟨⟨⟨⟨⟨⟨x0, x1⟩, x2⟩, x3⟩, x4⟩, x5⟩, x6⟩ := this
  exact ⟨x0, x1, x2, x3, x4, x5, x6⟩
theorem tail14 (g r1 r2 B : Nat) (w0 : World) (KL ZA DA : Array Value) (NL DL : List Value) (a : Act) (w : World) (Q : Exit → Act → World → Prop) (h1 : r1 ≠ g) (h2 : r2 ≠ g) (h12 : r1 ≠ r2) (hB1 : B ≤ r1) (hB2 : B ≤ r2)
    (hN : NL.length = 151) (hD : DL.length = 5) (hN1 : NL.toArray.all (·.oneCell') = true) (hD1 : DL.toArray.all (·.oneCell') = true)
    (hKN : ∀ j v, NL[j]? = some v → KL[152 + j]? = some v) (hKD : ∀ j v, DL[j]? = some v → KL[309 + j]? = some v)
    (sz : a.tmps.size = 64) (df : a.defers = []) (s8 : a.tmps.getD 8 undef = .pointer (some ⟨r1, 0, none⟩)) (s9 : a.tmps.getD 9 undef = .pointer (some ⟨r2, 0, none⟩)) (s13 : a.tmps.getD 13 undef = .pointer (some ⟨g, 0, none⟩))
    (hG : Blk w g 78 KL) (hR : Blk w r1 34 ZA) (hRs : ZA.size = 151) (hDD : Blk w r2 39 DA) (hDs : DA.size = 5) (ho : Below B w0 w)
    (hQ : ∀ a' w', a'.defers = [] → a'.tmps.getD 8 undef = .pointer (some ⟨r1, 0, none⟩) → a'.tmps.getD 9 undef = .pointer (some ⟨r2, 0, none⟩) → a'.tmps.getD 10 undef = .int .i64 0 → Blk w' r1 34 NL.toArray → Blk w' r2 39 DL.toArray → Below B w0 w' → Q .normal a' w') :
    (Code.region 14 O14 true).wp Tryz.prog Q a w := by
  refine wp_region_inv (by kernel_rfl) (J14 g r1 r2 B w0 KL NL DL) ?_ ?_ ?_
  · exact ⟨sz, df, s8, s9, s13, fun q => absurd q (by decide), fun q => absurd q (by decide), fun q => absurd q (by decide), fun q => absurd q (by decide), fun q => absurd q (by decide), hG, ⟨ZA, hR, hRs, fun q => absurd q (by decide)⟩, ⟨DA, hDD, hDs, fun q => absurd q (by decide)⟩, ho.drew⟩
  · intro l a w i hsz hi h
    have hsz7 : l.size = 7 := hsz
    obtain ⟨hun, op, hop, hpre⟩ := mem_ready.1 hi
    have hi7 : i < 7 := (Array.getElem?_eq_some_iff.1 hop).1
    clear hi
    have : i = 0 ∨ i = 1 ∨ i = 2 ∨ i = 3 ∨ i = 4 ∨ i = 5 ∨ i = 6 := by omega
    rcases this with rfl | rfl | rfl | rfl | rfl | rfl | rfl
    · refine wpOp_of rfl rfl ?_
      unfold Oper.wp
      rw [fa152 a.eval g _ w rfl h.s13]
      show J14 g r1 r2 B w0 KL NL DL (l.setIfInBounds 0 true) (a.put (some 60) (.pointer (some ⟨g, 152, none⟩))) w
      refine ⟨by rw [put_size]; exact h.sz, h.df, by rw [put_at, if_neg (by omega)]; exact h.s8, by rw [put_at, if_neg (by omega)]; exact h.s9, by rw [put_at, if_neg (by omega)]; exact h.s13, fun _ => by rw [put_at, if_pos ⟨rfl, by rw [h.sz]; decide⟩], fun q => by rw [put_at, if_neg (by omega)]; exact h.t1 (by rw [set_at, if_neg (by omega)] at q; exact q), fun q => by rw [put_at, if_neg (by omega)]; exact h.t2 (by rw [set_at, if_neg (by omega)] at q; exact q), fun q => by rw [put_at, if_neg (by omega)]; exact h.t3 (by rw [set_at, if_neg (by omega)] at q; exact q), fun q => by rw [put_at, if_neg (by omega)]; exact h.t6 (by rw [set_at, if_neg (by omega)] at q; exact q), h.G, ?_, ?_, h.o⟩
      · obtain ⟨C, c1, c2, c3⟩ := h.R; exact ⟨C, c1, c2, fun q => c3 (by rw [set_at, if_neg (by omega)] at q; exact q)⟩
      · obtain ⟨C, c1, c2, c3⟩ := h.D; exact ⟨C, c1, c2, fun q => c3 (by rw [set_at, if_neg (by omega)] at q; exact q)⟩
    · have q0 : l.getD 0 false = true := by
        cases hop
        exact hpre ⟨0, .data⟩ (Array.mem_of_getElem? (i := 0) rfl) rfl
      refine wpOp_of rfl rfl (wp_load_sub 34 (.tmp 60) rfl g 152 (h.t0 q0) 78 KL NL (0, 0) _ h.G hKN Tryz.underlying34 rfl (by rw [info32s, hN]) ?_)
      show J14 g r1 r2 B w0 KL NL DL (l.setIfInBounds 1 true) (a.put (some 61) (.agg NL.toArray)) w
      refine ⟨by rw [put_size]; exact h.sz, h.df, by rw [put_at, if_neg (by omega)]; exact h.s8, by rw [put_at, if_neg (by omega)]; exact h.s9, by rw [put_at, if_neg (by omega)]; exact h.s13, fun q => by rw [put_at, if_neg (by omega)]; exact h.t0 (by rw [set_at, if_neg (by omega)] at q; exact q), fun _ => by rw [put_at, if_pos ⟨rfl, by rw [h.sz]; decide⟩], fun q => by rw [put_at, if_neg (by omega)]; exact h.t2 (by rw [set_at, if_neg (by omega)] at q; exact q), fun q => by rw [put_at, if_neg (by omega)]; exact h.t3 (by rw [set_at, if_neg (by omega)] at q; exact q), fun q => by rw [put_at, if_neg (by omega)]; exact h.t6 (by rw [set_at, if_neg (by omega)] at q; exact q), h.G, ?_, ?_, h.o⟩
      · obtain ⟨C, c1, c2, c3⟩ := h.R; exact ⟨C, c1, c2, fun q => c3 (by rw [set_at, if_neg (by omega)] at q; exact q)⟩
      · obtain ⟨C, c1, c2, c3⟩ := h.D; exact ⟨C, c1, c2, fun q => c3 (by rw [set_at, if_neg (by omega)] at q; exact q)⟩
    · refine wpOp_of rfl rfl ?_
      unfold Oper.wp
      rw [fa309 a.eval g _ w rfl h.s13]
      show J14 g r1 r2 B w0 KL NL DL (l.setIfInBounds 2 true) (a.put (some 62) (.pointer (some ⟨g, 309, none⟩))) w
      refine ⟨by rw [put_size]; exact h.sz, h.df, by rw [put_at, if_neg (by omega)]; exact h.s8, by rw [put_at, if_neg (by omega)]; exact h.s9, by rw [put_at, if_neg (by omega)]; exact h.s13, fun q => by rw [put_at, if_neg (by omega)]; exact h.t0 (by rw [set_at, if_neg (by omega)] at q; exact q), fun q => by rw [put_at, if_neg (by omega)]; exact h.t1 (by rw [set_at, if_neg (by omega)] at q; exact q), fun _ => by rw [put_at, if_pos ⟨rfl, by rw [h.sz]; decide⟩], fun q => by rw [put_at, if_neg (by omega)]; exact h.t3 (by rw [set_at, if_neg (by omega)] at q; exact q), fun q => by rw [put_at, if_neg (by omega)]; exact h.t6 (by rw [set_at, if_neg (by omega)] at q; exact q), h.G, ?_, ?_, h.o⟩
      · obtain ⟨C, c1, c2, c3⟩ := h.R; exact ⟨C, c1, c2, fun q => c3 (by rw [set_at, if_neg (by omega)] at q; exact q)⟩
      · obtain ⟨C, c1, c2, c3⟩ := h.D; exact ⟨C, c1, c2, fun q => c3 (by rw [set_at, if_neg (by omega)] at q; exact q)⟩
    · have q0 : l.getD 2 false = true := by
        cases hop
        exact hpre ⟨2, .data⟩ (Array.mem_of_getElem? (i := 0) rfl) rfl
      refine wpOp_of rfl rfl (wp_load_sub 39 (.tmp 62) rfl g 309 (h.t2 q0) 78 KL DL (0, 0) _ h.G hKD Tryz.underlying39 rfl (by rw [info41s, hD]) ?_)
      show J14 g r1 r2 B w0 KL NL DL (l.setIfInBounds 3 true) (a.put (some 63) (.agg DL.toArray)) w
      refine ⟨by rw [put_size]; exact h.sz, h.df, by rw [put_at, if_neg (by omega)]; exact h.s8, by rw [put_at, if_neg (by omega)]; exact h.s9, by rw [put_at, if_neg (by omega)]; exact h.s13, fun q => by rw [put_at, if_neg (by omega)]; exact h.t0 (by rw [set_at, if_neg (by omega)] at q; exact q), fun q => by rw [put_at, if_neg (by omega)]; exact h.t1 (by rw [set_at, if_neg (by omega)] at q; exact q), fun q => by rw [put_at, if_neg (by omega)]; exact h.t2 (by rw [set_at, if_neg (by omega)] at q; exact q), fun _ => by rw [put_at, if_pos ⟨rfl, by rw [h.sz]; decide⟩], fun q => by rw [put_at, if_neg (by omega)]; exact h.t6 (by rw [set_at, if_neg (by omega)] at q; exact q), h.G, ?_, ?_, h.o⟩
      · obtain ⟨C, c1, c2, c3⟩ := h.R; exact ⟨C, c1, c2, fun q => c3 (by rw [set_at, if_neg (by omega)] at q; exact q)⟩
      · obtain ⟨C, c1, c2, c3⟩ := h.D; exact ⟨C, c1, c2, fun q => c3 (by rw [set_at, if_neg (by omega)] at q; exact q)⟩
    · have q0 : l.getD 1 false = true := by
        cases hop
        exact hpre ⟨1, .data⟩ (Array.mem_of_getElem? (i := 0) rfl) rfl
      obtain ⟨C, c1, c2, c3⟩ := h.R
      refine wpOp_of rfl rfl (wp_store_row 34 (.tmp 8) (.tmp 61) rfl r1 NL.toArray h.s8 (h.t1 q0) 34 C c1 (by rw [info32s, List.size_toArray, hN]) (by rw [c2, List.size_toArray, hN]) hN1 ?_)
      show J14 g r1 r2 B w0 KL NL DL (l.setIfInBounds 4 true) a (w.setRow r1 NL.toArray)
      refine ⟨h.sz, h.df, h.s8, h.s9, h.s13, fun q => h.t0 (by rw [set_at, if_neg (by omega)] at q; exact q), fun q => h.t1 (by rw [set_at, if_neg (by omega)] at q; exact q), fun q => h.t2 (by rw [set_at, if_neg (by omega)] at q; exact q), fun q => h.t3 (by rw [set_at, if_neg (by omega)] at q; exact q), fun q => h.t6 (by rw [set_at, if_neg (by omega)] at q; exact q), (only_row _ _ _).blk (Ne.symm h1) h.G, ⟨NL.toArray, blk_row c1 _, by rw [List.size_toArray, hN], fun _ => rfl⟩, ?_, below_setRow h.o hB1 _⟩
      obtain ⟨E, e1, e2, e3⟩ := h.D
      exact ⟨E, (only_row _ _ _).blk (Ne.symm h12) e1, e2, fun q => e3 (by rw [set_at, if_neg (by omega)] at q; exact q)⟩
    · have q0 : l.getD 3 false = true := by
        cases hop
        exact hpre ⟨3, .data⟩ (Array.mem_of_getElem? (i := 0) rfl) rfl
      obtain ⟨C, c1, c2, c3⟩ := h.D
      refine wpOp_of rfl rfl (wp_store_row 39 (.tmp 9) (.tmp 63) rfl r2 DL.toArray h.s9 (h.t3 q0) 39 C c1 (by rw [info41s, List.size_toArray, hD]) (by rw [c2, List.size_toArray, hD]) hD1 ?_)
      show J14 g r1 r2 B w0 KL NL DL (l.setIfInBounds 5 true) a (w.setRow r2 DL.toArray)
      refine ⟨h.sz, h.df, h.s8, h.s9, h.s13, fun q => h.t0 (by rw [set_at, if_neg (by omega)] at q; exact q), fun q => h.t1 (by rw [set_at, if_neg (by omega)] at q; exact q), fun q => h.t2 (by rw [set_at, if_neg (by omega)] at q; exact q), fun q => h.t3 (by rw [set_at, if_neg (by omega)] at q; exact q), fun q => h.t6 (by rw [set_at, if_neg (by omega)] at q; exact q), (only_row _ _ _).blk (Ne.symm h2) h.G, ?_, ⟨DL.toArray, blk_row c1 _, by rw [List.size_toArray, hD], fun _ => rfl⟩, below_setRow h.o hB2 _⟩
      obtain ⟨E, e1, e2, e3⟩ := h.R
      exact ⟨E, (only_row _ _ _).blk h12 e1, e2, fun q => e3 (by rw [set_at, if_neg (by omega)] at q; exact q)⟩
    · refine wpOp_of rfl rfl ?_
      show J14 g r1 r2 B w0 KL NL DL (l.setIfInBounds 6 true) (a.put (some 10) (.int .i64 0)) w
      refine ⟨by rw [put_size]; exact h.sz, h.df, by rw [put_at, if_neg (by omega)]; exact h.s8, by rw [put_at, if_neg (by omega)]; exact h.s9, by rw [put_at, if_neg (by omega)]; exact h.s13, fun q => by rw [put_at, if_neg (by omega)]; exact h.t0 (by rw [set_at, if_neg (by omega)] at q; exact q), fun q => by rw [put_at, if_neg (by omega)]; exact h.t1 (by rw [set_at, if_neg (by omega)] at q; exact q), fun q => by rw [put_at, if_neg (by omega)]; exact h.t2 (by rw [set_at, if_neg (by omega)] at q; exact q), fun q => by rw [put_at, if_neg (by omega)]; exact h.t3 (by rw [set_at, if_neg (by omega)] at q; exact q), fun _ => by rw [put_at, if_pos ⟨rfl, by rw [h.sz]; decide⟩], h.G, ?_, ?_, h.o⟩
      · obtain ⟨C, c1, c2, c3⟩ := h.R; exact ⟨C, c1, c2, fun q => c3 (by rw [set_at, if_neg (by omega)] at q; exact q)⟩
      · obtain ⟨C, c1, c2, c3⟩ := h.D; exact ⟨C, c1, c2, fun q => c3 (by rw [set_at, if_neg (by omega)] at q; exact q)⟩
  · intro l a w hsz hr h
    have hsz7 : l.size = 7 := hsz
    obtain ⟨ls⟩ := l
    match ls, hsz7 with
    | [b0, b1, b2, b3, b4, b5, b6], _ =>
      obtain ⟨rfl, rfl, rfl, rfl, rfl, rfl, rfl⟩ := ends14 b0 b1 b2 b3 b4 b5 b6 hr
      obtain ⟨C, c1, c2, c3⟩ := h.R
      obtain ⟨E, e1, e2, e3⟩ := h.D
      have hc := c3 rfl
      have he := e3 rfl
      subst hc he
      exact hQ a w h.df h.s8 h.s9 (h.t6 rfl) c1 e1 h.o
end Go.Proofs.YtmanoheofloimaaGreatDoor
namespace Go.Proofs.YtmanoheofloimaaGreatDoor
open Go.ChangeShapes Go.WideShapes Go.ChangeAt Go.RowKit
set_option linter.unusedVariables false
set_option maxRecDepth 100000
theorem fa310 (ev : Operand → Value) (g : Nat) (o : Oper) (w : World) (ho : o.op = .fieldAddr 39 (.tmp 52) 1) (he : ev (.tmp 52) = .pointer (some ⟨g, 309, none⟩)) : (execOp ev o).run Tryz.prog w = .ok (.value (.pointer (some ⟨g, 310, none⟩))) w := by
  unfold execOp
  simp only [ho, he]
  kernel_rfl
theorem ld39 (ev : Operand → Value) (p : Addr) (v : Value) (o : Oper) (w : World) (ho : o.op = .load 37 (.tmp 53)) (he : ev (.tmp 53) = .pointer (some p)) (hc : w.cell? p = some v) : (execOp ev o).run Tryz.prog w = .ok (.value v) w := by
  have ha : (isAgg 37).run Tryz.prog w = .ok false w := by kernel_rfl
  unfold execOp
  simp [ho, he, Instr.loadAt, Instr.sureAddr, loadVar, Sem.run_bind, ha, run_load, hc]
theorem call29 (a : Act) (o : Oper) (w : World) (ho : o.op = .call { callee := .value (.func 17), args := #[.tmp 48, .tmp 49], argTypes := #[34, 22] }) : (execOp a.eval o).run Tryz.prog w = .ok (.enter 17 #[a.eval (.tmp 48), a.eval (.tmp 49)]) w := by
  unfold execOp
  simp [ho, resolve, invoke, go_sem, Act.eval]
theorem wp_buildE {P : Program} {o : Oper} {a : Act} {w : World} {K : Act → World → Prop} {Q : Exit → Act → World → Prop} (t : TypeId) (parts : List (Nat × Operand)) (ho : o.op = .build t parts.toArray)
    (cells : Array Value) (hf : P.built t (parts.map fun (i, x) => (i, a.eval x)) = some cells) (h : K (a.put o.dst (.agg cells)) w) : o.wp P a w K Q := by
  have e : (parts.toArray.map fun (i, x) => (i, a.eval x)).toList = parts.map fun (i, x) => (i, a.eval x) := by simp
  refine wp_build t parts.toArray ho (by rw [e, hf]; rfl) ?_
  rw [e, hf]
  exact h
def allB : Nat → (List Bool → Bool) → Bool
  | 0, f => f []
  | n + 1, f => allB n (fun l => f (true :: l)) && allB n (fun l => f (false :: l))
theorem allB_at : ∀ (n : Nat) (f : List Bool → Bool), allB n f = true → ∀ l : List Bool, l.length = n → f l = true
  | 0, f, h, l, hl => by cases l with | nil => exact h | cons x xs => cases hl
  | n + 1, f, h, l, hl => by
    cases l with
    | nil => cases hl
    | cons x xs =>
      simp only [allB, Bool.and_eq_true] at h
      cases x
      · exact allB_at n _ h.2 xs (by simpa using hl)
      · exact allB_at n _ h.1 xs (by simpa using hl)
/-- region 12 -/
def O12 : Array Oper := #[{ dst := some 48, op := Op.load 34 (Operand.tmp 5), type := 34, pos := "cpu.go:47", after := #[], guard := none }, { dst := some 49, op := Op.move (Operand.tmp 14), type := 22, pos := "cpu.go:47", after := #[], guard := none }, { dst := some 50, op := Op.call { callee := Callee.value (Operand.func 17), args := #[Operand.tmp 48, Operand.tmp 49], argTypes := #[34, 22] }, type := 34, pos := "cpu.go:47", after := #[{ on := 0, ground := Ground.data }, { on := 1, ground := Ground.data }], guard := none }, { dst := some 51, op := Op.move (Operand.tmp 14), type := 22, pos := "cpu.go:47", after := #[{ on := 8, ground := Ground.gcOnly Departure.lateStores }], guard := none }, { dst := some 52, op := Op.fieldAddr 78 (Operand.tmp 13) 5, type := 0, pos := "cpu.go:47", after := #[{ on := 8, ground := Ground.gcOnly Departure.lateStores }], guard := none }, { dst := some 53, op := Op.fieldAddr 39 (Operand.tmp 52) 1, type := 0, pos := "cpu.go:47", after := #[{ on := 4, ground := Ground.data }, { on := 8, ground := Ground.gcOnly Departure.lateStores }], guard := none }, { dst := some 54, op := Op.load 37 (Operand.tmp 53), type := 37, pos := "cpu.go:47", after := #[{ on := 5, ground := Ground.data }, { on := 8, ground := Ground.gcOnly Departure.lateStores }], guard := none }, { dst := some 55, op := Op.build 39 #[(0, Operand.tmp 51), (1, Operand.tmp 54)], type := 39, pos := "cpu.go:47", after := #[{ on := 3, ground := Ground.data }, { on := 6, ground := Ground.data }, { on := 8, ground := Ground.gcOnly Departure.lateStores }], guard := none }, { dst := none, op := Op.store 34 (Operand.tmp 8) (Operand.tmp 50), type := 0, pos := "cpu.go:47", after := #[{ on := 2, ground := Ground.data }, { on := 2, ground := Ground.chain }, { on := 0, ground := Ground.phase }, { on := 1, ground := Ground.phase }, { on := 2, ground := Ground.phase }, { on := 3, ground := Ground.textOnly Departure.lateStores }, { on := 4, ground := Ground.textOnly Departure.lateStores }, { on := 5, ground := Ground.textOnly Departure.lateStores }, { on := 6, ground := Ground.textOnly Departure.lateStores }, { on := 7, ground := Ground.textOnly Departure.lateStores }], guard := none }, { dst := none, op := Op.store 39 (Operand.tmp 9) (Operand.tmp 55), type := 0, pos := "cpu.go:47", after := #[{ on := 7, ground := Ground.data }, { on := 8, ground := Ground.chain }, { on := 0, ground := Ground.phase }, { on := 1, ground := Ground.phase }, { on := 2, ground := Ground.phase }, { on := 3, ground := Ground.phase }, { on := 4, ground := Ground.phase }, { on := 5, ground := Ground.phase }, { on := 6, ground := Ground.phase }, { on := 7, ground := Ground.phase }, { on := 8, ground := Ground.phase }], guard := none }, { dst := some 10, op := Op.assign (Operand.const (Value.int IntKind.i64 0)), type := 40, pos := "cpu.go:47", after := #[{ on := 9, ground := Ground.chain }, { on := 0, ground := Ground.phase }, { on := 1, ground := Ground.phase }, { on := 2, ground := Ground.phase }, { on := 3, ground := Ground.phase }, { on := 4, ground := Ground.phase }, { on := 5, ground := Ground.phase }, { on := 6, ground := Ground.phase }, { on := 7, ground := Ground.phase }, { on := 8, ground := Ground.phase }, { on := 9, ground := Ground.phase }], guard := none }]
structure J12 (g r0 r1 r2 B z : Nat) (tc : Value) (w0 : World) (S0 KL : Array Value) (NL DL : List Value) (l : Array Bool) (a : Act) (w : World) : Prop where
  sz : a.tmps.size = 64
  df : a.defers = []
  s5 : a.tmps.getD 5 undef = .pointer (some ⟨r0, 0, none⟩)
  s8 : a.tmps.getD 8 undef = .pointer (some ⟨r1, 0, none⟩)
  s9 : a.tmps.getD 9 undef = .pointer (some ⟨r2, 0, none⟩)
  s13 : a.tmps.getD 13 undef = .pointer (some ⟨g, 0, none⟩)
  s14 : a.tmps.getD 14 undef = .int .u32 (z : Int)
  t0 : l.getD 0 false = true → a.tmps.getD 48 undef = .agg S0
  t1 : l.getD 1 false = true → a.tmps.getD 49 undef = .int .u32 (z : Int)
  t2 : l.getD 2 false = true → a.tmps.getD 50 undef = .agg NL.toArray
  t3 : l.getD 3 false = true → a.tmps.getD 51 undef = .int .u32 (z : Int)
  t4 : l.getD 4 false = true → a.tmps.getD 52 undef = .pointer (some ⟨g, 309, none⟩)
  t5 : l.getD 5 false = true → a.tmps.getD 53 undef = .pointer (some ⟨g, 310, none⟩)
  t6 : l.getD 6 false = true → a.tmps.getD 54 undef = tc
  t7 : l.getD 7 false = true → a.tmps.getD 55 undef = .agg DL.toArray
  t10 : l.getD 10 false = true → a.tmps.getD 10 undef = .int .i64 0
  A : Blk w r0 34 S0
  G : Blk w g 78 KL
  R : ∃ C, Blk w r1 34 C ∧ C.size = 151 ∧ (l.getD 8 false = true → C = NL.toArray)
  D : ∃ C, Blk w r2 39 C ∧ C.size = 5 ∧ (l.getD 9 false = true → C = DL.toArray)
  o : Below B w0 w
theorem ends12 : allB 11 (fun l => !(Region.ready .any O12 l.toArray).isEmpty || l.all id) = true := by kernel_rfl
theorem tail12 (g r0 r1 r2 B z : Nat) (tc : Value) (w0 : World) (S0 KL ZA DA : Array Value) (NL DL : List Value) (a : Act) (w : World) (Q : Exit → Act → World → Prop) (h1 : r1 ≠ g) (h2 : r2 ≠ g) (h12 : r1 ≠ r2) (h01 : r0 ≠ r1) (h02 : r0 ≠ r2) (hB1 : B ≤ r1) (hB2 : B ≤ r2)
    (hN : NL.length = 151) (hD : DL.length = 5) (hN1 : NL.toArray.all (·.oneCell') = true) (hD1 : DL.toArray.all (·.oneCell') = true) (hS : S0.size = 151)
    (hKC : KL[310]? = some tc) (hb41 : Tryz.prog.built 39 [(0, .int .u32 (z : Int)), (1, tc)] = some DL.toArray)
    (K29 : ∀ W, Calls Tryz.prog 17 #[.agg S0, .int .u32 (z : Int)] W fun e w' => e = .returned (.agg NL.toArray) ∧ Below W.heap.size W w')
    (sz : a.tmps.size = 64) (df : a.defers = []) (s5 : a.tmps.getD 5 undef = .pointer (some ⟨r0, 0, none⟩)) (s8 : a.tmps.getD 8 undef = .pointer (some ⟨r1, 0, none⟩)) (s9 : a.tmps.getD 9 undef = .pointer (some ⟨r2, 0, none⟩)) (s13 : a.tmps.getD 13 undef = .pointer (some ⟨g, 0, none⟩)) (s14 : a.tmps.getD 14 undef = .int .u32 (z : Int))
    (hA : Blk w r0 34 S0) (hG : Blk w g 78 KL) (hR : Blk w r1 34 ZA) (hRs : ZA.size = 151) (hDD : Blk w r2 39 DA) (hDs : DA.size = 5) (ho : Below B w0 w)
    (hQ : ∀ a' w', a'.defers = [] → a'.tmps.getD 8 undef = .pointer (some ⟨r1, 0, none⟩) → a'.tmps.getD 9 undef = .pointer (some ⟨r2, 0, none⟩) → a'.tmps.getD 10 undef = .int .i64 0 → Blk w' r1 34 NL.toArray → Blk w' r2 39 DL.toArray → Below B w0 w' → Q .normal a' w') :
    (Code.region 12 O12 true).wp Tryz.prog Q a w := by
  refine wp_region_inv (by kernel_rfl) (J12 g r0 r1 r2 B z tc w0 S0 KL NL DL) ?_ ?_ ?_
  · exact ⟨sz, df, s5, s8, s9, s13, s14, fun q => absurd q (by decide), fun q => absurd q (by decide), fun q => absurd q (by decide), fun q => absurd q (by decide), fun q => absurd q (by decide), fun q => absurd q (by decide), fun q => absurd q (by decide), fun q => absurd q (by decide), fun q => absurd q (by decide), hA, hG, ⟨ZA, hR, hRs, fun q => absurd q (by decide)⟩, ⟨DA, hDD, hDs, fun q => absurd q (by decide)⟩, ho.drew⟩
  · intro l a w i hsz hi h
    have hsz11 : l.size = 11 := hsz
    obtain ⟨hun, op, hop, hpre⟩ := mem_ready.1 hi
    have hi11 : i < 11 := (Array.getElem?_eq_some_iff.1 hop).1
    clear hi
    have : i = 0 ∨ i = 1 ∨ i = 2 ∨ i = 3 ∨ i = 4 ∨ i = 5 ∨ i = 6 ∨ i = 7 ∨ i = 8 ∨ i = 9 ∨ i = 10 := by omega
    rcases this with rfl | rfl | rfl | rfl | rfl | rfl | rfl | rfl | rfl | rfl | rfl
    · refine wpOp_of rfl rfl (wp_load_row 34 (.tmp 5) rfl r0 h.s5 34 S0 (0, 0) _ h.A Tryz.underlying34 rfl (by rw [info32s, hS]) ?_)
      show J12 g r0 r1 r2 B z tc w0 S0 KL NL DL (l.setIfInBounds 0 true) (a.put (some 48) (.agg S0)) w
      exact ⟨by rw [put_size]; exact h.sz, h.df, by rw [put_at, if_neg (by omega)]; exact h.s5, by rw [put_at, if_neg (by omega)]; exact h.s8, by rw [put_at, if_neg (by omega)]; exact h.s9, by rw [put_at, if_neg (by omega)]; exact h.s13, by rw [put_at, if_neg (by omega)]; exact h.s14, fun _ => by rw [put_at, if_pos ⟨rfl, by rw [h.sz]; decide⟩], fun q => by rw [put_at, if_neg (by omega)]; exact h.t1 (by rw [set_at, if_neg (by omega)] at q; exact q), fun q => by rw [put_at, if_neg (by omega)]; exact h.t2 (by rw [set_at, if_neg (by omega)] at q; exact q), fun q => by rw [put_at, if_neg (by omega)]; exact h.t3 (by rw [set_at, if_neg (by omega)] at q; exact q), fun q => by rw [put_at, if_neg (by omega)]; exact h.t4 (by rw [set_at, if_neg (by omega)] at q; exact q), fun q => by rw [put_at, if_neg (by omega)]; exact h.t5 (by rw [set_at, if_neg (by omega)] at q; exact q), fun q => by rw [put_at, if_neg (by omega)]; exact h.t6 (by rw [set_at, if_neg (by omega)] at q; exact q), fun q => by rw [put_at, if_neg (by omega)]; exact h.t7 (by rw [set_at, if_neg (by omega)] at q; exact q), fun q => by rw [put_at, if_neg (by omega)]; exact h.t10 (by rw [set_at, if_neg (by omega)] at q; exact q), h.A, h.G, (by obtain ⟨C, c1, c2, c3⟩ := h.R; exact ⟨C, c1, c2, fun q => c3 (by rw [set_at, if_neg (by omega)] at q; exact q)⟩), (by obtain ⟨C, c1, c2, c3⟩ := h.D; exact ⟨C, c1, c2, fun q => c3 (by rw [set_at, if_neg (by omega)] at q; exact q)⟩), h.o⟩
    · refine wpOp_of rfl rfl ?_
      unfold Oper.wp
      rw [show (execOp a.eval O12[1]).run Tryz.prog w = .ok (.value (a.tmps.getD 14 undef)) w from rfl, h.s14]
      show J12 g r0 r1 r2 B z tc w0 S0 KL NL DL (l.setIfInBounds 1 true) (a.put (some 49) (.int .u32 (z : Int))) w
      exact ⟨by rw [put_size]; exact h.sz, h.df, by rw [put_at, if_neg (by omega)]; exact h.s5, by rw [put_at, if_neg (by omega)]; exact h.s8, by rw [put_at, if_neg (by omega)]; exact h.s9, by rw [put_at, if_neg (by omega)]; exact h.s13, by rw [put_at, if_neg (by omega)]; exact h.s14, fun q => by rw [put_at, if_neg (by omega)]; exact h.t0 (by rw [set_at, if_neg (by omega)] at q; exact q), fun _ => by rw [put_at, if_pos ⟨rfl, by rw [h.sz]; decide⟩], fun q => by rw [put_at, if_neg (by omega)]; exact h.t2 (by rw [set_at, if_neg (by omega)] at q; exact q), fun q => by rw [put_at, if_neg (by omega)]; exact h.t3 (by rw [set_at, if_neg (by omega)] at q; exact q), fun q => by rw [put_at, if_neg (by omega)]; exact h.t4 (by rw [set_at, if_neg (by omega)] at q; exact q), fun q => by rw [put_at, if_neg (by omega)]; exact h.t5 (by rw [set_at, if_neg (by omega)] at q; exact q), fun q => by rw [put_at, if_neg (by omega)]; exact h.t6 (by rw [set_at, if_neg (by omega)] at q; exact q), fun q => by rw [put_at, if_neg (by omega)]; exact h.t7 (by rw [set_at, if_neg (by omega)] at q; exact q), fun q => by rw [put_at, if_neg (by omega)]; exact h.t10 (by rw [set_at, if_neg (by omega)] at q; exact q), h.A, h.G, (by obtain ⟨C, c1, c2, c3⟩ := h.R; exact ⟨C, c1, c2, fun q => c3 (by rw [set_at, if_neg (by omega)] at q; exact q)⟩), (by obtain ⟨C, c1, c2, c3⟩ := h.D; exact ⟨C, c1, c2, fun q => c3 (by rw [set_at, if_neg (by omega)] at q; exact q)⟩), h.o⟩
    · have q0 : l.getD 0 false = true := by
        cases hop
        exact hpre ⟨0, .data⟩ (Array.mem_of_getElem? (i := 0) rfl) rfl
      have q1 : l.getD 1 false = true := by
        cases hop
        exact hpre ⟨1, .data⟩ (Array.mem_of_getElem? (i := 1) rfl) rfl
      refine wpOp_of rfl rfl ?_
      unfold Oper.wp
      rw [call29 a _ w rfl, show a.eval (.tmp 48) = .agg S0 from h.t0 q0, show a.eval (.tmp 49) = .int .u32 (z : Int) from h.t1 q1]
      refine (K29 w).mono ?_
      rintro _ w' ⟨rfl, hb⟩
      have hBw : B ≤ w.heap.size := by obtain ⟨C, c1, -, -⟩ := h.R; have := c1.lt; omega
      show J12 g r0 r1 r2 B z tc w0 S0 KL NL DL (l.setIfInBounds 2 true) (a.put (some 50) (.agg NL.toArray)) w'
      exact ⟨by rw [put_size]; exact h.sz, h.df, by rw [put_at, if_neg (by omega)]; exact h.s5, by rw [put_at, if_neg (by omega)]; exact h.s8, by rw [put_at, if_neg (by omega)]; exact h.s9, by rw [put_at, if_neg (by omega)]; exact h.s13, by rw [put_at, if_neg (by omega)]; exact h.s14, fun q => by rw [put_at, if_neg (by omega)]; exact h.t0 (by rw [set_at, if_neg (by omega)] at q; exact q), fun q => by rw [put_at, if_neg (by omega)]; exact h.t1 (by rw [set_at, if_neg (by omega)] at q; exact q), fun _ => by rw [put_at, if_pos ⟨rfl, by rw [h.sz]; decide⟩], fun q => by rw [put_at, if_neg (by omega)]; exact h.t3 (by rw [set_at, if_neg (by omega)] at q; exact q), fun q => by rw [put_at, if_neg (by omega)]; exact h.t4 (by rw [set_at, if_neg (by omega)] at q; exact q), fun q => by rw [put_at, if_neg (by omega)]; exact h.t5 (by rw [set_at, if_neg (by omega)] at q; exact q), fun q => by rw [put_at, if_neg (by omega)]; exact h.t6 (by rw [set_at, if_neg (by omega)] at q; exact q), fun q => by rw [put_at, if_neg (by omega)]; exact h.t7 (by rw [set_at, if_neg (by omega)] at q; exact q), fun q => by rw [put_at, if_neg (by omega)]; exact h.t10 (by rw [set_at, if_neg (by omega)] at q; exact q), h.A.below hb h.A.lt, h.G.below hb h.G.lt, (by obtain ⟨C, c1, c2, c3⟩ := h.R; exact ⟨C, c1.below hb c1.lt, c2, fun q => c3 (by rw [set_at, if_neg (by omega)] at q; exact q)⟩), (by obtain ⟨C, c1, c2, c3⟩ := h.D; exact ⟨C, c1.below hb c1.lt, c2, fun q => c3 (by rw [set_at, if_neg (by omega)] at q; exact q)⟩), h.o.trans (hb.mono hBw)⟩
    · refine wpOp_of rfl rfl ?_
      unfold Oper.wp
      rw [show (execOp a.eval O12[3]).run Tryz.prog w = .ok (.value (a.tmps.getD 14 undef)) w from rfl, h.s14]
      show J12 g r0 r1 r2 B z tc w0 S0 KL NL DL (l.setIfInBounds 3 true) (a.put (some 51) (.int .u32 (z : Int))) w
      exact ⟨by rw [put_size]; exact h.sz, h.df, by rw [put_at, if_neg (by omega)]; exact h.s5, by rw [put_at, if_neg (by omega)]; exact h.s8, by rw [put_at, if_neg (by omega)]; exact h.s9, by rw [put_at, if_neg (by omega)]; exact h.s13, by rw [put_at, if_neg (by omega)]; exact h.s14, fun q => by rw [put_at, if_neg (by omega)]; exact h.t0 (by rw [set_at, if_neg (by omega)] at q; exact q), fun q => by rw [put_at, if_neg (by omega)]; exact h.t1 (by rw [set_at, if_neg (by omega)] at q; exact q), fun q => by rw [put_at, if_neg (by omega)]; exact h.t2 (by rw [set_at, if_neg (by omega)] at q; exact q), fun _ => by rw [put_at, if_pos ⟨rfl, by rw [h.sz]; decide⟩], fun q => by rw [put_at, if_neg (by omega)]; exact h.t4 (by rw [set_at, if_neg (by omega)] at q; exact q), fun q => by rw [put_at, if_neg (by omega)]; exact h.t5 (by rw [set_at, if_neg (by omega)] at q; exact q), fun q => by rw [put_at, if_neg (by omega)]; exact h.t6 (by rw [set_at, if_neg (by omega)] at q; exact q), fun q => by rw [put_at, if_neg (by omega)]; exact h.t7 (by rw [set_at, if_neg (by omega)] at q; exact q), fun q => by rw [put_at, if_neg (by omega)]; exact h.t10 (by rw [set_at, if_neg (by omega)] at q; exact q), h.A, h.G, (by obtain ⟨C, c1, c2, c3⟩ := h.R; exact ⟨C, c1, c2, fun q => c3 (by rw [set_at, if_neg (by omega)] at q; exact q)⟩), (by obtain ⟨C, c1, c2, c3⟩ := h.D; exact ⟨C, c1, c2, fun q => c3 (by rw [set_at, if_neg (by omega)] at q; exact q)⟩), h.o⟩
    · refine wpOp_of rfl rfl ?_
      unfold Oper.wp
      rw [fa309 a.eval g _ w rfl h.s13]
      show J12 g r0 r1 r2 B z tc w0 S0 KL NL DL (l.setIfInBounds 4 true) (a.put (some 52) (.pointer (some ⟨g, 309, none⟩))) w
      exact ⟨by rw [put_size]; exact h.sz, h.df, by rw [put_at, if_neg (by omega)]; exact h.s5, by rw [put_at, if_neg (by omega)]; exact h.s8, by rw [put_at, if_neg (by omega)]; exact h.s9, by rw [put_at, if_neg (by omega)]; exact h.s13, by rw [put_at, if_neg (by omega)]; exact h.s14, fun q => by rw [put_at, if_neg (by omega)]; exact h.t0 (by rw [set_at, if_neg (by omega)] at q; exact q), fun q => by rw [put_at, if_neg (by omega)]; exact h.t1 (by rw [set_at, if_neg (by omega)] at q; exact q), fun q => by rw [put_at, if_neg (by omega)]; exact h.t2 (by rw [set_at, if_neg (by omega)] at q; exact q), fun q => by rw [put_at, if_neg (by omega)]; exact h.t3 (by rw [set_at, if_neg (by omega)] at q; exact q), fun _ => by rw [put_at, if_pos ⟨rfl, by rw [h.sz]; decide⟩], fun q => by rw [put_at, if_neg (by omega)]; exact h.t5 (by rw [set_at, if_neg (by omega)] at q; exact q), fun q => by rw [put_at, if_neg (by omega)]; exact h.t6 (by rw [set_at, if_neg (by omega)] at q; exact q), fun q => by rw [put_at, if_neg (by omega)]; exact h.t7 (by rw [set_at, if_neg (by omega)] at q; exact q), fun q => by rw [put_at, if_neg (by omega)]; exact h.t10 (by rw [set_at, if_neg (by omega)] at q; exact q), h.A, h.G, (by obtain ⟨C, c1, c2, c3⟩ := h.R; exact ⟨C, c1, c2, fun q => c3 (by rw [set_at, if_neg (by omega)] at q; exact q)⟩), (by obtain ⟨C, c1, c2, c3⟩ := h.D; exact ⟨C, c1, c2, fun q => c3 (by rw [set_at, if_neg (by omega)] at q; exact q)⟩), h.o⟩
    · have q0 : l.getD 4 false = true := by
        cases hop
        exact hpre ⟨4, .data⟩ (Array.mem_of_getElem? (i := 0) rfl) rfl
      refine wpOp_of rfl rfl ?_
      unfold Oper.wp
      rw [fa310 a.eval g _ w rfl (h.t4 q0)]
      show J12 g r0 r1 r2 B z tc w0 S0 KL NL DL (l.setIfInBounds 5 true) (a.put (some 53) (.pointer (some ⟨g, 310, none⟩))) w
      exact ⟨by rw [put_size]; exact h.sz, h.df, by rw [put_at, if_neg (by omega)]; exact h.s5, by rw [put_at, if_neg (by omega)]; exact h.s8, by rw [put_at, if_neg (by omega)]; exact h.s9, by rw [put_at, if_neg (by omega)]; exact h.s13, by rw [put_at, if_neg (by omega)]; exact h.s14, fun q => by rw [put_at, if_neg (by omega)]; exact h.t0 (by rw [set_at, if_neg (by omega)] at q; exact q), fun q => by rw [put_at, if_neg (by omega)]; exact h.t1 (by rw [set_at, if_neg (by omega)] at q; exact q), fun q => by rw [put_at, if_neg (by omega)]; exact h.t2 (by rw [set_at, if_neg (by omega)] at q; exact q), fun q => by rw [put_at, if_neg (by omega)]; exact h.t3 (by rw [set_at, if_neg (by omega)] at q; exact q), fun q => by rw [put_at, if_neg (by omega)]; exact h.t4 (by rw [set_at, if_neg (by omega)] at q; exact q), fun _ => by rw [put_at, if_pos ⟨rfl, by rw [h.sz]; decide⟩], fun q => by rw [put_at, if_neg (by omega)]; exact h.t6 (by rw [set_at, if_neg (by omega)] at q; exact q), fun q => by rw [put_at, if_neg (by omega)]; exact h.t7 (by rw [set_at, if_neg (by omega)] at q; exact q), fun q => by rw [put_at, if_neg (by omega)]; exact h.t10 (by rw [set_at, if_neg (by omega)] at q; exact q), h.A, h.G, (by obtain ⟨C, c1, c2, c3⟩ := h.R; exact ⟨C, c1, c2, fun q => c3 (by rw [set_at, if_neg (by omega)] at q; exact q)⟩), (by obtain ⟨C, c1, c2, c3⟩ := h.D; exact ⟨C, c1, c2, fun q => c3 (by rw [set_at, if_neg (by omega)] at q; exact q)⟩), h.o⟩
    · have q0 : l.getD 5 false = true := by
        cases hop
        exact hpre ⟨5, .data⟩ (Array.mem_of_getElem? (i := 0) rfl) rfl
      refine wpOp_of rfl rfl ?_
      unfold Oper.wp
      rw [ld39 a.eval ⟨g, 310, none⟩ tc _ w rfl (h.t5 q0) (by rw [Blk.cell h.G]; exact hKC)]
      show J12 g r0 r1 r2 B z tc w0 S0 KL NL DL (l.setIfInBounds 6 true) (a.put (some 54) (tc)) w
      exact ⟨by rw [put_size]; exact h.sz, h.df, by rw [put_at, if_neg (by omega)]; exact h.s5, by rw [put_at, if_neg (by omega)]; exact h.s8, by rw [put_at, if_neg (by omega)]; exact h.s9, by rw [put_at, if_neg (by omega)]; exact h.s13, by rw [put_at, if_neg (by omega)]; exact h.s14, fun q => by rw [put_at, if_neg (by omega)]; exact h.t0 (by rw [set_at, if_neg (by omega)] at q; exact q), fun q => by rw [put_at, if_neg (by omega)]; exact h.t1 (by rw [set_at, if_neg (by omega)] at q; exact q), fun q => by rw [put_at, if_neg (by omega)]; exact h.t2 (by rw [set_at, if_neg (by omega)] at q; exact q), fun q => by rw [put_at, if_neg (by omega)]; exact h.t3 (by rw [set_at, if_neg (by omega)] at q; exact q), fun q => by rw [put_at, if_neg (by omega)]; exact h.t4 (by rw [set_at, if_neg (by omega)] at q; exact q), fun q => by rw [put_at, if_neg (by omega)]; exact h.t5 (by rw [set_at, if_neg (by omega)] at q; exact q), fun _ => by rw [put_at, if_pos ⟨rfl, by rw [h.sz]; decide⟩], fun q => by rw [put_at, if_neg (by omega)]; exact h.t7 (by rw [set_at, if_neg (by omega)] at q; exact q), fun q => by rw [put_at, if_neg (by omega)]; exact h.t10 (by rw [set_at, if_neg (by omega)] at q; exact q), h.A, h.G, (by obtain ⟨C, c1, c2, c3⟩ := h.R; exact ⟨C, c1, c2, fun q => c3 (by rw [set_at, if_neg (by omega)] at q; exact q)⟩), (by obtain ⟨C, c1, c2, c3⟩ := h.D; exact ⟨C, c1, c2, fun q => c3 (by rw [set_at, if_neg (by omega)] at q; exact q)⟩), h.o⟩
    · have q0 : l.getD 3 false = true := by
        cases hop
        exact hpre ⟨3, .data⟩ (Array.mem_of_getElem? (i := 0) rfl) rfl
      have q1 : l.getD 6 false = true := by
        cases hop
        exact hpre ⟨6, .data⟩ (Array.mem_of_getElem? (i := 1) rfl) rfl
      refine wpOp_of rfl rfl (wp_buildE 39 [(0, .tmp 51), (1, .tmp 54)] rfl DL.toArray ?_ ?_)
      · show Tryz.prog.built 39 [(0, a.tmps.getD 51 undef), (1, a.tmps.getD 54 undef)] = _
        rw [h.t3 q0, h.t6 q1]
        exact hb41
      show J12 g r0 r1 r2 B z tc w0 S0 KL NL DL (l.setIfInBounds 7 true) (a.put (some 55) (.agg DL.toArray)) w
      exact ⟨by rw [put_size]; exact h.sz, h.df, by rw [put_at, if_neg (by omega)]; exact h.s5, by rw [put_at, if_neg (by omega)]; exact h.s8, by rw [put_at, if_neg (by omega)]; exact h.s9, by rw [put_at, if_neg (by omega)]; exact h.s13, by rw [put_at, if_neg (by omega)]; exact h.s14, fun q => by rw [put_at, if_neg (by omega)]; exact h.t0 (by rw [set_at, if_neg (by omega)] at q; exact q), fun q => by rw [put_at, if_neg (by omega)]; exact h.t1 (by rw [set_at, if_neg (by omega)] at q; exact q), fun q => by rw [put_at, if_neg (by omega)]; exact h.t2 (by rw [set_at, if_neg (by omega)] at q; exact q), fun q => by rw [put_at, if_neg (by omega)]; exact h.t3 (by rw [set_at, if_neg (by omega)] at q; exact q), fun q => by rw [put_at, if_neg (by omega)]; exact h.t4 (by rw [set_at, if_neg (by omega)] at q; exact q), fun q => by rw [put_at, if_neg (by omega)]; exact h.t5 (by rw [set_at, if_neg (by omega)] at q; exact q), fun q => by rw [put_at, if_neg (by omega)]; exact h.t6 (by rw [set_at, if_neg (by omega)] at q; exact q), fun _ => by rw [put_at, if_pos ⟨rfl, by rw [h.sz]; decide⟩], fun q => by rw [put_at, if_neg (by omega)]; exact h.t10 (by rw [set_at, if_neg (by omega)] at q; exact q), h.A, h.G, (by obtain ⟨C, c1, c2, c3⟩ := h.R; exact ⟨C, c1, c2, fun q => c3 (by rw [set_at, if_neg (by omega)] at q; exact q)⟩), (by obtain ⟨C, c1, c2, c3⟩ := h.D; exact ⟨C, c1, c2, fun q => c3 (by rw [set_at, if_neg (by omega)] at q; exact q)⟩), h.o⟩
    · have q0 : l.getD 2 false = true := by
        cases hop
        exact hpre ⟨2, .data⟩ (Array.mem_of_getElem? (i := 0) rfl) rfl
      obtain ⟨C, c1, c2, c3⟩ := h.R
      refine wpOp_of rfl rfl (wp_store_row 34 (.tmp 8) (.tmp 50) rfl r1 NL.toArray h.s8 (h.t2 q0) 34 C c1 (by rw [info32s, List.size_toArray, hN]) (by rw [c2, List.size_toArray, hN]) hN1 ?_)
      show J12 g r0 r1 r2 B z tc w0 S0 KL NL DL (l.setIfInBounds 8 true) a (w.setRow r1 NL.toArray)
      refine ⟨h.sz, h.df, h.s5, h.s8, h.s9, h.s13, h.s14, fun q => h.t0 (by rw [set_at, if_neg (by omega)] at q; exact q), fun q => h.t1 (by rw [set_at, if_neg (by omega)] at q; exact q), fun q => h.t2 (by rw [set_at, if_neg (by omega)] at q; exact q), fun q => h.t3 (by rw [set_at, if_neg (by omega)] at q; exact q), fun q => h.t4 (by rw [set_at, if_neg (by omega)] at q; exact q), fun q => h.t5 (by rw [set_at, if_neg (by omega)] at q; exact q), fun q => h.t6 (by rw [set_at, if_neg (by omega)] at q; exact q), fun q => h.t7 (by rw [set_at, if_neg (by omega)] at q; exact q), fun q => h.t10 (by rw [set_at, if_neg (by omega)] at q; exact q), (only_row _ _ _).blk h01 h.A, (only_row _ _ _).blk (Ne.symm h1) h.G, ⟨NL.toArray, blk_row c1 _, by rw [List.size_toArray, hN], fun _ => rfl⟩, ?_, below_setRow h.o hB1 _⟩
      obtain ⟨E, e1, e2, e3⟩ := h.D
      exact ⟨E, (only_row _ _ _).blk (Ne.symm h12) e1, e2, fun q => e3 (by rw [set_at, if_neg (by omega)] at q; exact q)⟩
    · have q0 : l.getD 7 false = true := by
        cases hop
        exact hpre ⟨7, .data⟩ (Array.mem_of_getElem? (i := 0) rfl) rfl
      obtain ⟨C, c1, c2, c3⟩ := h.D
      refine wpOp_of rfl rfl (wp_store_row 39 (.tmp 9) (.tmp 55) rfl r2 DL.toArray h.s9 (h.t7 q0) 39 C c1 (by rw [info41s, List.size_toArray, hD]) (by rw [c2, List.size_toArray, hD]) hD1 ?_)
      show J12 g r0 r1 r2 B z tc w0 S0 KL NL DL (l.setIfInBounds 9 true) a (w.setRow r2 DL.toArray)
      refine ⟨h.sz, h.df, h.s5, h.s8, h.s9, h.s13, h.s14, fun q => h.t0 (by rw [set_at, if_neg (by omega)] at q; exact q), fun q => h.t1 (by rw [set_at, if_neg (by omega)] at q; exact q), fun q => h.t2 (by rw [set_at, if_neg (by omega)] at q; exact q), fun q => h.t3 (by rw [set_at, if_neg (by omega)] at q; exact q), fun q => h.t4 (by rw [set_at, if_neg (by omega)] at q; exact q), fun q => h.t5 (by rw [set_at, if_neg (by omega)] at q; exact q), fun q => h.t6 (by rw [set_at, if_neg (by omega)] at q; exact q), fun q => h.t7 (by rw [set_at, if_neg (by omega)] at q; exact q), fun q => h.t10 (by rw [set_at, if_neg (by omega)] at q; exact q), (only_row _ _ _).blk h02 h.A, (only_row _ _ _).blk (Ne.symm h2) h.G, ?_, ⟨DL.toArray, blk_row c1 _, by rw [List.size_toArray, hD], fun _ => rfl⟩, below_setRow h.o hB2 _⟩
      obtain ⟨E, e1, e2, e3⟩ := h.R
      exact ⟨E, (only_row _ _ _).blk h12 e1, e2, fun q => e3 (by rw [set_at, if_neg (by omega)] at q; exact q)⟩
    · refine wpOp_of rfl rfl ?_
      show J12 g r0 r1 r2 B z tc w0 S0 KL NL DL (l.setIfInBounds 10 true) (a.put (some 10) (.int .i64 0)) w
      exact ⟨by rw [put_size]; exact h.sz, h.df, by rw [put_at, if_neg (by omega)]; exact h.s5, by rw [put_at, if_neg (by omega)]; exact h.s8, by rw [put_at, if_neg (by omega)]; exact h.s9, by rw [put_at, if_neg (by omega)]; exact h.s13, by rw [put_at, if_neg (by omega)]; exact h.s14, fun q => by rw [put_at, if_neg (by omega)]; exact h.t0 (by rw [set_at, if_neg (by omega)] at q; exact q), fun q => by rw [put_at, if_neg (by omega)]; exact h.t1 (by rw [set_at, if_neg (by omega)] at q; exact q), fun q => by rw [put_at, if_neg (by omega)]; exact h.t2 (by rw [set_at, if_neg (by omega)] at q; exact q), fun q => by rw [put_at, if_neg (by omega)]; exact h.t3 (by rw [set_at, if_neg (by omega)] at q; exact q), fun q => by rw [put_at, if_neg (by omega)]; exact h.t4 (by rw [set_at, if_neg (by omega)] at q; exact q), fun q => by rw [put_at, if_neg (by omega)]; exact h.t5 (by rw [set_at, if_neg (by omega)] at q; exact q), fun q => by rw [put_at, if_neg (by omega)]; exact h.t6 (by rw [set_at, if_neg (by omega)] at q; exact q), fun q => by rw [put_at, if_neg (by omega)]; exact h.t7 (by rw [set_at, if_neg (by omega)] at q; exact q), fun _ => by rw [put_at, if_pos ⟨rfl, by rw [h.sz]; decide⟩], h.A, h.G, (by obtain ⟨C, c1, c2, c3⟩ := h.R; exact ⟨C, c1, c2, fun q => c3 (by rw [set_at, if_neg (by omega)] at q; exact q)⟩), (by obtain ⟨C, c1, c2, c3⟩ := h.D; exact ⟨C, c1, c2, fun q => c3 (by rw [set_at, if_neg (by omega)] at q; exact q)⟩), h.o⟩
  · intro l a w hsz hr h
    have hsz11 : l.size = 11 := hsz
    have hall := allB_at 11 _ ends12 l.toList (by simpa using hsz11)
    simp only [Array.toArray_toList, hr, List.isEmpty_nil, Bool.not_true, Bool.false_or] at hall
    have hat : ∀ i, i < 11 → l.getD i false = true := fun i hi => by
      have hi' : i < l.toList.length := by simpa [hsz11] using hi
      have := (List.all_eq_true.1 hall) l.toList[i] (List.getElem_mem hi')
      simpa [hsz11, hi] using this
    obtain ⟨C, c1, c2, c3⟩ := h.R
    obtain ⟨E, e1, e2, e3⟩ := h.D
    have hc := c3 (hat 8 (by decide))
    have he := e3 (hat 9 (by decide))
    subst hc he
    exact hQ a w h.df h.s8 h.s9 (h.t10 (hat 10 (by decide))) c1 e1 h.o
end Go.Proofs.YtmanoheofloimaaGreatDoor
