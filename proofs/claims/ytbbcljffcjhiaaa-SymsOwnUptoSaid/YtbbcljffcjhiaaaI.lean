import Derived.Test.YtbbcljffcjhiaaaH
import Derived.Maps.OwnOps
import Derived.Maps.OwnSet
import Derived.Maps.Views
import Derived.StringKeys
namespace Go.Proofs.Ytbbcljffcjhiaaa
open Go.ChangeShapes Go.WideShapes Go.ChangeAt Go.RowKit
set_option linter.unusedVariables false
set_option linter.unusedSimpArgs false
theorem law9 : Maps.Keyed Try.prog 9 := Maps.string_keyed Try.underlying9
theorem zero3 (w : World) : (zeroValue 3).run Try.prog w = .ok (.int .i64 0) w := by kernel_rfl
theorem key9 (s : ByteArray) (h : s.size ≤ 9223372036854775807) : keyOf Try.prog 9 (.string s) = some (.string s.data.toList) := WideMaps.keyOf_string_mk Try.underlying9 (by unfold maxLen; exact h)
/-- what is loaded: one object of two symbols -/
def Lo (w : World) (lb sb : Nat) : Prop := lb < w.heap.size ∧ sb < w.heap.size ∧ (∀ j v, ([.string ⟨#[]⟩, .slice none 0 0, .slice (some ⟨sb, 0, none⟩) 2 2, .slice none 0 0] : List Value)[j]? = some v → w.cell? ⟨lb, j, none⟩ = some v) ∧
  (∀ j v, (yF ++ yS)[j]? = some v → w.cell? ⟨sb, j, none⟩ = some v)
theorem Lo.below {w w' : World} {lb sb : Nat} (h : Lo w lb sb) (hb : Below w.heap.size w w') : Lo w' lb sb :=
  ⟨Nat.lt_of_lt_of_le h.1 hb.size, Nat.lt_of_lt_of_le h.2.1 hb.size, fun j v hv => by rw [hb.cell (p := ⟨lb, j, none⟩) h.1]; exact h.2.2.1 j v hv, fun j v hv => by rw [hb.cell (p := ⟨sb, j, none⟩) h.2.1]; exact h.2.2.2 j v hv⟩
/-- how all stands: its map, its row -/
def Sy (w W : World) (k : Nat) (D : DataW Unit) (v : Value) (n : Nat) (xs : List Value) : Prop :=
  W.ownsMap Try.prog 9 (plainElem Try.prog 3) w.heap.size k D ∧ W.ownsRow (w.heap.size + 1) 74 12 v n xs ∧ Below w.heap.size w W
theorem Sy.below {w W W' : World} {k n : Nat} {D : DataW Unit} {v : Value} {xs : List Value} (h : Sy w W k D v n xs) (hb : Below W.heap.size W W') : Sy w W' k D v n xs :=
  ⟨h.1.kept (grown_of_below hb none) (by simp), h.2.1.kept (grown_of_below hb none) (by cases v <;> simp [Value.ownBlock] <;> (rename_i A _ _; cases A <;> simp)), h.2.2.trans (hb.mono h.2.2.size)⟩
theorem Sy.alloc {w W : World} {k n : Nat} {D : DataW Unit} {v : Value} {xs : List Value} (h : Sy w W k D v n xs) (o : Obj) : Sy w (W.alloc o) k D v n xs := h.below ((Below.refl _ _).alloc (Nat.le_refl _) _)
theorem Sy.drew {w W : World} {k n : Nat} {D : DataW Unit} {v : Value} {xs : List Value} (h : Sy w W k D v n xs) : Sy w W.drew k D v n xs := ⟨h.1.drew, h.2.1.drew, h.2.2.drew⟩
theorem sy_start (w : World) : Sy w (w.alloc (.map #[] 0)) 0 (.map []) (.slice none 0 0) 0 [] :=
  ⟨World.ownsMap_made w _ _ _, World.ownsRow_nil _ _ _ _, (Below.refl _ _).alloc (Nat.le_refl _) _⟩
theorem Sy.put {w W W' : World} {k n k' : Nat} {D D' : DataW Unit} {v : Value} {xs : List Value} (h : Sy w W k D v n xs) (hm : W'.ownsMap Try.prog 9 (plainElem Try.prog 3) w.heap.size k' D') (hg : W.grownBy W' (some w.heap.size)) : Sy w W' k' D' v n xs :=
  ⟨hm, h.2.1.kept hg (Or.inr (fun e => by have := (h.2.1.lt _ e).1; omega)), h.2.2.grown hg h.2.2.size (fun j hj => by cases hj; exact Nat.le_refl _)⟩
theorem Sy.row {w W W' : World} {k n n' : Nat} {D : DataW Unit} {v v' : Value} {xs xs' : List Value} (h : Sy w W k D v n xs) (hm : W'.ownsRow (w.heap.size + 1) 74 12 v' n' xs') (hg : W.grownBy W' v.ownBlock) : Sy w W' k D v' n' xs' :=
  ⟨h.1.kept hg (fun e => by have := (h.2.1.lt _ e.symm).1; omega), hm, h.2.2.grown hg h.2.2.size (fun j hj => by have := (h.2.1.lt _ hj).1; omega)⟩
theorem info74 : ∃ i, Try.prog.info? 74 = some i ∧ i.zero = some (.agg #[.string ⟨#[]⟩, .int .i64 0, .int .i64 0, .int .i64 0, .int .i64 0, .int .i64 0, .int .i64 0, .int .i64 0, .int .i64 0, .int .i64 0, .bool false, .bool false]) ∧ i.size = 12 ∧ i.bytes = 96 := by
  have h : (Try.prog.info? 74).map (fun i => (i.zero, i.size, i.bytes)) = some (some (.agg #[.string ⟨#[]⟩, .int .i64 0, .int .i64 0, .int .i64 0, .int .i64 0, .int .i64 0, .int .i64 0, .int .i64 0, .int .i64 0, .int .i64 0, .bool false, .bool false]), 12, 96) := by kernel_rfl
  cases hq : Try.prog.info? 74 with
  | none => rw [hq] at h; cases h
  | some i =>
    rw [hq] at h
    simp only [Option.map_some, Option.some.injEq, Prod.mk.injEq] at h
    exact ⟨i, rfl, h.1, h.2.1, h.2.2⟩
/-- a block known whole -/
def Bx (W : World) (b : Nat) (cs : Array Value) (t : Nat) : Prop := W.heap[b]? = some (.cells cs t (0, 0))
theorem Bx.grown {W W' : World} {b t : Nat} {cs : Array Value} {r : Option Nat} (h : Bx W b cs t) (hg : W.grownBy W' r) (hne : some b ≠ r) : Bx W' b cs t := (hg.block b (heap_lt h) hne).trans h
theorem Bx.below {W W' : World} {b t : Nat} {cs : Array Value} (h : Bx W b cs t) (hb : Below W.heap.size W W') : Bx W' b cs t := (hb.block b (heap_lt h)).trans h
theorem Bx.cell {W : World} {b t : Nat} {cs : Array Value} (h : Bx W b cs t) (j : Nat) : W.cell? ⟨b, j, none⟩ = cs[j]? := cell_of_row _ _ _ _ _ _ h
set_option maxRecDepth 100000 in
set_option maxHeartbeats 8000000 in
theorem f10 (w : World) (lb sb : Nat) (h : Lo w lb sb) : Calls Try.prog 10 #[.slice (some ⟨lb, 0, none⟩) 1 1] w fun e w' => ∃ g cap, e = .returned (.slice (some ⟨g, 0, none⟩) 2 cap) ∧ Two w' g ∧ Below w.heap.size w w' := by
  have HL : Hid (∀ W, Below w.heap.size w W → Lo W lb sb) := Lib.hid (fun W hW => h.below hW)
  have hb1 := (Below.refl w.heap.size w).alloc (Nat.le_refl _) (.map #[] 0)
  have p0 := (HL.out _ hb1).2.2.1 0 _ rfl
  have p1 := (HL.out _ hb1).2.2.1 1 _ rfl
  have p2 := (HL.out _ hb1).2.2.1 2 _ rfl
  have p3 := (HL.out _ hb1).2.2.1 3 _ rfl
  have hmm := @run_makeMap Try.prog
  have hlb := h.1
  have hsb := h.2.1
  clear h hb1
  have H20 := Lib.hid f20
  have H17 := Lib.hid f17
  obtain ⟨i0, hi0, hz0, hz1, hz2⟩ := info74
  have HI0 := Lib.hid hi0
  have HZ0 := Lib.hid hz0
  have HZ1 := Lib.hid hz1
  have HZ2 := Lib.hid hz2
  clear hi0 hz0 hz1 hz2
  go_enter Try.func10, Try.ntmps10
  go_wp2_with fail
  refine wp_loop_rounds 2 ?_
  rw [rounds_succ]
  go_wp2_with fail
  refine wp_loop_rounds 3 ?_
  rw [rounds_succ]
  have HS : Hid (Sy w ((w.alloc (.map #[] 0)).alloc (.cells #[.string ⟨#[]⟩, .slice none 0 0, .slice (some ⟨sb, 0, none⟩) 2 2, .slice none 0 0] 55)) 0 (.map []) (.slice none 0 0) 0 []) := Lib.hid ((sy_start w).alloc _)
  have hh : Maps.has (DataW.map [] : DataW Unit) (Lit.string [102]) = false := by rfl
  clear p0 p1 p2 p3 hmm
  generalize ((w.alloc (.map #[] 0)).alloc (.cells #[.string ⟨#[]⟩, .slice none 0 0, .slice (some ⟨sb, 0, none⟩) 2 2, .slice none 0 0] 55)) = W2 at *
  have s0 := (HL.out _ HS.out.2.2).2.2.2 0 _ rfl
  have s1 := (HL.out _ HS.out.2.2).2.2.2 1 _ rfl
  have s2 := (HL.out _ HS.out.2.2).2.2.2 2 _ rfl
  have s3 := (HL.out _ HS.out.2.2).2.2.2 3 _ rfl
  have s4 := (HL.out _ HS.out.2.2).2.2.2 4 _ rfl
  have s5 := (HL.out _ HS.out.2.2).2.2.2 5 _ rfl
  have s6 := (HL.out _ HS.out.2.2).2.2.2 6 _ rfl
  have HS3 : Hid (Sy w (W2.alloc (.cells #[.string ⟨#[102]⟩, .int .u32 0, .int .u32 0, .int .u8 1, .int .u8 0, .bool false, .int .i64 (-2)] 48)) 0 (.map []) (.slice none 0 0) 0 []) := Lib.hid (HS.out.alloc _)
  have HX3 : Hid (Bx (W2.alloc (.cells #[.string ⟨#[102]⟩, .int .u32 0, .int .u32 0, .int .u8 1, .int .u8 0, .bool false, .int .i64 (-2)] 48)) W2.heap.size #[.string ⟨#[102]⟩, .int .u32 0, .int .u32 0, .int .u8 1, .int .u8 0, .bool false, .int .i64 (-2)] 48) := Lib.hid (heap_alloc_new W2 _)
  have HO3 := Lib.hid HS3.out.1
  have HK := Lib.hid (key9 ⟨#[102]⟩ (by decide))
  have hne : W2.heap.size ≠ w.heap.size := by have := HS.out.1.lt; omega
  have HNE := Lib.hid hne
  have HQQ : Hid (∀ W, (W2.alloc (.cells #[.string ⟨#[102]⟩, .int .u32 0, .int .u32 0, .int .u8 1, .int .u8 0, .bool false, .int .i64 (-2)] 48)).grownBy W (some w.heap.size) → W.cell? ⟨W2.heap.size, 0, none⟩ = some (.string ⟨#[102]⟩)) := Lib.hid (fun W hg => (HX3.out.grown hg (by intro e; exact HNE.out (Option.some.inj e))).cell 0)
  go_wp2_with (first | (at_lookup; refine wpList_lookup_own_ok_int _ rfl _ _ 69 rfl 9 3 .i64 law9 Try.underlying69 Try.underlying3 (zero3 _) w.heap.size 0 (.map []) rfl HO3.out _ _ rfl HK.out ?_; intro c hat hwc) | (at_mapUpdate; refine wpList_mapUpdate_own _ rfl _ _ _ 69 rfl 9 3 law9 Try.underlying69 _ w.heap.size 0 (.map []) rfl HO3.out (by unfold maxLen; omega) _ _ _ rfl rfl HK.out _ [] (plainElem_int Try.underlying3 (by decide)) ?_; intro w1 hown1 hgrow1; have q := HQQ.out w1 hgrow1))
  have HS4 := Lib.hid (HS3.out.put hown1 hgrow1)
  have HX4 := Lib.hid (HX3.out.grown hgrow1 (by intro e; exact HNE.out (Option.some.inj e)))
  clear HQQ HS3 HX3 HO3 HK hown1 hgrow1 hne s0 s1 s2 s3 s4 s5 s6 hat hwc
  go_wp2_with fail
  with_reducible refine (H20.out _ _ (by decide)).mono ?_
  rintro _ w5 ⟨rfl, hb5⟩
  have HS5 := Lib.hid (HS4.out.below hb5)
  have HX5 := Lib.hid (HX4.out.below hb5)
  clear q HS4 HX4 hb5
  go_wp2_with fail
  with_reducible refine (H17.out _).mono ?_
  rintro _ w6 ⟨rfl, hb6⟩
  have HS6 := Lib.hid (HS5.out.below hb6)
  have HX6 := Lib.hid (HX5.out.below hb6)
  clear HS5 HX5 hb6
  go_wp2_with fail
  with_reducible refine (H17.out _).mono ?_
  rintro _ w7 ⟨rfl, hb7⟩
  have HS7 := Lib.hid (HS6.out.below hb7)
  have HX7 := Lib.hid (HX6.out.below hb7)
  clear HS6 HX6 hb7
  go_wp2_with fail
  with_reducible refine (H17.out _).mono ?_
  rintro _ w8 ⟨rfl, hb8⟩
  have HS8 := Lib.hid (HS7.out.below hb8)
  have HX8 := Lib.hid ((HX7.out.below hb8).below ((Below.refl _ _).alloc (Nat.le_refl _) (.cells #[.string ⟨#[102]⟩, .int .i64 (-1), .int .i64 0, .int .i64 (-1), .int .i64 (-1), .int .i64 0, .int .i64 (-1), .int .i64 (-1), .int .i64 0, .int .i64 (-1), .bool false, .bool false] 74)))
  have HS8a : Hid (Sy w (w8.alloc (.cells #[.string ⟨#[102]⟩, .int .i64 (-1), .int .i64 0, .int .i64 (-1), .int .i64 (-1), .int .i64 0, .int .i64 (-1), .int .i64 (-1), .int .i64 0, .int .i64 (-1), .bool false, .bool false] 74)) _ _ (.slice none 0 0) 0 []) := Lib.hid (HS8.out.alloc _)
  have HO8 := Lib.hid HS8a.out.2.1
  have HZB : Hid (w.heap.size + 1 ≤ (w8.alloc (.cells #[.string ⟨#[102]⟩, .int .i64 (-1), .int .i64 0, .int .i64 (-1), .int .i64 (-1), .int .i64 0, .int .i64 (-1), .int .i64 (-1), .int .i64 0, .int .i64 (-1), .bool false, .bool false] 74)).heap.size) := Lib.hid (by have := HS8a.out.1.lt; omega)
  clear HS7 HX7 hb8
  have HNL : Hid (0 + 1 ≤ maxLen) := Lib.hid (by unfold maxLen; omega)
  have HNB : Hid ((0 + 1) * 96 ≤ 140737488355328) := Lib.hid (by omega)
  have HNW : Hid (∀ j u, (#[.string ⟨#[102]⟩, .int .i64 (-1), .int .i64 0, .int .i64 (-1), .int .i64 (-1), .int .i64 0, .int .i64 (-1), .int .i64 (-1), .int .i64 0, .int .i64 (-1), .bool false, .bool false] : Array Value).toList[j]? = some u → (w8.alloc (.cells #[.string ⟨#[102]⟩, .int .i64 (-1), .int .i64 0, .int .i64 (-1), .int .i64 (-1), .int .i64 0, .int .i64 (-1), .int .i64 (-1), .int .i64 0, .int .i64 (-1), .bool false, .bool false] 74)).cell? ((⟨w8.heap.size, 0, none⟩ : Addr).add j) = some u) := Lib.hid (World.news_of_block (heap_alloc_new w8 (.cells #[.string ⟨#[102]⟩, .int .i64 (-1), .int .i64 0, .int .i64 (-1), .int .i64 (-1), .int .i64 0, .int .i64 (-1), .int .i64 (-1), .int .i64 0, .int .i64 (-1), .bool false, .bool false] 74)))
  have HOC : Hid (∀ u ∈ ([.string ⟨#[102]⟩, .int .i64 (-1), .int .i64 0, .int .i64 (-1), .int .i64 (-1), .int .i64 0, .int .i64 (-1), .int .i64 (-1), .int .i64 0, .int .i64 (-1), .bool false, .bool false] : List Value), u.oneCell' = true) := Lib.hid (by decide)
  go_wp2_with (at_builtin; refine wpList_append_lies _ (by rfl) _ _ 67 (by rfl) (w.heap.size + 1) 74 i0 _ 12 96 Try.underlying67 HI0.out HZ0.out HZ1.out HZ2.out rfl (by decide) (.slice none 0 0) 0 [] (by rfl) HO8.out ⟨w8.heap.size, 0, none⟩ 1 1 [.string ⟨#[102]⟩, .int .i64 (-1), .int .i64 0, .int .i64 (-1), .int .i64 (-1), .int .i64 0, .int .i64 (-1), .int .i64 (-1), .int .i64 0, .int .i64 (-1), .bool false, .bool false] (by rfl) rfl HNW.out HOC.out (by decide) HNL.out HNB.out HZB.out _ rfl ?_; intro g0 c0 w9 hown9 hgrow9 hat9 hlt9; have q0 := (HX8.out.grown hgrow9 (own_ne HO8.out HX8.out (by decide))).cell 0)
  clear HNL HNB HNW HOC
  have HS9 : Hid (Sy w w9 _ _ (.slice (some ⟨g0, 0, none⟩) 1 c0) 1 n0F) := Lib.hid (HS8a.out.row hown9 hgrow9)
  have HX9 := Lib.hid (HX8.out.grown hgrow9 (own_ne HO8.out HX8.out (by decide)))
  clear HS8 HX8 HS8a HO8 HZB hown9 hgrow9 hat9
  have HLIM : Hid (∀ W, Bx W W2.heap.size #[.string ⟨#[102]⟩, .int .u32 0, .int .u32 0, .int .u8 1, .int .u8 0, .bool false, .int .i64 (-2)] 48 → W.cell? ⟨W2.heap.size, 0, none⟩ = some (.string ⟨#[102]⟩) ∧ W.cell? ⟨W2.heap.size, 1, none⟩ = some (.int .u32 0) ∧ W.cell? ⟨W2.heap.size, 2, none⟩ = some (.int .u32 0) ∧ W.cell? ⟨W2.heap.size, 3, none⟩ = some (.int .u8 1) ∧ W.cell? ⟨W2.heap.size, 4, none⟩ = some (.int .u8 0) ∧ W.cell? ⟨W2.heap.size, 5, none⟩ = some (.bool false) ∧ W.cell? ⟨W2.heap.size, 6, none⟩ = some (.int .i64 (-2))) := Lib.hid (fun W hW => ⟨hW.cell 0, hW.cell 1, hW.cell 2, hW.cell 3, hW.cell 4, hW.cell 5, hW.cell 6⟩)
  have HC : Hid (Calls Try.prog 21 #[.pointer (some ⟨g0, 0, none⟩), .agg #[.string ⟨#[102]⟩, .int .u32 0, .int .u32 0, .int .u8 1, .int .u8 0, .bool false, .int .i64 (-2)], .agg #[.int .i64 0, .int .i64 0, .int .i64 (-1)]] w9.drew fun e w' => e = .returned (.tuple #[]) ∧ w'.ownsRow (w.heap.size + 1) 74 12 (.slice (some ⟨g0, 0, none⟩) 1 c0) 1 n1F ∧ w9.drew.grownBy w' (some g0)) := Lib.hid (f21F w9.drew _ _ _ HS9.out.drew.2.1 hlt9)
  have HNX := Lib.hid (own_ne HS9.out.2.1 HX9.out (by decide))
  have HI : Hid (w9.drew.cell? ⟨W2.heap.size, 0, none⟩ = some (.string ⟨#[102]⟩) ∧ w9.drew.cell? ⟨W2.heap.size, 1, none⟩ = some (.int .u32 0) ∧ w9.drew.cell? ⟨W2.heap.size, 2, none⟩ = some (.int .u32 0) ∧ w9.drew.cell? ⟨W2.heap.size, 3, none⟩ = some (.int .u8 1) ∧ w9.drew.cell? ⟨W2.heap.size, 4, none⟩ = some (.int .u8 0) ∧ w9.drew.cell? ⟨W2.heap.size, 5, none⟩ = some (.bool false) ∧ w9.drew.cell? ⟨W2.heap.size, 6, none⟩ = some (.int .i64 (-2))) := Lib.hid (HLIM.out w9.drew HX9.out)
  go_region_held3 (fun W => W.cell? ⟨W2.heap.size, 0, none⟩ = some (.string ⟨#[102]⟩) ∧ W.cell? ⟨W2.heap.size, 1, none⟩ = some (.int .u32 0) ∧ W.cell? ⟨W2.heap.size, 2, none⟩ = some (.int .u32 0) ∧ W.cell? ⟨W2.heap.size, 3, none⟩ = some (.int .u8 1) ∧ W.cell? ⟨W2.heap.size, 4, none⟩ = some (.int .u8 0) ∧ W.cell? ⟨W2.heap.size, 5, none⟩ = some (.bool false) ∧ W.cell? ⟨W2.heap.size, 6, none⟩ = some (.int .i64 (-2)))
    (first | assumption | exact HI.out)
    (first | (go_at_call 21; (with_reducible refine HC.out.mono ?_); rintro _ w10 ⟨rfl, ho10, hg10⟩; have HS10 : w10.cell? ⟨W2.heap.size, 0, none⟩ = some (.string ⟨#[102]⟩) ∧ w10.cell? ⟨W2.heap.size, 1, none⟩ = some (.int .u32 0) ∧ w10.cell? ⟨W2.heap.size, 2, none⟩ = some (.int .u32 0) ∧ w10.cell? ⟨W2.heap.size, 3, none⟩ = some (.int .u8 1) ∧ w10.cell? ⟨W2.heap.size, 4, none⟩ = some (.int .u8 0) ∧ w10.cell? ⟨W2.heap.size, 5, none⟩ = some (.bool false) ∧ w10.cell? ⟨W2.heap.size, 6, none⟩ = some (.int .i64 (-2)) := HLIM.out w10 (Bx.grown (W := w9.drew) HX9.out hg10 HNX.out)))
  have HSN : Hid (Sy w w10 _ _ (.slice (some ⟨g0, 0, none⟩) 1 c0) 1 n1F) := Lib.hid (HS9.out.drew.row ho10 hg10)
  clear HLIM HC HNX HI HS10 HX9 HS9 ho10 hg10 hlt9
  rename_i hHeld
  clear hHeld
  obtain ⟨D1, hD1⟩ : ∃ D, DataW.put (.map [] : DataW Unit) (Lit.string (ByteArray.mk #[102]).data.toList) (.lit (.int .i64 0)) = D := ⟨_, rfl⟩
  have hh1 : Maps.has D1 (Lit.string [115, 119, 105, 116, 99, 104]) = false := by rw [← hD1]; decide
  go_wp2_with fail
  rw [rounds_succ]
  have HS := HSN
  clear HSN
  rw [hD1] at HS
  clear hD1
  generalize w10 = W3 at *
  have s0 := (HL.out _ HS.out.2.2).2.2.2 7 _ rfl
  have s1 := (HL.out _ HS.out.2.2).2.2.2 8 _ rfl
  have s2 := (HL.out _ HS.out.2.2).2.2.2 9 _ rfl
  have s3 := (HL.out _ HS.out.2.2).2.2.2 10 _ rfl
  have s4 := (HL.out _ HS.out.2.2).2.2.2 11 _ rfl
  have s5 := (HL.out _ HS.out.2.2).2.2.2 12 _ rfl
  have s6 := (HL.out _ HS.out.2.2).2.2.2 13 _ rfl
  have HS3 : Hid (Sy w (W3.alloc (.cells #[.string ⟨#[115, 119, 105, 116, 99, 104]⟩, .int .u32 0, .int .u32 0, .int .u8 1, .int .u8 0, .bool false, .int .i64 (-1)] 48)) 1 D1 (.slice (some ⟨g0, 0, none⟩) 1 c0) 1 n1F) := Lib.hid (HS.out.alloc _)
  have HX3 : Hid (Bx (W3.alloc (.cells #[.string ⟨#[115, 119, 105, 116, 99, 104]⟩, .int .u32 0, .int .u32 0, .int .u8 1, .int .u8 0, .bool false, .int .i64 (-1)] 48)) W3.heap.size #[.string ⟨#[115, 119, 105, 116, 99, 104]⟩, .int .u32 0, .int .u32 0, .int .u8 1, .int .u8 0, .bool false, .int .i64 (-1)] 48) := Lib.hid (heap_alloc_new W3 _)
  have HO3 := Lib.hid HS3.out.1
  have HK := Lib.hid (key9 ⟨#[115, 119, 105, 116, 99, 104]⟩ (by decide))
  have hne : W3.heap.size ≠ w.heap.size := by have := HS.out.1.lt; omega
  have HNE := Lib.hid hne
  have HQQ : Hid (∀ W, (W3.alloc (.cells #[.string ⟨#[115, 119, 105, 116, 99, 104]⟩, .int .u32 0, .int .u32 0, .int .u8 1, .int .u8 0, .bool false, .int .i64 (-1)] 48)).grownBy W (some w.heap.size) → W.cell? ⟨W3.heap.size, 0, none⟩ = some (.string ⟨#[115, 119, 105, 116, 99, 104]⟩)) := Lib.hid (fun W hg => (HX3.out.grown hg (by intro e; exact HNE.out (Option.some.inj e))).cell 0)
  go_wp2_with (first | (at_lookup; refine wpList_lookup_own_ok_int _ rfl _ _ 69 rfl 9 3 .i64 law9 Try.underlying69 Try.underlying3 (zero3 _) w.heap.size 1 D1 rfl HO3.out _ _ rfl HK.out ?_; intro c hat hwc) | (at_mapUpdate; refine wpList_mapUpdate_own _ rfl _ _ _ 69 rfl 9 3 law9 Try.underlying69 _ w.heap.size 1 D1 rfl HO3.out (by unfold maxLen; omega) _ _ _ rfl rfl HK.out _ [] (plainElem_int Try.underlying3 (by decide)) ?_; intro w1 hown1 hgrow1; have q := HQQ.out w1 hgrow1))
  have HS4 := Lib.hid (HS3.out.put hown1 hgrow1)
  have HX4 := Lib.hid (HX3.out.grown hgrow1 (by intro e; exact HNE.out (Option.some.inj e)))
  clear HQQ HS3 HX3 HO3 HK hown1 hgrow1 hne s0 s1 s2 s3 s4 s5 s6 hat hwc
  go_wp2_with fail
  with_reducible refine (H20.out _ _ (by decide)).mono ?_
  rintro _ w5 ⟨rfl, hb5⟩
  have HS5 := Lib.hid (HS4.out.below hb5)
  have HX5 := Lib.hid (HX4.out.below hb5)
  clear q HS4 HX4 hb5
  go_wp2_with fail
  with_reducible refine (H17.out _).mono ?_
  rintro _ w6 ⟨rfl, hb6⟩
  have HS6 := Lib.hid (HS5.out.below hb6)
  have HX6 := Lib.hid (HX5.out.below hb6)
  clear HS5 HX5 hb6
  go_wp2_with fail
  with_reducible refine (H17.out _).mono ?_
  rintro _ w7 ⟨rfl, hb7⟩
  have HS7 := Lib.hid (HS6.out.below hb7)
  have HX7 := Lib.hid (HX6.out.below hb7)
  clear HS6 HX6 hb7
  go_wp2_with fail
  with_reducible refine (H17.out _).mono ?_
  rintro _ w8 ⟨rfl, hb8⟩
  have HS8 := Lib.hid (HS7.out.below hb8)
  have HX8 := Lib.hid ((HX7.out.below hb8).below ((Below.refl _ _).alloc (Nat.le_refl _) (.cells #[.string ⟨#[115, 119, 105, 116, 99, 104]⟩, .int .i64 (-1), .int .i64 0, .int .i64 (-1), .int .i64 (-1), .int .i64 0, .int .i64 (-1), .int .i64 (-1), .int .i64 0, .int .i64 (-1), .bool false, .bool false] 74)))
  have HS8a : Hid (Sy w (w8.alloc (.cells #[.string ⟨#[115, 119, 105, 116, 99, 104]⟩, .int .i64 (-1), .int .i64 0, .int .i64 (-1), .int .i64 (-1), .int .i64 0, .int .i64 (-1), .int .i64 (-1), .int .i64 0, .int .i64 (-1), .bool false, .bool false] 74)) _ _ (.slice (some ⟨g0, 0, none⟩) 1 c0) 1 n1F) := Lib.hid (HS8.out.alloc _)
  have HO8 := Lib.hid HS8a.out.2.1
  have HZB : Hid (w.heap.size + 1 ≤ (w8.alloc (.cells #[.string ⟨#[115, 119, 105, 116, 99, 104]⟩, .int .i64 (-1), .int .i64 0, .int .i64 (-1), .int .i64 (-1), .int .i64 0, .int .i64 (-1), .int .i64 (-1), .int .i64 0, .int .i64 (-1), .bool false, .bool false] 74)).heap.size) := Lib.hid (by have := HS8a.out.1.lt; omega)
  clear HS7 HX7 hb8
  have HNL : Hid (1 + 1 ≤ maxLen) := Lib.hid (by unfold maxLen; omega)
  have HNB : Hid ((1 + 1) * 96 ≤ 140737488355328) := Lib.hid (by omega)
  have HNW : Hid (∀ j u, (#[.string ⟨#[115, 119, 105, 116, 99, 104]⟩, .int .i64 (-1), .int .i64 0, .int .i64 (-1), .int .i64 (-1), .int .i64 0, .int .i64 (-1), .int .i64 (-1), .int .i64 0, .int .i64 (-1), .bool false, .bool false] : Array Value).toList[j]? = some u → (w8.alloc (.cells #[.string ⟨#[115, 119, 105, 116, 99, 104]⟩, .int .i64 (-1), .int .i64 0, .int .i64 (-1), .int .i64 (-1), .int .i64 0, .int .i64 (-1), .int .i64 (-1), .int .i64 0, .int .i64 (-1), .bool false, .bool false] 74)).cell? ((⟨w8.heap.size, 0, none⟩ : Addr).add j) = some u) := Lib.hid (World.news_of_block (heap_alloc_new w8 (.cells #[.string ⟨#[115, 119, 105, 116, 99, 104]⟩, .int .i64 (-1), .int .i64 0, .int .i64 (-1), .int .i64 (-1), .int .i64 0, .int .i64 (-1), .int .i64 (-1), .int .i64 0, .int .i64 (-1), .bool false, .bool false] 74)))
  have HOC : Hid (∀ u ∈ ([.string ⟨#[115, 119, 105, 116, 99, 104]⟩, .int .i64 (-1), .int .i64 0, .int .i64 (-1), .int .i64 (-1), .int .i64 0, .int .i64 (-1), .int .i64 (-1), .int .i64 0, .int .i64 (-1), .bool false, .bool false] : List Value), u.oneCell' = true) := Lib.hid (by decide)
  go_wp2_with (at_builtin; refine wpList_append_lies _ (by rfl) _ _ 67 (by rfl) (w.heap.size + 1) 74 i0 _ 12 96 Try.underlying67 HI0.out HZ0.out HZ1.out HZ2.out rfl (by decide) (.slice (some ⟨g0, 0, none⟩) 1 c0) 1 n1F (by rfl) HO8.out ⟨w8.heap.size, 0, none⟩ 1 1 [.string ⟨#[115, 119, 105, 116, 99, 104]⟩, .int .i64 (-1), .int .i64 0, .int .i64 (-1), .int .i64 (-1), .int .i64 0, .int .i64 (-1), .int .i64 (-1), .int .i64 0, .int .i64 (-1), .bool false, .bool false] (by rfl) rfl HNW.out HOC.out (by decide) HNL.out HNB.out HZB.out _ rfl ?_; intro g1 c1 w9 hown9 hgrow9 hat9 hlt9; have q0 := (HX8.out.grown hgrow9 (own_ne HO8.out HX8.out (by decide))).cell 0)
  clear HNL HNB HNW HOC
  have HS9 : Hid (Sy w w9 _ _ (.slice (some ⟨g1, 0, none⟩) 2 c1) 2 (n1F ++ n0S)) := Lib.hid (HS8a.out.row hown9 hgrow9)
  have HX9 := Lib.hid (HX8.out.grown hgrow9 (own_ne HO8.out HX8.out (by decide)))
  clear HS8 HX8 HS8a HO8 HZB hown9 hgrow9 hat9
  have HLIM : Hid (∀ W, Bx W W3.heap.size #[.string ⟨#[115, 119, 105, 116, 99, 104]⟩, .int .u32 0, .int .u32 0, .int .u8 1, .int .u8 0, .bool false, .int .i64 (-1)] 48 → W.cell? ⟨W3.heap.size, 0, none⟩ = some (.string ⟨#[115, 119, 105, 116, 99, 104]⟩) ∧ W.cell? ⟨W3.heap.size, 1, none⟩ = some (.int .u32 0) ∧ W.cell? ⟨W3.heap.size, 2, none⟩ = some (.int .u32 0) ∧ W.cell? ⟨W3.heap.size, 3, none⟩ = some (.int .u8 1) ∧ W.cell? ⟨W3.heap.size, 4, none⟩ = some (.int .u8 0) ∧ W.cell? ⟨W3.heap.size, 5, none⟩ = some (.bool false) ∧ W.cell? ⟨W3.heap.size, 6, none⟩ = some (.int .i64 (-1))) := Lib.hid (fun W hW => ⟨hW.cell 0, hW.cell 1, hW.cell 2, hW.cell 3, hW.cell 4, hW.cell 5, hW.cell 6⟩)
  have HC : Hid (Calls Try.prog 21 #[.pointer (some ⟨g1, 12, none⟩), .agg #[.string ⟨#[115, 119, 105, 116, 99, 104]⟩, .int .u32 0, .int .u32 0, .int .u8 1, .int .u8 0, .bool false, .int .i64 (-1)], .agg #[.int .i64 0, .int .i64 1, .int .i64 (-1)]] w9.drew fun e w' => e = .returned (.tuple #[]) ∧ w'.ownsRow (w.heap.size + 1) 74 12 (.slice (some ⟨g1, 0, none⟩) 2 c1) 2 (n1F ++ n1S) ∧ w9.drew.grownBy w' (some g1)) := Lib.hid (f21S w9.drew _ _ _ HS9.out.drew.2.1 hlt9)
  have HNX := Lib.hid (own_ne HS9.out.2.1 HX9.out (by decide))
  have HI : Hid (w9.drew.cell? ⟨W3.heap.size, 0, none⟩ = some (.string ⟨#[115, 119, 105, 116, 99, 104]⟩) ∧ w9.drew.cell? ⟨W3.heap.size, 1, none⟩ = some (.int .u32 0) ∧ w9.drew.cell? ⟨W3.heap.size, 2, none⟩ = some (.int .u32 0) ∧ w9.drew.cell? ⟨W3.heap.size, 3, none⟩ = some (.int .u8 1) ∧ w9.drew.cell? ⟨W3.heap.size, 4, none⟩ = some (.int .u8 0) ∧ w9.drew.cell? ⟨W3.heap.size, 5, none⟩ = some (.bool false) ∧ w9.drew.cell? ⟨W3.heap.size, 6, none⟩ = some (.int .i64 (-1))) := Lib.hid (HLIM.out w9.drew HX9.out)
  go_region_held3 (fun W => W.cell? ⟨W3.heap.size, 0, none⟩ = some (.string ⟨#[115, 119, 105, 116, 99, 104]⟩) ∧ W.cell? ⟨W3.heap.size, 1, none⟩ = some (.int .u32 0) ∧ W.cell? ⟨W3.heap.size, 2, none⟩ = some (.int .u32 0) ∧ W.cell? ⟨W3.heap.size, 3, none⟩ = some (.int .u8 1) ∧ W.cell? ⟨W3.heap.size, 4, none⟩ = some (.int .u8 0) ∧ W.cell? ⟨W3.heap.size, 5, none⟩ = some (.bool false) ∧ W.cell? ⟨W3.heap.size, 6, none⟩ = some (.int .i64 (-1)))
    (first | assumption | exact HI.out)
    (first | (go_at_call 21; (with_reducible refine HC.out.mono ?_); rintro _ w10 ⟨rfl, ho10, hg10⟩; have HS10 : w10.cell? ⟨W3.heap.size, 0, none⟩ = some (.string ⟨#[115, 119, 105, 116, 99, 104]⟩) ∧ w10.cell? ⟨W3.heap.size, 1, none⟩ = some (.int .u32 0) ∧ w10.cell? ⟨W3.heap.size, 2, none⟩ = some (.int .u32 0) ∧ w10.cell? ⟨W3.heap.size, 3, none⟩ = some (.int .u8 1) ∧ w10.cell? ⟨W3.heap.size, 4, none⟩ = some (.int .u8 0) ∧ w10.cell? ⟨W3.heap.size, 5, none⟩ = some (.bool false) ∧ w10.cell? ⟨W3.heap.size, 6, none⟩ = some (.int .i64 (-1)) := HLIM.out w10 (Bx.grown (W := w9.drew) HX9.out hg10 HNX.out)))
  have HSN : Hid (Sy w w10 _ _ (.slice (some ⟨g1, 0, none⟩) 2 c1) 2 (n1F ++ n1S)) := Lib.hid (HS9.out.drew.row ho10 hg10)
  clear HLIM HC HNX HI HS10 HX9 HS9 ho10 hg10 hlt9
  rename_i hHeld
  clear hHeld
  go_wp2_with fail
  rw [rounds_succ]
  go_wp2_with fail
  rw [rounds_succ]
  go_wp2_with fail
  have HTW : Hid (Two w10 g1) := Lib.hid ⟨(HSN.out.2.1.lt g1 rfl).2, fun j v hv => by
    have hj : j < 24 := by
      rcases Nat.lt_or_ge j 24 with h | h
      · exact h
      · rw [List.getElem?_eq_none (by simpa using h)] at hv; cases hv
    rw [HSN.out.2.1.cellAt j (by omega)]; exact hv⟩
  with_reducible refine (f22 g1 c1 w10 HTW.out).mono ?_
  rintro _ w11 ⟨rfl, hb11⟩
  have HTW2 := Lib.hid (HTW.out.below hb11)
  have HBW := Lib.hid (HSN.out.2.2.trans (hb11.mono HSN.out.2.2.size))
  go_wp2_with fail
  go_ret
  exact ⟨_, _, rfl, HTW2.out, HBW.out⟩
end Go.Proofs.Ytbbcljffcjhiaaa
