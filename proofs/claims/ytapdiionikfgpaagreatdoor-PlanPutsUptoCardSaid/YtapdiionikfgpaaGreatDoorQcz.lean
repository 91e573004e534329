import Derived.Test.YtapdiionikfgpaaGreatDoorQaz
namespace Go.Proofs.YtapdiionikfgpaaGreatDoor
open Go.ChangeShapes Go.WideShapes Go.ChangeAt Go.RowKit
set_option linter.unusedVariables false
set_option linter.unusedSimpArgs false
/-- what add leaves -/
def AddP (w : World) (B ET sz : Nat) (v : Value) (n : Nat) (flat cy : List Value) (g off : Nat) (dup full : Bool) (e : Ending) (w' : World) : Prop :=
  (dup = true ∧ e = .returned (.int .i64 7) ∧ Below w.heap.size w w') ∨ (dup = false ∧ full = true ∧ e = .returned (.int .i64 3) ∧ Below w.heap.size w w') ∨
  (dup = false ∧ full = false ∧ e = .returned (.int .i64 0) ∧ ∃ W W' g5 n5 c5, Below w.heap.size w W ∧ W'.ownsRow B ET sz (.slice (some ⟨g5, 0, none⟩) n5 c5) (n + 1) (flat ++ cy) ∧ W.grownBy W' v.ownBlock ∧ (v.ownBlock = some g5 ∨ g5 = W.heap.size) ∧ w' = W'.setCell ⟨g, off, none⟩ (.slice (some ⟨g5, 0, none⟩) n5 c5))
set_option maxRecDepth 100000 in
set_option maxHeartbeats 8000000 in
theorem add_Co (q : Sv × Co → Bool) (f b : Nat) (A : Option Addr) (c : Nat) (L : List (Sv × Co)) (y : ByteArray) (lim g off : Nat) (w : World) (B : Nat) (hro : w.ownsRow B 48 6 (.slice A L.length c) L.length (L.flatMap cCo)) (hl : L.length ≤ 400) (hlim : lim ≤ 400)
    (hS : ∀ x ∈ L, IsS x.1.f ∧ IsS x.1.e ∧ IsS x.1.i ∧ IsS x.1.d ∧ IsS x.1.g)
    (hf : ∀ args W, (callFunc f args).run Tryz.prog W = .ok (.enter f args) W)
    (hc : ∀ x ∈ L, ∀ W, Below w.heap.size w W → Calls Tryz.prog f #[.agg #[.string x.2.nm, x.1.f, x.1.e, x.1.i, x.1.d, x.1.g], .pointer (some ⟨b, 0, none⟩)] W fun e W' => e = .returned (.bool (q x)) ∧ Below W.heap.size W W')
    (hB : B ≤ w.heap.size) (hG : ∀ W W', Below w.heap.size w W → W.grownBy W' (Value.slice A L.length c).ownBlock → W'.cell? ⟨g, off, none⟩ = some (.slice A L.length c) ∧ W'.frozen? ⟨g, off, none⟩ = false) :
    Calls Tryz.prog 76 #[.pointer (some ⟨g, off, none⟩), .agg #[.string y, .slice none 0 0, .slice none 0 0, .slice none 0 0, .slice none 0 0, .slice none 0 0], .func (.func f) #[] #[.pointer (some ⟨b, 0, none⟩)], .int .i64 (lim : Int)] w fun e w' => AddP w B 48 6 (.slice A L.length c) L.length (L.flatMap cCo) (cCo (Sv.nil, Co.new y)) g off (fnd q L).isSome (decide (lim ≤ L.length)) e w' := by
  have HBA : Hid (Below w.heap.size w (w.alloc (.cells #[.string y, .slice none 0 0, .slice none 0 0, .slice none 0 0, .slice none 0 0, .slice none 0 0] 48))) := Lib.hid ((Below.refl _ w).alloc (Nat.le_refl _) _)
  have HPT : Hid (∀ W, Below w.heap.size w W → W.cell? ⟨g, off, none⟩ = some (.slice A L.length c) ∧ W.frozen? ⟨g, off, none⟩ = false) := Lib.hid (fun W hW => hG W W hW (World.grownBy.refl _ _))
  have HG := Lib.hid hG
  have HLEN := Lib.hid hl
  have HLIM := Lib.hid hlim
  have HBB := Lib.hid hB
  have HROW : Hid (∀ W, Below w.heap.size w W → W.ownsRow B 48 6 (.slice A L.length c) L.length (L.flatMap cCo)) := Lib.hid (fun W hW => hro.kept (grown_of_below hW none) (none_or _))
  have HFI := Lib.hid (find_Co q f b A c L (w.alloc (.cells #[.string y, .slice none 0 0, .slice none 0 0, .slice none 0 0, .slice none 0 0, .slice none 0 0] 48)) B (HROW.out _ HBA.out) hl hS hf (fun x hx W hW => hc x hx W (HBA.out.trans (hW.mono HBA.out.size))))
  have HBX0 : Hid (Bx (w.alloc (.cells #[.string y, .slice none 0 0, .slice none 0 0, .slice none 0 0, .slice none 0 0, .slice none 0 0] 48)) w.heap.size #[.string y, .slice none 0 0, .slice none 0 0, .slice none 0 0, .slice none 0 0, .slice none 0 0] 48) := Lib.hid (heap_alloc_new w _)
  have p0 := (HPT.out _ HBA.out).1
  clear hro hl hlim hf hc hB hG hS
  go_enter Tryz.func76, Tryz.ntmps76
  go_wp2_with fail
  with_reducible refine HFI.out.mono ?_
  rintro _ w5 ⟨rfl, hb5⟩
  have HB5 : Hid (Below w.heap.size w w5) := Lib.hid (HBA.out.trans (hb5.mono HBA.out.size))
  have HBX : Hid (Bx w5 w.heap.size #[.string y, .slice none 0 0, .slice none 0 0, .slice none 0 0, .slice none 0 0, .slice none 0 0] 48) := Lib.hid (HBX0.out.below hb5)
  have HBXW : Hid (∀ W, Below w5.heap.size w5 W → Bx W w.heap.size #[.string y, .slice none 0 0, .slice none 0 0, .slice none 0 0, .slice none 0 0, .slice none 0 0] 48) := Lib.hid (fun W hW => HBX.out.below hW)
  have p5 := (HPT.out _ HB5.out).1
  clear hb5 HFI p0
  cases hq : fnd q L with
  | some k =>
    have e1 : decide ((0 : Int) ≤ atI (some k)) = true := by show decide ((0 : Int) ≤ (k : Int)) = true; simp
    have HQ : Hid ((fnd q L).isSome = true) := Lib.hid (by rw [hq]; rfl)
    clear hq
    generalize atI (some k) = z at e1
    go_wp2_with fail
    go_ret
    exact Or.inl ⟨HQ.out, rfl, HB5.out⟩
  | none =>
    have e1 : decide ((0 : Int) ≤ atI none) = false := by decide
    have HQ : Hid ((fnd q L).isSome = false) := Lib.hid (by rw [hq]; rfl)
    clear hq
    generalize atI none = z at e1
    by_cases hl : lim ≤ L.length
    · have e2 : decide ((lim : Int) ≤ (L.length : Int)) = true := by simp; omega
      have HE3 : Hid (decide (lim ≤ L.length) = true) := Lib.hid (decide_eq_true hl)
      have e4 : decide (lim ≤ L.length) = true := decide_eq_true hl
      go_wp2_with fail
      go_ret
      exact Or.inr (Or.inl ⟨HQ.out, HE3.out, rfl, HB5.out⟩)
    · have e2 : decide ((lim : Int) ≤ (L.length : Int)) = false := by simp; omega
      have HE3 : Hid (decide (lim ≤ L.length) = false) := Lib.hid (decide_eq_false hl)
      have e4 : decide (lim ≤ L.length) = false := decide_eq_false hl
      obtain ⟨i0, hi0, hz0, hz1, hz2⟩ := info48
      have HI0 := Lib.hid hi0
      have HZ0 := Lib.hid hz0
      have HZ1 := Lib.hid hz1
      have HZ2 := Lib.hid hz2
      have HNL : Hid (L.length + 1 ≤ maxLen) := Lib.hid (by unfold maxLen; have := HLEN.out; omega)
      have HNB : Hid ((L.length + 1) * 136 ≤ 140737488355328) := Lib.hid (by have := HLEN.out; omega)
      have HBL : Hid (Below w5.heap.size w5 (w5.drew.alloc (.cells #[.string y, .slice none 0 0, .slice none 0 0, .slice none 0 0, .slice none 0 0, .slice none 0 0] 48))) := Lib.hid ((Below.refl _ w5).drew.alloc (Nat.le_refl _) _)
      have HBL2 : Hid (Below w5.heap.size w5 (w5.alloc (.cells #[.string y, .slice none 0 0, .slice none 0 0, .slice none 0 0, .slice none 0 0, .slice none 0 0] 48))) := Lib.hid ((Below.refl _ w5).alloc (Nat.le_refl _) _)
      have HBW : Hid (Below w.heap.size w (w5.drew.alloc (.cells #[.string y, .slice none 0 0, .slice none 0 0, .slice none 0 0, .slice none 0 0, .slice none 0 0] 48))) := Lib.hid (HB5.out.trans (HBL.out.mono HB5.out.size))
      have HBW2 : Hid (Below w.heap.size w (w5.alloc (.cells #[.string y, .slice none 0 0, .slice none 0 0, .slice none 0 0, .slice none 0 0, .slice none 0 0] 48))) := Lib.hid (HB5.out.trans (HBL2.out.mono HB5.out.size))
      have HED : Hid ((w5.drew.alloc (.cells #[.string y, .slice none 0 0, .slice none 0 0, .slice none 0 0, .slice none 0 0, .slice none 0 0] 48)).ownsRow B 48 6 (.slice A L.length c) L.length (L.flatMap cCo)) := Lib.hid (HROW.out _ HBW.out)
      have HBS : Hid (B ≤ (w5.drew.alloc (.cells #[.string y, .slice none 0 0, .slice none 0 0, .slice none 0 0, .slice none 0 0, .slice none 0 0] 48)).heap.size) := Lib.hid (Nat.le_trans HBB.out HBW.out.size)
      have HNW : Hid (∀ j u, (#[.string y, .slice none 0 0, .slice none 0 0, .slice none 0 0, .slice none 0 0, .slice none 0 0] : Array Value).toList[j]? = some u → (w5.drew.alloc (.cells #[.string y, .slice none 0 0, .slice none 0 0, .slice none 0 0, .slice none 0 0, .slice none 0 0] 48)).cell? ((⟨w5.heap.size, 0, none⟩ : Addr).add j) = some u) := Lib.hid (World.news_of_block (heap_alloc_new w5.drew (.cells #[.string y, .slice none 0 0, .slice none 0 0, .slice none 0 0, .slice none 0 0, .slice none 0 0] 48)))
      have HOC : Hid (∀ u ∈ ([.string y, .slice none 0 0, .slice none 0 0, .slice none 0 0, .slice none 0 0, .slice none 0 0] : List Value), u.oneCell' = true) := Lib.hid (by intro u hu; simp at hu; rcases hu with rfl | rfl | rfl | rfl | rfl | rfl <;> rfl)
      have HGA : Hid (∀ W', World.grownBy (w5.drew.alloc (.cells #[.string y, .slice none 0 0, .slice none 0 0, .slice none 0 0, .slice none 0 0, .slice none 0 0] 48)) W' (Value.ownBlock (.slice A L.length c)) → W'.cell? ⟨g, off, none⟩ = some (.slice A L.length c) ∧ W'.frozen? ⟨g, off, none⟩ = false) := Lib.hid (fun W' hg => HG.out _ W' HBW.out hg)
      have pfa := (HPT.out _ HBW.out).1
      have pfb := (HPT.out _ HBW2.out).1
      have b0 := HBX.out.cell 0
      have b1 := HBX.out.cell 1
      have b2 := HBX.out.cell 2
      have b3 := HBX.out.cell 3
      have b4 := HBX.out.cell 4
      have b5 := HBX.out.cell 5
      simp at b0 b1 b2 b3 b4 b5
      have a0 := (HBXW.out _ HBL.out).cell 0
      have d0 := (HBXW.out _ HBL2.out).cell 0
      have a1 := (HBXW.out _ HBL.out).cell 1
      have d1 := (HBXW.out _ HBL2.out).cell 1
      have a2 := (HBXW.out _ HBL.out).cell 2
      have d2 := (HBXW.out _ HBL2.out).cell 2
      have a3 := (HBXW.out _ HBL.out).cell 3
      have d3 := (HBXW.out _ HBL2.out).cell 3
      have a4 := (HBXW.out _ HBL.out).cell 4
      have d4 := (HBXW.out _ HBL2.out).cell 4
      have a5 := (HBXW.out _ HBL.out).cell 5
      have d5 := (HBXW.out _ HBL2.out).cell 5
      simp at a0 d0 a1 d1 a2 d2 a3 d3 a4 d4 a5 d5
      clear hi0 hz0 hz1 hz2 HG HPT HBX0
      go_upto_region 9 with fail
      go_region_law (first | (refine step_append_lies _ (by rfl) _ _ 23 (by rfl) B 48 i0 (.agg #[.string ⟨#[]⟩, .slice none 0 0, .slice none 0 0, .slice none 0 0, .slice none 0 0, .slice none 0 0]) 6 136 Tryz.underlying23 HI0.out HZ0.out HZ1.out HZ2.out rfl (by decide) (.slice A L.length c) L.length (L.flatMap cCo) (by rfl) HED.out ⟨w5.heap.size, 0, none⟩ 1 1 [.string y, .slice none 0 0, .slice none 0 0, .slice none 0 0, .slice none 0 0, .slice none 0 0] (by rfl) rfl HNW.out HOC.out (by decide) HNL.out HNB.out HBS.out _ rfl ?_; intro g5 c5 w8 hown5 hgrow5 hat5 hlt5; obtain ⟨x5a, x5b⟩ := HGA.out w8 hgrow5))
      all_goals
        go_wp2_with fail
        go_ret
        exact Or.inr (Or.inr ⟨HQ.out, HE3.out, rfl, _, _, _, _, _, HBW.out, hown5, hgrow5, hat5, rfl⟩)
set_option maxRecDepth 100000 in
set_option maxHeartbeats 8000000 in
theorem add_Fs (q : ByteArray × Bool → Bool) (f b : Nat) (A : Option Addr) (c : Nat) (L : List (ByteArray × Bool)) (y : ByteArray × Bool) (lim g off : Nat) (w : World) (B : Nat) (hro : w.ownsRow B 88 2 (.slice A L.length c) L.length (L.flatMap cFs)) (hl : L.length ≤ 400) (hlim : lim ≤ 400)
    (hf : ∀ args W, (callFunc f args).run Tryz.prog W = .ok (.enter f args) W)
    (hc : ∀ x ∈ L, ∀ W, Below w.heap.size w W → Calls Tryz.prog f #[.agg #[.string x.1, .bool x.2], .pointer (some ⟨b, 0, none⟩)] W fun e W' => e = .returned (.bool (q x)) ∧ Below W.heap.size W W')
    (hB : B ≤ w.heap.size) (hG : ∀ W W', Below w.heap.size w W → W.grownBy W' (Value.slice A L.length c).ownBlock → W'.cell? ⟨g, off, none⟩ = some (.slice A L.length c) ∧ W'.frozen? ⟨g, off, none⟩ = false) :
    Calls Tryz.prog 80 #[.pointer (some ⟨g, off, none⟩), .agg #[.string y.1, .bool y.2], .func (.func f) #[] #[.pointer (some ⟨b, 0, none⟩)], .int .i64 (lim : Int)] w fun e w' => AddP w B 88 2 (.slice A L.length c) L.length (L.flatMap cFs) (cFs y) g off (fnd q L).isSome (decide (lim ≤ L.length)) e w' := by
  have HBA : Hid (Below w.heap.size w (w.alloc (.cells #[.string y.1, .bool y.2] 88))) := Lib.hid ((Below.refl _ w).alloc (Nat.le_refl _) _)
  have HPT : Hid (∀ W, Below w.heap.size w W → W.cell? ⟨g, off, none⟩ = some (.slice A L.length c) ∧ W.frozen? ⟨g, off, none⟩ = false) := Lib.hid (fun W hW => hG W W hW (World.grownBy.refl _ _))
  have HG := Lib.hid hG
  have HLEN := Lib.hid hl
  have HLIM := Lib.hid hlim
  have HBB := Lib.hid hB
  have HROW : Hid (∀ W, Below w.heap.size w W → W.ownsRow B 88 2 (.slice A L.length c) L.length (L.flatMap cFs)) := Lib.hid (fun W hW => hro.kept (grown_of_below hW none) (none_or _))
  have HFI := Lib.hid (find_Fs q f b A c L (w.alloc (.cells #[.string y.1, .bool y.2] 88)) B (HROW.out _ HBA.out) hl hf (fun x hx W hW => hc x hx W (HBA.out.trans (hW.mono HBA.out.size))))
  have HBX0 : Hid (Bx (w.alloc (.cells #[.string y.1, .bool y.2] 88)) w.heap.size #[.string y.1, .bool y.2] 88) := Lib.hid (heap_alloc_new w _)
  have p0 := (HPT.out _ HBA.out).1
  clear hro hl hlim hf hc hB hG
  go_enter Tryz.func80, Tryz.ntmps80
  go_wp2_with fail
  with_reducible refine HFI.out.mono ?_
  rintro _ w5 ⟨rfl, hb5⟩
  have HB5 : Hid (Below w.heap.size w w5) := Lib.hid (HBA.out.trans (hb5.mono HBA.out.size))
  have HBX : Hid (Bx w5 w.heap.size #[.string y.1, .bool y.2] 88) := Lib.hid (HBX0.out.below hb5)
  have HBXW : Hid (∀ W, Below w5.heap.size w5 W → Bx W w.heap.size #[.string y.1, .bool y.2] 88) := Lib.hid (fun W hW => HBX.out.below hW)
  have p5 := (HPT.out _ HB5.out).1
  clear hb5 HFI p0
  cases hq : fnd q L with
  | some k =>
    have e1 : decide ((0 : Int) ≤ atI (some k)) = true := by show decide ((0 : Int) ≤ (k : Int)) = true; simp
    have HQ : Hid ((fnd q L).isSome = true) := Lib.hid (by rw [hq]; rfl)
    clear hq
    generalize atI (some k) = z at e1
    go_wp2_with fail
    go_ret
    exact Or.inl ⟨HQ.out, rfl, HB5.out⟩
  | none =>
    have e1 : decide ((0 : Int) ≤ atI none) = false := by decide
    have HQ : Hid ((fnd q L).isSome = false) := Lib.hid (by rw [hq]; rfl)
    clear hq
    generalize atI none = z at e1
    by_cases hl : lim ≤ L.length
    · have e2 : decide ((lim : Int) ≤ (L.length : Int)) = true := by simp; omega
      have HE3 : Hid (decide (lim ≤ L.length) = true) := Lib.hid (decide_eq_true hl)
      have e4 : decide (lim ≤ L.length) = true := decide_eq_true hl
      go_wp2_with fail
      go_ret
      exact Or.inr (Or.inl ⟨HQ.out, HE3.out, rfl, HB5.out⟩)
    · have e2 : decide ((lim : Int) ≤ (L.length : Int)) = false := by simp; omega
      have HE3 : Hid (decide (lim ≤ L.length) = false) := Lib.hid (decide_eq_false hl)
      have e4 : decide (lim ≤ L.length) = false := decide_eq_false hl
      obtain ⟨i0, hi0, hz0, hz1, hz2⟩ := info88
      have HI0 := Lib.hid hi0
      have HZ0 := Lib.hid hz0
      have HZ1 := Lib.hid hz1
      have HZ2 := Lib.hid hz2
      have HNL : Hid (L.length + 1 ≤ maxLen) := Lib.hid (by unfold maxLen; have := HLEN.out; omega)
      have HNB : Hid ((L.length + 1) * 24 ≤ 140737488355328) := Lib.hid (by have := HLEN.out; omega)
      have HBL : Hid (Below w5.heap.size w5 (w5.drew.alloc (.cells #[.string y.1, .bool y.2] 88))) := Lib.hid ((Below.refl _ w5).drew.alloc (Nat.le_refl _) _)
      have HBL2 : Hid (Below w5.heap.size w5 (w5.alloc (.cells #[.string y.1, .bool y.2] 88))) := Lib.hid ((Below.refl _ w5).alloc (Nat.le_refl _) _)
      have HBW : Hid (Below w.heap.size w (w5.drew.alloc (.cells #[.string y.1, .bool y.2] 88))) := Lib.hid (HB5.out.trans (HBL.out.mono HB5.out.size))
      have HBW2 : Hid (Below w.heap.size w (w5.alloc (.cells #[.string y.1, .bool y.2] 88))) := Lib.hid (HB5.out.trans (HBL2.out.mono HB5.out.size))
      have HED : Hid ((w5.drew.alloc (.cells #[.string y.1, .bool y.2] 88)).ownsRow B 88 2 (.slice A L.length c) L.length (L.flatMap cFs)) := Lib.hid (HROW.out _ HBW.out)
      have HBS : Hid (B ≤ (w5.drew.alloc (.cells #[.string y.1, .bool y.2] 88)).heap.size) := Lib.hid (Nat.le_trans HBB.out HBW.out.size)
      have HNW : Hid (∀ j u, (#[.string y.1, .bool y.2] : Array Value).toList[j]? = some u → (w5.drew.alloc (.cells #[.string y.1, .bool y.2] 88)).cell? ((⟨w5.heap.size, 0, none⟩ : Addr).add j) = some u) := Lib.hid (World.news_of_block (heap_alloc_new w5.drew (.cells #[.string y.1, .bool y.2] 88)))
      have HOC : Hid (∀ u ∈ ([.string y.1, .bool y.2] : List Value), u.oneCell' = true) := Lib.hid (by intro u hu; simp at hu; rcases hu with rfl | rfl <;> rfl)
      have HGA : Hid (∀ W', World.grownBy (w5.drew.alloc (.cells #[.string y.1, .bool y.2] 88)) W' (Value.ownBlock (.slice A L.length c)) → W'.cell? ⟨g, off, none⟩ = some (.slice A L.length c) ∧ W'.frozen? ⟨g, off, none⟩ = false) := Lib.hid (fun W' hg => HG.out _ W' HBW.out hg)
      have pfa := (HPT.out _ HBW.out).1
      have pfb := (HPT.out _ HBW2.out).1
      have b0 := HBX.out.cell 0
      have b1 := HBX.out.cell 1
      simp at b0 b1
      have a0 := (HBXW.out _ HBL.out).cell 0
      have d0 := (HBXW.out _ HBL2.out).cell 0
      have a1 := (HBXW.out _ HBL.out).cell 1
      have d1 := (HBXW.out _ HBL2.out).cell 1
      simp at a0 d0 a1 d1
      clear hi0 hz0 hz1 hz2 HG HPT HBX0
      go_upto_region 9 with fail
      go_region_law (first | (refine step_append_lies _ (by rfl) _ _ 42 (by rfl) B 88 i0 (.agg #[.string ⟨#[]⟩, .bool false]) 2 24 Tryz.underlying42 HI0.out HZ0.out HZ1.out HZ2.out rfl (by decide) (.slice A L.length c) L.length (L.flatMap cFs) (by rfl) HED.out ⟨w5.heap.size, 0, none⟩ 1 1 [.string y.1, .bool y.2] (by rfl) rfl HNW.out HOC.out (by decide) HNL.out HNB.out HBS.out _ rfl ?_; intro g5 c5 w8 hown5 hgrow5 hat5 hlt5; obtain ⟨x5a, x5b⟩ := HGA.out w8 hgrow5))
      all_goals
        go_wp2_with fail
        go_ret
        exact Or.inr (Or.inr ⟨HQ.out, HE3.out, rfl, _, _, _, _, _, HBW.out, hown5, hgrow5, hat5, rfl⟩)
set_option maxRecDepth 100000 in
set_option maxHeartbeats 8000000 in
theorem add_Es (q : ByteArray × Nat × Nat → Bool) (f b : Nat) (A : Option Addr) (c : Nat) (L : List (ByteArray × Nat × Nat)) (y : ByteArray × Nat × Nat) (lim g off : Nat) (w : World) (B : Nat) (hro : w.ownsRow B 50 3 (.slice A L.length c) L.length (L.flatMap cEs)) (hl : L.length ≤ 400) (hlim : lim ≤ 400)
    (hf : ∀ args W, (callFunc f args).run Tryz.prog W = .ok (.enter f args) W)
    (hc : ∀ x ∈ L, ∀ W, Below w.heap.size w W → Calls Tryz.prog f #[.agg #[.string x.1, .int .i64 (x.2.1 : Int), .int .i64 (x.2.2 : Int)], .pointer (some ⟨b, 0, none⟩)] W fun e W' => e = .returned (.bool (q x)) ∧ Below W.heap.size W W')
    (hB : B ≤ w.heap.size) (hG : ∀ W W', Below w.heap.size w W → W.grownBy W' (Value.slice A L.length c).ownBlock → W'.cell? ⟨g, off, none⟩ = some (.slice A L.length c) ∧ W'.frozen? ⟨g, off, none⟩ = false) :
    Calls Tryz.prog 83 #[.pointer (some ⟨g, off, none⟩), .agg #[.string y.1, .int .i64 (y.2.1 : Int), .int .i64 (y.2.2 : Int)], .func (.func f) #[] #[.pointer (some ⟨b, 0, none⟩)], .int .i64 (lim : Int)] w fun e w' => AddP w B 50 3 (.slice A L.length c) L.length (L.flatMap cEs) (cEs y) g off (fnd q L).isSome (decide (lim ≤ L.length)) e w' := by
  have HBA : Hid (Below w.heap.size w (w.alloc (.cells #[.string y.1, .int .i64 (y.2.1 : Int), .int .i64 (y.2.2 : Int)] 50))) := Lib.hid ((Below.refl _ w).alloc (Nat.le_refl _) _)
  have HPT : Hid (∀ W, Below w.heap.size w W → W.cell? ⟨g, off, none⟩ = some (.slice A L.length c) ∧ W.frozen? ⟨g, off, none⟩ = false) := Lib.hid (fun W hW => hG W W hW (World.grownBy.refl _ _))
  have HG := Lib.hid hG
  have HLEN := Lib.hid hl
  have HLIM := Lib.hid hlim
  have HBB := Lib.hid hB
  have HROW : Hid (∀ W, Below w.heap.size w W → W.ownsRow B 50 3 (.slice A L.length c) L.length (L.flatMap cEs)) := Lib.hid (fun W hW => hro.kept (grown_of_below hW none) (none_or _))
  have HFI := Lib.hid (find_Es q f b A c L (w.alloc (.cells #[.string y.1, .int .i64 (y.2.1 : Int), .int .i64 (y.2.2 : Int)] 50)) B (HROW.out _ HBA.out) hl hf (fun x hx W hW => hc x hx W (HBA.out.trans (hW.mono HBA.out.size))))
  have HBX0 : Hid (Bx (w.alloc (.cells #[.string y.1, .int .i64 (y.2.1 : Int), .int .i64 (y.2.2 : Int)] 50)) w.heap.size #[.string y.1, .int .i64 (y.2.1 : Int), .int .i64 (y.2.2 : Int)] 50) := Lib.hid (heap_alloc_new w _)
  have p0 := (HPT.out _ HBA.out).1
  clear hro hl hlim hf hc hB hG
  go_enter Tryz.func83, Tryz.ntmps83
  go_wp2_with fail
  with_reducible refine HFI.out.mono ?_
  rintro _ w5 ⟨rfl, hb5⟩
  have HB5 : Hid (Below w.heap.size w w5) := Lib.hid (HBA.out.trans (hb5.mono HBA.out.size))
  have HBX : Hid (Bx w5 w.heap.size #[.string y.1, .int .i64 (y.2.1 : Int), .int .i64 (y.2.2 : Int)] 50) := Lib.hid (HBX0.out.below hb5)
  have HBXW : Hid (∀ W, Below w5.heap.size w5 W → Bx W w.heap.size #[.string y.1, .int .i64 (y.2.1 : Int), .int .i64 (y.2.2 : Int)] 50) := Lib.hid (fun W hW => HBX.out.below hW)
  have p5 := (HPT.out _ HB5.out).1
  clear hb5 HFI p0
  cases hq : fnd q L with
  | some k =>
    have e1 : decide ((0 : Int) ≤ atI (some k)) = true := by show decide ((0 : Int) ≤ (k : Int)) = true; simp
    have HQ : Hid ((fnd q L).isSome = true) := Lib.hid (by rw [hq]; rfl)
    clear hq
    generalize atI (some k) = z at e1
    go_wp2_with fail
    go_ret
    exact Or.inl ⟨HQ.out, rfl, HB5.out⟩
  | none =>
    have e1 : decide ((0 : Int) ≤ atI none) = false := by decide
    have HQ : Hid ((fnd q L).isSome = false) := Lib.hid (by rw [hq]; rfl)
    clear hq
    generalize atI none = z at e1
    by_cases hl : lim ≤ L.length
    · have e2 : decide ((lim : Int) ≤ (L.length : Int)) = true := by simp; omega
      have HE3 : Hid (decide (lim ≤ L.length) = true) := Lib.hid (decide_eq_true hl)
      have e4 : decide (lim ≤ L.length) = true := decide_eq_true hl
      go_wp2_with fail
      go_ret
      exact Or.inr (Or.inl ⟨HQ.out, HE3.out, rfl, HB5.out⟩)
    · have e2 : decide ((lim : Int) ≤ (L.length : Int)) = false := by simp; omega
      have HE3 : Hid (decide (lim ≤ L.length) = false) := Lib.hid (decide_eq_false hl)
      have e4 : decide (lim ≤ L.length) = false := decide_eq_false hl
      obtain ⟨i0, hi0, hz0, hz1, hz2⟩ := info50
      have HI0 := Lib.hid hi0
      have HZ0 := Lib.hid hz0
      have HZ1 := Lib.hid hz1
      have HZ2 := Lib.hid hz2
      have HNL : Hid (L.length + 1 ≤ maxLen) := Lib.hid (by unfold maxLen; have := HLEN.out; omega)
      have HNB : Hid ((L.length + 1) * 32 ≤ 140737488355328) := Lib.hid (by have := HLEN.out; omega)
      have HBL : Hid (Below w5.heap.size w5 (w5.drew.alloc (.cells #[.string y.1, .int .i64 (y.2.1 : Int), .int .i64 (y.2.2 : Int)] 50))) := Lib.hid ((Below.refl _ w5).drew.alloc (Nat.le_refl _) _)
      have HBL2 : Hid (Below w5.heap.size w5 (w5.alloc (.cells #[.string y.1, .int .i64 (y.2.1 : Int), .int .i64 (y.2.2 : Int)] 50))) := Lib.hid ((Below.refl _ w5).alloc (Nat.le_refl _) _)
      have HBW : Hid (Below w.heap.size w (w5.drew.alloc (.cells #[.string y.1, .int .i64 (y.2.1 : Int), .int .i64 (y.2.2 : Int)] 50))) := Lib.hid (HB5.out.trans (HBL.out.mono HB5.out.size))
      have HBW2 : Hid (Below w.heap.size w (w5.alloc (.cells #[.string y.1, .int .i64 (y.2.1 : Int), .int .i64 (y.2.2 : Int)] 50))) := Lib.hid (HB5.out.trans (HBL2.out.mono HB5.out.size))
      have HED : Hid ((w5.drew.alloc (.cells #[.string y.1, .int .i64 (y.2.1 : Int), .int .i64 (y.2.2 : Int)] 50)).ownsRow B 50 3 (.slice A L.length c) L.length (L.flatMap cEs)) := Lib.hid (HROW.out _ HBW.out)
      have HBS : Hid (B ≤ (w5.drew.alloc (.cells #[.string y.1, .int .i64 (y.2.1 : Int), .int .i64 (y.2.2 : Int)] 50)).heap.size) := Lib.hid (Nat.le_trans HBB.out HBW.out.size)
      have HNW : Hid (∀ j u, (#[.string y.1, .int .i64 (y.2.1 : Int), .int .i64 (y.2.2 : Int)] : Array Value).toList[j]? = some u → (w5.drew.alloc (.cells #[.string y.1, .int .i64 (y.2.1 : Int), .int .i64 (y.2.2 : Int)] 50)).cell? ((⟨w5.heap.size, 0, none⟩ : Addr).add j) = some u) := Lib.hid (World.news_of_block (heap_alloc_new w5.drew (.cells #[.string y.1, .int .i64 (y.2.1 : Int), .int .i64 (y.2.2 : Int)] 50)))
      have HOC : Hid (∀ u ∈ ([.string y.1, .int .i64 (y.2.1 : Int), .int .i64 (y.2.2 : Int)] : List Value), u.oneCell' = true) := Lib.hid (by intro u hu; simp at hu; rcases hu with rfl | rfl | rfl <;> rfl)
      have HGA : Hid (∀ W', World.grownBy (w5.drew.alloc (.cells #[.string y.1, .int .i64 (y.2.1 : Int), .int .i64 (y.2.2 : Int)] 50)) W' (Value.ownBlock (.slice A L.length c)) → W'.cell? ⟨g, off, none⟩ = some (.slice A L.length c) ∧ W'.frozen? ⟨g, off, none⟩ = false) := Lib.hid (fun W' hg => HG.out _ W' HBW.out hg)
      have pfa := (HPT.out _ HBW.out).1
      have pfb := (HPT.out _ HBW2.out).1
      have b0 := HBX.out.cell 0
      have b1 := HBX.out.cell 1
      have b2 := HBX.out.cell 2
      simp at b0 b1 b2
      have a0 := (HBXW.out _ HBL.out).cell 0
      have d0 := (HBXW.out _ HBL2.out).cell 0
      have a1 := (HBXW.out _ HBL.out).cell 1
      have d1 := (HBXW.out _ HBL2.out).cell 1
      have a2 := (HBXW.out _ HBL.out).cell 2
      have d2 := (HBXW.out _ HBL2.out).cell 2
      simp at a0 d0 a1 d1 a2 d2
      clear hi0 hz0 hz1 hz2 HG HPT HBX0
      go_upto_region 9 with fail
      go_region_law (first | (refine step_append_lies _ (by rfl) _ _ 43 (by rfl) B 50 i0 (.agg #[.string ⟨#[]⟩, .int .i64 0, .int .i64 0]) 3 32 Tryz.underlying43 HI0.out HZ0.out HZ1.out HZ2.out rfl (by decide) (.slice A L.length c) L.length (L.flatMap cEs) (by rfl) HED.out ⟨w5.heap.size, 0, none⟩ 1 1 [.string y.1, .int .i64 (y.2.1 : Int), .int .i64 (y.2.2 : Int)] (by rfl) rfl HNW.out HOC.out (by decide) HNL.out HNB.out HBS.out _ rfl ?_; intro g5 c5 w8 hown5 hgrow5 hat5 hlt5; obtain ⟨x5a, x5b⟩ := HGA.out w8 hgrow5))
      all_goals
        go_wp2_with fail
        go_ret
        exact Or.inr (Or.inr ⟨HQ.out, HE3.out, rfl, _, _, _, _, _, HBW.out, hown5, hgrow5, hat5, rfl⟩)
set_option maxRecDepth 100000 in
set_option maxHeartbeats 8000000 in
theorem add_Is (q : Nat × ByteArray → Bool) (f b : Nat) (A : Option Addr) (c : Nat) (L : List (Nat × ByteArray)) (y : Nat × ByteArray) (lim g off : Nat) (w : World) (B : Nat) (hro : w.ownsRow B 79 2 (.slice A L.length c) L.length (L.flatMap cIs)) (hl : L.length ≤ 400) (hlim : lim ≤ 400)
    (hf : ∀ args W, (callFunc f args).run Tryz.prog W = .ok (.enter f args) W)
    (hc : ∀ x ∈ L, ∀ W, Below w.heap.size w W → Calls Tryz.prog f #[.agg #[.int .i64 (x.1 : Int), .string x.2], .pointer (some ⟨b, 0, none⟩)] W fun e W' => e = .returned (.bool (q x)) ∧ Below W.heap.size W W')
    (hB : B ≤ w.heap.size) (hG : ∀ W W', Below w.heap.size w W → W.grownBy W' (Value.slice A L.length c).ownBlock → W'.cell? ⟨g, off, none⟩ = some (.slice A L.length c) ∧ W'.frozen? ⟨g, off, none⟩ = false) :
    Calls Tryz.prog 85 #[.pointer (some ⟨g, off, none⟩), .agg #[.int .i64 (y.1 : Int), .string y.2], .func (.func f) #[] #[.pointer (some ⟨b, 0, none⟩)], .int .i64 (lim : Int)] w fun e w' => AddP w B 79 2 (.slice A L.length c) L.length (L.flatMap cIs) (cIs y) g off (fnd q L).isSome (decide (lim ≤ L.length)) e w' := by
  have HBA : Hid (Below w.heap.size w (w.alloc (.cells #[.int .i64 (y.1 : Int), .string y.2] 79))) := Lib.hid ((Below.refl _ w).alloc (Nat.le_refl _) _)
  have HPT : Hid (∀ W, Below w.heap.size w W → W.cell? ⟨g, off, none⟩ = some (.slice A L.length c) ∧ W.frozen? ⟨g, off, none⟩ = false) := Lib.hid (fun W hW => hG W W hW (World.grownBy.refl _ _))
  have HG := Lib.hid hG
  have HLEN := Lib.hid hl
  have HLIM := Lib.hid hlim
  have HBB := Lib.hid hB
  have HROW : Hid (∀ W, Below w.heap.size w W → W.ownsRow B 79 2 (.slice A L.length c) L.length (L.flatMap cIs)) := Lib.hid (fun W hW => hro.kept (grown_of_below hW none) (none_or _))
  have HFI := Lib.hid (find_Is q f b A c L (w.alloc (.cells #[.int .i64 (y.1 : Int), .string y.2] 79)) B (HROW.out _ HBA.out) hl hf (fun x hx W hW => hc x hx W (HBA.out.trans (hW.mono HBA.out.size))))
  have HBX0 : Hid (Bx (w.alloc (.cells #[.int .i64 (y.1 : Int), .string y.2] 79)) w.heap.size #[.int .i64 (y.1 : Int), .string y.2] 79) := Lib.hid (heap_alloc_new w _)
  have p0 := (HPT.out _ HBA.out).1
  clear hro hl hlim hf hc hB hG
  go_enter Tryz.func85, Tryz.ntmps85
  go_wp2_with fail
  with_reducible refine HFI.out.mono ?_
  rintro _ w5 ⟨rfl, hb5⟩
  have HB5 : Hid (Below w.heap.size w w5) := Lib.hid (HBA.out.trans (hb5.mono HBA.out.size))
  have HBX : Hid (Bx w5 w.heap.size #[.int .i64 (y.1 : Int), .string y.2] 79) := Lib.hid (HBX0.out.below hb5)
  have HBXW : Hid (∀ W, Below w5.heap.size w5 W → Bx W w.heap.size #[.int .i64 (y.1 : Int), .string y.2] 79) := Lib.hid (fun W hW => HBX.out.below hW)
  have p5 := (HPT.out _ HB5.out).1
  clear hb5 HFI p0
  cases hq : fnd q L with
  | some k =>
    have e1 : decide ((0 : Int) ≤ atI (some k)) = true := by show decide ((0 : Int) ≤ (k : Int)) = true; simp
    have HQ : Hid ((fnd q L).isSome = true) := Lib.hid (by rw [hq]; rfl)
    clear hq
    generalize atI (some k) = z at e1
    go_wp2_with fail
    go_ret
    exact Or.inl ⟨HQ.out, rfl, HB5.out⟩
  | none =>
    have e1 : decide ((0 : Int) ≤ atI none) = false := by decide
    have HQ : Hid ((fnd q L).isSome = false) := Lib.hid (by rw [hq]; rfl)
    clear hq
    generalize atI none = z at e1
    by_cases hl : lim ≤ L.length
    · have e2 : decide ((lim : Int) ≤ (L.length : Int)) = true := by simp; omega
      have HE3 : Hid (decide (lim ≤ L.length) = true) := Lib.hid (decide_eq_true hl)
      have e4 : decide (lim ≤ L.length) = true := decide_eq_true hl
      go_wp2_with fail
      go_ret
      exact Or.inr (Or.inl ⟨HQ.out, HE3.out, rfl, HB5.out⟩)
    · have e2 : decide ((lim : Int) ≤ (L.length : Int)) = false := by simp; omega
      have HE3 : Hid (decide (lim ≤ L.length) = false) := Lib.hid (decide_eq_false hl)
      have e4 : decide (lim ≤ L.length) = false := decide_eq_false hl
      obtain ⟨i0, hi0, hz0, hz1, hz2⟩ := info79
      have HI0 := Lib.hid hi0
      have HZ0 := Lib.hid hz0
      have HZ1 := Lib.hid hz1
      have HZ2 := Lib.hid hz2
      have HNL : Hid (L.length + 1 ≤ maxLen) := Lib.hid (by unfold maxLen; have := HLEN.out; omega)
      have HNB : Hid ((L.length + 1) * 24 ≤ 140737488355328) := Lib.hid (by have := HLEN.out; omega)
      have HBL : Hid (Below w5.heap.size w5 (w5.drew.alloc (.cells #[.int .i64 (y.1 : Int), .string y.2] 79))) := Lib.hid ((Below.refl _ w5).drew.alloc (Nat.le_refl _) _)
      have HBL2 : Hid (Below w5.heap.size w5 (w5.alloc (.cells #[.int .i64 (y.1 : Int), .string y.2] 79))) := Lib.hid ((Below.refl _ w5).alloc (Nat.le_refl _) _)
      have HBW : Hid (Below w.heap.size w (w5.drew.alloc (.cells #[.int .i64 (y.1 : Int), .string y.2] 79))) := Lib.hid (HB5.out.trans (HBL.out.mono HB5.out.size))
      have HBW2 : Hid (Below w.heap.size w (w5.alloc (.cells #[.int .i64 (y.1 : Int), .string y.2] 79))) := Lib.hid (HB5.out.trans (HBL2.out.mono HB5.out.size))
      have HED : Hid ((w5.drew.alloc (.cells #[.int .i64 (y.1 : Int), .string y.2] 79)).ownsRow B 79 2 (.slice A L.length c) L.length (L.flatMap cIs)) := Lib.hid (HROW.out _ HBW.out)
      have HBS : Hid (B ≤ (w5.drew.alloc (.cells #[.int .i64 (y.1 : Int), .string y.2] 79)).heap.size) := Lib.hid (Nat.le_trans HBB.out HBW.out.size)
      have HNW : Hid (∀ j u, (#[.int .i64 (y.1 : Int), .string y.2] : Array Value).toList[j]? = some u → (w5.drew.alloc (.cells #[.int .i64 (y.1 : Int), .string y.2] 79)).cell? ((⟨w5.heap.size, 0, none⟩ : Addr).add j) = some u) := Lib.hid (World.news_of_block (heap_alloc_new w5.drew (.cells #[.int .i64 (y.1 : Int), .string y.2] 79)))
      have HOC : Hid (∀ u ∈ ([.int .i64 (y.1 : Int), .string y.2] : List Value), u.oneCell' = true) := Lib.hid (by intro u hu; simp at hu; rcases hu with rfl | rfl <;> rfl)
      have HGA : Hid (∀ W', World.grownBy (w5.drew.alloc (.cells #[.int .i64 (y.1 : Int), .string y.2] 79)) W' (Value.ownBlock (.slice A L.length c)) → W'.cell? ⟨g, off, none⟩ = some (.slice A L.length c) ∧ W'.frozen? ⟨g, off, none⟩ = false) := Lib.hid (fun W' hg => HG.out _ W' HBW.out hg)
      have pfa := (HPT.out _ HBW.out).1
      have pfb := (HPT.out _ HBW2.out).1
      have b0 := HBX.out.cell 0
      have b1 := HBX.out.cell 1
      simp at b0 b1
      have a0 := (HBXW.out _ HBL.out).cell 0
      have d0 := (HBXW.out _ HBL2.out).cell 0
      have a1 := (HBXW.out _ HBL.out).cell 1
      have d1 := (HBXW.out _ HBL2.out).cell 1
      simp at a0 d0 a1 d1
      clear hi0 hz0 hz1 hz2 HG HPT HBX0
      go_upto_region 9 with fail
      go_region_law (first | (refine step_append_lies _ (by rfl) _ _ 44 (by rfl) B 79 i0 (.agg #[.int .i64 0, .string ⟨#[]⟩]) 2 24 Tryz.underlying44 HI0.out HZ0.out HZ1.out HZ2.out rfl (by decide) (.slice A L.length c) L.length (L.flatMap cIs) (by rfl) HED.out ⟨w5.heap.size, 0, none⟩ 1 1 [.int .i64 (y.1 : Int), .string y.2] (by rfl) rfl HNW.out HOC.out (by decide) HNL.out HNB.out HBS.out _ rfl ?_; intro g5 c5 w8 hown5 hgrow5 hat5 hlt5; obtain ⟨x5a, x5b⟩ := HGA.out w8 hgrow5))
      all_goals
        go_wp2_with fail
        go_ret
        exact Or.inr (Or.inr ⟨HQ.out, HE3.out, rfl, _, _, _, _, _, HBW.out, hown5, hgrow5, hat5, rfl⟩)
set_option maxRecDepth 100000 in
set_option maxHeartbeats 8000000 in
theorem add_Ds (q : ByteArray × Nat × Nat → Bool) (f b : Nat) (A : Option Addr) (c : Nat) (L : List (ByteArray × Nat × Nat)) (y : ByteArray × Nat × Nat) (lim g off : Nat) (w : World) (B : Nat) (hro : w.ownsRow B 90 3 (.slice A L.length c) L.length (L.flatMap cDs)) (hl : L.length ≤ 400) (hlim : lim ≤ 400)
    (hf : ∀ args W, (callFunc f args).run Tryz.prog W = .ok (.enter f args) W)
    (hc : ∀ x ∈ L, ∀ W, Below w.heap.size w W → Calls Tryz.prog f #[.agg #[.string x.1, .int .u32 (x.2.1 : Int), .int .u32 (x.2.2 : Int)], .pointer (some ⟨b, 0, none⟩)] W fun e W' => e = .returned (.bool (q x)) ∧ Below W.heap.size W W')
    (hB : B ≤ w.heap.size) (hG : ∀ W W', Below w.heap.size w W → W.grownBy W' (Value.slice A L.length c).ownBlock → W'.cell? ⟨g, off, none⟩ = some (.slice A L.length c) ∧ W'.frozen? ⟨g, off, none⟩ = false) :
    Calls Tryz.prog 87 #[.pointer (some ⟨g, off, none⟩), .agg #[.string y.1, .int .u32 (y.2.1 : Int), .int .u32 (y.2.2 : Int)], .func (.func f) #[] #[.pointer (some ⟨b, 0, none⟩)], .int .i64 (lim : Int)] w fun e w' => AddP w B 90 3 (.slice A L.length c) L.length (L.flatMap cDs) (cDs y) g off (fnd q L).isSome (decide (lim ≤ L.length)) e w' := by
  have HBA : Hid (Below w.heap.size w (w.alloc (.cells #[.string y.1, .int .u32 (y.2.1 : Int), .int .u32 (y.2.2 : Int)] 90))) := Lib.hid ((Below.refl _ w).alloc (Nat.le_refl _) _)
  have HPT : Hid (∀ W, Below w.heap.size w W → W.cell? ⟨g, off, none⟩ = some (.slice A L.length c) ∧ W.frozen? ⟨g, off, none⟩ = false) := Lib.hid (fun W hW => hG W W hW (World.grownBy.refl _ _))
  have HG := Lib.hid hG
  have HLEN := Lib.hid hl
  have HLIM := Lib.hid hlim
  have HBB := Lib.hid hB
  have HROW : Hid (∀ W, Below w.heap.size w W → W.ownsRow B 90 3 (.slice A L.length c) L.length (L.flatMap cDs)) := Lib.hid (fun W hW => hro.kept (grown_of_below hW none) (none_or _))
  have HFI := Lib.hid (find_Ds q f b A c L (w.alloc (.cells #[.string y.1, .int .u32 (y.2.1 : Int), .int .u32 (y.2.2 : Int)] 90)) B (HROW.out _ HBA.out) hl hf (fun x hx W hW => hc x hx W (HBA.out.trans (hW.mono HBA.out.size))))
  have HBX0 : Hid (Bx (w.alloc (.cells #[.string y.1, .int .u32 (y.2.1 : Int), .int .u32 (y.2.2 : Int)] 90)) w.heap.size #[.string y.1, .int .u32 (y.2.1 : Int), .int .u32 (y.2.2 : Int)] 90) := Lib.hid (heap_alloc_new w _)
  have p0 := (HPT.out _ HBA.out).1
  clear hro hl hlim hf hc hB hG
  go_enter Tryz.func87, Tryz.ntmps87
  go_wp2_with fail
  with_reducible refine HFI.out.mono ?_
  rintro _ w5 ⟨rfl, hb5⟩
  have HB5 : Hid (Below w.heap.size w w5) := Lib.hid (HBA.out.trans (hb5.mono HBA.out.size))
  have HBX : Hid (Bx w5 w.heap.size #[.string y.1, .int .u32 (y.2.1 : Int), .int .u32 (y.2.2 : Int)] 90) := Lib.hid (HBX0.out.below hb5)
  have HBXW : Hid (∀ W, Below w5.heap.size w5 W → Bx W w.heap.size #[.string y.1, .int .u32 (y.2.1 : Int), .int .u32 (y.2.2 : Int)] 90) := Lib.hid (fun W hW => HBX.out.below hW)
  have p5 := (HPT.out _ HB5.out).1
  clear hb5 HFI p0
  cases hq : fnd q L with
  | some k =>
    have e1 : decide ((0 : Int) ≤ atI (some k)) = true := by show decide ((0 : Int) ≤ (k : Int)) = true; simp
    have HQ : Hid ((fnd q L).isSome = true) := Lib.hid (by rw [hq]; rfl)
    clear hq
    generalize atI (some k) = z at e1
    go_wp2_with fail
    go_ret
    exact Or.inl ⟨HQ.out, rfl, HB5.out⟩
  | none =>
    have e1 : decide ((0 : Int) ≤ atI none) = false := by decide
    have HQ : Hid ((fnd q L).isSome = false) := Lib.hid (by rw [hq]; rfl)
    clear hq
    generalize atI none = z at e1
    by_cases hl : lim ≤ L.length
    · have e2 : decide ((lim : Int) ≤ (L.length : Int)) = true := by simp; omega
      have HE3 : Hid (decide (lim ≤ L.length) = true) := Lib.hid (decide_eq_true hl)
      have e4 : decide (lim ≤ L.length) = true := decide_eq_true hl
      go_wp2_with fail
      go_ret
      exact Or.inr (Or.inl ⟨HQ.out, HE3.out, rfl, HB5.out⟩)
    · have e2 : decide ((lim : Int) ≤ (L.length : Int)) = false := by simp; omega
      have HE3 : Hid (decide (lim ≤ L.length) = false) := Lib.hid (decide_eq_false hl)
      have e4 : decide (lim ≤ L.length) = false := decide_eq_false hl
      obtain ⟨i0, hi0, hz0, hz1, hz2⟩ := info90
      have HI0 := Lib.hid hi0
      have HZ0 := Lib.hid hz0
      have HZ1 := Lib.hid hz1
      have HZ2 := Lib.hid hz2
      have HNL : Hid (L.length + 1 ≤ maxLen) := Lib.hid (by unfold maxLen; have := HLEN.out; omega)
      have HNB : Hid ((L.length + 1) * 24 ≤ 140737488355328) := Lib.hid (by have := HLEN.out; omega)
      have HBL : Hid (Below w5.heap.size w5 (w5.drew.alloc (.cells #[.string y.1, .int .u32 (y.2.1 : Int), .int .u32 (y.2.2 : Int)] 90))) := Lib.hid ((Below.refl _ w5).drew.alloc (Nat.le_refl _) _)
      have HBL2 : Hid (Below w5.heap.size w5 (w5.alloc (.cells #[.string y.1, .int .u32 (y.2.1 : Int), .int .u32 (y.2.2 : Int)] 90))) := Lib.hid ((Below.refl _ w5).alloc (Nat.le_refl _) _)
      have HBW : Hid (Below w.heap.size w (w5.drew.alloc (.cells #[.string y.1, .int .u32 (y.2.1 : Int), .int .u32 (y.2.2 : Int)] 90))) := Lib.hid (HB5.out.trans (HBL.out.mono HB5.out.size))
      have HBW2 : Hid (Below w.heap.size w (w5.alloc (.cells #[.string y.1, .int .u32 (y.2.1 : Int), .int .u32 (y.2.2 : Int)] 90))) := Lib.hid (HB5.out.trans (HBL2.out.mono HB5.out.size))
      have HED : Hid ((w5.drew.alloc (.cells #[.string y.1, .int .u32 (y.2.1 : Int), .int .u32 (y.2.2 : Int)] 90)).ownsRow B 90 3 (.slice A L.length c) L.length (L.flatMap cDs)) := Lib.hid (HROW.out _ HBW.out)
      have HBS : Hid (B ≤ (w5.drew.alloc (.cells #[.string y.1, .int .u32 (y.2.1 : Int), .int .u32 (y.2.2 : Int)] 90)).heap.size) := Lib.hid (Nat.le_trans HBB.out HBW.out.size)
      have HNW : Hid (∀ j u, (#[.string y.1, .int .u32 (y.2.1 : Int), .int .u32 (y.2.2 : Int)] : Array Value).toList[j]? = some u → (w5.drew.alloc (.cells #[.string y.1, .int .u32 (y.2.1 : Int), .int .u32 (y.2.2 : Int)] 90)).cell? ((⟨w5.heap.size, 0, none⟩ : Addr).add j) = some u) := Lib.hid (World.news_of_block (heap_alloc_new w5.drew (.cells #[.string y.1, .int .u32 (y.2.1 : Int), .int .u32 (y.2.2 : Int)] 90)))
      have HOC : Hid (∀ u ∈ ([.string y.1, .int .u32 (y.2.1 : Int), .int .u32 (y.2.2 : Int)] : List Value), u.oneCell' = true) := Lib.hid (by intro u hu; simp at hu; rcases hu with rfl | rfl | rfl <;> rfl)
      have HGA : Hid (∀ W', World.grownBy (w5.drew.alloc (.cells #[.string y.1, .int .u32 (y.2.1 : Int), .int .u32 (y.2.2 : Int)] 90)) W' (Value.ownBlock (.slice A L.length c)) → W'.cell? ⟨g, off, none⟩ = some (.slice A L.length c) ∧ W'.frozen? ⟨g, off, none⟩ = false) := Lib.hid (fun W' hg => HG.out _ W' HBW.out hg)
      have pfa := (HPT.out _ HBW.out).1
      have pfb := (HPT.out _ HBW2.out).1
      have b0 := HBX.out.cell 0
      have b1 := HBX.out.cell 1
      have b2 := HBX.out.cell 2
      simp at b0 b1 b2
      have a0 := (HBXW.out _ HBL.out).cell 0
      have d0 := (HBXW.out _ HBL2.out).cell 0
      have a1 := (HBXW.out _ HBL.out).cell 1
      have d1 := (HBXW.out _ HBL2.out).cell 1
      have a2 := (HBXW.out _ HBL.out).cell 2
      have d2 := (HBXW.out _ HBL2.out).cell 2
      simp at a0 d0 a1 d1 a2 d2
      clear hi0 hz0 hz1 hz2 HG HPT HBX0
      go_upto_region 9 with fail
      go_region_law (first | (refine step_append_lies _ (by rfl) _ _ 45 (by rfl) B 90 i0 (.agg #[.string ⟨#[]⟩, .int .u32 0, .int .u32 0]) 3 24 Tryz.underlying45 HI0.out HZ0.out HZ1.out HZ2.out rfl (by decide) (.slice A L.length c) L.length (L.flatMap cDs) (by rfl) HED.out ⟨w5.heap.size, 0, none⟩ 1 1 [.string y.1, .int .u32 (y.2.1 : Int), .int .u32 (y.2.2 : Int)] (by rfl) rfl HNW.out HOC.out (by decide) HNL.out HNB.out HBS.out _ rfl ?_; intro g5 c5 w8 hown5 hgrow5 hat5 hlt5; obtain ⟨x5a, x5b⟩ := HGA.out w8 hgrow5))
      all_goals
        go_wp2_with fail
        go_ret
        exact Or.inr (Or.inr ⟨HQ.out, HE3.out, rfl, _, _, _, _, _, HBW.out, hown5, hgrow5, hat5, rfl⟩)
set_option maxRecDepth 100000 in
set_option maxHeartbeats 8000000 in
theorem add_Gs (q : Nat × Bool → Bool) (f b : Nat) (A : Option Addr) (c : Nat) (L : List (Nat × Bool)) (y : Nat × Bool) (lim g off : Nat) (w : World) (B : Nat) (hro : w.ownsRow B 92 2 (.slice A L.length c) L.length (L.flatMap cGs)) (hl : L.length ≤ 400) (hlim : lim ≤ 400)
    (hf : ∀ args W, (callFunc f args).run Tryz.prog W = .ok (.enter f args) W)
    (hc : ∀ x ∈ L, ∀ W, Below w.heap.size w W → Calls Tryz.prog f #[.agg #[.int .i64 (x.1 : Int), .bool x.2], .pointer (some ⟨b, 0, none⟩)] W fun e W' => e = .returned (.bool (q x)) ∧ Below W.heap.size W W')
    (hB : B ≤ w.heap.size) (hG : ∀ W W', Below w.heap.size w W → W.grownBy W' (Value.slice A L.length c).ownBlock → W'.cell? ⟨g, off, none⟩ = some (.slice A L.length c) ∧ W'.frozen? ⟨g, off, none⟩ = false) :
    Calls Tryz.prog 93 #[.pointer (some ⟨g, off, none⟩), .agg #[.int .i64 (y.1 : Int), .bool y.2], .func (.func f) #[] #[.pointer (some ⟨b, 0, none⟩)], .int .i64 (lim : Int)] w fun e w' => AddP w B 92 2 (.slice A L.length c) L.length (L.flatMap cGs) (cGs y) g off (fnd q L).isSome (decide (lim ≤ L.length)) e w' := by
  have HBA : Hid (Below w.heap.size w (w.alloc (.cells #[.int .i64 (y.1 : Int), .bool y.2] 92))) := Lib.hid ((Below.refl _ w).alloc (Nat.le_refl _) _)
  have HPT : Hid (∀ W, Below w.heap.size w W → W.cell? ⟨g, off, none⟩ = some (.slice A L.length c) ∧ W.frozen? ⟨g, off, none⟩ = false) := Lib.hid (fun W hW => hG W W hW (World.grownBy.refl _ _))
  have HG := Lib.hid hG
  have HLEN := Lib.hid hl
  have HLIM := Lib.hid hlim
  have HBB := Lib.hid hB
  have HROW : Hid (∀ W, Below w.heap.size w W → W.ownsRow B 92 2 (.slice A L.length c) L.length (L.flatMap cGs)) := Lib.hid (fun W hW => hro.kept (grown_of_below hW none) (none_or _))
  have HFI := Lib.hid (find_Gs q f b A c L (w.alloc (.cells #[.int .i64 (y.1 : Int), .bool y.2] 92)) B (HROW.out _ HBA.out) hl hf (fun x hx W hW => hc x hx W (HBA.out.trans (hW.mono HBA.out.size))))
  have HBX0 : Hid (Bx (w.alloc (.cells #[.int .i64 (y.1 : Int), .bool y.2] 92)) w.heap.size #[.int .i64 (y.1 : Int), .bool y.2] 92) := Lib.hid (heap_alloc_new w _)
  have p0 := (HPT.out _ HBA.out).1
  clear hro hl hlim hf hc hB hG
  go_enter Tryz.func93, Tryz.ntmps93
  go_wp2_with fail
  with_reducible refine HFI.out.mono ?_
  rintro _ w5 ⟨rfl, hb5⟩
  have HB5 : Hid (Below w.heap.size w w5) := Lib.hid (HBA.out.trans (hb5.mono HBA.out.size))
  have HBX : Hid (Bx w5 w.heap.size #[.int .i64 (y.1 : Int), .bool y.2] 92) := Lib.hid (HBX0.out.below hb5)
  have HBXW : Hid (∀ W, Below w5.heap.size w5 W → Bx W w.heap.size #[.int .i64 (y.1 : Int), .bool y.2] 92) := Lib.hid (fun W hW => HBX.out.below hW)
  have p5 := (HPT.out _ HB5.out).1
  clear hb5 HFI p0
  cases hq : fnd q L with
  | some k =>
    have e1 : decide ((0 : Int) ≤ atI (some k)) = true := by show decide ((0 : Int) ≤ (k : Int)) = true; simp
    have HQ : Hid ((fnd q L).isSome = true) := Lib.hid (by rw [hq]; rfl)
    clear hq
    generalize atI (some k) = z at e1
    go_wp2_with fail
    go_ret
    exact Or.inl ⟨HQ.out, rfl, HB5.out⟩
  | none =>
    have e1 : decide ((0 : Int) ≤ atI none) = false := by decide
    have HQ : Hid ((fnd q L).isSome = false) := Lib.hid (by rw [hq]; rfl)
    clear hq
    generalize atI none = z at e1
    by_cases hl : lim ≤ L.length
    · have e2 : decide ((lim : Int) ≤ (L.length : Int)) = true := by simp; omega
      have HE3 : Hid (decide (lim ≤ L.length) = true) := Lib.hid (decide_eq_true hl)
      have e4 : decide (lim ≤ L.length) = true := decide_eq_true hl
      go_wp2_with fail
      go_ret
      exact Or.inr (Or.inl ⟨HQ.out, HE3.out, rfl, HB5.out⟩)
    · have e2 : decide ((lim : Int) ≤ (L.length : Int)) = false := by simp; omega
      have HE3 : Hid (decide (lim ≤ L.length) = false) := Lib.hid (decide_eq_false hl)
      have e4 : decide (lim ≤ L.length) = false := decide_eq_false hl
      obtain ⟨i0, hi0, hz0, hz1, hz2⟩ := info92
      have HI0 := Lib.hid hi0
      have HZ0 := Lib.hid hz0
      have HZ1 := Lib.hid hz1
      have HZ2 := Lib.hid hz2
      have HNL : Hid (L.length + 1 ≤ maxLen) := Lib.hid (by unfold maxLen; have := HLEN.out; omega)
      have HNB : Hid ((L.length + 1) * 16 ≤ 140737488355328) := Lib.hid (by have := HLEN.out; omega)
      have HBL : Hid (Below w5.heap.size w5 (w5.drew.alloc (.cells #[.int .i64 (y.1 : Int), .bool y.2] 92))) := Lib.hid ((Below.refl _ w5).drew.alloc (Nat.le_refl _) _)
      have HBL2 : Hid (Below w5.heap.size w5 (w5.alloc (.cells #[.int .i64 (y.1 : Int), .bool y.2] 92))) := Lib.hid ((Below.refl _ w5).alloc (Nat.le_refl _) _)
      have HBW : Hid (Below w.heap.size w (w5.drew.alloc (.cells #[.int .i64 (y.1 : Int), .bool y.2] 92))) := Lib.hid (HB5.out.trans (HBL.out.mono HB5.out.size))
      have HBW2 : Hid (Below w.heap.size w (w5.alloc (.cells #[.int .i64 (y.1 : Int), .bool y.2] 92))) := Lib.hid (HB5.out.trans (HBL2.out.mono HB5.out.size))
      have HED : Hid ((w5.drew.alloc (.cells #[.int .i64 (y.1 : Int), .bool y.2] 92)).ownsRow B 92 2 (.slice A L.length c) L.length (L.flatMap cGs)) := Lib.hid (HROW.out _ HBW.out)
      have HBS : Hid (B ≤ (w5.drew.alloc (.cells #[.int .i64 (y.1 : Int), .bool y.2] 92)).heap.size) := Lib.hid (Nat.le_trans HBB.out HBW.out.size)
      have HNW : Hid (∀ j u, (#[.int .i64 (y.1 : Int), .bool y.2] : Array Value).toList[j]? = some u → (w5.drew.alloc (.cells #[.int .i64 (y.1 : Int), .bool y.2] 92)).cell? ((⟨w5.heap.size, 0, none⟩ : Addr).add j) = some u) := Lib.hid (World.news_of_block (heap_alloc_new w5.drew (.cells #[.int .i64 (y.1 : Int), .bool y.2] 92)))
      have HOC : Hid (∀ u ∈ ([.int .i64 (y.1 : Int), .bool y.2] : List Value), u.oneCell' = true) := Lib.hid (by intro u hu; simp at hu; rcases hu with rfl | rfl <;> rfl)
      have HGA : Hid (∀ W', World.grownBy (w5.drew.alloc (.cells #[.int .i64 (y.1 : Int), .bool y.2] 92)) W' (Value.ownBlock (.slice A L.length c)) → W'.cell? ⟨g, off, none⟩ = some (.slice A L.length c) ∧ W'.frozen? ⟨g, off, none⟩ = false) := Lib.hid (fun W' hg => HG.out _ W' HBW.out hg)
      have pfa := (HPT.out _ HBW.out).1
      have pfb := (HPT.out _ HBW2.out).1
      have b0 := HBX.out.cell 0
      have b1 := HBX.out.cell 1
      simp at b0 b1
      have a0 := (HBXW.out _ HBL.out).cell 0
      have d0 := (HBXW.out _ HBL2.out).cell 0
      have a1 := (HBXW.out _ HBL.out).cell 1
      have d1 := (HBXW.out _ HBL2.out).cell 1
      simp at a0 d0 a1 d1
      clear hi0 hz0 hz1 hz2 HG HPT HBX0
      go_upto_region 9 with fail
      go_region_law (first | (refine step_append_lies _ (by rfl) _ _ 46 (by rfl) B 92 i0 (.agg #[.int .i64 0, .bool false]) 2 16 Tryz.underlying46 HI0.out HZ0.out HZ1.out HZ2.out rfl (by decide) (.slice A L.length c) L.length (L.flatMap cGs) (by rfl) HED.out ⟨w5.heap.size, 0, none⟩ 1 1 [.int .i64 (y.1 : Int), .bool y.2] (by rfl) rfl HNW.out HOC.out (by decide) HNL.out HNB.out HBS.out _ rfl ?_; intro g5 c5 w8 hown5 hgrow5 hat5 hlt5; obtain ⟨x5a, x5b⟩ := HGA.out w8 hgrow5))
      all_goals
        go_wp2_with fail
        go_ret
        exact Or.inr (Or.inr ⟨HQ.out, HE3.out, rfl, _, _, _, _, _, HBW.out, hown5, hgrow5, hat5, rfl⟩)
set_option maxRecDepth 100000 in
set_option maxHeartbeats 8000000 in
theorem add_Ss (q : ByteArray × Nat → Bool) (f b : Nat) (A : Option Addr) (c : Nat) (L : List (ByteArray × Nat)) (y : ByteArray × Nat) (lim g off : Nat) (w : World) (B : Nat) (hro : w.ownsRow B 68 2 (.slice A L.length c) L.length (L.flatMap cSs)) (hl : L.length ≤ 400) (hlim : lim ≤ 400)
    (hf : ∀ args W, (callFunc f args).run Tryz.prog W = .ok (.enter f args) W)
    (hc : ∀ x ∈ L, ∀ W, Below w.heap.size w W → Calls Tryz.prog f #[.agg #[.string x.1, .int .i64 (x.2 : Int)], .pointer (some ⟨b, 0, none⟩)] W fun e W' => e = .returned (.bool (q x)) ∧ Below W.heap.size W W')
    (hB : B ≤ w.heap.size) (hG : ∀ W W', Below w.heap.size w W → W.grownBy W' (Value.slice A L.length c).ownBlock → W'.cell? ⟨g, off, none⟩ = some (.slice A L.length c) ∧ W'.frozen? ⟨g, off, none⟩ = false) :
    Calls Tryz.prog 89 #[.pointer (some ⟨g, off, none⟩), .agg #[.string y.1, .int .i64 (y.2 : Int)], .func (.func f) #[] #[.pointer (some ⟨b, 0, none⟩)], .int .i64 (lim : Int)] w fun e w' => AddP w B 68 2 (.slice A L.length c) L.length (L.flatMap cSs) (cSs y) g off (fnd q L).isSome (decide (lim ≤ L.length)) e w' := by
  have HBA : Hid (Below w.heap.size w (w.alloc (.cells #[.string y.1, .int .i64 (y.2 : Int)] 68))) := Lib.hid ((Below.refl _ w).alloc (Nat.le_refl _) _)
  have HPT : Hid (∀ W, Below w.heap.size w W → W.cell? ⟨g, off, none⟩ = some (.slice A L.length c) ∧ W.frozen? ⟨g, off, none⟩ = false) := Lib.hid (fun W hW => hG W W hW (World.grownBy.refl _ _))
  have HG := Lib.hid hG
  have HLEN := Lib.hid hl
  have HLIM := Lib.hid hlim
  have HBB := Lib.hid hB
  have HROW : Hid (∀ W, Below w.heap.size w W → W.ownsRow B 68 2 (.slice A L.length c) L.length (L.flatMap cSs)) := Lib.hid (fun W hW => hro.kept (grown_of_below hW none) (none_or _))
  have HFI := Lib.hid (find_Ss q f b A c L (w.alloc (.cells #[.string y.1, .int .i64 (y.2 : Int)] 68)) B (HROW.out _ HBA.out) hl hf (fun x hx W hW => hc x hx W (HBA.out.trans (hW.mono HBA.out.size))))
  have HBX0 : Hid (Bx (w.alloc (.cells #[.string y.1, .int .i64 (y.2 : Int)] 68)) w.heap.size #[.string y.1, .int .i64 (y.2 : Int)] 68) := Lib.hid (heap_alloc_new w _)
  have p0 := (HPT.out _ HBA.out).1
  clear hro hl hlim hf hc hB hG
  go_enter Tryz.func89, Tryz.ntmps89
  go_wp2_with fail
  with_reducible refine HFI.out.mono ?_
  rintro _ w5 ⟨rfl, hb5⟩
  have HB5 : Hid (Below w.heap.size w w5) := Lib.hid (HBA.out.trans (hb5.mono HBA.out.size))
  have HBX : Hid (Bx w5 w.heap.size #[.string y.1, .int .i64 (y.2 : Int)] 68) := Lib.hid (HBX0.out.below hb5)
  have HBXW : Hid (∀ W, Below w5.heap.size w5 W → Bx W w.heap.size #[.string y.1, .int .i64 (y.2 : Int)] 68) := Lib.hid (fun W hW => HBX.out.below hW)
  have p5 := (HPT.out _ HB5.out).1
  clear hb5 HFI p0
  cases hq : fnd q L with
  | some k =>
    have e1 : decide ((0 : Int) ≤ atI (some k)) = true := by show decide ((0 : Int) ≤ (k : Int)) = true; simp
    have HQ : Hid ((fnd q L).isSome = true) := Lib.hid (by rw [hq]; rfl)
    clear hq
    generalize atI (some k) = z at e1
    go_wp2_with fail
    go_ret
    exact Or.inl ⟨HQ.out, rfl, HB5.out⟩
  | none =>
    have e1 : decide ((0 : Int) ≤ atI none) = false := by decide
    have HQ : Hid ((fnd q L).isSome = false) := Lib.hid (by rw [hq]; rfl)
    clear hq
    generalize atI none = z at e1
    by_cases hl : lim ≤ L.length
    · have e2 : decide ((lim : Int) ≤ (L.length : Int)) = true := by simp; omega
      have HE3 : Hid (decide (lim ≤ L.length) = true) := Lib.hid (decide_eq_true hl)
      have e4 : decide (lim ≤ L.length) = true := decide_eq_true hl
      go_wp2_with fail
      go_ret
      exact Or.inr (Or.inl ⟨HQ.out, HE3.out, rfl, HB5.out⟩)
    · have e2 : decide ((lim : Int) ≤ (L.length : Int)) = false := by simp; omega
      have HE3 : Hid (decide (lim ≤ L.length) = false) := Lib.hid (decide_eq_false hl)
      have e4 : decide (lim ≤ L.length) = false := decide_eq_false hl
      obtain ⟨i0, hi0, hz0, hz1, hz2⟩ := info68
      have HI0 := Lib.hid hi0
      have HZ0 := Lib.hid hz0
      have HZ1 := Lib.hid hz1
      have HZ2 := Lib.hid hz2
      have HNL : Hid (L.length + 1 ≤ maxLen) := Lib.hid (by unfold maxLen; have := HLEN.out; omega)
      have HNB : Hid ((L.length + 1) * 24 ≤ 140737488355328) := Lib.hid (by have := HLEN.out; omega)
      have HBL : Hid (Below w5.heap.size w5 (w5.drew.alloc (.cells #[.string y.1, .int .i64 (y.2 : Int)] 68))) := Lib.hid ((Below.refl _ w5).drew.alloc (Nat.le_refl _) _)
      have HBL2 : Hid (Below w5.heap.size w5 (w5.alloc (.cells #[.string y.1, .int .i64 (y.2 : Int)] 68))) := Lib.hid ((Below.refl _ w5).alloc (Nat.le_refl _) _)
      have HBW : Hid (Below w.heap.size w (w5.drew.alloc (.cells #[.string y.1, .int .i64 (y.2 : Int)] 68))) := Lib.hid (HB5.out.trans (HBL.out.mono HB5.out.size))
      have HBW2 : Hid (Below w.heap.size w (w5.alloc (.cells #[.string y.1, .int .i64 (y.2 : Int)] 68))) := Lib.hid (HB5.out.trans (HBL2.out.mono HB5.out.size))
      have HED : Hid ((w5.drew.alloc (.cells #[.string y.1, .int .i64 (y.2 : Int)] 68)).ownsRow B 68 2 (.slice A L.length c) L.length (L.flatMap cSs)) := Lib.hid (HROW.out _ HBW.out)
      have HBS : Hid (B ≤ (w5.drew.alloc (.cells #[.string y.1, .int .i64 (y.2 : Int)] 68)).heap.size) := Lib.hid (Nat.le_trans HBB.out HBW.out.size)
      have HNW : Hid (∀ j u, (#[.string y.1, .int .i64 (y.2 : Int)] : Array Value).toList[j]? = some u → (w5.drew.alloc (.cells #[.string y.1, .int .i64 (y.2 : Int)] 68)).cell? ((⟨w5.heap.size, 0, none⟩ : Addr).add j) = some u) := Lib.hid (World.news_of_block (heap_alloc_new w5.drew (.cells #[.string y.1, .int .i64 (y.2 : Int)] 68)))
      have HOC : Hid (∀ u ∈ ([.string y.1, .int .i64 (y.2 : Int)] : List Value), u.oneCell' = true) := Lib.hid (by intro u hu; simp at hu; rcases hu with rfl | rfl <;> rfl)
      have HGA : Hid (∀ W', World.grownBy (w5.drew.alloc (.cells #[.string y.1, .int .i64 (y.2 : Int)] 68)) W' (Value.ownBlock (.slice A L.length c)) → W'.cell? ⟨g, off, none⟩ = some (.slice A L.length c) ∧ W'.frozen? ⟨g, off, none⟩ = false) := Lib.hid (fun W' hg => HG.out _ W' HBW.out hg)
      have pfa := (HPT.out _ HBW.out).1
      have pfb := (HPT.out _ HBW2.out).1
      have b0 := HBX.out.cell 0
      have b1 := HBX.out.cell 1
      simp at b0 b1
      have a0 := (HBXW.out _ HBL.out).cell 0
      have d0 := (HBXW.out _ HBL2.out).cell 0
      have a1 := (HBXW.out _ HBL.out).cell 1
      have d1 := (HBXW.out _ HBL2.out).cell 1
      simp at a0 d0 a1 d1
      clear hi0 hz0 hz1 hz2 HG HPT HBX0
      go_upto_region 9 with fail
      go_region_law (first | (refine step_append_lies _ (by rfl) _ _ 22 (by rfl) B 68 i0 (.agg #[.string ⟨#[]⟩, .int .i64 0]) 2 24 Tryz.underlying22 HI0.out HZ0.out HZ1.out HZ2.out rfl (by decide) (.slice A L.length c) L.length (L.flatMap cSs) (by rfl) HED.out ⟨w5.heap.size, 0, none⟩ 1 1 [.string y.1, .int .i64 (y.2 : Int)] (by rfl) rfl HNW.out HOC.out (by decide) HNL.out HNB.out HBS.out _ rfl ?_; intro g5 c5 w8 hown5 hgrow5 hat5 hlt5; obtain ⟨x5a, x5b⟩ := HGA.out w8 hgrow5))
      all_goals
        go_wp2_with fail
        go_ret
        exact Or.inr (Or.inr ⟨HQ.out, HE3.out, rfl, _, _, _, _, _, HBW.out, hown5, hgrow5, hat5, rfl⟩)
end Go.Proofs.YtapdiionikfgpaaGreatDoor
