import Derived.Test.YtmanoheofloimaaGreatDoorRvz
import Derived.Test.YtmanoheofloimaaGreatDoorRkz
import Derived.Maps.AppendAt
namespace Go.Proofs.YtmanoheofloimaaGreatDoor
open Go.ChangeShapes Go.WideShapes Go.ChangeAt Go.RowKit Go.Shelf
set_option linter.unusedVariables false
set_option maxRecDepth 100000
attribute [local go_sem] Oper.semAt_some
theorem info39 : (Tryz.prog.info? 39).map (fun i => (i.zero, i.size, i.bytes)) = some (some (.agg dn0.L.toArray), 5, 48) := by kernel_rfl
def D1 : Dn := ⟨1, .slice none 0 0, false, 0, 0⟩
def X1 : St := trp (st0.put 0 nul) 1
theorem X1_halted : X1.halted = true := rfl
theorem D1_L : D1.L = [.int .u32 1, .slice none 0 0, .bool false, .int .u32 0, .int .u32 0] := rfl
theorem D1_one : D1.L.toArray.all (·.oneCell') = true := by kernel_rfl
/-- what stays between the rounds -/
structure Bs (w0 : World) (x q wb : Nat) (MB : Array Value) (W : World) : Prop where
  fx : Blk W x 36 MB
  fq : Blk W q 55 #[P x 0, .slice none 0 0]
  fw : Blk W wb 80 #[P q 0]
  fo : Only x w0 W
theorem blk_own {W W' : World} {row : Option Nat} {g : Nat} {t : TypeId} {C : Array Value} (h : Blk W g t C) (hg : W.grownBy W' row) (hr : ∀ r, row = some r → ∃ o : Obj, W.heap[r]? = some o ∧ o.isCells = false) : Blk W' g t C :=
  (hg.block g h.lt (fun e => by
    obtain ⟨o, ho, hc⟩ := hr g e.symm
    rw [show W.heap[g]? = _ from h] at ho
    cases ho
    cases hc)).trans h
theorem Bs.own {w0 W W' : World} {x q wb : Nat} {MB : Array Value} (h : Bs w0 x q wb MB W) {row : Option Nat} (hg : W.grownBy W' row) (hr : ∀ r, row = some r → w0.heap.size ≤ r ∧ ∃ o : Obj, W.heap[r]? = some o ∧ o.isCells = false) : Bs w0 x q wb MB W' :=
  { fx := blk_own h.fx hg (fun r e => (hr r e).2), fq := blk_own h.fq hg (fun r e => (hr r e).2), fw := blk_own h.fw hg (fun r e => (hr r e).2)
    fo := ⟨fun B hB hs => (h.fo.1 B hB hs).grown hg (Nat.le_trans hs h.fo.size) (fun k e => Nat.le_trans hs (hr k e).1), fun g hne hs => (hg.block g (Nat.lt_of_lt_of_le hs h.fo.size) (fun e => by have := (hr g e.symm).1; omega)).trans (h.fo.2 g hne hs)⟩ }
theorem cells_new_row (W : World) (l : List Value) (t : TypeId) : ∀ j u, l[j]? = some u → (W.alloc (.cells l.toArray t)).cell? ((⟨W.heap.size, 0, none⟩ : Addr).add j) = some u := fun j u h => by
  rw [show ((⟨W.heap.size, 0, none⟩ : Addr).add j) = ⟨W.heap.size, j, none⟩ by (simp [Addr.add]; omega), (Blk.new W t l.toArray).cell, List.getElem?_toArray]
  exact h
theorem results_2 {P : Program} {fn : Func} {p r : Tmp} (h : fn.results = #[.tmp p, .tmp r]) (tmps : Array Value) (w : World) (u : Value × Value) (hu : u = (tmps.getD p undef, tmps.getD r undef)) : (results fn tmps).run P w = .ok (.tuple #[u.1, u.2]) w := by
  subst hu
  simp [results, h]
set_option maxHeartbeats 2000000 in
theorem mRun (W : World) (x b : Nat) (hM : Mem W b (fun _ => 0) (fun _ => false)) (hX : Blk W x 36 (mc (some ⟨b, 0, none⟩) st0 0).toArray) (hbx : b ≠ x) :
    Calls Tryz.prog 5 #[.pointer (some ⟨x, 0, none⟩), .slice none 0 0, .int .i64 5] W fun e W' => ∃ q c s n, e = .returned (.tuple #[.slice (some ⟨q, 0, none⟩) 1 c, .int .i64 0]) ∧ W'.cell? ⟨q, 0, none⟩ = some (.int .u32 1) ∧ s.halted = true ∧ Blk W' x 36 (mc (some ⟨b, 0, none⟩) s n).toArray ∧ ∀ B, B ≤ x → B ≤ b → B ≤ W.heap.size → Below B W W' := by
  have hMay : Ca.may nul.g nul.a nul.p nul.y nul.e nul.b nul.t 8 nul.a 4 = false := by kernel_rfl
  have KS : ∀ W, Mem W b (fun _ => 0) (fun _ => false) → Blk W x 36 (mc (some ⟨b, 0, none⟩) st0 0).toArray → Calls Tryz.prog 4 #[P x 0, .agg #[.bool false, .int .u32 0]] W fun e w' => e = .returned (.tuple #[.agg D1.L.toArray, .int .i64 0]) ∧ Blk w' x 36 (mc (some ⟨b, 0, none⟩) X1 1).toArray ∧ Mem w' b (fun _ => 0) (fun _ => false) ∧ Only x W w' := fun W hM hX =>
    mStep x b 0 st0 X1 D1 false 0 _ _ W rfl (by decide) hX hM hbx D1_one (fun W hM => step_may b st0 nul false 0 _ _ W hM rfl rfl rfl (by unfold Cq.fit nul; decide) hMay)
  have hA := mc_151 (some ⟨b, 0, none⟩) st0 0
  have hB := mc_151 (some ⟨b, 0, none⟩) X1 1
  rw [X1_halted] at hB
  have h0 : (mc (some ⟨b, 0, none⟩) st0 0).toArray[0]? = some (.pointer (some ⟨b, 0, none⟩)) := rfl
  obtain ⟨MA, hMA⟩ : ∃ MA, (mc (some ⟨b, 0, none⟩) st0 0).toArray = MA := ⟨_, rfl⟩
  obtain ⟨MB, hMB⟩ : ∃ MB, (mc (some ⟨b, 0, none⟩) X1 1).toArray = MB := ⟨_, rfl⟩
  rw [hMA] at KS hX hA h0
  rw [hMB, D1_L] at KS
  rw [hMB] at hB
  have HMB := Lib.hid hMB
  have hl := hX.lt
  have K := Lib.hid (isM x ⟨b, 0, none⟩ W (by rw [hX.cell]; exact h0))
  have HM := Lib.hid hM; have HX := Lib.hid hX; have HK := Lib.hid KS; have HA := Lib.hid hA; have HB := Lib.hid hB
  have h1 : (1 : Nat) ≤ 5 := by decide
  have hS1 : ((W.alloc (.cells #[P x 0, .slice none 0 0] 55)).heap.size) = W.heap.size + 1 := World.size_alloc _ _
  have hS2 : (((W.alloc (.cells #[P x 0, .slice none 0 0] 55)).alloc (.cells #[.slice none 0 0] 43)).heap.size) = W.heap.size + 1 + 1 := by rw [World.size_alloc, hS1]
  have hS3 : ((((W.alloc (.cells #[P x 0, .slice none 0 0] 55)).alloc (.cells #[.slice none 0 0] 43)).alloc (.cells #[P W.heap.size 0] 80)).heap.size) = W.heap.size + 1 + 1 + 1 := by rw [World.size_alloc, hS2]
  obtain ⟨W0, hW0⟩ : ∃ W0, ((((W.alloc (.cells #[P x 0, .slice none 0 0] 55)).alloc (.cells #[.slice none 0 0] 43)).alloc (.cells #[P W.heap.size 0] 80)).alloc (.cells #[.int .i64 5] 3)) = W0 := ⟨_, rfl⟩
  have HS0 : Hid (W0.heap.size = W.heap.size + 4) := Lib.hid (by rw [← hW0, World.size_alloc, hS3])
  have HQ0 : Hid (Blk W0 W.heap.size 55 #[P x 0, .slice none 0 0]) := Lib.hid (by rw [← hW0]; exact (((Blk.new W 55 _).alloc _).alloc _).alloc _)
  have HT0 : Hid (Blk W0 (W.heap.size + 1) 43 #[.slice none 0 0]) := Lib.hid (by
    have := Blk.new (W.alloc (.cells #[P x 0, .slice none 0 0] 55)) 43 #[.slice none 0 0]
    rw [hS1] at this
    rw [← hW0]; exact (this.alloc _).alloc _)
  have HW0 : Hid (Blk W0 (W.heap.size + 1 + 1) 80 #[P W.heap.size 0]) := Lib.hid (by
    have := Blk.new ((W.alloc (.cells #[P x 0, .slice none 0 0] 55)).alloc (.cells #[.slice none 0 0] 43)) 80 #[P W.heap.size 0]
    rw [hS2] at this
    rw [← hW0]; exact this.alloc _)
  have HC0 : Hid (Blk W0 (W.heap.size + 1 + 1 + 1) 3 #[.int .i64 5]) := Lib.hid (by
    have := Blk.new (((W.alloc (.cells #[P x 0, .slice none 0 0] 55)).alloc (.cells #[.slice none 0 0] 43)).alloc (.cells #[P W.heap.size 0] 80)) 3 #[.int .i64 5]
    rw [hS3] at this
    rw [← hW0]; exact this)
  have HB0 : Hid (Below W.heap.size W W0) := Lib.hid (by
    rw [← hW0]; exact ((((Below.refl _ W).alloc (Nat.le_refl _) _).alloc (by omega) _).alloc (by omega) _).alloc (by omega) _)
  have HWW := Lib.hid hW0
  clear hW0 hS1 hS2 hS3
  clear hM hX KS hA hB hMB hMA h0
  refine (callsIn_wide (n := 5)).1 ?_
  refine callsIn_of_wp_marks Tryz.func5 rfl trivial ?_ rfl
  simp only [Tryz.ntmps5, List.size_toArray, List.length_cons, List.length_nil, Nat.reduceAdd, Nat.reduceSub, Array.replicate_succ, Array.replicate_zero, List.push_toArray, List.append_toArray, List.nil_append, List.cons_append]
  gi_wp2_with first
    | (refine ⟨trivial, ?_⟩; gi_at_call 10; refine (callsIn_wide.2 K.out).mono ?_; rintro _ _ ⟨rfl, rfl⟩)
    | (refine ⟨trivial, ?_⟩; gi_at_call 12; refine (callsIn_wide.2 (all12 _ _ _)).mono ?_; rintro _ _ ⟨rfl, rfl⟩)
  rw [HWW.out]
  have hz0 := HS0.out
  have hX0 := HX.out.below HB0.out hl
  have hM0 := HM.out.below HB0.out HM.out.lt
  have hbl := HM.out.lt
  obtain ⟨i0, hi, hz00, hz1, hz2⟩ := info_parts info39
  have hrow0 : ∀ W', World.ownsRow W' W.heap.size 39 5 (.slice none 0 0) 0 [] := fun W' => World.ownsRow_nil W' _ _ _
  refine range_once (n := 5) (gf := 19) (lb := #[P (W.heap.size + 1 + 1 + 1) 0, P (W.heap.size + 1 + 1) 0]) h1 rfl (enters_of Tryz.func19 (by kernel_rfl) rfl) #[.agg #[.int .u32 1, .slice none 0 0, .bool false, .int .u32 0, .int .u32 0]] rfl x (by omega) (fun W' => Blk W' x 36 MB)
    (fun W' => (∃ v, Boxed W' (W.heap.size + 1) 43 v ∧ W'.ownsRow W.heap.size 39 5 v 1 [.int .u32 1, .slice none 0 0, .bool false, .int .u32 0, .int .u32 0] ∧ True) ∧ Bs W x W.heap.size (W.heap.size + 1 + 1) MB W')
    (fun a' W' => (∃ Bx, W.heap.size + 1 < Bx ∧ Blk W' Bx 39 #[.int .u32 1, .slice none 0 0, .bool false, .int .u32 0, .int .u32 0] ∧ a' = { tmps := #[Value.pointer (some { block := x, off := 0 }), Value.slice none 0 0, Value.int IntKind.i64 5, undef, undef, undef, Value.slice none 0 0, Value.int IntKind.i64 0, Value.pointer (some { block := W.heap.size, off := 0 }), Value.pointer (some { block := W.heap.size + 1, off := 0 }), P Bx 0, Value.pointer (some { block := x, off := 0 }), Value.bool true, Value.bool false, Value.int IntKind.i64 5, Value.bool false, Value.bool false, Value.int IntKind.i64 5, Value.bool false, Value.bool false, Value.pointer (some { block := x, off := 0 }), Value.slice none 0 0, Value.agg #[Value.pointer (some { block := x, off := 0 }), Value.slice none 0 0], Value.int IntKind.i64 5, Value.func (Fn.func 19) #[] #[Value.pointer (some { block := W.heap.size + 1 + 1 + 1, off := 0 }), Value.pointer (some { block := W.heap.size + 1 + 1, off := 0 })], .agg #[.int .u32 1, .slice none 0 0, .bool false, .int .u32 0, .int .u32 0], undef, undef, undef, undef, undef], defers := [] }) ∧ Blk W' (W.heap.size + 1) 43 #[.slice none 0 0] ∧ Bs W x W.heap.size (W.heap.size + 1 + 1) MB W')
    ?hI ?hAx ?assign ?body ?hit ?done
  case hI =>
    exact OwnFrom.and (Own.from (holdsRow_own W.heap.size (W.heap.size + 1) 43 39 5 (fun _ => 1) (fun _ => [.int .u32 1, .slice none 0 0, .bool false, .int .u32 0, .int .u32 0]) (fun _ _ => True)) _) (fun s A B row hb hg hr => hb.own hg (fun r e => ⟨by have := (hr r e).1; omega, (hr r e).2⟩))
  case hAx =>
    rintro a' s A B row ⟨⟨Bx, hB1, hB2, hB3⟩, hv, hb⟩ hg hr
    exact ⟨⟨Bx, hB1, blk_own hB2 hg (fun r e => (hr r e).2), hB3⟩, blk_own hv hg (fun r e => (hr r e).2), hb.own hg (fun r e => ⟨by have := (hr r e).1; omega, (hr r e).2⟩)⟩
  case assign =>
    intro l Wa K hO hR hK
    have hs : W0.heap.size ≤ Wa.heap.size := hO.size
    have hbs : Bs W x W.heap.size (W.heap.size + 1 + 1) MB Wa :=
      { fx := hR, fq := hO.blk (by omega) HQ0.out, fw := hO.blk (by omega) HW0.out
        fo := ⟨fun B h1 h2 => (HB0.out.mono h2).trans (hO.1 B h1 (by omega)), fun g h1 h2 => (hO.2 g h1 (by omega)).trans (HB0.out.block g h2)⟩ }
    have hvs := hO.blk (by omega) HT0.out
    have HBS := Lib.hid hbs
    have HVS := Lib.hid hvs
    have HKK := Lib.hid hK
    clear hbs hvs hK HQ0 HT0 HW0 HC0 HB0 HWW HX HM HK
    gi_wp2
    exact HKK.out _ _ ((KeepsOthers.alloc _ _).from _) ⟨⟨Wa.heap.size, by omega, Blk.new _ _ _, rfl⟩, HVS.out.alloc _, HBS.out.own (World.grownBy_alloc Wa _ none) (fun r e => by cases e)⟩
  case body =>
    rintro l a' Wb ⟨⟨Bx, hB1, hB2, rfl⟩, hv, hb⟩
    have hc : Wb.cell? ⟨W.heap.size + 1, 0, none⟩ = some (.slice none 0 0) := by rw [hv.cell]; rfl
    have HB2 := Lib.hid hB2
    have hsz : W.heap.size ≤ Wb.heap.size := hb.fo.size
    gi_wp2_with first
      | (refine load_row_in 39 (.tmp 10) rfl Bx rfl 39 #[.int .u32 1, .slice none 0 0, .bool false, .int .u32 0, .int .u32 0] (0, 0) _ HB2.out Tryz.underlying39 rfl (by rw [info41s]; rfl) ?_)
      | (gi_at_builtin
         refine wpListIn_append_own _ rfl _ _ 43 rfl W.heap.size 39 i0 (.agg dn0.L.toArray) 5 48 Tryz.underlying43 hi hz00 hz1 hz2 rfl (by decide) _ _ _ rfl ((hrow0 Wb).alloc _) ⟨Wb.heap.size, 0, none⟩ 1 1 [.int .u32 1, .slice none 0 0, .bool false, .int .u32 0, .int .u32 0] rfl rfl ?_ (by simp [Value.oneCell']) (by decide) (by decide) (by simp; omega) ?_
         · exact cells_new_row Wb _ 39
         intro v' w1 hown' hgrow _
         obtain ⟨g', cap', rfl⟩ := ownsRow_succ hown'
         obtain ⟨hv1, hv2, hr2, hk2, hb2⟩ := Boxed.appended (show Boxed Wb (W.heap.size + 1) 43 (.slice none 0 0) from hv) (by decide) (hrow0 Wb) hsz (Nat.le_succ _) hown' hgrow
         have HQ1 : Hid (Blk w1 W.heap.size 55 #[P x 0, .slice none 0 0]) := Lib.hid (((hgrow.block W.heap.size (by have := hb.fq.lt; simp; omega) (fun e => by cases e)).trans (hb.fq.alloc _)))
         have HW1 : Hid (Blk w1 (W.heap.size + 1 + 1) 80 #[P W.heap.size 0]) := Lib.hid (((hgrow.block (W.heap.size + 1 + 1) (by have := hb.fw.lt; simp; omega) (fun e => by cases e)).trans (hb.fw.alloc _)))
         have hc1 := hv1.cell
         have hf1 := hv1.frozen)
    exact ⟨hk2.from _, ⟨_, hv2, hr2, trivial⟩, { fx := hb.fx.below hb2 hl, fq := HQ1.out.far (by simp) _, fw := HW1.out.far (by simp) _, fo := ⟨fun B h1 h2 => (hb.fo.1 B h1 h2).trans (hb2.mono h2), fun g h1 h2 => (hb2.block g h2).trans (hb.fo.2 g h1 h2)⟩ }⟩
  case hit =>
    intro l W1 J hb1 hY hJ
    have hxl : x < W0.heap.size := by omega
    exact it19 4 l x W.heap.size (W.heap.size + 1 + 1) (W.heap.size + 1 + 1 + 1) b _ MA MB _ _ W1 J (hM0.below hb1 (by omega)) (hX0.below hb1 (by omega)) (HQ0.out.below hb1 (by omega)) (HW0.out.below hb1 (by omega)) (HC0.out.below hb1 (by omega)) (by omega) (by omega) (by decide) rfl D1_one HA.out HB.out HK.out hY (fun W' hj => ⟨(hJ W' hj).2.fx, (hJ W' hj).2.fq, (hJ W' hj).2.fw⟩)
  case done =>
    rintro D W' hD ⟨⟨v, hv, hrow, _⟩, hb⟩ hKd
    obtain ⟨g', cap', rfl⟩ := ownsRow_succ hrow
    have hc := hv.cell
    gi_wp2
    refine ⟨by simp, .inl ⟨_, _, rfl, run_takeDeferred hKd, ?_⟩⟩
    have hDx : D ≠ x := by omega
    have hx2 : Blk (W'.putObj D (.deferred none)) x 36 MB := (World.putObj_heap_other (by omega)).trans hb.fx
    have hr2 := ownsRow_putObj hrow (.deferred none) hKd rfl
    have hb2 : ∀ B, B ≤ x → B ≤ W.heap.size → Below B W (W'.putObj D (.deferred none)) := fun B h1 h2 => (hb.fo.1 B h1 h2).grown (grownBy_putObj' W' D (.deferred none)) (Nat.le_trans h2 hb.fo.size) (fun k e => by cases e; omega)
    refine ⟨_, results_2 rfl _ _ (.slice (some ⟨g', 0, none⟩) 1 cap', .int .i64 0) rfl, g', cap', X1, 1, rfl, ?_, X1_halted, by rw [HMB.out]; exact hx2, fun B h1 _ h2 => hb2 B h1 h2⟩
    have := World.ownsRow.cells hr2 (g := g') rfl 0 (.int .u32 1) rfl
    exact this
end Go.Proofs.YtmanoheofloimaaGreatDoor
