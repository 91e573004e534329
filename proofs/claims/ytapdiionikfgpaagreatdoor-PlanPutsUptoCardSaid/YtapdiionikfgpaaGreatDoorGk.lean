import Derived.Test.YtapdiionikfgpaaGreatDoorGj
import Derived.Test.YtapdiionikfgpaaGreatDoorGb
import Derived.Test.YtapdiionikfgpaaGreatDoorGc
import Derived.Laws.Rows
import Derived.Maps.OwnOps
import Derived.Maps.OwnSet
import Derived.Maps.Views
import Derived.StringKeys
import Derived.Laws.EntriesVeiled
namespace Go.Proofs.YtapdiionikfgpaaGreatDoor
open Go.ChangeShapes Go.WideShapes Go.ChangeAt Go.RowKit
set_option linter.unusedVariables false
set_option linter.unusedSimpArgs false
theorem results_cell2 {P : Program} {fn : Func} {p u : Tmp} {ty : TypeId} (h : fn.results = #[.cell p ty, .tmp u]) (tmps : Array Value) (w : World) (g : Nat) (t : TypeId) (cs : Array Value) (fr : Nat × Nat) (d : TypeDesc)
    (hp : tmps.getD p undef = .pointer (some ⟨g, 0, none⟩)) (hg : w.heap[g]? = some (.cells cs t fr))
    (hu : P.underlying ty = some d) (hd : (match d with | .struct _ | .array _ _ => true | _ => false) = true) (hi : (P.info? ty).map (·.size) = some cs.size) :
    (results fn tmps).run P w = .ok (.tuple #[.agg cs, tmps.getD u undef]) w := by
  have hp' : tmps[p]?.getD undef = .pointer (some ⟨g, 0, none⟩) := by simpa using hp
  simp [results, h, hp', asAddr, run_loadVar_row w g t ty cs fr d hg hu hd hi]
theorem below_set3 {W w : World} {h B : Nat} (hb : Below B w W) (hB : B ≤ h) (a0 a1 a2 : Value) : Below B w (((W.setCell ⟨h, 0, none⟩ a0).setCell ⟨h, 1, none⟩ a1).setCell ⟨h, 2, none⟩ a2) :=
  ((hb.setCell (by simpa using hB) _).setCell (by simpa using hB) _).setCell (by simpa using hB) _
set_option maxRecDepth 100000 in
set_option maxHeartbeats 4000000 in
/-- exported -/
theorem n47 (k : Nat) (s : ByteArray) (w : World) (B tb : Nat) (SV CV : Value) (p : Pm) (D : List (Sv × Co)) (h : RD w B tb SV CV p D) (hsm : Sm p) (hk : k < D.length) : Calls Tryz.prog 47 #[.pointer (some ⟨tb, 0, none⟩), .int .i64 (k : Int), .string s] w
    fun e w' => ∃ (v0 : ByteArray) (v1 v2 : Nat), e = .returned (.tuple #[.agg #[.string v0, .int .i64 (v1 : Int), .int .i64 (v2 : Int)], .bool (expB p k s)]) ∧ (∀ c i y, p.cs[k]? = some c → exported c s = some i → c.es[i]? = some y → v1 = y.2.1) ∧ Below w.heap.size w w' := by
  have HBA : Hid (Below w.heap.size w ((w.alloc (.cells #[.string s] 9)).alloc (.cells #[.string ⟨#[]⟩, .int .i64 0, .int .i64 0] 50))) := Lib.hid (((Below.refl _ w).alloc (Nat.le_refl _) _).alloc (by simp) _)
  obtain ⟨W0, hW0⟩ : ∃ W0, (w.alloc (.cells #[.string s] 9)).alloc (.cells #[.string ⟨#[]⟩, .int .i64 0, .int .i64 0] 50) = W0 := ⟨_, rfl⟩
  have HS0 : Hid (Bx W0 w.heap.size #[.string s] 9) := Lib.hid (by rw [← hW0]; exact (show Bx (w.alloc (.cells #[.string s] 9)) w.heap.size #[.string s] 9 from heap_alloc_new w _).below ((Below.refl _ _).alloc (Nat.le_refl _) _))
  have HE0 : Hid (Bx W0 (w.heap.size + 1) #[.string ⟨#[]⟩, .int .i64 0, .int .i64 0] 50) := Lib.hid (by
    rw [← hW0]
    have := heap_alloc_new (w.alloc (.cells #[.string s] 9)) (.cells #[.string ⟨#[]⟩, .int .i64 0, .int .i64 0] 50)
    rw [show (w.alloc (.cells #[.string s] 9)).heap.size = w.heap.size + 1 from by simp] at this
    exact this)
  have HRD : Hid (∀ W, Below w.heap.size w W → RD W B tb SV CV p D) := Lib.hid (fun W hW => h.below hW)
  have HLEN : Hid (D.length ≤ 12) := Lib.hid (by rw [h.len]; exact h.2.2.2.2.1)
  obtain ⟨x, hx, hxc⟩ : ∃ x, D[k]? = some x ∧ p.cs[k]? = some x.2 := ⟨D[k], List.getElem?_eq_getElem hk, by rw [← h.2.2.1, List.getElem?_map, List.getElem?_eq_getElem hk]; rfl⟩
  have HEX : Hid (expB p k s = (exported x.2 s).isSome) := Lib.hid (by unfold expB; simp only [hxc])
  have HXC := Lib.hid hxc
  obtain ⟨A, c, hcv, _⟩ := own_slice h.2.1.2.1
  have HCV := Lib.hid hcv
  subst hcv
  rw [hW0] at HBA
  have HRW := Lib.hid (HRD.out W0 HBA.out)
  obtain ⟨g, c', hce, hg, hBg, hat⟩ := own_at len_cCo HRW.out.2.1.2.1 (by omega)
  cases hce
  obtain ⟨AE, ce, hee, _⟩ := own_slice (HRW.out.2.1.2.2.1 k x hx).2.1
  have q2 := hat k x hx 2 (by omega)
  simp only [cCo] at q2
  change W0.cell? ⟨g, k * 6 + 2, none⟩ = some x.1.e at q2
  rw [hee] at q2
  have hro := (HRW.out.2.1.2.2.1 k x hx).2.1
  rw [hee] at hro
  have HRO : Hid (∀ W, Below W0.heap.size W0 W → W.ownsRow B 50 3 (.slice AE x.2.es.length ce) x.2.es.length (x.2.es.flatMap cEs)) := Lib.hid (fun W hW => hro.kept (grown_of_below hW none) (none_or _))
  have HLE : Hid (x.2.es.length ≤ 16) := Lib.hid (hsm.2.2 x.2 (List.mem_of_getElem? hxc)).2.1
  have HFI := Lib.hid (find_Es (fun y => decide (y.1 = s)) 96 w.heap.size AE ce x.2.es W0 B hro (by have := HLE.out; omega) ent_96 (fun y hy W hW => clo_96 y w.heap.size W s ((HS0.out.below hW).cell 0)))
  have HFX : Hid (fnd (fun y => decide (y.1 = s)) x.2.es = exported x.2 s) := Lib.hid rfl
  rw [HFX.out] at HFI
  have p3 := HRW.out.1.cell 3
  simp at p3
  have e0 := HE0.out.cell 0
  have hkn : (k : Int) < (D.length : Int) := by omega
  have hkw : IntKind.i64.wrap (k : Int) = (k : Int) := by rw [IntKind.wrap_i64]; have := HLEN.out; omega
  have HW0 := Lib.hid hW0
  cases hexp : exported x.2 s with
  | none =>
    rw [hexp] at HFI HEX
    change Hid (Calls Tryz.prog 95 _ _ fun e w' => e = .returned (.int .i64 (-1)) ∧ _) at HFI
    have HXN := Lib.hid hexp
    clear hexp h hsm hk hx hxc hat hee hro hg hBg
    go_enter Tryz.func47, Tryz.ntmps47
    go_wp2_with fail
    with_reducible refine HFI.out.mono ?_
    rintro _ w5 ⟨rfl, hb5⟩
    have HB5 : Hid (Below w.heap.size w w5) := Lib.hid (HBA.out.trans (hb5.mono HBA.out.size))
    have HE5 : Hid (Bx w5 (w.heap.size + 1) #[.string ⟨#[]⟩, .int .i64 0, .int .i64 0] 50) := Lib.hid (HE0.out.below hb5)
    have z0 := HE5.out.frz 0
    have z1 := HE5.out.frz 1
    have z2 := HE5.out.frz 2
    have y0 := HE5.out.cell 0
    have y1 := HE5.out.cell 1
    have y2 := HE5.out.cell 2
    simp at y0 y1 y2
    clear hb5 HFI
    go_wp2_with fail
    (try simp only [Exit.inBlock, Exit.then])
    refine bodyPost_ret (results_cell2 (P := Tryz.prog) rfl _ _ (w.heap.size + 1) 50 _ (0, 0) _ rfl (((HE5.out.set 0 _).set 1 _).set 2 _) Tryz.underlying50 rfl (by kernel_rfl)) rfl ?_
    refine ⟨⟨#[]⟩, 0, 0, by rw [HEX.out]; rfl, fun c i y hc hi => ?_, below_set3 HB5.out (by omega) _ _ _⟩
    rw [HXC.out] at hc
    cases hc
    rw [HXN.out] at hi
    cases hi
  | some i =>
    rw [hexp] at HFI HEX
    change Hid (Calls Tryz.prog 95 _ _ fun e w' => e = .returned (.int .i64 (i : Int)) ∧ _) at HFI
    obtain ⟨hi, -, -⟩ := fnd_some (show fnd (fun y => decide (y.1 = s)) x.2.es = some i from hexp)
    obtain ⟨y, hy⟩ : ∃ y, x.2.es[i]? = some y := ⟨_, List.getElem?_eq_getElem hi⟩
    have HY := Lib.hid hy
    have HXN := Lib.hid hexp
    have hin : (i : Int) < (x.2.es.length : Int) := by omega
    have hiw : IntKind.i64.wrap (i : Int) = (i : Int) := by rw [IntKind.wrap_i64]; have := HLE.out; omega
    have HI := Lib.hid hi
    clear hexp h hsm hk hx hxc hat hee hro hg hBg hy hi
    go_enter Tryz.func47, Tryz.ntmps47
    go_wp2_with fail
    with_reducible refine HFI.out.mono ?_
    rintro _ w5 ⟨rfl, hb5⟩
    have HB5 : Hid (Below w.heap.size w w5) := Lib.hid (HBA.out.trans (hb5.mono HBA.out.size))
    have HE5 : Hid (Bx w5 (w.heap.size + 1) #[.string ⟨#[]⟩, .int .i64 0, .int .i64 0] 50) := Lib.hid (HE0.out.below hb5)
    have z0 := HE5.out.frz 0
    have z1 := HE5.out.frz 1
    have z2 := HE5.out.frz 2
    have y0 := HE5.out.cell 0
    have y1 := HE5.out.cell 1
    have y2 := HE5.out.cell 2
    simp at y0 y1 y2
    obtain ⟨ge, ce', hce, hge, hBe, hat⟩ := own_at len_cEs (HRO.out w5 hb5) (by have := HI.out; omega)
    cases hce
    have j0 := hat i y HY.out 0 (by omega)
    have j1 := hat i y HY.out 1 (by omega)
    have j2 := hat i y HY.out 2 (by omega)
    simp only [Nat.add_zero] at j0
    simp [cEs] at j0 j1 j2
    clear hb5 HFI hat
    go_wp2_with fail
    (try simp only [Exit.inBlock, Exit.then])
    refine bodyPost_ret (results_cell2 (P := Tryz.prog) rfl _ _ (w.heap.size + 1) 50 _ (0, 0) _ rfl (((HE5.out.set 0 _).set 1 _).set 2 _) Tryz.underlying50 rfl (by kernel_rfl)) rfl ?_
    refine ⟨y.1, y.2.1, y.2.2, by rw [HEX.out]; rfl, fun c i' y' hc hi hy' => ?_, below_set3 HB5.out (by omega) _ _ _⟩
    rw [HXC.out] at hc
    cases hc
    rw [HXN.out] at hi
    cases hi
    rw [HY.out] at hy'
    cases hy'
    rfl
end Go.Proofs.YtapdiionikfgpaaGreatDoor
namespace Go.Proofs.YtapdiionikfgpaaGreatDoor
open Go.ChangeShapes Go.WideShapes Go.ChangeAt Go.RowKit
set_option linter.unusedVariables false
set_option linter.unusedSimpArgs false
/-- numbers of compartments name some -/
def Wf (p : Pm) : Prop := (∀ c ∈ p.cs, ∀ y ∈ c.is, y.1 < p.cs.length) ∧ (p.mn ≠ ⟨#[]⟩ → p.s0 < p.cs.length)
theorem noArgs_eq {p : Pm} {v1 : Nat} (hv : ∀ c i y, p.cs[p.s0]? = some c → exported c p.mn = some i → c.es[i]? = some y → v1 = y.2.1) : noArgs p = (expB p p.s0 p.mn && decide (v1 = 0)) := by
  unfold noArgs expB
  cases hc : p.cs[p.s0]? with
  | none => rfl
  | some c =>
    simp only
    cases he : exported c p.mn with
    | none => rfl
    | some i =>
      simp only [Option.isSome_some, Bool.true_and]
      cases hy : c.es[i]? with
      | none =>
        obtain ⟨hi, -, -⟩ := fnd_some (show fnd (fun y => decide (y.1 = p.mn)) c.es = some i from he)
        rw [List.getElem?_eq_getElem hi] at hy
        cases hy
      | some y => simp only; rw [hv c i y hc he hy]
set_option maxRecDepth 100000 in
set_option maxHeartbeats 8000000 in
/-- whole -/
theorem n20 (w : World) (B tb : Nat) (SV CV : Value) (p : Pm) (D : List (Sv × Co)) (h : RD w B tb SV CV p D) (hs : Sm p) (hw : Wf p) : Calls Tryz.prog 20 #[.pointer (some ⟨tb, 0, none⟩)] w fun e w' => e = .returned (.bool (wholeB p)) ∧ Below w.heap.size w w' := by
  have HRS : Hid (∀ W, Below w.heap.size w W → RD W B tb SV CV p D) := Lib.hid (fun W hW => h.below hW)
  have HD := Lib.hid h.2.2.1
  have HSM := Lib.hid hs
  have HWF := Lib.hid hw
  have HLN := Lib.hid h.len
  have HLEN : Hid (D.length ≤ 12) := Lib.hid (by rw [h.len]; exact h.2.2.2.2.1)
  have HIS := Lib.hid (plin_isS h.2.1)
  have p0 := h.1.cell 0
  have p1 := h.1.cell 1
  have p3 := h.1.cell 3
  have p5 := h.1.cell 5
  simp at p0 p1 p3 p5
  have HNO : Hid (p.st = 0 ∨ p.tr = 0 ∨ p.mn = ⟨#[]⟩ ∨ (p.cs.all (okC p)) = false ∨ noArgs p = false → wholeB p = false) := Lib.hid whole_no
  have HYES : Hid (p.st ≠ 0 → p.tr ≠ 0 → p.mn ≠ ⟨#[]⟩ → p.cs.all (okC p) = true → wholeB p = noArgs p) := Lib.hid whole_yes
  obtain ⟨A, cc, rfl, _⟩ := own_slice h.2.1.2.1
  by_cases h1 : p.st = 0
  · have HR := Lib.hid (HNO.out (Or.inl h1))
    have e1 : ((p.st : Int) == 0) = true := by simp; omega
    clear h hs hw h1 HRS HD HSM
    go_enter Tryz.func20, Tryz.ntmps20
    go_wp2_with fail
    go_ret
    exact ⟨by rw [HR.out]; rfl, Below.refl _ _⟩
  have e1 : ((p.st : Int) == 0) = false := by simp; omega
  by_cases h2 : p.tr = 0
  · have HR := Lib.hid (HNO.out (Or.inr (Or.inl h2)))
    have e2 : ((p.tr : Int) == 0) = true := by simp; omega
    clear h hs hw h1 h2 HRS HD HSM
    go_enter Tryz.func20, Tryz.ntmps20
    go_wp2_with fail
    go_ret
    exact ⟨by rw [HR.out]; rfl, Below.refl _ _⟩
  have e2 : ((p.tr : Int) == 0) = false := by simp; omega
  by_cases h3 : p.mn = ⟨#[]⟩
  · have HR := Lib.hid (HNO.out (Or.inr (Or.inr (Or.inl h3))))
    have e3 : (p.mn.toList == []) = true := by rw [h3]; simp
    have e4 : p.mn.toList = [] := by rw [h3]; simp
    clear h hs hw h1 h2 h3 HRS HD HSM
    go_enter Tryz.func20, Tryz.ntmps20
    go_wp2_with fail
    go_ret
    exact ⟨by rw [HR.out]; rfl, Below.refl _ _⟩
  have e4 : ¬ p.mn.toList = [] := (lit_no2 (u := p.mn) (v := ⟨#[]⟩) (l := []) (by simp) h3).2
  have e3 : (p.mn.toList == []) = false := (lit_no2 (u := p.mn) (v := ⟨#[]⟩) (l := []) (by simp) h3).1
  have e5 : p.mn.toList.isEmpty = false := by cases hl : p.mn.toList with | nil => exact absurd hl e4 | cons x l => rfl
  have HY := Lib.hid (HYES.out h1 h2 h3)
  have HS0 : Hid (p.s0 < D.length) := Lib.hid (by rw [HLN.out]; exact hw.2 h3)
  clear h hs hw h1 h2 h3 HYES
  go_enter Tryz.func20, Tryz.ntmps20
  go_wp2_with fail
  clear p0 p1 p3 p5 e1 e2 e3 e4 e5
  go_loopw [4, 6, 7, 8, 39] (fun _ _ _ _ i wr => RW w p D i wr) (fun _ _ _ _ i _ => D.length - (intOf i).toNat)
  case atStart => exact ⟨0, Nat.zero_le _, rfl, Below.refl _ _, fun j x hj => absurd hj (by omega)⟩
  case round =>
    obtain ⟨k, hk, rfl, hb, hok⟩ := hrel
    have HB := Lib.hid hb
    have HOK := Lib.hid hok
    have HRW := Lib.hid (HRS.out wr hb)
    have hlen := HLEN.out
    clear hb hok
    by_cases hlt : k < D.length
    · obtain ⟨x, hx⟩ : ∃ x, D[k]? = some x := ⟨_, List.getElem?_eq_getElem hlt⟩
      have hro := (HRW.out.2.1.2.2.1 k x hx).2.2.1
      have HIL : Hid (x.2.is.length ≤ 16) := Lib.hid (HSM.out.2.2 x.2 (by rw [← HD.out]; exact List.mem_map.2 ⟨x, List.mem_of_getElem? hx, rfl⟩)).2.2.1
      have HWY : Hid (∀ y ∈ x.2.is, y.1 < D.length) := Lib.hid (fun y hy => by rw [HLN.out]; exact HWF.out.1 x.2 (by rw [← HD.out]; exact List.mem_map.2 ⟨x, List.mem_of_getElem? hx, rfl⟩) y hy)
      obtain ⟨⟨F1, n1, c1, g1⟩, ⟨F2, n2, c2, g2⟩, ⟨F3, n3, c3, g3⟩, ⟨F4, n4, c4, g4⟩, ⟨F5, n5, c5, g5⟩⟩ := HIS.out x (List.mem_of_getElem? hx)
      obtain ⟨⟨xf, xe, xi, xd, xg⟩, xc⟩ := x
      simp only at g1 g2 g3 g4 g5 hro HIL HWY
      subst g1 g2 g3 g4 g5
      obtain rfl : n3 = xc.is.length := by
        obtain ⟨A', c', e', _⟩ := own_slice hro
        simp only [Value.slice.injEq] at e'
        exact e'.2.1
      obtain ⟨g, c', hce, hg, hBg, hat⟩ := own_at len_cCo HRW.out.2.1.2.1 (by omega)
      cases hce
      have q0 := hat k _ hx 0 (by omega)
      have q1 := hat k _ hx 1 (by omega)
      have q2 := hat k _ hx 2 (by omega)
      have q3 := hat k _ hx 3 (by omega)
      have q4 := hat k _ hx 4 (by omega)
      have q5 := hat k _ hx 5 (by omega)
      simp only [Nat.add_zero] at q0
      simp [cCo] at q0 q1 q2 q3 q4 q5
      have HBA : Hid (Below w.heap.size w (wr.alloc (.cells #[.string xc.nm, .slice F1 n1 c1, .slice F2 n2 c2, .slice F3 xc.is.length c3, .slice F4 n4 c4, .slice F5 n5 c5] 48))) := Lib.hid (HB.out.alloc HB.out.size _)
      have HRO : Hid (∀ W, Below wr.heap.size wr W → W.ownsRow B 79 2 (.slice F3 xc.is.length c3) xc.is.length (xc.is.flatMap cIs)) := Lib.hid (fun W hW => hro.kept (grown_of_below hW none) (none_or _))
      have HROA : Hid (∀ W, Below (wr.alloc (.cells #[.string xc.nm, .slice F1 n1 c1, .slice F2 n2 c2, .slice F3 xc.is.length c3, .slice F4 n4 c4, .slice F5 n5 c5] 48)).heap.size (wr.alloc (.cells #[.string xc.nm, .slice F1 n1 c1, .slice F2 n2 c2, .slice F3 xc.is.length c3, .slice F4 n4 c4, .slice F5 n5 c5] 48)) W → W.ownsRow B 79 2 (.slice F3 xc.is.length c3) xc.is.length (xc.is.flatMap cIs)) := Lib.hid (fun W hW => HRO.out W (((Below.refl _ wr).alloc (Nat.le_refl _) _).trans (hW.mono (by simp))))
      have hkn : (k : Int) < (D.length : Int) := by omega
      have hkw : IntKind.i64.wrap (k : Int) = (k : Int) := by rw [IntKind.wrap_i64]; omega
      have HX := Lib.hid hx
      have HLT := Lib.hid hlt
      clear hat hro hx hlt hg hBg
      go_wp2_with fail
      clear q0 q1 q2 q3 q4 q5
      generalize hW1 : wr.alloc (.cells #[.string xc.nm, .slice F1 n1 c1, .slice F2 n2 c2, .slice F3 xc.is.length c3, .slice F4 n4 c4, .slice F5 n5 c5] 48) = W1 at *
      clear hW1
      go_loopw [6, 7, 8, 46] (fun _ _ _ i wq => RI W1 p xc i wq) (fun _ _ _ i _ => xc.is.length - (intOf i).toNat)
      case atStart => exact ⟨0, Nat.zero_le _, rfl, Below.refl _ _, fun j y hj => absurd hj (by omega)⟩
      case round =>
        obtain ⟨m, hm, rfl, hb2, hok2⟩ := hrel
        have HB2 := Lib.hid hb2
        have HOK2 := Lib.hid hok2
        have hil := HIL.out
        clear hb2 hok2
        by_cases hl2 : m < xc.is.length
        · obtain ⟨y, hy⟩ : ∃ y, xc.is[m]? = some y := ⟨_, List.getElem?_eq_getElem hl2⟩
          have HBW : Hid (Below w.heap.size w wr) := Lib.hid (HBA.out.trans (HB2.out.mono HBA.out.size))
          obtain ⟨gi, ci', hce2, hgi, hBi, hati⟩ := own_at len_cIs (HROA.out wr HB2.out) (by omega)
          cases hce2
          have i0 := hati m y hy 0 (by omega)
          have i1 := hati m y hy 1 (by omega)
          simp only [Nat.add_zero] at i0
          simp [cIs] at i0 i1
          have HBY0 : Hid (Below W1.heap.size W1 (wr.alloc (.cells #[.int .i64 (y.1 : Int), .string y.2] 79))) := Lib.hid (HB2.out.alloc HB2.out.size _)
          have HBY : Hid (Below w.heap.size w (wr.alloc (.cells #[.int .i64 (y.1 : Int), .string y.2] 79))) := Lib.hid (HBW.out.alloc HBW.out.size _)
          have HC := Lib.hid (n47 y.1 y.2 _ B tb SV _ p D (HRS.out _ HBY.out) HSM.out (HWY.out y (List.mem_of_getElem? hy)))
          have hmn : (m : Int) < (xc.is.length : Int) := by omega
          have hmw : IntKind.i64.wrap (m : Int) = (m : Int) := by rw [IntKind.wrap_i64]; omega
          have HY2 := Lib.hid hy
          have HL2 := Lib.hid hl2
          clear hati hy hl2 hgi hBi
          obtain ⟨eb, heb⟩ : ∃ eb, expB p y.1 y.2 = eb := ⟨_, rfl⟩
          rw [heb] at HC
          have HEB := Lib.hid heb
          clear heb
          go_wp2_with fail
          with_reducible refine HC.out.mono ?_
          rintro _ w6 ⟨v0, v1, v2, rfl, -, hb6⟩
          have HB6 : Hid (Below W1.heap.size W1 (w6.alloc (.cells #[.string v0, .int .i64 (v1 : Int), .int .i64 (v2 : Int)] 50))) := Lib.hid ((HBY0.out.trans (hb6.mono HBY0.out.size)).alloc (HBY0.out.trans (hb6.mono HBY0.out.size)).size _)
          clear hb6 HC i0 i1
          cases eb
          · have HR := Lib.hid (HNO.out (Or.inr (Or.inr (Or.inr (Or.inl (by
              have hxc : okC p xc = false := not_all HY2.out HEB.out
              rw [← HD.out]
              exact not_all (k := k) (x := xc) (by rw [List.getElem?_map, HX.out]; rfl) hxc))))))
            go_wp2_with fail
            go_ret
            exact ⟨by rw [HR.out]; rfl, HBA.out.trans (HB6.out.mono HBA.out.size)⟩
          · go_wp2_with fail
            go_roundw
            case rel => exact ⟨m + 1, HL2.out, by go_num, HB6.out, fun j z hj hz => by
              by_cases hjm : j = m
              · subst hjm
                rw [HY2.out] at hz
                cases hz
                exact HEB.out
              · exact HOK2.out j z (by omega) hz⟩
            case measure => simp [intOf]; have := HL2.out; omega
        · have HXO : Hid (okC p xc = true) := Lib.hid (all_of (fun j z hj hz => HOK2.out j z (by omega) hz))
          have HBW : Hid (Below w.heap.size w wr) := Lib.hid (HBA.out.trans (HB2.out.mono HBA.out.size))
          obtain rfl : m = xc.is.length := by omega
          clear hl2
          go_wp2_with fail
          go_roundw
          case rel => exact ⟨k + 1, HLT.out, by go_num, HBW.out, fun j z hj hz => by
            by_cases hjm : j = k
            · subst hjm
              rw [HX.out] at hz
              cases hz
              exact HXO.out
            · exact HOK.out j z (by omega) hz⟩
          case measure => simp [intOf]; have := HLT.out; omega
    · have HALL := Lib.hid (HY.out (by
        rw [← HD.out]
        refine all_of (fun j c hj hc => ?_)
        rw [List.getElem?_map] at hc
        cases hz : D[j]? with
        | none => rw [hz] at hc; cases hc
        | some z =>
          rw [hz] at hc
          cases hc
          exact HOK.out j z (by have := (List.getElem?_eq_some_iff.1 hz).1; omega) hz))
      obtain rfl : k = D.length := by omega
      clear hlt hk
      have HC : Hid (∀ W, Below wr.heap.size wr W → Calls Tryz.prog 47 #[.pointer (some ⟨tb, 0, none⟩), .int .i64 (p.s0 : Int), .string p.mn] W
        fun e w' => ∃ (v0 : ByteArray) (v1 v2 : Nat), e = .returned (.tuple #[.agg #[.string v0, .int .i64 (v1 : Int), .int .i64 (v2 : Int)], .bool (expB p p.s0 p.mn)]) ∧ (∀ c i y, p.cs[p.s0]? = some c → exported c p.mn = some i → c.es[i]? = some y → v1 = y.2.1) ∧ Below W.heap.size W w' ∧ Below w.heap.size w w') := Lib.hid (fun W hW => by
        have hWw := HB.out.trans (hW.mono HB.out.size)
        refine (n47 p.s0 p.mn W B tb SV _ p D (HRS.out _ hWw) HSM.out HS0.out).mono ?_
        rintro e w' ⟨v0, v1, v2, h1, h2, h3⟩
        exact ⟨v0, v1, v2, h1, h2, h3, hWw.trans (h3.mono hWw.size)⟩)
      obtain ⟨eb, heb⟩ : ∃ eb, expB p p.s0 p.mn = eb := ⟨_, rfl⟩
      rw [heb] at HC
      have HEB := Lib.hid heb
      have p4 := HRW.out.1.cell 4
      have p5 := HRW.out.1.cell 5
      have HAZ := Lib.hid (HRW.out.below ((Below.refl _ wr).alloc (Nat.le_refl _) (.cells #[.string ⟨#[]⟩, .int .i64 0, .int .i64 0] 50)))
      have o4 := HAZ.out.1.cell 4
      have o5 := HAZ.out.1.cell 5
      simp at p4 p5 o4 o5
      clear heb
      go_wp2_with fail
      have HZ : Hid (∀ W w6, Below W.heap.size W w6 → W.heap = (wr.alloc (.cells #[.string ⟨#[]⟩, .int .i64 0, .int .i64 0] 50)).heap → (w6.cell? ⟨wr.heap.size, 0, none⟩ = some (.string ⟨#[]⟩) ∧ w6.cell? ⟨wr.heap.size, 1, none⟩ = some (.int .i64 0) ∧ w6.cell? ⟨wr.heap.size, 2, none⟩ = some (.int .i64 0)) ∧ (w6.frozen? ⟨wr.heap.size, 0, none⟩ = false ∧ w6.frozen? ⟨wr.heap.size, 1, none⟩ = false ∧ w6.frozen? ⟨wr.heap.size, 2, none⟩ = false)) := Lib.hid (fun W w6 hb hh => by
        have hx : Bx w6 wr.heap.size #[.string ⟨#[]⟩, .int .i64 0, .int .i64 0] 50 := Bx.below (show Bx W wr.heap.size _ 50 from by unfold Bx; rw [hh]; exact heap_alloc_new wr _) hb
        exact ⟨⟨hx.cell 0, hx.cell 1, hx.cell 2⟩, hx.frz 0, hx.frz 1, hx.frz 2⟩)
      go_region_law (first | (go_simp; go_at_call 47; refine (HC.out _ (by first | exact Below.refl _ _ | exact (Below.refl _ _).drew | exact ((Below.refl _ _).alloc (Nat.le_refl _) _).drew | exact ((Below.refl _ _).drew.alloc (Nat.le_refl _) _))).mono ?_; rintro _ w6 ⟨v0, v1, v2, rfl, hv6, hb6, hb7⟩; (first | (obtain ⟨⟨c60, c61, c62⟩, z60, z61, z62⟩ := HZ.out _ w6 hb6 rfl) | skip)))
      all_goals
        have HV := Lib.hid hv6
        have HB7 := Lib.hid hb7
        obtain ⟨z, hz⟩ : ∃ z, decide (v1 = 0) = z := ⟨_, rfl⟩
        have e1 : ((v1 : Int) == 0) = z := by rw [← hz, Bool.eq_iff_iff]; simp
        have HZZ := Lib.hid hz
        have hws : w.heap.size ≤ wr.heap.size := HB.out.size
        have HWS := Lib.hid hws
        clear hv6 hb6 hb7 hz hws HC p4 p5 o4 o5
        cases eb
        · go_wp2_with fail
          go_ret
          exact ⟨by rw [HALL.out, noArgs_eq HV.out, HEB.out, HZZ.out]; rfl, by first | exact HB7.out | exact HB7.out.drew | exact HB7.out.alloc HB7.out.size _ | exact below_set3 HB7.out HWS.out _ _ _ | exact (HB7.out.alloc HB7.out.size _).drew | exact (below_set3 HB7.out HWS.out _ _ _).drew⟩
        · go_wp2_with fail
          go_ret
          exact ⟨by rw [HALL.out, noArgs_eq HV.out, HEB.out, HZZ.out]; rfl, by first | exact HB7.out | exact HB7.out.drew | exact HB7.out.alloc HB7.out.size _ | exact below_set3 HB7.out HWS.out _ _ _ | exact (HB7.out.alloc HB7.out.size _).drew | exact (below_set3 HB7.out HWS.out _ _ _).drew⟩
end Go.Proofs.YtapdiionikfgpaaGreatDoor
namespace Go.Proofs.YtapdiionikfgpaaGreatDoor
open Go.ChangeShapes Go.WideShapes Go.ChangeAt Go.RowKit Go.MapKept Go.ChangeMaps
set_option linter.unusedVariables false
set_option linter.unusedSimpArgs false
/-- the entries of a table of words -/
def rwEs : Nat → List (ByteArray × Value) → List MapEntry
  | _, [] => []
  | j, x :: r => ⟨.string x.1, x.2, j⟩ :: rwEs (j + 1) r
theorem rwEs_snoc (y : ByteArray × Value) : ∀ (l : List (ByteArray × Value)) (j : Nat), rwEs j (l ++ [y]) = rwEs j l ++ [⟨.string y.1, y.2, j + l.length⟩]
  | [], j => by simp [rwEs]
  | x :: r, j => by
    rw [List.cons_append, rwEs, rwEs, rwEs_snoc y r (j + 1), List.length_cons, show j + 1 + r.length = j + (r.length + 1) by omega, List.cons_append]
def rwFind : List (ByteArray × Value) → ByteArray → Nat → Option (Nat × Value)
  | [], _, _ => none
  | x :: r, s, i => if s = x.1 then some (i, x.2) else rwFind r s (i + 1)
theorem find_rw (s : ByteArray) : ∀ (l : List (ByteArray × Value)) (j i : Nat), Instr.findNow .string (.string s) (rwEs j l) i = some (rwFind l s i)
  | [], _, _ => rfl
  | x :: r, j, i => by
    rw [rwEs, rwFind, Instr.findNow]
    by_cases h : s = x.1
    · have : Instr.sameNow .string (.string s) (.string x.1) = some true := by rw [Instr.sameNow, (bytes_beq s x.1).2 h]
      rw [this, if_pos h]
    · have : Instr.sameNow .string (.string s) (.string x.1) = some false := by
        rw [Instr.sameNow]
        congr 1
        cases hq : (s == x.1)
        · rfl
        · exact absurd ((bytes_beq _ _).1 hq) h
      rw [this, if_neg h]
      exact find_rw s r (j + 1) (i + 1)
def rwO (l : List (ByteArray × Value)) : Obj := .map (rwEs 0 l).toArray l.length
theorem lookup_rw {P : Program} {T k9 k3 : TypeId} {z : Value} (hT : P.underlying T = some (.map k9 k3)) (h9 : P.underlying k9 = some .string) (h3 : ∀ w, (zeroValue k3).run P w = .ok z w)
    {w : World} {B : Nat} {l : List (ByteArray × Value)} (h : w.heap[B]? = some (rwO l)) (s : ByteArray) :
    (Instr.lookup T (.map (some B)) (.string s) true).run P w = .ok (.tuple #[((rwFind l s 0).map (·.2)).getD z, .bool (rwFind l s 0).isSome]) w := by
  unfold Instr.lookup
  simp only [Sem.run_bind, run_underlying hT, Result.andThen, MapKept.run_getObj_map h, MapKept.run_checkKey (w := w) h9 (show IsKey .string (.string s) from trivial)]
  simp only [Sem.run_pure, Result.andThen, show (rwEs 0 l).toArray.toList = rwEs 0 l from rfl, MapKept.run_checkKey (w := w) h9 (show IsKey .string (.string s) from trivial), run_findKey (w := w) h9 (find_rw s l 0 0)]
  cases hq : rwFind l s 0 with
  | none => simp [h3, Result.andThen]
  | some k => simp [Result.andThen]
theorem push_set {α : Type} (a : Array α) (x y : α) : (a.push x).setIfInBounds a.size y = a.push y := by
  apply Array.toList_inj.1
  rw [Array.toList_setIfInBounds, Array.toList_push, Array.toList_push, List.set_append_right _ _ (by simp)]
  simp
theorem update_rw {P : Program} {T k9 k3 : TypeId} (hT : P.underlying T = some (.map k9 k3)) (h9 : P.underlying k9 = some .string)
    {w : World} {l : List (ByteArray × Value)} (s : ByteArray) (v : Value) (hs : rwFind l s 0 = none) (H : Nat) (hH : w.heap.size = H) :
    (Instr.mapUpdate T (.map (some H)) (.string s) v).run P (w.alloc (rwO l)) = .ok () (w.alloc (rwO (l ++ [(s, v)]))) := by
  subst hH
  have h : (w.alloc (rwO l)).heap[w.heap.size]? = some (rwO l) := (MapKept.heap_alloc w _).1
  unfold Instr.mapUpdate
  simp only [Sem.run_bind, run_underlying hT, Result.andThen, MapKept.run_getObj_map h, MapKept.run_checkKey (w := w.alloc (rwO l)) h9 (show IsKey .string (.string s) from trivial)]
  simp only [run_findKey (w := w.alloc (rwO l)) h9 (find_rw s l 0 0), hs, Result.andThen]
  rw [MapKept.run_setObj_map _ h]
  have hlen : (l ++ [(s, v)]).length = l.length + 1 := by simp
  show Result.ok () { w with heap := (w.heap.push _).setIfInBounds w.heap.size _ } = Result.ok () { w with heap := w.heap.push _ }
  rw [push_set]
  unfold rwO
  rw [rwEs_snoc, hlen]
  simp
def rowV (n f : Nat) : Value := .agg #[.int .i64 (n : Int), .func (.func f) #[] #[]]
noncomputable def allR : List (ByteArray × Value) := [(kStack, rowV 2 37), (kTrusted, rowV 2 38), (kComp, rowV 2 39), (kObject, rowV 3 40), (kArchive, rowV 3 40), (kExport, rowV 5 41), (kImport, rowV 4 42), (kDevice, rowV 5 43), (kShare, rowV 3 44), (kGive, rowV 4 45), (kStart, rowV 3 46)]
noncomputable def rwL (k : Nat) : List (ByteArray × Value) := allR.take k
noncomputable def rowO (k : Nat) : Obj := rwO (rwL k)
/-- the row of a word -/
noncomputable def rowOf (s : ByteArray) : Option (Nat × Nat) :=
  if s = kStack then some (2, 37) else if s = kTrusted then some (2, 38) else if s = kComp then some (2, 39) else if s = kObject then some (3, 40) else if s = kArchive then some (3, 40) else if s = kExport then some (5, 41) else if s = kImport then some (4, 42) else if s = kDevice then some (5, 43) else if s = kShare then some (3, 44) else if s = kGive then some (4, 45) else if s = kStart then some (3, 46) else none
theorem rows_find (s : ByteArray) : (rwFind (rwL 11) s 0).map (·.2) = (rowOf s).map (fun x => rowV x.1 x.2) := by
  show (rwFind allR s 0).map (·.2) = _
  simp only [allR, rwFind]
  unfold rowOf
  by_cases h0 : s = kStack
  · rw [if_pos h0, if_pos h0]; rfl
  rw [if_neg h0, if_neg h0]
  by_cases h1 : s = kTrusted
  · rw [if_pos h1, if_pos h1]; rfl
  rw [if_neg h1, if_neg h1]
  by_cases h2 : s = kComp
  · rw [if_pos h2, if_pos h2]; rfl
  rw [if_neg h2, if_neg h2]
  by_cases h3 : s = kObject
  · rw [if_pos h3, if_pos h3]; rfl
  rw [if_neg h3, if_neg h3]
  by_cases h4 : s = kArchive
  · rw [if_pos h4, if_pos h4]; rfl
  rw [if_neg h4, if_neg h4]
  by_cases h5 : s = kExport
  · rw [if_pos h5, if_pos h5]; rfl
  rw [if_neg h5, if_neg h5]
  by_cases h6 : s = kImport
  · rw [if_pos h6, if_pos h6]; rfl
  rw [if_neg h6, if_neg h6]
  by_cases h7 : s = kDevice
  · rw [if_pos h7, if_pos h7]; rfl
  rw [if_neg h7, if_neg h7]
  by_cases h8 : s = kShare
  · rw [if_pos h8, if_pos h8]; rfl
  rw [if_neg h8, if_neg h8]
  by_cases h9 : s = kGive
  · rw [if_pos h9, if_pos h9]; rfl
  rw [if_neg h9, if_neg h9]
  by_cases h10 : s = kStart
  · rw [if_pos h10, if_pos h10]; rfl
  rw [if_neg h10, if_neg h10]
  rfl
theorem rows_none (k : Nat) (s : ByteArray) (h : ∀ x ∈ rwL k, s ≠ x.1) : rwFind (rwL k) s 0 = none := by
  generalize rwL k = l at h
  generalize 0 = i
  induction l generalizing i with
  | nil => rfl
  | cons x l ih =>
    rw [rwFind, if_neg (h x (List.mem_cons_self ..))]
    exact ih (fun y hy => h y (List.mem_cons_of_mem _ hy)) _
set_option maxRecDepth 100000 in
set_option maxHeartbeats 4000000 in
theorem n19 (w : World) : Calls Tryz.prog 19 #[] w fun e w' => e = .returned (.map (some w.heap.size)) ∧ Below w.heap.size w w' ∧ w'.heap[w.heap.size]? = some (rowO 11) ∧ w'.heap.size = w.heap.size + 1 := by
  have u0 : (Instr.mapUpdate 53 (.map (some w.heap.size)) (.string ⟨#[115, 116, 97, 99, 107]⟩) (.agg #[.int .i64 2, .func (.func 37) #[] #[]])).run Tryz.prog (w.alloc (.map #[] 0)) = .ok () (w.alloc (rowO 1)) := update_rw (T := 53) (k9 := 9) (k3 := 60) Tryz.underlying53 Tryz.underlying9 (l := rwL 0) kStack (rowV 2 37) rfl _ rfl
  have u1 : (Instr.mapUpdate 53 (.map (some w.heap.size)) (.string ⟨#[116, 114, 117, 115, 116, 101, 100]⟩) (.agg #[.int .i64 2, .func (.func 38) #[] #[]])).run Tryz.prog (w.alloc (rowO 1)) = .ok () (w.alloc (rowO 2)) := update_rw (T := 53) (k9 := 9) (k3 := 60) Tryz.underlying53 Tryz.underlying9 (l := rwL 1) kTrusted (rowV 2 38) (rows_none 1 _ (by simp [rwL, allR]; decide)) _ rfl
  have u2 : (Instr.mapUpdate 53 (.map (some w.heap.size)) (.string ⟨#[99, 111, 109, 112, 97, 114, 116, 109, 101, 110, 116]⟩) (.agg #[.int .i64 2, .func (.func 39) #[] #[]])).run Tryz.prog (w.alloc (rowO 2)) = .ok () (w.alloc (rowO 3)) := update_rw (T := 53) (k9 := 9) (k3 := 60) Tryz.underlying53 Tryz.underlying9 (l := rwL 2) kComp (rowV 2 39) (rows_none 2 _ (by simp [rwL, allR]; decide)) _ rfl
  have u3 : (Instr.mapUpdate 53 (.map (some w.heap.size)) (.string ⟨#[111, 98, 106, 101, 99, 116]⟩) (.agg #[.int .i64 3, .func (.func 40) #[] #[]])).run Tryz.prog (w.alloc (rowO 3)) = .ok () (w.alloc (rowO 4)) := update_rw (T := 53) (k9 := 9) (k3 := 60) Tryz.underlying53 Tryz.underlying9 (l := rwL 3) kObject (rowV 3 40) (rows_none 3 _ (by simp [rwL, allR]; decide)) _ rfl
  have u4 : (Instr.mapUpdate 53 (.map (some w.heap.size)) (.string ⟨#[97, 114, 99, 104, 105, 118, 101]⟩) (.agg #[.int .i64 3, .func (.func 40) #[] #[]])).run Tryz.prog (w.alloc (rowO 4)) = .ok () (w.alloc (rowO 5)) := update_rw (T := 53) (k9 := 9) (k3 := 60) Tryz.underlying53 Tryz.underlying9 (l := rwL 4) kArchive (rowV 3 40) (rows_none 4 _ (by simp [rwL, allR]; decide)) _ rfl
  have u5 : (Instr.mapUpdate 53 (.map (some w.heap.size)) (.string ⟨#[101, 120, 112, 111, 114, 116]⟩) (.agg #[.int .i64 5, .func (.func 41) #[] #[]])).run Tryz.prog (w.alloc (rowO 5)) = .ok () (w.alloc (rowO 6)) := update_rw (T := 53) (k9 := 9) (k3 := 60) Tryz.underlying53 Tryz.underlying9 (l := rwL 5) kExport (rowV 5 41) (rows_none 5 _ (by simp [rwL, allR]; decide)) _ rfl
  have u6 : (Instr.mapUpdate 53 (.map (some w.heap.size)) (.string ⟨#[105, 109, 112, 111, 114, 116]⟩) (.agg #[.int .i64 4, .func (.func 42) #[] #[]])).run Tryz.prog (w.alloc (rowO 6)) = .ok () (w.alloc (rowO 7)) := update_rw (T := 53) (k9 := 9) (k3 := 60) Tryz.underlying53 Tryz.underlying9 (l := rwL 6) kImport (rowV 4 42) (rows_none 6 _ (by simp [rwL, allR]; decide)) _ rfl
  have u7 : (Instr.mapUpdate 53 (.map (some w.heap.size)) (.string ⟨#[100, 101, 118, 105, 99, 101]⟩) (.agg #[.int .i64 5, .func (.func 43) #[] #[]])).run Tryz.prog (w.alloc (rowO 7)) = .ok () (w.alloc (rowO 8)) := update_rw (T := 53) (k9 := 9) (k3 := 60) Tryz.underlying53 Tryz.underlying9 (l := rwL 7) kDevice (rowV 5 43) (rows_none 7 _ (by simp [rwL, allR]; decide)) _ rfl
  have u8 : (Instr.mapUpdate 53 (.map (some w.heap.size)) (.string ⟨#[115, 104, 97, 114, 101]⟩) (.agg #[.int .i64 3, .func (.func 44) #[] #[]])).run Tryz.prog (w.alloc (rowO 8)) = .ok () (w.alloc (rowO 9)) := update_rw (T := 53) (k9 := 9) (k3 := 60) Tryz.underlying53 Tryz.underlying9 (l := rwL 8) kShare (rowV 3 44) (rows_none 8 _ (by simp [rwL, allR]; decide)) _ rfl
  have u9 : (Instr.mapUpdate 53 (.map (some w.heap.size)) (.string ⟨#[103, 105, 118, 101]⟩) (.agg #[.int .i64 4, .func (.func 45) #[] #[]])).run Tryz.prog (w.alloc (rowO 9)) = .ok () (w.alloc (rowO 10)) := update_rw (T := 53) (k9 := 9) (k3 := 60) Tryz.underlying53 Tryz.underlying9 (l := rwL 9) kGive (rowV 4 45) (rows_none 9 _ (by simp [rwL, allR]; decide)) _ rfl
  have u10 : (Instr.mapUpdate 53 (.map (some w.heap.size)) (.string ⟨#[115, 116, 97, 114, 116]⟩) (.agg #[.int .i64 3, .func (.func 46) #[] #[]])).run Tryz.prog (w.alloc (rowO 10)) = .ok () (w.alloc (rowO 11)) := update_rw (T := 53) (k9 := 9) (k3 := 60) Tryz.underlying53 Tryz.underlying9 (l := rwL 10) kStart (rowV 3 46) (rows_none 10 _ (by simp [rwL, allR]; decide)) _ rfl
  have hmk : (Instr.makeMap 53 none).run Tryz.prog w = .ok (.map (some w.heap.size)) (w.alloc (.map #[] 0)) := by first | rfl | (simp [Instr.makeMap, go_sem]; done)
  go_enter Tryz.func19, Tryz.ntmps19
  go_wp2_with fail
  go_ret
  exact ⟨rfl, (Below.refl _ w).alloc (Nat.le_refl _) _, (MapKept.heap_alloc w _).1, by simp⟩
end Go.Proofs.YtapdiionikfgpaaGreatDoor
namespace Go.Proofs.YtapdiionikfgpaaGreatDoor
set_option linter.unusedVariables false
set_option linter.unusedSimpArgs false
theorem sm_add {α : Type} {l : List α} {x : α} {same : α → Bool} {lim : Nat} {set : List α → Pm} {p : Pm} (h : Sm p) (hset : l.length < lim → Sm (set (l ++ [x]))) : Sm (addV l x same lim set p).2 := by
  unfold addV
  split
  · exact h
  · split
    · exact h
    · exact hset (by omega)
theorem sm_once {old : Nat} {n : Option Nat} {set : Nat → Pm} {p : Pm} (h : Sm p) (hset : ∀ x, Sm (set x)) : Sm (onceV old n set p).2 := by
  unfold onceV
  split
  · exact h
  · split
    · exact h
    · exact hset _
theorem sm_upd {p : Pm} {k : Nat} {c : Co} (h : Sm p) (hc : c.fs.length ≤ 16 ∧ c.es.length ≤ 16 ∧ c.is.length ≤ 16 ∧ c.ds.length ≤ 16 ∧ c.gs.length ≤ 16) : Sm (upd p k c) := by
  refine ⟨by show (p.cs.set k c).length ≤ 12; rw [List.length_set]; exact h.1, h.2.1, fun x hx => ?_⟩
  rcases List.mem_or_eq_of_mem_set (show x ∈ p.cs.set k c from hx) with h1 | rfl
  · exact h.2.2 x h1
  · exact hc
theorem sm_at {p : Pm} {k : Nat} {c : Co} (h : Sm p) (hc : p.cs[k]? = some c) : c.fs.length ≤ 16 ∧ c.es.length ≤ 16 ∧ c.is.length ≤ 16 ∧ c.ds.length ≤ 16 ∧ c.gs.length ≤ 16 := h.2.2 c (List.mem_of_getElem? hc)
theorem len1 {α : Type} {l : List α} {x : α} {n : Nat} (h : l.length < n) : (l ++ [x]).length ≤ n := by simp; omega
theorem sm_two (p : Pm) (k a : ByteArray) (h : Sm p) : Sm (two p k a).2 := by
  unfold two
  split
  · exact sm_once h (fun _ => h)
  split
  · exact sm_once h (fun _ => h)
  split
  · split
    · exact sm_add h (fun hl => ⟨len1 hl, h.2.1, fun x hx => by
        rcases List.mem_append.1 hx with h1 | h1
        · exact h.2.2 x h1
        · rw [List.mem_singleton.1 h1]; exact ⟨Nat.zero_le _, Nat.zero_le _, Nat.zero_le _, Nat.zero_le _, Nat.zero_le _⟩⟩)
    · exact h
  · exact h
theorem sm_file (p : Pm) (q : Bool) (a b : ByteArray) (h : Sm p) : Sm (fileV p q a b).2 := by
  unfold fileV
  split
  · split
    · exact h
    · split
      · exact h
      · rename_i hx
        have hc := sm_at h hx
        exact sm_add h (fun hl => sm_upd h ⟨len1 hl, hc.2⟩)
  · exact h
theorem sm_shareO (o : Option Nat) (p : Pm) (a : ByteArray) (h : Sm p) : Sm (shareO o p a).2 := by
  unfold shareO
  split
  · exact h
  · split
    · exact sm_add h (fun hl => ⟨h.1, len1 hl, h.2.2⟩)
    · exact h
theorem sm_share (p : Pm) (a b : ByteArray) (h : Sm p) : Sm (shareV p a b).2 := by
  unfold shareV
  exact sm_shareO _ p a h
theorem sm_start (p : Pm) (a b : ByteArray) (h : Sm p) : Sm (startV p a b).2 := by
  unfold startV
  split
  · split
    · exact h
    · split
      · exact h
      · exact h
  · exact h
theorem sm_three (p : Pm) (k a b : ByteArray) (h : Sm p) : Sm (three p k a b).2 := by
  unfold three
  split
  · exact sm_share p a b h
  split
  · exact sm_start p a b h
  split
  · exact sm_file p _ a b h
  split
  · exact sm_file p _ a b h
  · exact h
theorem sm_import (p : Pm) (a b c : ByteArray) (h : Sm p) : Sm (importV p a b c).2 := by
  unfold importV
  split
  · split
    · split
      · exact h
      · rename_i hx
        have hc := sm_at h hx
        exact sm_add h (fun hl => sm_upd h ⟨hc.1, hc.2.1, len1 hl, hc.2.2.2⟩)
    · exact h
  · exact h
theorem sm_give (p : Pm) (a b c : ByteArray) (h : Sm p) : Sm (giveV p a b c).2 := by
  unfold giveV
  split
  · split
    · split
      · exact h
      · rename_i hx
        have hc := sm_at h hx
        exact sm_add h (fun hl => sm_upd h ⟨hc.1, hc.2.1, hc.2.2.1, hc.2.2.2.1, len1 hl⟩)
    · exact h
  · exact h
theorem sm_four (p : Pm) (k a b c : ByteArray) (h : Sm p) : Sm (four p k a b c).2 := by
  unfold four
  split
  · exact sm_import p a b c h
  split
  · exact sm_give p a b c h
  · exact h
theorem sm_export (o1 o2 : Option Nat) (p : Pm) (a b : ByteArray) (h : Sm p) : Sm (exportO o1 o2 p a b).2 := by
  unfold exportO
  split
  · split
    · split
      · exact h
      · split
        · exact h
        · rename_i hx
          have hc := sm_at h hx
          exact sm_add h (fun hl => sm_upd h ⟨hc.1, len1 hl, hc.2.2⟩)
    · exact h
  · exact h
theorem sm_device (o1 o2 : Option Nat) (p : Pm) (a b : ByteArray) (h : Sm p) : Sm (deviceO o1 o2 p a b).2 := by
  unfold deviceO
  split
  · split
    · split
      · exact h
      · split
        · exact h
        · rename_i hx
          have hc := sm_at h hx
          exact sm_add h (fun hl => sm_upd h ⟨hc.1, hc.2.1, hc.2.2.1, len1 hl, hc.2.2.2.2⟩)
    · exact h
  · exact h
theorem sm_five (p : Pm) (k a b c d : ByteArray) (h : Sm p) : Sm (five p k a b c d).2 := by
  unfold five
  split
  · exact sm_export _ _ p a b h
  split
  · exact sm_device _ _ p a b h
  · exact h
theorem sm_line (p : Pm) (ws : List ByteArray) (h : Sm p) : Sm (lineV p ws).2 := by
  unfold lineV
  split
  · exact sm_two p _ _ h
  · exact sm_three p _ _ _ h
  · exact sm_four p _ _ _ _ h
  · exact sm_five p _ _ _ _ _ h
  · exact h
end Go.Proofs.YtapdiionikfgpaaGreatDoor
namespace Go.Proofs.YtapdiionikfgpaaGreatDoor
set_option linter.unusedVariables false
set_option linter.unusedSimpArgs false
theorem wf_zero : Wf Pm.zero := ⟨(fun c hc => by cases hc), fun h => absurd rfl h⟩
theorem wf_add {α : Type} {l : List α} {x : α} {same : α → Bool} {lim : Nat} {set : List α → Pm} {p : Pm} (h : Wf p) (hset : Wf (set (l ++ [x]))) : Wf (addV l x same lim set p).2 := by
  unfold addV
  split
  · exact h
  · split
    · exact h
    · exact hset
theorem wf_once {old : Nat} {n : Option Nat} {set : Nat → Pm} {p : Pm} (h : Wf p) (hset : ∀ x, Wf (set x)) : Wf (onceV old n set p).2 := by
  unfold onceV
  split
  · exact h
  · split
    · exact h
    · exact hset _
theorem wf_upd {p : Pm} {k : Nat} {c : Co} (h : Wf p) (hc : ∀ y ∈ c.is, y.1 < p.cs.length) : Wf (upd p k c) := by
  have hl : (upd p k c).cs.length = p.cs.length := by show (p.cs.set k c).length = _; rw [List.length_set]
  refine ⟨fun x hx y hy => ?_, fun hm => ?_⟩
  · rw [hl]
    rcases List.mem_or_eq_of_mem_set (show x ∈ p.cs.set k c from hx) with h1 | rfl
    · exact h.1 x h1 y hy
    · exact hc y hy
  · rw [hl]; exact h.2 hm
theorem wf_at {p : Pm} {k : Nat} {c : Co} (h : Wf p) (hc : p.cs[k]? = some c) : ∀ y ∈ c.is, y.1 < p.cs.length := h.1 c (List.mem_of_getElem? hc)
theorem wf_comp {p : Pm} {a : ByteArray} (h : Wf p) : Wf { p with cs := p.cs ++ [Co.new a] } := by
  refine ⟨fun x hx y hy => ?_, fun hm => ?_⟩
  · show y.1 < (p.cs ++ [Co.new a]).length
    rw [List.length_append]
    rcases List.mem_append.1 hx with h1 | h1
    · have := h.1 x h1 y hy
      omega
    · rw [List.mem_singleton.1 h1] at hy
      cases hy
  · show p.s0 < (p.cs ++ [Co.new a]).length
    rw [List.length_append]
    have := h.2 hm
    omega
theorem wf_two (p : Pm) (k a : ByteArray) (h : Wf p) : Wf (two p k a).2 := by
  unfold two
  split
  · exact wf_once h (fun _ => h)
  split
  · exact wf_once h (fun _ => h)
  split
  · split
    · exact wf_add h (wf_comp h)
    · exact h
  · exact h
theorem wf_file (p : Pm) (q : Bool) (a b : ByteArray) (h : Wf p) : Wf (fileV p q a b).2 := by
  unfold fileV
  split
  · split
    · exact h
    · split
      · exact h
      · rename_i hx
        exact wf_add h (wf_upd h (by have hc := wf_at h hx; exact hc))
  · exact h
theorem wf_shareO (o : Option Nat) (p : Pm) (a : ByteArray) (h : Wf p) : Wf (shareO o p a).2 := by
  unfold shareO
  split
  · exact h
  · split
    · exact wf_add h h
    · exact h
theorem wf_start (p : Pm) (a b : ByteArray) (h : Wf p) : Wf (startV p a b).2 := by
  unfold startV
  split
  · split
    · exact h
    · rename_i hf
      split
      · exact h
      · obtain ⟨hk, -, -⟩ := fnd_some hf
        exact ⟨h.1, fun _ => hk⟩
  · exact h
theorem wf_three (p : Pm) (k a b : ByteArray) (h : Wf p) : Wf (three p k a b).2 := by
  unfold three
  split
  · exact wf_shareO _ p a h
  split
  · exact wf_start p a b h
  split
  · exact wf_file p _ a b h
  split
  · exact wf_file p _ a b h
  · exact h
theorem wf_import (p : Pm) (a b c : ByteArray) (h : Wf p) : Wf (importV p a b c).2 := by
  unfold importV
  split
  · split
    · rename_i hfd
      split
      · exact h
      · rename_i hx
        obtain ⟨hk, -, -⟩ := fnd_some hfd
        refine wf_add h (wf_upd h (fun y hy => ?_))
        rcases List.mem_append.1 hy with h1 | h1
        · exact wf_at h hx y h1
        · rw [List.mem_singleton.1 h1]; exact hk
    · exact h
  · exact h
theorem wf_give (p : Pm) (a b c : ByteArray) (h : Wf p) : Wf (giveV p a b c).2 := by
  unfold giveV
  split
  · split
    · split
      · exact h
      · rename_i hx
        exact wf_add h (wf_upd h (by have hc := wf_at h hx; exact hc))
    · exact h
  · exact h
theorem wf_four (p : Pm) (k a b c : ByteArray) (h : Wf p) : Wf (four p k a b c).2 := by
  unfold four
  split
  · exact wf_import p a b c h
  split
  · exact wf_give p a b c h
  · exact h
theorem wf_export (o1 o2 : Option Nat) (p : Pm) (a b : ByteArray) (h : Wf p) : Wf (exportO o1 o2 p a b).2 := by
  unfold exportO
  split
  · split
    · split
      · exact h
      · split
        · exact h
        · rename_i hx
          exact wf_add h (wf_upd h (by have hc := wf_at h hx; exact hc))
    · exact h
  · exact h
theorem wf_device (o1 o2 : Option Nat) (p : Pm) (a b : ByteArray) (h : Wf p) : Wf (deviceO o1 o2 p a b).2 := by
  unfold deviceO
  split
  · split
    · split
      · exact h
      · split
        · exact h
        · rename_i hx
          exact wf_add h (wf_upd h (by have hc := wf_at h hx; exact hc))
    · exact h
  · exact h
theorem wf_five (p : Pm) (k a b c d : ByteArray) (h : Wf p) : Wf (five p k a b c d).2 := by
  unfold five
  split
  · exact wf_export _ _ p a b h
  split
  · exact wf_device _ _ p a b h
  · exact h
theorem wf_line (p : Pm) (ws : List ByteArray) (h : Wf p) : Wf (lineV p ws).2 := by
  unfold lineV
  split
  · exact wf_two p _ _ h
  · exact wf_three p _ _ _ h
  · exact wf_four p _ _ _ _ h
  · exact wf_five p _ _ _ _ _ h
  · exact h
end Go.Proofs.YtapdiionikfgpaaGreatDoor
