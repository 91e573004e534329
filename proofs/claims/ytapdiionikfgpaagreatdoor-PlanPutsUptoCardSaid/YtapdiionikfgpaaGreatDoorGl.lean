import Derived.Test.YtapdiionikfgpaaGreatDoorGc
import Derived.WalkSmall
namespace Go.Proofs.YtapdiionikfgpaaGreatDoor
open Go.ChangeShapes Go.WideShapes Go.ChangeAt Go.RowKit
open Li (bb)
set_option linter.unusedVariables false
set_option linter.unusedSimpArgs false
theorem line_Object (p : Pm) (a t : ByteArray) : lineV p [kObject, a, t] = fileV p false a t := by
  show three p kObject a t = _
  unfold three
  rw [if_neg (by decide), if_neg (by decide), if_pos rfl]
set_option maxRecDepth 100000 in
set_option maxHeartbeats 8000000 in
theorem r53_Object (a t : ByteArray) (w : World) (B tb : Nat) (SV CV : Value) (p : Pm) (D : List (Sv × Co)) (h : RS w B tb SV CV p D) (hB : B ≤ w.heap.size) (hsm : Sm p) (hs : a.size ≤ 9223372036854775807) (hs2 : t.size ≤ 9223372036854775807) (b o c : Nat) (hb : b < tb)
    (q0 : w.cell? ⟨b, o, none⟩ = some (.string ⟨#[111, 98, 106, 101, 99, 116]⟩)) (q1 : w.cell? ⟨b, o + 1, none⟩ = some (.string a)) (q2 : w.cell? ⟨b, o + 2, none⟩ = some (.string t)) :
    Calls Tryz.prog 53 #[.pointer (some ⟨tb, 0, none⟩), .slice (some ⟨b, o, none⟩) 3 c] w fun e w' => Lp tb B (lineV p [kObject, a, t]) w e w' := by
  have HLV := Lib.hid (line_Object p a t)
  have HRS : Hid (∀ W, Below w.heap.size w W → RS W B tb SV CV p D) := Lib.hid (fun W hW => h.below hW)
  have HTB : Hid (tb < w.heap.size) := Lib.hid h.1.lt
  have HBB : Hid (B ≤ w.heap.size) := Lib.hid hB
  have HD := Lib.hid h.2.2.1
  have HSM := Lib.hid hsm
  have HQ2 : Hid (∀ W, Below w.heap.size w W → W.cell? ⟨b, o + 2, none⟩ = some (.string t) ∧ W.cell? ⟨b, o, none⟩ = some (.string ⟨#[111, 98, 106, 101, 99, 116]⟩)) := Lib.hid (fun W hW => ⟨(hW.cell (p := ⟨b, _, none⟩) (World.block_lt_of_cell? w _ q2)).trans q2, (hW.cell (p := ⟨b, _, none⟩) (World.block_lt_of_cell? w _ q0)).trans q0⟩)
  have H22 := Lib.hid (c22 a hs)
  have H49 := Lib.hid (c49 t hs2)
  have H50 := Lib.hid (r50 a w B tb SV CV p D h)
  cases hnm : nameB a
  · have HX : Hid (lineV p [kObject, a, t] = (5, p)) := Lib.hid (by rw [HLV.out]; unfold fileV; rw [if_neg (by rw [hnm]; simp)])
    rw [hnm] at H22
    clear hnm H50 H49 h hsm hs hs2
    go_enter Tryz.func53, Tryz.ntmps53
    go_wp2_with fail
    with_reducible refine (H22.out _).mono ?_
    rintro _ w5 ⟨rfl, rfl⟩
    go_wp2_with fail
    go_ret
    exact lp_err (p := p) HX.out (Below.refl _ _)
  rw [hnm] at H22
  cases hsy : symB t
  · have HX : Hid (lineV p [kObject, a, t] = (5, p)) := Lib.hid (by rw [HLV.out]; unfold fileV; rw [if_neg (by rw [hsy]; simp)])
    rw [hsy] at H49
    clear hnm hsy h hsm hs hs2
    go_enter Tryz.func53, Tryz.ntmps53
    go_wp2_with fail
    with_reducible refine (H22.out _).mono ?_
    rintro _ w5 ⟨rfl, rfl⟩
    go_wp2_with fail
    with_reducible refine H50.out.mono ?_
    rintro _ w6 ⟨rfl, rfl⟩
    go_wp2_with fail
    with_reducible refine (H49.out _).mono ?_
    rintro _ w7 ⟨rfl, rfl⟩
    go_wp2_with fail
    go_ret
    exact lp_err (p := p) HX.out (Below.refl _ _)
  rw [hsy] at H49
  cases hf : fnd (byName a) p.cs with
  | none =>
    have HX : Hid (lineV p [kObject, a, t] = (6, p)) := Lib.hid (by rw [HLV.out]; unfold fileV; rw [if_pos ⟨hnm, hsy⟩, hf])
    rw [hf] at H50
    change Hid (Calls Tryz.prog 50 _ _ fun e w' => e = .returned (.int .i64 (-1)) ∧ w' = w) at H50
    clear hnm hsy hf h hsm hs hs2
    go_enter Tryz.func53, Tryz.ntmps53
    go_wp2_with fail
    with_reducible refine (H22.out _).mono ?_
    rintro _ w5 ⟨rfl, rfl⟩
    go_wp2_with fail
    with_reducible refine H50.out.mono ?_
    rintro _ w6 ⟨rfl, rfl⟩
    go_wp2_with fail
    with_reducible refine (H49.out _).mono ?_
    rintro _ w7 ⟨rfl, rfl⟩
    go_wp2_with fail
    go_ret
    exact lp_err (p := p) HX.out (Below.refl _ _)
  | some k =>
    obtain ⟨hk, -, -⟩ := fnd_some hf
    have hkD0 : k < D.length := by rw [h.len]; exact hk
    obtain ⟨x, hx, hxc⟩ : ∃ x, D[k]? = some x ∧ p.cs[k]? = some x.2 := ⟨D[k], List.getElem?_eq_getElem hkD0, by rw [← HD.out, List.getElem?_map, List.getElem?_eq_getElem hkD0]; rfl⟩
    have HADD : Hid (lineV p [kObject, a, t] = addV x.2.fs (t, false) (fun y => decide (y.1 = t)) 16 (fun l => upd p k { x.2 with fs := l }) p) := Lib.hid (by
      rw [HLV.out]
      unfold fileV
      rw [if_pos ⟨hnm, hsy⟩, hf]
      simp only [hxc])
    have hkD : k < D.length := (List.getElem?_eq_some_iff.1 hx).1
    have HX := Lib.hid hx
    have hmem : x.2 ∈ p.cs := List.mem_of_getElem? hxc
    have hl16 : x.2.fs.length ≤ 16 := (hsm.2.2 x.2 hmem).1
    have HL16 := Lib.hid hl16
    rw [hf] at H50
    change Hid (Calls Tryz.prog 50 _ _ fun e w' => e = .returned (.int .i64 (k : Int)) ∧ w' = w) at H50
    obtain ⟨g, cc, hce, hg, hBg, hat⟩ := own_at len_cCo h.2.1.2.1 (by omega)
    subst hce
    obtain ⟨AF, cf, hfe, _⟩ := own_slice (h.2.1.2.2.1 k x hx).1
    have HFE := Lib.hid hfe
    have HPC : Hid (∀ W, Below w.heap.size w W → W.cell? ⟨g, k * 6 + 1, none⟩ = some (.slice AF x.2.fs.length cf)) := Lib.hid (fun W hW => by
      rw [hW.cell (p := ⟨g, _, none⟩) hg]
      have := hat k x hx 1 (by omega)
      rw [this, ← hfe]; rfl)
    have p3 := h.1.cell 3
    simp at p3
    have e1 : decide ((k : Int) < 0) = false := by simp
    have hkn : (k : Int) < (D.length : Int) := by omega
    have hkw : IntKind.i64.wrap (k : Int) = (k : Int) := by rw [IntKind.wrap_i64]; have := h.len; have := hsm.1; omega
    have HGB : Hid (B ≤ g) := Lib.hid hBg
    clear hnm hsy hf h hsm hs hs2 hat hx hxc hmem hk hfe hg hBg hkD0
    go_enter Tryz.func53, Tryz.ntmps53
    go_wp2_with fail
    with_reducible refine (H22.out _).mono ?_
    rintro _ w5 ⟨rfl, rfl⟩
    go_wp2_with fail
    with_reducible refine H50.out.mono ?_
    rintro _ w6 ⟨rfl, rfl⟩
    go_wp2_with fail
    with_reducible refine (H49.out _).mono ?_
    rintro _ w7 ⟨rfl, rfl⟩
    go_wp2_with fail
    clear q0 q1 q2 p3 H22 H49 H50
    go_loopw [7] (fun i wr => FB w6 x.2.fs.length (fun j => (x.2.fs[j]?).any (fun y => decide (y.1 = t))) i wr) (fun i _ => x.2.fs.length - (intOf i).toNat)
    case atStart => exact ⟨0, Nat.zero_le _, rfl, Below.refl _ _, fun j hj => absurd hj (by omega)⟩
    case round =>
      obtain ⟨m, hm, rfl, hb, hno⟩ := hrel
      have HB := Lib.hid hb
      have HNO := Lib.hid hno
      have HR := Lib.hid (HRS.out wr hb)
      have pf := HPC.out wr hb
      obtain ⟨q2, q0⟩ := HQ2.out wr hb
      clear hb hno
      by_cases hlt : m < x.2.fs.length
      · obtain ⟨y, hy⟩ : ∃ y, x.2.fs[m]? = some y := ⟨_, List.getElem?_eq_getElem hlt⟩
        have hro := (HR.out.2.1.2.2.1 k x HX.out).1
        rw [HFE.out] at hro
        obtain ⟨gf, cf', hce, hgf, hBf, hatf⟩ := own_at len_cFs hro (by omega)
        cases hce
        have i0 := hatf m y hy 0 (by omega)
        simp only [Nat.add_zero] at i0
        change wr.cell? ⟨gf, m * 2, none⟩ = some (.string y.1) at i0
        have hmn : (m : Int) < (x.2.fs.length : Int) := by omega
        have hmw : IntKind.i64.wrap (m : Int) = (m : Int) := by rw [IntKind.wrap_i64]; omega
        have HY := Lib.hid hy
        have HLT := Lib.hid hlt
        clear hatf hro hlt hy
        by_cases he : y.1 = t
        · have e2 : (y.1.toList == t.toList) = true := by rw [bs_eq]; exact decide_eq_true he
          have HXR : Hid (lineV p [kObject, a, t] = (7, p)) := Lib.hid (by
            have hh := hitD (g := fun y : ByteArray × Bool => y) (p := fun y => decide (y.1 = t)) HY.out (decide_eq_true he) HNO.out
            rw [List.map_id'] at hh
            rw [HADD.out]
            unfold addV
            rw [hh, if_pos (show (some m).isSome = true from rfl)])
          clear he
          go_wp2_with fail
          go_quiet (fail)
          go_wp2_with fail
          go_ret
          exact lp_err (p := p) HXR.out (below_drewN (HB.out.mono (Nat.le_of_lt HTB.out)) _)
        · have e2 : (y.1.toList == t.toList) = false := by rw [bs_eq]; exact decide_eq_false he
          have HE := Lib.hid (decide_eq_false he)
          clear he
          go_wp2_with fail
          go_quiet (fail)
          go_wp2_with fail
          go_roundw
          case rel => exact ⟨m + 1, HLT.out, by go_num, below_drewN HB.out _, fun j hj => by
            by_cases hjm : j = m
            · subst hjm
              show (x.2.fs[j]?).any _ = false
              rw [HY.out]
              exact HE.out
            · exact HNO.out j (by omega)⟩
          case measure => simp [intOf]; have := HLT.out; omega
      · have HMISS := Lib.hid (missD (g := fun y : ByteArray × Bool => y) (p := fun y => decide (y.1 = t)) (D := x.2.fs) (fun j hj => HNO.out j (by omega)))
        obtain rfl : m = x.2.fs.length := by omega
        clear hlt hm
        have HAD2 : Hid (lineV p [kObject, a, t] = if 16 ≤ x.2.fs.length then (3, p) else (0, upd p k { x.2 with fs := x.2.fs ++ [(t, false)] })) := Lib.hid (by
          have hh := HMISS.out
          rw [List.map_id'] at hh
          rw [HADD.out]
          unfold addV
          rw [hh, if_neg (by simp)])
        by_cases hl : 16 ≤ x.2.fs.length
        · have HXR : Hid (lineV p [kObject, a, t] = (3, p)) := Lib.hid (by rw [HAD2.out, if_pos hl])
          have e2 : decide ((16 : Int) ≤ (x.2.fs.length : Int)) = true := by simp; omega
          clear hl
          go_wp2_with fail
          go_ret
          exact lp_err (p := p) HXR.out (HB.out.mono (Nat.le_of_lt HTB.out))
        · have HXR : Hid (lineV p [kObject, a, t] = (0, upd p k { x.2 with fs := x.2.fs ++ [(t, false)] })) := Lib.hid (by rw [HAD2.out, if_neg hl])
          have e2 : decide ((16 : Int) ≤ (x.2.fs.length : Int)) = false := by simp; omega
          clear hl
          obtain ⟨i0, hi0, hz0, hz1, hz2⟩ := info88
          have HI0 := Lib.hid hi0
          have HZ0 := Lib.hid hz0
          have HZ1 := Lib.hid hz1
          have HZ2 := Lib.hid hz2
          have HNL : Hid (x.2.fs.length + 1 ≤ maxLen) := Lib.hid (by unfold maxLen; have := HL16.out; omega)
          have HNB : Hid ((x.2.fs.length + 1) * 24 ≤ 140737488355328) := Lib.hid (by have := HL16.out; omega)
          have HBL : Hid (Below w6.heap.size w6 (wr.drew.alloc (.cells #[.string t, .bool false] 88))) := Lib.hid (HB.out.drew.alloc HB.out.size _)
          have HPA : Hid (RS (wr.drew.alloc (.cells #[.string t, .bool false] 88)) B tb SV (.slice (some ⟨g, 0, none⟩) D.length cc) p D) := Lib.hid (HRS.out _ HBL.out)
          have HED : Hid ((wr.drew.alloc (.cells #[.string t, .bool false] 88)).ownsRow B 88 2 (.slice AF x.2.fs.length cf) x.2.fs.length (x.2.fs.flatMap cFs)) := Lib.hid (by
            have := (HPA.out.2.1.2.2.1 k x HX.out).1
            rw [HFE.out] at this
            exact this)
          have HBS : Hid (B ≤ (wr.drew.alloc (.cells #[.string t, .bool false] 88)).heap.size) := Lib.hid (Nat.le_trans HBB.out HBL.out.size)
          have HNW : Hid (∀ j u, (#[.string t, .bool false] : Array Value).toList[j]? = some u → (wr.drew.alloc (.cells #[.string t, .bool false] 88)).cell? ((⟨wr.heap.size, 0, none⟩ : Addr).add j) = some u) := Lib.hid (World.news_of_block (heap_alloc_new wr.drew (.cells #[.string t, .bool false] 88)))
          have HOC : Hid (∀ u ∈ ([.string t, .bool false] : List Value), u.oneCell' = true) := Lib.hid (by intro u hu; simp at hu; rcases hu with rfl | rfl <;> rfl)
          have HG : Hid (∀ W', World.grownBy (wr.drew.alloc (.cells #[.string t, .bool false] 88)) W' (Value.ownBlock (.slice AF x.2.fs.length cf)) → W'.cell? ⟨g, k * 6 + 1, none⟩ = some (.slice AF x.2.fs.length cf) ∧ W'.frozen? ⟨g, k * 6 + 1, none⟩ = false) := Lib.hid (fun W' hg => by
            have hr := HPA.out.2.1.2.1.kept hg (own_apart HPA.out.2.1.2.1 HED.out (by decide))
            have hk6 : k * 6 + 1 < D.length * 6 := by omega
            refine ⟨?_, hr.frozenAt _⟩
            rw [hr.cellAt _ hk6, flat_at cCo 6 len_cCo D k 1 x HX.out (by omega), ← HFE.out]
            rfl)
          have pfa := HPC.out _ HBL.out
          obtain ⟨q2a, q0a⟩ := HQ2.out _ HBL.out
          have HBL2 : Hid (Below w6.heap.size w6 (wr.alloc (.cells #[.string t, .bool false] 88))) := Lib.hid (HB.out.alloc HB.out.size _)
          have pfb := HPC.out _ HBL2.out
          obtain ⟨q2b, q0b⟩ := HQ2.out _ HBL2.out
          clear hi0 hz0 hz1 hz2
          go_upto_region 19 with fail
          go_region_law (first | (refine step_append_lies _ (by rfl) _ _ 42 (by rfl) B 88 i0 (.agg #[.string ⟨#[]⟩, .bool false]) 2 24 Tryz.underlying42 HI0.out HZ0.out HZ1.out HZ2.out rfl (by decide) (.slice AF x.2.fs.length cf) x.2.fs.length (x.2.fs.flatMap cFs) (by rfl) HED.out ⟨wr.heap.size, 0, none⟩ 1 1 [.string t, .bool false] (by rfl) rfl HNW.out HOC.out (by decide) HNL.out HNB.out HBS.out _ rfl ?_; intro g5 c5 w8 hown5 hgrow5 hat5 hlt5; obtain ⟨x5a, x5b⟩ := HG.out w8 hgrow5))
          all_goals
            go_wp2_with fail
            go_ret
            rw [HXR.out]
            exact app_ok_f (y := (t, false)) HPA.out (HBL.out.mono (Nat.le_of_lt HTB.out)) HX.out (by first | exact hown5 | simpa using hown5) (by rw [HFE.out]; exact hgrow5) (by rw [HFE.out]; exact hat5)
end Go.Proofs.YtapdiionikfgpaaGreatDoor
namespace Go.Proofs.YtapdiionikfgpaaGreatDoor
open Go.ChangeShapes Go.WideShapes Go.ChangeAt Go.RowKit
open Li (bb)
set_option linter.unusedVariables false
set_option linter.unusedSimpArgs false
theorem line_Archive (p : Pm) (a t : ByteArray) : lineV p [kArchive, a, t] = fileV p true a t := by
  show three p kArchive a t = _
  unfold three
  rw [if_neg (by decide), if_neg (by decide), if_neg (by decide), if_pos rfl]
set_option maxRecDepth 100000 in
set_option maxHeartbeats 8000000 in
theorem r53_Archive (a t : ByteArray) (w : World) (B tb : Nat) (SV CV : Value) (p : Pm) (D : List (Sv × Co)) (h : RS w B tb SV CV p D) (hB : B ≤ w.heap.size) (hsm : Sm p) (hs : a.size ≤ 9223372036854775807) (hs2 : t.size ≤ 9223372036854775807) (b o c : Nat) (hb : b < tb)
    (q0 : w.cell? ⟨b, o, none⟩ = some (.string ⟨#[97, 114, 99, 104, 105, 118, 101]⟩)) (q1 : w.cell? ⟨b, o + 1, none⟩ = some (.string a)) (q2 : w.cell? ⟨b, o + 2, none⟩ = some (.string t)) :
    Calls Tryz.prog 53 #[.pointer (some ⟨tb, 0, none⟩), .slice (some ⟨b, o, none⟩) 3 c] w fun e w' => Lp tb B (lineV p [kArchive, a, t]) w e w' := by
  have HLV := Lib.hid (line_Archive p a t)
  have HRS : Hid (∀ W, Below w.heap.size w W → RS W B tb SV CV p D) := Lib.hid (fun W hW => h.below hW)
  have HTB : Hid (tb < w.heap.size) := Lib.hid h.1.lt
  have HBB : Hid (B ≤ w.heap.size) := Lib.hid hB
  have HD := Lib.hid h.2.2.1
  have HSM := Lib.hid hsm
  have HQ2 : Hid (∀ W, Below w.heap.size w W → W.cell? ⟨b, o + 2, none⟩ = some (.string t) ∧ W.cell? ⟨b, o, none⟩ = some (.string ⟨#[97, 114, 99, 104, 105, 118, 101]⟩)) := Lib.hid (fun W hW => ⟨(hW.cell (p := ⟨b, _, none⟩) (World.block_lt_of_cell? w _ q2)).trans q2, (hW.cell (p := ⟨b, _, none⟩) (World.block_lt_of_cell? w _ q0)).trans q0⟩)
  have H22 := Lib.hid (c22 a hs)
  have H49 := Lib.hid (c49 t hs2)
  have H50 := Lib.hid (r50 a w B tb SV CV p D h)
  cases hnm : nameB a
  · have HX : Hid (lineV p [kArchive, a, t] = (5, p)) := Lib.hid (by rw [HLV.out]; unfold fileV; rw [if_neg (by rw [hnm]; simp)])
    rw [hnm] at H22
    clear hnm H50 H49 h hsm hs hs2
    go_enter Tryz.func53, Tryz.ntmps53
    go_wp2_with fail
    with_reducible refine (H22.out _).mono ?_
    rintro _ w5 ⟨rfl, rfl⟩
    go_wp2_with fail
    go_ret
    exact lp_err (p := p) HX.out (Below.refl _ _)
  rw [hnm] at H22
  cases hsy : symB t
  · have HX : Hid (lineV p [kArchive, a, t] = (5, p)) := Lib.hid (by rw [HLV.out]; unfold fileV; rw [if_neg (by rw [hsy]; simp)])
    rw [hsy] at H49
    clear hnm hsy h hsm hs hs2
    go_enter Tryz.func53, Tryz.ntmps53
    go_wp2_with fail
    with_reducible refine (H22.out _).mono ?_
    rintro _ w5 ⟨rfl, rfl⟩
    go_wp2_with fail
    with_reducible refine H50.out.mono ?_
    rintro _ w6 ⟨rfl, rfl⟩
    go_wp2_with fail
    with_reducible refine (H49.out _).mono ?_
    rintro _ w7 ⟨rfl, rfl⟩
    go_wp2_with fail
    go_ret
    exact lp_err (p := p) HX.out (Below.refl _ _)
  rw [hsy] at H49
  cases hf : fnd (byName a) p.cs with
  | none =>
    have HX : Hid (lineV p [kArchive, a, t] = (6, p)) := Lib.hid (by rw [HLV.out]; unfold fileV; rw [if_pos ⟨hnm, hsy⟩, hf])
    rw [hf] at H50
    change Hid (Calls Tryz.prog 50 _ _ fun e w' => e = .returned (.int .i64 (-1)) ∧ w' = w) at H50
    clear hnm hsy hf h hsm hs hs2
    go_enter Tryz.func53, Tryz.ntmps53
    go_wp2_with fail
    with_reducible refine (H22.out _).mono ?_
    rintro _ w5 ⟨rfl, rfl⟩
    go_wp2_with fail
    with_reducible refine H50.out.mono ?_
    rintro _ w6 ⟨rfl, rfl⟩
    go_wp2_with fail
    with_reducible refine (H49.out _).mono ?_
    rintro _ w7 ⟨rfl, rfl⟩
    go_wp2_with fail
    go_ret
    exact lp_err (p := p) HX.out (Below.refl _ _)
  | some k =>
    obtain ⟨hk, -, -⟩ := fnd_some hf
    have hkD0 : k < D.length := by rw [h.len]; exact hk
    obtain ⟨x, hx, hxc⟩ : ∃ x, D[k]? = some x ∧ p.cs[k]? = some x.2 := ⟨D[k], List.getElem?_eq_getElem hkD0, by rw [← HD.out, List.getElem?_map, List.getElem?_eq_getElem hkD0]; rfl⟩
    have HADD : Hid (lineV p [kArchive, a, t] = addV x.2.fs (t, true) (fun y => decide (y.1 = t)) 16 (fun l => upd p k { x.2 with fs := l }) p) := Lib.hid (by
      rw [HLV.out]
      unfold fileV
      rw [if_pos ⟨hnm, hsy⟩, hf]
      simp only [hxc])
    have hkD : k < D.length := (List.getElem?_eq_some_iff.1 hx).1
    have HX := Lib.hid hx
    have hmem : x.2 ∈ p.cs := List.mem_of_getElem? hxc
    have hl16 : x.2.fs.length ≤ 16 := (hsm.2.2 x.2 hmem).1
    have HL16 := Lib.hid hl16
    rw [hf] at H50
    change Hid (Calls Tryz.prog 50 _ _ fun e w' => e = .returned (.int .i64 (k : Int)) ∧ w' = w) at H50
    obtain ⟨g, cc, hce, hg, hBg, hat⟩ := own_at len_cCo h.2.1.2.1 (by omega)
    subst hce
    obtain ⟨AF, cf, hfe, _⟩ := own_slice (h.2.1.2.2.1 k x hx).1
    have HFE := Lib.hid hfe
    have HPC : Hid (∀ W, Below w.heap.size w W → W.cell? ⟨g, k * 6 + 1, none⟩ = some (.slice AF x.2.fs.length cf)) := Lib.hid (fun W hW => by
      rw [hW.cell (p := ⟨g, _, none⟩) hg]
      have := hat k x hx 1 (by omega)
      rw [this, ← hfe]; rfl)
    have p3 := h.1.cell 3
    simp at p3
    have e1 : decide ((k : Int) < 0) = false := by simp
    have hkn : (k : Int) < (D.length : Int) := by omega
    have hkw : IntKind.i64.wrap (k : Int) = (k : Int) := by rw [IntKind.wrap_i64]; have := h.len; have := hsm.1; omega
    have HGB : Hid (B ≤ g) := Lib.hid hBg
    clear hnm hsy hf h hsm hs hs2 hat hx hxc hmem hk hfe hg hBg hkD0
    go_enter Tryz.func53, Tryz.ntmps53
    go_wp2_with fail
    with_reducible refine (H22.out _).mono ?_
    rintro _ w5 ⟨rfl, rfl⟩
    go_wp2_with fail
    with_reducible refine H50.out.mono ?_
    rintro _ w6 ⟨rfl, rfl⟩
    go_wp2_with fail
    with_reducible refine (H49.out _).mono ?_
    rintro _ w7 ⟨rfl, rfl⟩
    go_wp2_with fail
    clear q0 q1 q2 p3 H22 H49 H50
    go_loopw [7] (fun i wr => FB w6 x.2.fs.length (fun j => (x.2.fs[j]?).any (fun y => decide (y.1 = t))) i wr) (fun i _ => x.2.fs.length - (intOf i).toNat)
    case atStart => exact ⟨0, Nat.zero_le _, rfl, Below.refl _ _, fun j hj => absurd hj (by omega)⟩
    case round =>
      obtain ⟨m, hm, rfl, hb, hno⟩ := hrel
      have HB := Lib.hid hb
      have HNO := Lib.hid hno
      have HR := Lib.hid (HRS.out wr hb)
      have pf := HPC.out wr hb
      obtain ⟨q2, q0⟩ := HQ2.out wr hb
      clear hb hno
      by_cases hlt : m < x.2.fs.length
      · obtain ⟨y, hy⟩ : ∃ y, x.2.fs[m]? = some y := ⟨_, List.getElem?_eq_getElem hlt⟩
        have hro := (HR.out.2.1.2.2.1 k x HX.out).1
        rw [HFE.out] at hro
        obtain ⟨gf, cf', hce, hgf, hBf, hatf⟩ := own_at len_cFs hro (by omega)
        cases hce
        have i0 := hatf m y hy 0 (by omega)
        simp only [Nat.add_zero] at i0
        change wr.cell? ⟨gf, m * 2, none⟩ = some (.string y.1) at i0
        have hmn : (m : Int) < (x.2.fs.length : Int) := by omega
        have hmw : IntKind.i64.wrap (m : Int) = (m : Int) := by rw [IntKind.wrap_i64]; omega
        have HY := Lib.hid hy
        have HLT := Lib.hid hlt
        clear hatf hro hlt hy
        by_cases he : y.1 = t
        · have e2 : (y.1.toList == t.toList) = true := by rw [bs_eq]; exact decide_eq_true he
          have HXR : Hid (lineV p [kArchive, a, t] = (7, p)) := Lib.hid (by
            have hh := hitD (g := fun y : ByteArray × Bool => y) (p := fun y => decide (y.1 = t)) HY.out (decide_eq_true he) HNO.out
            rw [List.map_id'] at hh
            rw [HADD.out]
            unfold addV
            rw [hh, if_pos (show (some m).isSome = true from rfl)])
          clear he
          go_wp2_with fail
          go_quiet (fail)
          go_wp2_with fail
          go_ret
          exact lp_err (p := p) HXR.out (below_drewN (HB.out.mono (Nat.le_of_lt HTB.out)) _)
        · have e2 : (y.1.toList == t.toList) = false := by rw [bs_eq]; exact decide_eq_false he
          have HE := Lib.hid (decide_eq_false he)
          clear he
          go_wp2_with fail
          go_quiet (fail)
          go_wp2_with fail
          go_roundw
          case rel => exact ⟨m + 1, HLT.out, by go_num, below_drewN HB.out _, fun j hj => by
            by_cases hjm : j = m
            · subst hjm
              show (x.2.fs[j]?).any _ = false
              rw [HY.out]
              exact HE.out
            · exact HNO.out j (by omega)⟩
          case measure => simp [intOf]; have := HLT.out; omega
      · have HMISS := Lib.hid (missD (g := fun y : ByteArray × Bool => y) (p := fun y => decide (y.1 = t)) (D := x.2.fs) (fun j hj => HNO.out j (by omega)))
        obtain rfl : m = x.2.fs.length := by omega
        clear hlt hm
        have HAD2 : Hid (lineV p [kArchive, a, t] = if 16 ≤ x.2.fs.length then (3, p) else (0, upd p k { x.2 with fs := x.2.fs ++ [(t, true)] })) := Lib.hid (by
          have hh := HMISS.out
          rw [List.map_id'] at hh
          rw [HADD.out]
          unfold addV
          rw [hh, if_neg (by simp)])
        by_cases hl : 16 ≤ x.2.fs.length
        · have HXR : Hid (lineV p [kArchive, a, t] = (3, p)) := Lib.hid (by rw [HAD2.out, if_pos hl])
          have e2 : decide ((16 : Int) ≤ (x.2.fs.length : Int)) = true := by simp; omega
          clear hl
          go_wp2_with fail
          go_ret
          exact lp_err (p := p) HXR.out (HB.out.mono (Nat.le_of_lt HTB.out))
        · have HXR : Hid (lineV p [kArchive, a, t] = (0, upd p k { x.2 with fs := x.2.fs ++ [(t, true)] })) := Lib.hid (by rw [HAD2.out, if_neg hl])
          have e2 : decide ((16 : Int) ≤ (x.2.fs.length : Int)) = false := by simp; omega
          clear hl
          obtain ⟨i0, hi0, hz0, hz1, hz2⟩ := info88
          have HI0 := Lib.hid hi0
          have HZ0 := Lib.hid hz0
          have HZ1 := Lib.hid hz1
          have HZ2 := Lib.hid hz2
          have HNL : Hid (x.2.fs.length + 1 ≤ maxLen) := Lib.hid (by unfold maxLen; have := HL16.out; omega)
          have HNB : Hid ((x.2.fs.length + 1) * 24 ≤ 140737488355328) := Lib.hid (by have := HL16.out; omega)
          have HBL : Hid (Below w6.heap.size w6 (wr.drew.alloc (.cells #[.string t, .bool true] 88))) := Lib.hid (HB.out.drew.alloc HB.out.size _)
          have HPA : Hid (RS (wr.drew.alloc (.cells #[.string t, .bool true] 88)) B tb SV (.slice (some ⟨g, 0, none⟩) D.length cc) p D) := Lib.hid (HRS.out _ HBL.out)
          have HED : Hid ((wr.drew.alloc (.cells #[.string t, .bool true] 88)).ownsRow B 88 2 (.slice AF x.2.fs.length cf) x.2.fs.length (x.2.fs.flatMap cFs)) := Lib.hid (by
            have := (HPA.out.2.1.2.2.1 k x HX.out).1
            rw [HFE.out] at this
            exact this)
          have HBS : Hid (B ≤ (wr.drew.alloc (.cells #[.string t, .bool true] 88)).heap.size) := Lib.hid (Nat.le_trans HBB.out HBL.out.size)
          have HNW : Hid (∀ j u, (#[.string t, .bool true] : Array Value).toList[j]? = some u → (wr.drew.alloc (.cells #[.string t, .bool true] 88)).cell? ((⟨wr.heap.size, 0, none⟩ : Addr).add j) = some u) := Lib.hid (World.news_of_block (heap_alloc_new wr.drew (.cells #[.string t, .bool true] 88)))
          have HOC : Hid (∀ u ∈ ([.string t, .bool true] : List Value), u.oneCell' = true) := Lib.hid (by intro u hu; simp at hu; rcases hu with rfl | rfl <;> rfl)
          have HG : Hid (∀ W', World.grownBy (wr.drew.alloc (.cells #[.string t, .bool true] 88)) W' (Value.ownBlock (.slice AF x.2.fs.length cf)) → W'.cell? ⟨g, k * 6 + 1, none⟩ = some (.slice AF x.2.fs.length cf) ∧ W'.frozen? ⟨g, k * 6 + 1, none⟩ = false) := Lib.hid (fun W' hg => by
            have hr := HPA.out.2.1.2.1.kept hg (own_apart HPA.out.2.1.2.1 HED.out (by decide))
            have hk6 : k * 6 + 1 < D.length * 6 := by omega
            refine ⟨?_, hr.frozenAt _⟩
            rw [hr.cellAt _ hk6, flat_at cCo 6 len_cCo D k 1 x HX.out (by omega), ← HFE.out]
            rfl)
          have pfa := HPC.out _ HBL.out
          obtain ⟨q2a, q0a⟩ := HQ2.out _ HBL.out
          have HBL2 : Hid (Below w6.heap.size w6 (wr.alloc (.cells #[.string t, .bool true] 88))) := Lib.hid (HB.out.alloc HB.out.size _)
          have pfb := HPC.out _ HBL2.out
          obtain ⟨q2b, q0b⟩ := HQ2.out _ HBL2.out
          clear hi0 hz0 hz1 hz2
          go_upto_region 19 with fail
          go_region_law (first | (refine step_append_lies _ (by rfl) _ _ 42 (by rfl) B 88 i0 (.agg #[.string ⟨#[]⟩, .bool false]) 2 24 Tryz.underlying42 HI0.out HZ0.out HZ1.out HZ2.out rfl (by decide) (.slice AF x.2.fs.length cf) x.2.fs.length (x.2.fs.flatMap cFs) (by rfl) HED.out ⟨wr.heap.size, 0, none⟩ 1 1 [.string t, .bool true] (by rfl) rfl HNW.out HOC.out (by decide) HNL.out HNB.out HBS.out _ rfl ?_; intro g5 c5 w8 hown5 hgrow5 hat5 hlt5; obtain ⟨x5a, x5b⟩ := HG.out w8 hgrow5))
          all_goals
            go_wp2_with fail
            go_ret
            rw [HXR.out]
            exact app_ok_f (y := (t, true)) HPA.out (HBL.out.mono (Nat.le_of_lt HTB.out)) HX.out (by first | exact hown5 | simpa using hown5) (by rw [HFE.out]; exact hgrow5) (by rw [HFE.out]; exact hat5)
end Go.Proofs.YtapdiionikfgpaaGreatDoor
namespace Go.Proofs.YtapdiionikfgpaaGreatDoor
open Go.ChangeShapes Go.WideShapes Go.ChangeAt Go.RowKit
open Li (bb)
set_option linter.unusedVariables false
set_option linter.unusedSimpArgs false
set_option maxRecDepth 100000 in
set_option maxHeartbeats 4000000 in
theorem r21_of_Object (w : World) (B tb : Nat) (L : Nat × Pm) (b o c : Nat) (q0 : w.cell? ⟨b, o, none⟩ = some (.string ⟨#[111, 98, 106, 101, 99, 116]⟩))
    (h : Calls Tryz.prog 53 #[.pointer (some ⟨tb, 0, none⟩), .slice (some ⟨b, o, none⟩) 3 c] w fun e w' => Lp tb B L w e w') :
    Calls Tryz.prog 21 #[.pointer (some ⟨tb, 0, none⟩), .slice (some ⟨b, o, none⟩) 3 c] w fun e w' => Lp tb B L w e w' := by
  have H := Lib.hid h
  clear h
  go_enter Tryz.func21, Tryz.ntmps21
  go_wp2_with fail
  with_reducible refine H.out.mono ?_
  rintro _ w5 ⟨rfl, hb5, hk5⟩
  have HL : Hid (Lp tb B L w (.returned (.int .i64 (L.1 : Int))) w5) := Lib.hid ⟨rfl, hb5, hk5⟩
  clear hb5 hk5 H
  go_wp2_with fail
  go_ret
  exact HL.out
set_option maxRecDepth 100000 in
set_option maxHeartbeats 4000000 in
theorem r21_of_Archive (w : World) (B tb : Nat) (L : Nat × Pm) (b o c : Nat) (q0 : w.cell? ⟨b, o, none⟩ = some (.string ⟨#[97, 114, 99, 104, 105, 118, 101]⟩))
    (h : Calls Tryz.prog 53 #[.pointer (some ⟨tb, 0, none⟩), .slice (some ⟨b, o, none⟩) 3 c] w fun e w' => Lp tb B L w e w') :
    Calls Tryz.prog 21 #[.pointer (some ⟨tb, 0, none⟩), .slice (some ⟨b, o, none⟩) 3 c] w fun e w' => Lp tb B L w e w' := by
  have H := Lib.hid h
  clear h
  go_enter Tryz.func21, Tryz.ntmps21
  go_wp2_with fail
  with_reducible refine H.out.mono ?_
  rintro _ w5 ⟨rfl, hb5, hk5⟩
  have HL : Hid (Lp tb B L w (.returned (.int .i64 (L.1 : Int))) w5) := Lib.hid ⟨rfl, hb5, hk5⟩
  clear hb5 hk5 H
  go_wp2_with fail
  go_ret
  exact HL.out
set_option maxRecDepth 100000 in
set_option maxHeartbeats 4000000 in
theorem r21_of_Import (w : World) (B tb : Nat) (L : Nat × Pm) (b o c : Nat) (q0 : w.cell? ⟨b, o, none⟩ = some (.string ⟨#[105, 109, 112, 111, 114, 116]⟩))
    (h : Calls Tryz.prog 53 #[.pointer (some ⟨tb, 0, none⟩), .slice (some ⟨b, o, none⟩) 4 c] w fun e w' => Lp tb B L w e w') :
    Calls Tryz.prog 21 #[.pointer (some ⟨tb, 0, none⟩), .slice (some ⟨b, o, none⟩) 4 c] w fun e w' => Lp tb B L w e w' := by
  have H := Lib.hid h
  clear h
  go_enter Tryz.func21, Tryz.ntmps21
  go_wp2_with fail
  with_reducible refine H.out.mono ?_
  rintro _ w5 ⟨rfl, hb5, hk5⟩
  have HL : Hid (Lp tb B L w (.returned (.int .i64 (L.1 : Int))) w5) := Lib.hid ⟨rfl, hb5, hk5⟩
  clear hb5 hk5 H
  go_wp2_with fail
  go_ret
  exact HL.out
set_option maxRecDepth 100000 in
set_option maxHeartbeats 4000000 in
theorem r21_of_Give (w : World) (B tb : Nat) (L : Nat × Pm) (b o c : Nat) (q0 : w.cell? ⟨b, o, none⟩ = some (.string ⟨#[103, 105, 118, 101]⟩))
    (h : Calls Tryz.prog 53 #[.pointer (some ⟨tb, 0, none⟩), .slice (some ⟨b, o, none⟩) 4 c] w fun e w' => Lp tb B L w e w') :
    Calls Tryz.prog 21 #[.pointer (some ⟨tb, 0, none⟩), .slice (some ⟨b, o, none⟩) 4 c] w fun e w' => Lp tb B L w e w' := by
  have H := Lib.hid h
  clear h
  go_enter Tryz.func21, Tryz.ntmps21
  go_wp2_with fail
  with_reducible refine H.out.mono ?_
  rintro _ w5 ⟨rfl, hb5, hk5⟩
  have HL : Hid (Lp tb B L w (.returned (.int .i64 (L.1 : Int))) w5) := Lib.hid ⟨rfl, hb5, hk5⟩
  clear hb5 hk5 H
  go_wp2_with fail
  go_ret
  exact HL.out
set_option maxRecDepth 100000 in
set_option maxHeartbeats 4000000 in
theorem r21_of_Export (w : World) (B tb : Nat) (L : Nat × Pm) (b o c : Nat) (q0 : w.cell? ⟨b, o, none⟩ = some (.string ⟨#[101, 120, 112, 111, 114, 116]⟩))
    (h : Calls Tryz.prog 53 #[.pointer (some ⟨tb, 0, none⟩), .slice (some ⟨b, o, none⟩) 5 c] w fun e w' => Lp tb B L w e w') :
    Calls Tryz.prog 21 #[.pointer (some ⟨tb, 0, none⟩), .slice (some ⟨b, o, none⟩) 5 c] w fun e w' => Lp tb B L w e w' := by
  have H := Lib.hid h
  clear h
  go_enter Tryz.func21, Tryz.ntmps21
  go_wp2_with fail
  with_reducible refine H.out.mono ?_
  rintro _ w5 ⟨rfl, hb5, hk5⟩
  have HL : Hid (Lp tb B L w (.returned (.int .i64 (L.1 : Int))) w5) := Lib.hid ⟨rfl, hb5, hk5⟩
  clear hb5 hk5 H
  go_wp2_with fail
  go_ret
  exact HL.out
set_option maxRecDepth 100000 in
set_option maxHeartbeats 4000000 in
theorem r21_of_Device (w : World) (B tb : Nat) (L : Nat × Pm) (b o c : Nat) (q0 : w.cell? ⟨b, o, none⟩ = some (.string ⟨#[100, 101, 118, 105, 99, 101]⟩))
    (h : Calls Tryz.prog 53 #[.pointer (some ⟨tb, 0, none⟩), .slice (some ⟨b, o, none⟩) 5 c] w fun e w' => Lp tb B L w e w') :
    Calls Tryz.prog 21 #[.pointer (some ⟨tb, 0, none⟩), .slice (some ⟨b, o, none⟩) 5 c] w fun e w' => Lp tb B L w e w' := by
  have H := Lib.hid h
  clear h
  go_enter Tryz.func21, Tryz.ntmps21
  go_wp2_with fail
  with_reducible refine H.out.mono ?_
  rintro _ w5 ⟨rfl, hb5, hk5⟩
  have HL : Hid (Lp tb B L w (.returned (.int .i64 (L.1 : Int))) w5) := Lib.hid ⟨rfl, hb5, hk5⟩
  clear hb5 hk5 H
  go_wp2_with fail
  go_ret
  exact HL.out
end Go.Proofs.YtapdiionikfgpaaGreatDoor
namespace Go.Proofs.YtapdiionikfgpaaGreatDoor
open Go.ChangeShapes Go.WideShapes Go.ChangeAt Go.RowKit
open Li (bb)
set_option linter.unusedVariables false
set_option linter.unusedSimpArgs false
theorem lit_no {u v : ByteArray} {l : List UInt8} (hv : v.toList = l) (h : u ≠ v) : (u.toList == l) = false ∧ ¬ u.toList = l := by
  have h1 : (u.toList == v.toList) = false := by rw [bs_eq]; exact decide_eq_false h
  rw [hv] at h1
  exact ⟨h1, by simpa using h1⟩
set_option maxRecDepth 100000 in
set_option maxHeartbeats 4000000 in
theorem r21_nStack (p : Pm) (w : World) (B tb : Nat) (b o n c : Nat) (hn : 0 < n) (hn1 : n ≠ 2) (q0 : w.cell? ⟨b, o, none⟩ = some (.string ⟨#[115, 116, 97, 99, 107]⟩)) :
    Calls Tryz.prog 21 #[.pointer (some ⟨tb, 0, none⟩), .slice (some ⟨b, o, none⟩) n c] w fun e w' => Lp tb B (5, p) w e w' := by
  have e1 : ((n : Int) == 2) = false := by simp; omega
  have e2 : (0 : Int) < (n : Int) := by omega
  clear hn1
  go_enter Tryz.func21, Tryz.ntmps21
  go_wp2_with fail
  go_ret
  exact lp_err (p := p) rfl (Below.refl _ _)
set_option maxRecDepth 100000 in
set_option maxHeartbeats 4000000 in
theorem r21_nTrusted (p : Pm) (w : World) (B tb : Nat) (b o n c : Nat) (hn : 0 < n) (hn1 : n ≠ 2) (q0 : w.cell? ⟨b, o, none⟩ = some (.string ⟨#[116, 114, 117, 115, 116, 101, 100]⟩)) :
    Calls Tryz.prog 21 #[.pointer (some ⟨tb, 0, none⟩), .slice (some ⟨b, o, none⟩) n c] w fun e w' => Lp tb B (5, p) w e w' := by
  have e1 : ((n : Int) == 2) = false := by simp; omega
  have e2 : (0 : Int) < (n : Int) := by omega
  clear hn1
  go_enter Tryz.func21, Tryz.ntmps21
  go_wp2_with fail
  go_ret
  exact lp_err (p := p) rfl (Below.refl _ _)
set_option maxRecDepth 100000 in
set_option maxHeartbeats 4000000 in
theorem r21_nComp (p : Pm) (w : World) (B tb : Nat) (b o n c : Nat) (hn : 0 < n) (hn1 : n ≠ 2) (q0 : w.cell? ⟨b, o, none⟩ = some (.string ⟨#[99, 111, 109, 112, 97, 114, 116, 109, 101, 110, 116]⟩)) :
    Calls Tryz.prog 21 #[.pointer (some ⟨tb, 0, none⟩), .slice (some ⟨b, o, none⟩) n c] w fun e w' => Lp tb B (5, p) w e w' := by
  have e1 : ((n : Int) == 2) = false := by simp; omega
  have e2 : (0 : Int) < (n : Int) := by omega
  clear hn1
  go_enter Tryz.func21, Tryz.ntmps21
  go_wp2_with fail
  go_ret
  exact lp_err (p := p) rfl (Below.refl _ _)
set_option maxRecDepth 100000 in
set_option maxHeartbeats 4000000 in
theorem r21_nShare (p : Pm) (w : World) (B tb : Nat) (b o n c : Nat) (hn : 0 < n) (hn1 : n ≠ 3) (q0 : w.cell? ⟨b, o, none⟩ = some (.string ⟨#[115, 104, 97, 114, 101]⟩)) :
    Calls Tryz.prog 21 #[.pointer (some ⟨tb, 0, none⟩), .slice (some ⟨b, o, none⟩) n c] w fun e w' => Lp tb B (5, p) w e w' := by
  have e1 : ((n : Int) == 3) = false := by simp; omega
  have e2 : (0 : Int) < (n : Int) := by omega
  clear hn1
  go_enter Tryz.func21, Tryz.ntmps21
  go_wp2_with fail
  go_ret
  exact lp_err (p := p) rfl (Below.refl _ _)
set_option maxRecDepth 100000 in
set_option maxHeartbeats 4000000 in
theorem r21_nStart (p : Pm) (w : World) (B tb : Nat) (b o n c : Nat) (hn : 0 < n) (hn1 : n ≠ 3) (q0 : w.cell? ⟨b, o, none⟩ = some (.string ⟨#[115, 116, 97, 114, 116]⟩)) :
    Calls Tryz.prog 21 #[.pointer (some ⟨tb, 0, none⟩), .slice (some ⟨b, o, none⟩) n c] w fun e w' => Lp tb B (5, p) w e w' := by
  have e1 : ((n : Int) == 3) = false := by simp; omega
  have e2 : (0 : Int) < (n : Int) := by omega
  clear hn1
  go_enter Tryz.func21, Tryz.ntmps21
  go_wp2_with fail
  go_ret
  exact lp_err (p := p) rfl (Below.refl _ _)
set_option maxRecDepth 100000 in
set_option maxHeartbeats 4000000 in
theorem r21_nObject (p : Pm) (w : World) (B tb : Nat) (b o n c : Nat) (hn : 0 < n) (hn1 : n ≠ 3) (q0 : w.cell? ⟨b, o, none⟩ = some (.string ⟨#[111, 98, 106, 101, 99, 116]⟩)) :
    Calls Tryz.prog 21 #[.pointer (some ⟨tb, 0, none⟩), .slice (some ⟨b, o, none⟩) n c] w fun e w' => Lp tb B (5, p) w e w' := by
  have e1 : ((n : Int) == 3) = false := by simp; omega
  have e2 : (0 : Int) < (n : Int) := by omega
  clear hn1
  go_enter Tryz.func21, Tryz.ntmps21
  go_wp2_with fail
  go_ret
  exact lp_err (p := p) rfl (Below.refl _ _)
set_option maxRecDepth 100000 in
set_option maxHeartbeats 4000000 in
theorem r21_nArchive (p : Pm) (w : World) (B tb : Nat) (b o n c : Nat) (hn : 0 < n) (hn1 : n ≠ 3) (q0 : w.cell? ⟨b, o, none⟩ = some (.string ⟨#[97, 114, 99, 104, 105, 118, 101]⟩)) :
    Calls Tryz.prog 21 #[.pointer (some ⟨tb, 0, none⟩), .slice (some ⟨b, o, none⟩) n c] w fun e w' => Lp tb B (5, p) w e w' := by
  have e1 : ((n : Int) == 3) = false := by simp; omega
  have e2 : (0 : Int) < (n : Int) := by omega
  clear hn1
  go_enter Tryz.func21, Tryz.ntmps21
  go_wp2_with fail
  go_ret
  exact lp_err (p := p) rfl (Below.refl _ _)
set_option maxRecDepth 100000 in
set_option maxHeartbeats 4000000 in
theorem r21_nImport (p : Pm) (w : World) (B tb : Nat) (b o n c : Nat) (hn : 0 < n) (hn1 : n ≠ 4) (q0 : w.cell? ⟨b, o, none⟩ = some (.string ⟨#[105, 109, 112, 111, 114, 116]⟩)) :
    Calls Tryz.prog 21 #[.pointer (some ⟨tb, 0, none⟩), .slice (some ⟨b, o, none⟩) n c] w fun e w' => Lp tb B (5, p) w e w' := by
  have e1 : ((n : Int) == 4) = false := by simp; omega
  have e2 : (0 : Int) < (n : Int) := by omega
  clear hn1
  go_enter Tryz.func21, Tryz.ntmps21
  go_wp2_with fail
  go_ret
  exact lp_err (p := p) rfl (Below.refl _ _)
set_option maxRecDepth 100000 in
set_option maxHeartbeats 4000000 in
theorem r21_nGive (p : Pm) (w : World) (B tb : Nat) (b o n c : Nat) (hn : 0 < n) (hn1 : n ≠ 4) (q0 : w.cell? ⟨b, o, none⟩ = some (.string ⟨#[103, 105, 118, 101]⟩)) :
    Calls Tryz.prog 21 #[.pointer (some ⟨tb, 0, none⟩), .slice (some ⟨b, o, none⟩) n c] w fun e w' => Lp tb B (5, p) w e w' := by
  have e1 : ((n : Int) == 4) = false := by simp; omega
  have e2 : (0 : Int) < (n : Int) := by omega
  clear hn1
  go_enter Tryz.func21, Tryz.ntmps21
  go_wp2_with fail
  go_ret
  exact lp_err (p := p) rfl (Below.refl _ _)
set_option maxRecDepth 100000 in
set_option maxHeartbeats 4000000 in
theorem r21_nExport (p : Pm) (w : World) (B tb : Nat) (b o n c : Nat) (hn : 0 < n) (hn1 : n ≠ 5) (q0 : w.cell? ⟨b, o, none⟩ = some (.string ⟨#[101, 120, 112, 111, 114, 116]⟩)) :
    Calls Tryz.prog 21 #[.pointer (some ⟨tb, 0, none⟩), .slice (some ⟨b, o, none⟩) n c] w fun e w' => Lp tb B (5, p) w e w' := by
  have e1 : ((n : Int) == 5) = false := by simp; omega
  have e2 : (0 : Int) < (n : Int) := by omega
  clear hn1
  go_enter Tryz.func21, Tryz.ntmps21
  go_wp2_with fail
  go_ret
  exact lp_err (p := p) rfl (Below.refl _ _)
set_option maxRecDepth 100000 in
set_option maxHeartbeats 4000000 in
theorem r21_nDevice (p : Pm) (w : World) (B tb : Nat) (b o n c : Nat) (hn : 0 < n) (hn1 : n ≠ 5) (q0 : w.cell? ⟨b, o, none⟩ = some (.string ⟨#[100, 101, 118, 105, 99, 101]⟩)) :
    Calls Tryz.prog 21 #[.pointer (some ⟨tb, 0, none⟩), .slice (some ⟨b, o, none⟩) n c] w fun e w' => Lp tb B (5, p) w e w' := by
  have e1 : ((n : Int) == 5) = false := by simp; omega
  have e2 : (0 : Int) < (n : Int) := by omega
  clear hn1
  go_enter Tryz.func21, Tryz.ntmps21
  go_wp2_with fail
  go_ret
  exact lp_err (p := p) rfl (Below.refl _ _)
set_option maxRecDepth 100000 in
set_option maxHeartbeats 4000000 in
theorem r21_none (p : Pm) (w : World) (B tb : Nat) (b o n c : Nat) (u : ByteArray) (hn : 0 < n) (q0 : w.cell? ⟨b, o, none⟩ = some (.string u)) (h0 : u ≠ ⟨#[115, 116, 97, 99, 107]⟩) (h1 : u ≠ ⟨#[116, 114, 117, 115, 116, 101, 100]⟩) (h2 : u ≠ ⟨#[99, 111, 109, 112, 97, 114, 116, 109, 101, 110, 116]⟩) (h3 : u ≠ ⟨#[115, 104, 97, 114, 101]⟩) (h4 : u ≠ ⟨#[115, 116, 97, 114, 116]⟩) (h5 : u ≠ ⟨#[111, 98, 106, 101, 99, 116]⟩) (h6 : u ≠ ⟨#[97, 114, 99, 104, 105, 118, 101]⟩) (h7 : u ≠ ⟨#[105, 109, 112, 111, 114, 116]⟩) (h8 : u ≠ ⟨#[103, 105, 118, 101]⟩) (h9 : u ≠ ⟨#[101, 120, 112, 111, 114, 116]⟩) (h10 : u ≠ ⟨#[100, 101, 118, 105, 99, 101]⟩) :
    Calls Tryz.prog 21 #[.pointer (some ⟨tb, 0, none⟩), .slice (some ⟨b, o, none⟩) n c] w fun e w' => Lp tb B (5, p) w e w' := by
  have e2 : (0 : Int) < (n : Int) := by omega
  obtain ⟨a0, b0⟩ := lit_no (l := [115, 116, 97, 99, 107]) (by simp) h0
  obtain ⟨a1, b1⟩ := lit_no (l := [116, 114, 117, 115, 116, 101, 100]) (by simp) h1
  obtain ⟨a2, b2⟩ := lit_no (l := [99, 111, 109, 112, 97, 114, 116, 109, 101, 110, 116]) (by simp) h2
  obtain ⟨a3, b3⟩ := lit_no (l := [115, 104, 97, 114, 101]) (by simp) h3
  obtain ⟨a4, b4⟩ := lit_no (l := [115, 116, 97, 114, 116]) (by simp) h4
  obtain ⟨a5, b5⟩ := lit_no (l := [111, 98, 106, 101, 99, 116]) (by simp) h5
  obtain ⟨a6, b6⟩ := lit_no (l := [97, 114, 99, 104, 105, 118, 101]) (by simp) h6
  obtain ⟨a7, b7⟩ := lit_no (l := [105, 109, 112, 111, 114, 116]) (by simp) h7
  obtain ⟨a8, b8⟩ := lit_no (l := [103, 105, 118, 101]) (by simp) h8
  obtain ⟨a9, b9⟩ := lit_no (l := [101, 120, 112, 111, 114, 116]) (by simp) h9
  obtain ⟨a10, b10⟩ := lit_no (l := [100, 101, 118, 105, 99, 101]) (by simp) h10
  clear h0 h1 h2 h3 h4 h5 h6 h7 h8 h9 h10
  go_enter Tryz.func21, Tryz.ntmps21
  go_wp2_with fail
  go_ret
  exact lp_err (p := p) rfl (Below.refl _ _)
end Go.Proofs.YtapdiionikfgpaaGreatDoor
