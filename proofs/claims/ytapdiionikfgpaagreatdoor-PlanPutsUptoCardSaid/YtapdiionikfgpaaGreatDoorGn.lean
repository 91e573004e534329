import Derived.Test.YtapdiionikfgpaaGreatDoorGc
import Derived.WalkSmall
import Derived.Laws.StructEq
namespace Go.Proofs.YtapdiionikfgpaaGreatDoor
open Go.ChangeShapes Go.WideShapes Go.ChangeAt Go.RowKit
open Li (bb)
set_option linter.unusedVariables false
set_option linter.unusedSimpArgs false
theorem line_Import (p : Pm) (a t u : ByteArray) : lineV p [kImport, a, t, u] = importV p a t u := by
  show four p kImport a t u = _
  unfold four
  rw [if_pos rfl]
theorem importV_no {p : Pm} {a t u : ByteArray} (h : nameB a = false ∨ nameB t = false ∨ symB u = false) : importV p a t u = (5, p) := by
  unfold importV
  rw [if_neg]
  rintro ⟨h1, h2, h3⟩
  rcases h with h | h | h
  · rw [h1] at h; cases h
  · rw [h2] at h; cases h
  · rw [h3] at h; cases h
theorem importV_yes {p : Pm} {a t u : ByteArray} (h1 : nameB a = true) (h2 : nameB t = true) (h3 : symB u = true) : importV p a t u = (match fnd (byName a) p.cs, fnd (byName t) p.cs with
    | some k, some d => match p.cs[k]? with
      | none => (6, p)
      | some x => addV x.is (d, u) (fun y => decide (y = (d, u))) 16 (fun l => upd p k { x with is := l }) p
    | _, _ => (6, p)) := by
  unfold importV
  rw [if_pos ⟨h1, h2, h3⟩]
  rfl
set_option maxRecDepth 100000 in
set_option maxHeartbeats 8000000 in
theorem r53_Import (a t u : ByteArray) (w : World) (B tb : Nat) (SV CV : Value) (p : Pm) (D : List (Sv × Co)) (h : RS w B tb SV CV p D) (hB : B ≤ w.heap.size) (hsm : Sm p) (hs : a.size ≤ 9223372036854775807) (hs2 : t.size ≤ 9223372036854775807) (hs3 : u.size ≤ 9223372036854775807) (b o c : Nat) (hb : b < tb)
    (q0 : w.cell? ⟨b, o, none⟩ = some (.string ⟨#[105, 109, 112, 111, 114, 116]⟩)) (q1 : w.cell? ⟨b, o + 1, none⟩ = some (.string a)) (q2 : w.cell? ⟨b, o + 2, none⟩ = some (.string t)) (q3 : w.cell? ⟨b, o + 3, none⟩ = some (.string u)) :
    Calls Tryz.prog 53 #[.pointer (some ⟨tb, 0, none⟩), .slice (some ⟨b, o, none⟩) 4 c] w fun e w' => Lp tb B (lineV p [kImport, a, t, u]) w e w' := by
  have HLV := Lib.hid (line_Import p a t u)
  have HRS : Hid (∀ W, Below w.heap.size w W → RS W B tb SV CV p D) := Lib.hid (fun W hW => h.below hW)
  have HTB : Hid (tb < w.heap.size) := Lib.hid h.1.lt
  have HBB : Hid (B ≤ w.heap.size) := Lib.hid hB
  have HD := Lib.hid h.2.2.1
  have HSM := Lib.hid hsm
  have HQ2 : Hid (∀ W, Below w.heap.size w W → W.cell? ⟨b, o + 3, none⟩ = some (.string u) ∧ W.cell? ⟨b, o, none⟩ = some (.string ⟨#[105, 109, 112, 111, 114, 116]⟩)) := Lib.hid (fun W hW => ⟨(hW.cell (p := ⟨b, _, none⟩) (World.block_lt_of_cell? w _ q3)).trans q3, (hW.cell (p := ⟨b, _, none⟩) (World.block_lt_of_cell? w _ q0)).trans q0⟩)
  have H22 := Lib.hid (c22 a hs)
  have H22t := Lib.hid (c22 t hs2)
  have H49 := Lib.hid (c49 u hs3)
  have H50 := Lib.hid (r50 a w B tb SV CV p D h)
  have H50t := Lib.hid (r50 t w B tb SV CV p D h)
  have HLN : Hid (D.length = p.cs.length) := Lib.hid h.len
  have HR0 := Lib.hid h
  have p3 := h.1.cell 3
  clear h hs hs2 hs3 hB hsm
  cases hnm : nameB a
  · have HX : Hid (lineV p [kImport, a, t, u] = (5, p)) := Lib.hid (by rw [HLV.out, importV_no (Or.inl hnm)])
    rw [hnm] at H22
    clear hnm H50 H50t p3
    go_enter Tryz.func53, Tryz.ntmps53
    go_wp2_with fail
    with_reducible refine (H22.out w).mono ?_
    rintro _ v5 ⟨rfl, hv5⟩
    subst hv5
    go_wp2_with fail
    go_ret
    exact lp_err (p := p) HX.out (Below.refl _ _)
  rw [hnm] at H22
  cases hnt : nameB t
  · have HX : Hid (lineV p [kImport, a, t, u] = (5, p)) := Lib.hid (by rw [HLV.out, importV_no (Or.inr (Or.inl hnt))])
    rw [hnt] at H22t
    clear hnm hnt p3
    go_enter Tryz.func53, Tryz.ntmps53
    go_wp2_with fail
    with_reducible refine (H22.out w).mono ?_
    rintro _ v5 ⟨rfl, hv5⟩
    subst hv5
    go_wp2_with fail
    with_reducible refine H50.out.mono ?_
    rintro _ v6 ⟨rfl, hv6⟩
    subst hv6
    go_wp2_with fail
    with_reducible refine (H22t.out _).mono ?_
    rintro _ v7 ⟨rfl, hv7⟩
    subst hv7
    go_wp2_with fail
    go_ret
    exact lp_err (p := p) HX.out (Below.refl _ _)
  rw [hnt] at H22t
  cases hns : symB u
  · have HX : Hid (lineV p [kImport, a, t, u] = (5, p)) := Lib.hid (by rw [HLV.out, importV_no (Or.inr (Or.inr hns))])
    rw [hns] at H49
    clear hnm hnt hns p3
    go_enter Tryz.func53, Tryz.ntmps53
    go_wp2_with fail
    with_reducible refine (H22.out w).mono ?_
    rintro _ v5 ⟨rfl, hv5⟩
    subst hv5
    go_wp2_with fail
    with_reducible refine H50.out.mono ?_
    rintro _ v6 ⟨rfl, hv6⟩
    subst hv6
    go_wp2_with fail
    with_reducible refine (H22t.out _).mono ?_
    rintro _ v7 ⟨rfl, hv7⟩
    subst hv7
    go_wp2_with fail
    with_reducible refine (H49.out _).mono ?_
    rintro _ v8 ⟨rfl, hv8⟩
    subst hv8
    go_wp2_with fail
    go_ret
    exact lp_err (p := p) HX.out (Below.refl _ _)
  rw [hns] at H49
  have HYS := Lib.hid (importV_yes (p := p) hnm hnt hns)
  clear hnm hnt hns
  cases hf : fnd (byName a) p.cs with
  | none =>
    have HX : Hid (lineV p [kImport, a, t, u] = (6, p)) := Lib.hid (by rw [HLV.out, HYS.out, hf])
    rw [hf] at H50
    change Hid (Calls Tryz.prog 50 _ _ fun e w' => e = .returned (.int .i64 (-1)) ∧ w' = w) at H50
    clear hf p3
    go_enter Tryz.func53, Tryz.ntmps53
    go_wp2_with fail
    with_reducible refine (H22.out w).mono ?_
    rintro _ v5 ⟨rfl, hv5⟩
    subst hv5
    go_wp2_with fail
    with_reducible refine H50.out.mono ?_
    rintro _ v6 ⟨rfl, hv6⟩
    subst hv6
    go_wp2_with fail
    with_reducible refine (H22t.out _).mono ?_
    rintro _ v7 ⟨rfl, hv7⟩
    subst hv7
    go_wp2_with fail
    with_reducible refine (H49.out _).mono ?_
    rintro _ v8 ⟨rfl, hv8⟩
    subst hv8
    go_wp2_with fail
    with_reducible refine H50t.out.mono ?_
    rintro _ v9 ⟨rfl, hv9⟩
    subst hv9
    go_wp2_with fail
    go_ret
    exact lp_err (p := p) HX.out (Below.refl _ _)
  | some k =>
  rw [hf] at H50
  change Hid (Calls Tryz.prog 50 _ _ fun e w' => e = .returned (.int .i64 (k : Int)) ∧ w' = w) at H50
  have e1 : decide ((k : Int) < 0) = false := by simp
  cases hd : fnd (byName t) p.cs with
  | none =>
    have HX : Hid (lineV p [kImport, a, t, u] = (6, p)) := Lib.hid (by rw [HLV.out, HYS.out, hf, hd])
    rw [hd] at H50t
    change Hid (Calls Tryz.prog 50 _ _ fun e w' => e = .returned (.int .i64 (-1)) ∧ w' = w) at H50t
    clear hf hd p3
    go_enter Tryz.func53, Tryz.ntmps53
    go_wp2_with fail
    with_reducible refine (H22.out w).mono ?_
    rintro _ v5 ⟨rfl, hv5⟩
    subst hv5
    go_wp2_with fail
    with_reducible refine H50.out.mono ?_
    rintro _ v6 ⟨rfl, hv6⟩
    subst hv6
    go_wp2_with fail
    with_reducible refine (H22t.out _).mono ?_
    rintro _ v7 ⟨rfl, hv7⟩
    subst hv7
    go_wp2_with fail
    with_reducible refine (H49.out _).mono ?_
    rintro _ v8 ⟨rfl, hv8⟩
    subst hv8
    go_wp2_with fail
    with_reducible refine H50t.out.mono ?_
    rintro _ v9 ⟨rfl, hv9⟩
    subst hv9
    go_wp2_with fail
    go_ret
    exact lp_err (p := p) HX.out (Below.refl _ _)
  | some d =>
    rw [hd] at H50t
    change Hid (Calls Tryz.prog 50 _ _ fun e w' => e = .returned (.int .i64 (d : Int)) ∧ w' = w) at H50t
    have e3 : decide ((d : Int) < 0) = false := by simp
    obtain ⟨hk, -, -⟩ := fnd_some hf
    have hkD0 : k < D.length := by rw [HLN.out]; exact hk
    obtain ⟨x, hx, hxc⟩ : ∃ x, D[k]? = some x ∧ p.cs[k]? = some x.2 := ⟨D[k], List.getElem?_eq_getElem hkD0, by rw [← HD.out, List.getElem?_map, List.getElem?_eq_getElem hkD0]; rfl⟩
    have HADD : Hid (lineV p [kImport, a, t, u] = addV x.2.is (d, u) (fun y => decide (y = (d, u))) 16 (fun l => upd p k { x.2 with is := l }) p) := Lib.hid (by
      rw [HLV.out, HYS.out, hf, hd]
      simp only [hxc])
    have HX := Lib.hid hx
    have hmem : x.2 ∈ p.cs := List.mem_of_getElem? hxc
    have hl16 : x.2.is.length ≤ 16 := (HSM.out.2.2 x.2 hmem).2.2.1
    have HL16 := Lib.hid hl16
    obtain ⟨g, cc, hce, hg, hBg, hat⟩ := own_at len_cCo HR0.out.2.1.2.1 (by omega)
    subst hce
    obtain ⟨AF, cf, hfe, _⟩ := own_slice (HR0.out.2.1.2.2.1 k x hx).2.2.1
    have HFE := Lib.hid hfe
    have HPC : Hid (∀ W, Below w.heap.size w W → W.cell? ⟨g, k * 6 + 3, none⟩ = some (.slice AF x.2.is.length cf)) := Lib.hid (fun W hW => by
      rw [hW.cell (p := ⟨g, _, none⟩) hg]
      have := hat k x hx 3 (by omega)
      rw [this, ← hfe]; rfl)
    simp at p3
    have hkn : (k : Int) < (D.length : Int) := by omega
    have hkw : IntKind.i64.wrap (k : Int) = (k : Int) := by rw [IntKind.wrap_i64]; have := HLN.out; have := HSM.out.1; omega
    have HGB : Hid (B ≤ g) := Lib.hid hBg
    clear hf hd hat hx hxc hmem hk hfe hg hBg hkD0
    go_enter Tryz.func53, Tryz.ntmps53
    go_wp2_with fail
    with_reducible refine (H22.out w).mono ?_
    rintro _ v5 ⟨rfl, hv5⟩
    subst hv5
    go_wp2_with fail
    with_reducible refine H50.out.mono ?_
    rintro _ v6 ⟨rfl, hv6⟩
    subst hv6
    go_wp2_with fail
    with_reducible refine (H22t.out _).mono ?_
    rintro _ v7 ⟨rfl, hv7⟩
    subst hv7
    go_wp2_with fail
    with_reducible refine (H49.out _).mono ?_
    rintro _ v8 ⟨rfl, hv8⟩
    subst hv8
    go_wp2_with fail
    with_reducible refine H50t.out.mono ?_
    rintro _ v9 ⟨rfl, hv9⟩
    subst hv9
    go_wp2_with fail
    clear q0 q1 q2 q3 p3 H22t H22 H49 H50 H50t
    go_loopw [15] (fun i wr => FB v9 x.2.is.length (fun j => (x.2.is[j]?).any (fun y => decide (y = (d, u)))) i wr) (fun i _ => x.2.is.length - (intOf i).toNat)
    case atStart => exact ⟨0, Nat.zero_le _, rfl, Below.refl _ _, fun j hj => absurd hj (by omega)⟩
    case round =>
      obtain ⟨m, hm, rfl, hb, hno⟩ := hrel
      have HB := Lib.hid hb
      have HNO := Lib.hid hno
      have HR := Lib.hid (HRS.out wr hb)
      have pf := HPC.out wr hb
      obtain ⟨q3, q0⟩ := HQ2.out wr hb
      clear hb hno
      by_cases hlt : m < x.2.is.length
      · obtain ⟨y, hy⟩ : ∃ y, x.2.is[m]? = some y := ⟨_, List.getElem?_eq_getElem hlt⟩
        have hro := (HR.out.2.1.2.2.1 k x HX.out).2.2.1
        rw [HFE.out] at hro
        obtain ⟨gf, cf', hce, hgf, hBf, hatf⟩ := own_at len_cIs hro (by omega)
        cases hce
        have i0 := hatf m y hy 0 (by omega)
        simp only [Nat.add_zero] at i0
        change wr.cell? ⟨gf, m * 2, none⟩ = some (.int .i64 (y.1 : Int)) at i0
        have i1 := hatf m y hy 1 (by omega)
        change wr.cell? ⟨gf, m * 2 + 1, none⟩ = some (.string y.2) at i1
        have hmn : (m : Int) < (x.2.is.length : Int) := by omega
        have hmw : IntKind.i64.wrap (m : Int) = (m : Int) := by rw [IntKind.wrap_i64]; omega
        have HY := Lib.hid hy
        have HLT := Lib.hid hlt
        clear hatf hro hlt hy
        by_cases he : y = (d, u)
        · have e2 : ((y.1 : Int) == (d : Int)) = true := by rw [he]; simp
          have e4 : (y.2.toList == u.toList) = true := by rw [he]; simp
          have HXR : Hid (lineV p [kImport, a, t, u] = (7, p)) := Lib.hid (by
            have hh := hitD (g := fun y : Nat × ByteArray => y) (p := fun y => decide (y = (d, u))) HY.out (decide_eq_true he) HNO.out
            rw [List.map_id'] at hh
            rw [HADD.out]
            unfold addV
            rw [hh, if_pos (show (some m).isSome = true from rfl)])
          clear he
          go_wp2_with fail
          go_quiet (fail)
          go_wp2_with fail
          go_ret
          exact lp_err (p := p) HXR.out (below_drewN (HB.out.mono (Nat.le_of_lt HTB.out)) _)
        · have HE := Lib.hid (decide_eq_false he)
          have he0 := he
          clear he
          by_cases he1 : y.1 = d
          · have e2 : ((y.1 : Int) == (d : Int)) = true := by simp; omega
            have e4 : (y.2.toList == u.toList) = false := by rw [bs_eq]; exact decide_eq_false (fun hh => he0 (Prod.ext he1 hh))
            clear he0
            clear he1
            go_wp2_with fail
            go_quiet (fail)
            go_wp2_with fail
            go_roundw
            case rel => exact ⟨m + 1, HLT.out, by go_num, below_drewN HB.out _, fun j hj => by
              by_cases hjm : j = m
              · subst hjm
                show (x.2.is[j]?).any _ = false
                rw [HY.out]
                exact HE.out
              · exact HNO.out j (by omega)⟩
            case measure => simp [intOf]; have := HLT.out; omega
          · have e2 : ((y.1 : Int) == (d : Int)) = false := by simp; omega
            clear he0
            clear he1
            go_wp2_with fail
            go_quiet (fail)
            go_wp2_with fail
            go_roundw
            case rel => exact ⟨m + 1, HLT.out, by go_num, below_drewN HB.out _, fun j hj => by
              by_cases hjm : j = m
              · subst hjm
                show (x.2.is[j]?).any _ = false
                rw [HY.out]
                exact HE.out
              · exact HNO.out j (by omega)⟩
            case measure => simp [intOf]; have := HLT.out; omega
      · have HMISS := Lib.hid (missD (g := fun y : Nat × ByteArray => y) (p := fun y => decide (y = (d, u))) (D := x.2.is) (fun j hj => HNO.out j (by omega)))
        obtain rfl : m = x.2.is.length := by omega
        clear hlt hm
        have HAD2 : Hid (lineV p [kImport, a, t, u] = if 16 ≤ x.2.is.length then (3, p) else (0, upd p k { x.2 with is := x.2.is ++ [(d, u)] })) := Lib.hid (by
          have hh := HMISS.out
          rw [List.map_id'] at hh
          rw [HADD.out]
          unfold addV
          rw [hh, if_neg (by simp)])
        by_cases hl : 16 ≤ x.2.is.length
        · have HXR : Hid (lineV p [kImport, a, t, u] = (3, p)) := Lib.hid (by rw [HAD2.out, if_pos hl])
          have e2 : decide ((16 : Int) ≤ (x.2.is.length : Int)) = true := by simp; omega
          clear hl
          go_wp2_with fail
          go_ret
          exact lp_err (p := p) HXR.out (HB.out.mono (Nat.le_of_lt HTB.out))
        · have HXR : Hid (lineV p [kImport, a, t, u] = (0, upd p k { x.2 with is := x.2.is ++ [(d, u)] })) := Lib.hid (by rw [HAD2.out, if_neg hl])
          have e2 : decide ((16 : Int) ≤ (x.2.is.length : Int)) = false := by simp; omega
          clear hl
          obtain ⟨i0, hi0, hz0, hz1, hz2⟩ := info79
          have HI0 := Lib.hid hi0
          have HZ0 := Lib.hid hz0
          have HZ1 := Lib.hid hz1
          have HZ2 := Lib.hid hz2
          have HNL : Hid (x.2.is.length + 1 ≤ maxLen) := Lib.hid (by unfold maxLen; have := HL16.out; omega)
          have HNB : Hid ((x.2.is.length + 1) * 24 ≤ 140737488355328) := Lib.hid (by have := HL16.out; omega)
          have HBL : Hid (Below v9.heap.size v9 (wr.drew.alloc (.cells #[.int .i64 (d : Int), .string u] 79))) := Lib.hid (HB.out.drew.alloc HB.out.size _)
          have HPA : Hid (RS (wr.drew.alloc (.cells #[.int .i64 (d : Int), .string u] 79)) B tb SV (.slice (some ⟨g, 0, none⟩) D.length cc) p D) := Lib.hid (HRS.out _ HBL.out)
          have HED : Hid ((wr.drew.alloc (.cells #[.int .i64 (d : Int), .string u] 79)).ownsRow B 79 2 (.slice AF x.2.is.length cf) x.2.is.length (x.2.is.flatMap cIs)) := Lib.hid (by
            have := (HPA.out.2.1.2.2.1 k x HX.out).2.2.1
            rw [HFE.out] at this
            exact this)
          have HBS : Hid (B ≤ (wr.drew.alloc (.cells #[.int .i64 (d : Int), .string u] 79)).heap.size) := Lib.hid (Nat.le_trans HBB.out HBL.out.size)
          have HNW : Hid (∀ j z0, (#[.int .i64 (d : Int), .string u] : Array Value).toList[j]? = some z0 → (wr.drew.alloc (.cells #[.int .i64 (d : Int), .string u] 79)).cell? ((⟨wr.heap.size, 0, none⟩ : Addr).add j) = some z0) := Lib.hid (World.news_of_block (heap_alloc_new wr.drew (.cells #[.int .i64 (d : Int), .string u] 79)))
          have HOC : Hid (∀ z0 ∈ ([.int .i64 (d : Int), .string u] : List Value), z0.oneCell' = true) := Lib.hid (by intro z0 hu; simp at hu; rcases hu with rfl | rfl <;> rfl)
          have HG : Hid (∀ W', World.grownBy (wr.drew.alloc (.cells #[.int .i64 (d : Int), .string u] 79)) W' (Value.ownBlock (.slice AF x.2.is.length cf)) → W'.cell? ⟨g, k * 6 + 3, none⟩ = some (.slice AF x.2.is.length cf) ∧ W'.frozen? ⟨g, k * 6 + 3, none⟩ = false) := Lib.hid (fun W' hg => by
            have hr := HPA.out.2.1.2.1.kept hg (own_apart HPA.out.2.1.2.1 HED.out (by decide))
            have hk6 : k * 6 + 3 < D.length * 6 := by omega
            refine ⟨?_, hr.frozenAt _⟩
            rw [hr.cellAt _ hk6, flat_at cCo 6 len_cCo D k 3 x HX.out (by omega), ← HFE.out]
            rfl)
          have pfa := HPC.out _ HBL.out
          obtain ⟨q3a, q0a⟩ := HQ2.out _ HBL.out
          have HBL2 : Hid (Below v9.heap.size v9 (wr.alloc (.cells #[.int .i64 (d : Int), .string u] 79))) := Lib.hid (HB.out.alloc HB.out.size _)
          have pfb := HPC.out _ HBL2.out
          obtain ⟨q3b, q0b⟩ := HQ2.out _ HBL2.out
          clear hi0 hz0 hz1 hz2
          go_upto_region 47 with fail
          go_region_law (first | (refine step_append_lies _ (by rfl) _ _ 44 (by rfl) B 79 i0 (.agg #[.int .i64 0, .string ⟨#[]⟩]) 2 24 Tryz.underlying44 HI0.out HZ0.out HZ1.out HZ2.out rfl (by decide) (.slice AF x.2.is.length cf) x.2.is.length (x.2.is.flatMap cIs) (by rfl) HED.out ⟨wr.heap.size, 0, none⟩ 1 1 [.int .i64 (d : Int), .string u] (by rfl) rfl HNW.out HOC.out (by decide) HNL.out HNB.out HBS.out _ rfl ?_; intro g5 c5 w8 hown5 hgrow5 hat5 hlt5; obtain ⟨x5a, x5b⟩ := HG.out w8 hgrow5))
          all_goals
            go_wp2_with fail
            go_ret
            rw [HXR.out]
            exact app_ok_i (y := (d, u)) HPA.out (HBL.out.mono (Nat.le_of_lt HTB.out)) HX.out (by first | exact hown5 | simpa using hown5) (by rw [HFE.out]; exact hgrow5) (by rw [HFE.out]; exact hat5)
end Go.Proofs.YtapdiionikfgpaaGreatDoor
namespace Go.Proofs.YtapdiionikfgpaaGreatDoor
open Go.ChangeShapes Go.WideShapes Go.ChangeAt Go.RowKit
open Li (bb)
set_option linter.unusedVariables false
set_option linter.unusedSimpArgs false
theorem line_Export (p : Pm) (a t u v : ByteArray) : lineV p [kExport, a, t, u, v] = exportO (numO u 0 6 1) (numO v 0 4088 8) p a t := by
  show five p kExport a t u v = _
  unfold five
  rw [if_pos rfl]
  rfl
theorem expO_n1 {o2 : Option Nat} {p : Pm} {a t : ByteArray} : exportO none o2 p a t = (5, p) := by cases o2 <;> rfl
theorem expO_n2 {o1 : Option Nat} {p : Pm} {a t : ByteArray} : exportO o1 none p a t = (5, p) := by cases o1 <;> rfl
theorem expO_no {o1 o2 : Option Nat} {p : Pm} {a t : ByteArray} (h : nameB a = false ∨ symB t = false) : exportO o1 o2 p a t = (5, p) := by
  cases o1 with
  | none => exact expO_n1
  | some n => cases o2 with
    | none => rfl
    | some m =>
      show (if nameB a = true ∧ symB t = true then _ else _) = _
      rw [if_neg (by rcases h with h | h <;> simp [h])]
theorem expO_yes {n m : Nat} {p : Pm} {a t : ByteArray} (h1 : nameB a = true) (h2 : symB t = true) : exportO (some n) (some m) p a t = (match fnd (byName a) p.cs with
      | none => (6, p)
      | some k => match p.cs[k]? with
        | none => (6, p)
        | some x => addV x.es (t, n, m) (fun y => decide (y.1 = t)) 16 (fun l => upd p k { x with es := l }) p) := by
  show (if nameB a = true ∧ symB t = true then _ else _) = _
  rw [if_pos ⟨h1, h2⟩]
  rfl
set_option maxRecDepth 100000 in
set_option maxHeartbeats 8000000 in
theorem r53_Export (a t u v : ByteArray) (w : World) (B tb : Nat) (SV CV : Value) (p : Pm) (D : List (Sv × Co)) (h : RS w B tb SV CV p D) (hB : B ≤ w.heap.size) (hsm : Sm p) (hs : a.size ≤ 9223372036854775807) (hs2 : t.size ≤ 9223372036854775807) (hs3 : u.size ≤ 9223372036854775807) (hs4 : v.size ≤ 9223372036854775807) (b o c : Nat) (hb : b < tb)
    (q0 : w.cell? ⟨b, o, none⟩ = some (.string ⟨#[101, 120, 112, 111, 114, 116]⟩)) (q1 : w.cell? ⟨b, o + 1, none⟩ = some (.string a)) (q2 : w.cell? ⟨b, o + 2, none⟩ = some (.string t)) (q3 : w.cell? ⟨b, o + 3, none⟩ = some (.string u)) (q4 : w.cell? ⟨b, o + 4, none⟩ = some (.string v)) :
    Calls Tryz.prog 53 #[.pointer (some ⟨tb, 0, none⟩), .slice (some ⟨b, o, none⟩) 5 c] w fun e w' => Lp tb B (lineV p [kExport, a, t, u, v]) w e w' := by
  have HLV := Lib.hid (line_Export p a t u v)
  have HRS : Hid (∀ W, Below w.heap.size w W → RS W B tb SV CV p D) := Lib.hid (fun W hW => h.below hW)
  have HTB : Hid (tb < w.heap.size) := Lib.hid h.1.lt
  have HBB : Hid (B ≤ w.heap.size) := Lib.hid hB
  have HD := Lib.hid h.2.2.1
  have HSM := Lib.hid hsm
  have HQ2 : Hid (∀ W, Below w.heap.size w W → W.cell? ⟨b, o + 2, none⟩ = some (.string t) ∧ W.cell? ⟨b, o, none⟩ = some (.string ⟨#[101, 120, 112, 111, 114, 116]⟩)) := Lib.hid (fun W hW => ⟨(hW.cell (p := ⟨b, _, none⟩) (World.block_lt_of_cell? w _ q2)).trans q2, (hW.cell (p := ⟨b, _, none⟩) (World.block_lt_of_cell? w _ q0)).trans q0⟩)
  have HQ4 : Hid (∀ W, Below w.heap.size w W → W.cell? ⟨b, o + 4, none⟩ = some (.string v)) := Lib.hid (fun W hW => (hW.cell (p := ⟨b, _, none⟩) (World.block_lt_of_cell? w _ q4)).trans q4)
  have H22 := Lib.hid (c22 a hs)
  have H49 := Lib.hid (c49 t hs2)
  have H48u : Hid (∀ W, _) := Lib.hid (fun W => r48 u 0 6 1 hs3 (by omega) (by omega) (by omega) (by omega) W)
  have H48v : Hid (∀ W, _) := Lib.hid (fun W => r48 v 0 4088 8 hs4 (by omega) (by omega) (by omega) (by omega) W)
  simp only [show ((0 : Nat) : Int) = 0 from rfl, show ((6 : Nat) : Int) = 6 from rfl, show ((1 : Nat) : Int) = 1 from rfl, show ((4088 : Nat) : Int) = 4088 from rfl, show ((8 : Nat) : Int) = 8 from rfl] at H48u H48v
  have H50 := Lib.hid (r50 a w B tb SV CV p D h)
  cases hnm : nameB a
  · have HX : Hid (lineV p [kExport, a, t, u, v] = (5, p)) := Lib.hid (by rw [HLV.out, expO_no (Or.inl hnm)])
    rw [hnm] at H22
    clear hnm H50 h hsm hs hs2 H48u H48v
    go_enter Tryz.func53, Tryz.ntmps53
    go_wp2_with fail
    with_reducible refine (H22.out _).mono ?_
    rintro _ w5 ⟨rfl, rfl⟩
    go_wp2_with fail
    go_ret
    exact lp_err (p := p) HX.out (Below.refl _ _)
  rw [hnm] at H22
  have HNA := Lib.hid hnm
  clear hnm
  have p3 := h.1.cell 3
  have HLN : Hid (D.length = p.cs.length) := Lib.hid h.len
  have HR0 := Lib.hid h
  clear h hsm hs hs2 hs3 hs4 hB
  generalize hat : atI (fnd (byName a) p.cs) = ak at *
  have HAT := Lib.hid hat
  clear hat p3
  go_enter Tryz.func53, Tryz.ntmps53
  go_wp2_with fail
  with_reducible refine (H22.out w).mono ?_
  rintro _ v5 ⟨rfl, hv5⟩
  subst hv5
  go_wp2_with fail
  with_reducible refine H50.out.mono ?_
  rintro _ v6 ⟨rfl, hv6⟩
  subst hv6
  go_wp2_with fail
  with_reducible refine (H48u.out _).mono ?_
  rintro _ w5 ⟨⟨n, hn, hnm, rfl⟩, hb5⟩
  have HB5 := Lib.hid hb5
  have HNM := Lib.hid hnm
  have q4' := HQ4.out w5 hb5
  clear hb5 hnm q0 q1 q2 q3 q4 H22 H48u H50
  go_wp2_with fail
  with_reducible refine (H48v.out _).mono ?_
  rintro _ w6 ⟨⟨m0, hm0, hnm0, rfl⟩, hb6⟩
  have HB6 := Lib.hid (HB5.out.trans (hb6.mono HB5.out.size))
  have HNM0 := Lib.hid hnm0
  obtain ⟨q2, q0⟩ := HQ2.out w6 HB6.out
  clear hb6 hnm0 q4' H48v
  cases hnt : symB t
  · have HX : Hid (lineV p [kExport, a, t, u, v] = (5, p)) := Lib.hid (by rw [HLV.out, expO_no (Or.inr hnt)])
    rw [hnt] at H49
    clear hnt
    go_wp2_with fail
    with_reducible refine (H49.out _).mono ?_
    rintro _ v7 ⟨rfl, hv7⟩
    subst hv7
    go_wp2_with fail
    go_ret
    exact lp_err (p := p) HX.out (HB6.out.mono (Nat.le_of_lt HTB.out))
  rw [hnt] at H49
  cases hu : numO u 0 6 1 with
  | none =>
    have HX : Hid (lineV p [kExport, a, t, u, v] = (5, p)) := Lib.hid (by rw [HLV.out, hu, expO_n1])
    clear hnt hu
    go_wp2_with fail
    with_reducible refine (H49.out _).mono ?_
    rintro _ v7 ⟨rfl, hv7⟩
    subst hv7
    go_wp2_with fail
    go_ret
    exact lp_err (p := p) HX.out (HB6.out.mono (Nat.le_of_lt HTB.out))
  | some n' =>
  obtain rfl : n = n' := HNM.out n' hu
  cases hv : numO v 0 4088 8 with
  | none =>
    have HX : Hid (lineV p [kExport, a, t, u, v] = (5, p)) := Lib.hid (by rw [HLV.out, hv, expO_n2])
    clear hnt hu hv
    go_wp2_with fail
    with_reducible refine (H49.out _).mono ?_
    rintro _ v7 ⟨rfl, hv7⟩
    subst hv7
    go_wp2_with fail
    go_ret
    exact lp_err (p := p) HX.out (HB6.out.mono (Nat.le_of_lt HTB.out))
  | some m' =>
  obtain rfl : m0 = m' := HNM0.out m' hv
  have hnb : n ≤ 6 := (numO_le hu).2.1
  have hmb : m0 ≤ 4088 := (numO_le hv).2.1
  have HYS := Lib.hid (expO_yes (n := n) (m := m0) (p := p) HNA.out hnt)
  have HHU := Lib.hid hu
  have HHV := Lib.hid hv
  clear hnt hu hv
  cases hf : fnd (byName a) p.cs with
  | none =>
    have HX : Hid (lineV p [kExport, a, t, u, v] = (6, p)) := Lib.hid (by rw [HLV.out, HHU.out, HHV.out, HYS.out, hf])
    obtain rfl : ak = -1 := by rw [← HAT.out, hf]; rfl
    clear hf
    go_wp2_with fail
    with_reducible refine (H49.out _).mono ?_
    rintro _ v7 ⟨rfl, hv7⟩
    subst hv7
    go_wp2_with fail
    go_ret
    exact lp_err (p := p) HX.out (HB6.out.mono (Nat.le_of_lt HTB.out))
  | some k =>
    obtain rfl : ak = (k : Int) := by rw [← HAT.out, hf]; rfl
    obtain ⟨hk, -, -⟩ := fnd_some hf
    have hkD0 : k < D.length := by rw [HLN.out]; exact hk
    obtain ⟨x, hx, hxc⟩ : ∃ x, D[k]? = some x ∧ p.cs[k]? = some x.2 := ⟨D[k], List.getElem?_eq_getElem hkD0, by rw [← HD.out, List.getElem?_map, List.getElem?_eq_getElem hkD0]; rfl⟩
    have HADD : Hid (lineV p [kExport, a, t, u, v] = addV x.2.es (t, n, m0) (fun y => decide (y.1 = t)) 16 (fun l => upd p k { x.2 with es := l }) p) := Lib.hid (by
      rw [HLV.out, HHU.out, HHV.out, HYS.out, hf]
      simp only [hxc])
    have HX := Lib.hid hx
    have hmem : x.2 ∈ p.cs := List.mem_of_getElem? hxc
    have hl16 : x.2.es.length ≤ 16 := (HSM.out.2.2 x.2 hmem).2.1
    have HL16 := Lib.hid hl16
    obtain ⟨g, cc, hce, hg, hBg, hat⟩ := own_at len_cCo HR0.out.2.1.2.1 (by omega)
    subst hce
    obtain ⟨AF, cf, hfe, _⟩ := own_slice (HR0.out.2.1.2.2.1 k x hx).2.1
    have HFE := Lib.hid hfe
    have HCS : Hid (∀ W, Below v6.heap.size v6 W → W.cell? ⟨g, k * 6, none⟩ = some (.string x.2.nm) ∧ W.cell? ⟨g, k * 6 + 1, none⟩ = some x.1.f ∧ W.cell? ⟨g, k * 6 + 2, none⟩ = some (.slice AF x.2.es.length cf) ∧ W.cell? ⟨g, k * 6 + 3, none⟩ = some x.1.i ∧ W.cell? ⟨g, k * 6 + 4, none⟩ = some x.1.d ∧ W.cell? ⟨g, k * 6 + 5, none⟩ = some x.1.g ∧ W.cell? ⟨b, o + 2, none⟩ = some (.string t)) := Lib.hid (fun W hW => by
      have h2 := (HQ2.out W hW).1
      refine ⟨?_, ?_, ?_, ?_, ?_, ?_, h2⟩ <;> rw [hW.cell (p := ⟨g, _, none⟩) hg]
      · have := hat k x hx 0 (by omega)
        simp only [Nat.add_zero] at this
        rw [this]; rfl
      · have := hat k x hx 1 (by omega)
        rw [this]; rfl
      · have := hat k x hx 2 (by omega)
        rw [this, ← hfe]; rfl
      · have := hat k x hx 3 (by omega)
        rw [this]; rfl
      · have := hat k x hx 4 (by omega)
        rw [this]; rfl
      · have := hat k x hx 5 (by omega)
        rw [this]; rfl)
    have HPC : Hid (∀ W, Below v6.heap.size v6 W → W.cell? ⟨g, k * 6 + 2, none⟩ = some (.slice AF x.2.es.length cf)) := Lib.hid (fun W hW => (HCS.out W hW).2.2.1)
    have HP3 := Lib.hid (HRS.out w6 HB6.out)
    have p3 := HP3.out.1.cell 3
    simp at p3
    have e1 : decide ((k : Int) < 0) = false := by simp
    have hkn : (k : Int) < (D.length : Int) := by omega
    have hkw : IntKind.i64.wrap (k : Int) = (k : Int) := by rw [IntKind.wrap_i64]; have := HLN.out; have := HSM.out.1; omega
    have hnw : IntKind.i64.wrap (n : Int) = (n : Int) := by rw [IntKind.wrap_i64]; omega
    have hmw : IntKind.i64.wrap (m0 : Int) = (m0 : Int) := by rw [IntKind.wrap_i64]; omega
    have HGB : Hid (B ≤ g) := Lib.hid hBg
    have HI := Lib.hid (HCS.out w6.drew HB6.out.drew)
    have HC := Lib.hid (r98x t x.2.nm x.1.f x.1.i x.1.d x.1.g AF cf w6.drew B x.2 (by
      have := (HRS.out _ HB6.out.drew).2.1.2.2.1 k x hx
      rw [← hfe]; exact this.2.1) hl16)
    have HSW : Hid (∀ W, Below w6.drew.heap.size w6.drew W → Below v6.heap.size v6 W) := Lib.hid (fun W hW => HB6.out.drew.trans (hW.mono (by have := HB6.out.size; exact this)))
    generalize hex : exported x.2 t = ex at HC
    have HEX : Hid (fnd (fun y : ByteArray × Nat × Nat => decide (y.1 = t)) x.2.es = ex) := Lib.hid hex
    generalize hzz : atI ex = zz at HC
    have HZP : Hid (0 ≤ zz → ∃ j, ex = some j) := Lib.hid (fun hz => by
      cases ex with
      | none => rw [← hzz] at hz; exact absurd hz (by decide)
      | some j => exact ⟨j, rfl⟩)
    have HZN : Hid (zz < 0 → ex = none) := Lib.hid (fun hz => by
      cases ex with
      | none => rfl
      | some j => rw [← hzz] at hz; exact absurd (Int.natCast_nonneg j) (Int.not_le.2 hz))
    clear hf hat hx hxc hmem hk hfe hg hBg hkD0 hex hl16 hzz
    go_wp2_with fail
    with_reducible refine (H49.out _).mono ?_
    rintro _ v7 ⟨rfl, hv7⟩
    subst hv7
    clear q0 q2 H49
    go_upto_region 28 with fail
    go_region_held3 (fun W => W.cell? ⟨g, k * 6, none⟩ = some (.string x.2.nm) ∧ W.cell? ⟨g, k * 6 + 1, none⟩ = some x.1.f ∧ W.cell? ⟨g, k * 6 + 2, none⟩ = some (.slice AF x.2.es.length cf) ∧ W.cell? ⟨g, k * 6 + 3, none⟩ = some x.1.i ∧ W.cell? ⟨g, k * 6 + 4, none⟩ = some x.1.d ∧ W.cell? ⟨g, k * 6 + 5, none⟩ = some x.1.g ∧ W.cell? ⟨b, o + 2, none⟩ = some (.string t))
      (first | assumption | exact HI.out)
      (first | (go_at_call 98; (with_reducible refine HC.out.mono ?_); rintro _ wr7 ⟨rfl, hb7⟩; have HB7 : Below v6.heap.size v6 wr7 := HSW.out _ hb7; have HS7 : wr7.cell? ⟨g, k * 6, none⟩ = some (.string x.2.nm) ∧ wr7.cell? ⟨g, k * 6 + 1, none⟩ = some x.1.f ∧ wr7.cell? ⟨g, k * 6 + 2, none⟩ = some (.slice AF x.2.es.length cf) ∧ wr7.cell? ⟨g, k * 6 + 3, none⟩ = some x.1.i ∧ wr7.cell? ⟨g, k * 6 + 4, none⟩ = some x.1.d ∧ wr7.cell? ⟨g, k * 6 + 5, none⟩ = some x.1.g ∧ wr7.cell? ⟨b, o + 2, none⟩ = some (.string t) := HCS.out wr7 HB7))
    have HB := Lib.hid HB7
    obtain ⟨-, -, pf, -⟩ := HS7
    clear hb7 HB7 HI HC
    by_cases hz : 0 ≤ zz
    · have HXR : Hid (lineV p [kExport, a, t, u, v] = (7, p)) := Lib.hid (by
        obtain ⟨j, rfl⟩ := HZP.out hz
        rw [HADD.out]
        unfold addV
        rw [HEX.out, if_pos (show (some j).isSome = true from rfl)])
      have e5 : decide ((0 : Int) ≤ zz) = true := decide_eq_true hz
      rw [e5]
      clear hz e5
      go_wp2_with fail
      go_ret
      exact lp_err (p := p) HXR.out (HB.out.mono (Nat.le_of_lt HTB.out))
    · have HMISS : Hid (fnd (fun y : ByteArray × Nat × Nat => decide (y.1 = t)) x.2.es = none) := Lib.hid (by rw [HEX.out, HZN.out (by omega)])
      have e5 : decide ((0 : Int) ≤ zz) = false := decide_eq_false hz
      rw [e5]
      clear hz e5
      have HAD2 : Hid (lineV p [kExport, a, t, u, v] = if 16 ≤ x.2.es.length then (3, p) else (0, upd p k { x.2 with es := x.2.es ++ [(t, n, m0)] })) := Lib.hid (by
        rw [HADD.out]
        unfold addV
        rw [HMISS.out, if_neg (by simp)])
      by_cases hl : 16 ≤ x.2.es.length
      · have HXR : Hid (lineV p [kExport, a, t, u, v] = (3, p)) := Lib.hid (by rw [HAD2.out, if_pos hl])
        have e2 : decide ((16 : Int) ≤ (x.2.es.length : Int)) = true := by simp; omega
        clear hl
        go_wp2_with fail
        go_ret
        exact lp_err (p := p) HXR.out (HB.out.mono (Nat.le_of_lt HTB.out))
      · have HXR : Hid (lineV p [kExport, a, t, u, v] = (0, upd p k { x.2 with es := x.2.es ++ [(t, n, m0)] })) := Lib.hid (by rw [HAD2.out, if_neg hl])
        have e2 : decide ((16 : Int) ≤ (x.2.es.length : Int)) = false := by simp; omega
        clear hl
        obtain ⟨i0, hi0, hz0, hz1, hz2⟩ := info50
        have HI0 := Lib.hid hi0
        have HZ0 := Lib.hid hz0
        have HZ1 := Lib.hid hz1
        have HZ2 := Lib.hid hz2
        have HNL : Hid (x.2.es.length + 1 ≤ maxLen) := Lib.hid (by unfold maxLen; have := HL16.out; omega)
        have HNB : Hid ((x.2.es.length + 1) * 32 ≤ 140737488355328) := Lib.hid (by have := HL16.out; omega)
        have HBL : Hid (Below v6.heap.size v6 (wr7.drew.alloc (.cells #[.string t, .int .i64 (n : Int), .int .i64 (m0 : Int)] 50))) := Lib.hid (HB.out.drew.alloc HB.out.size _)
        have HPA : Hid (RS (wr7.drew.alloc (.cells #[.string t, .int .i64 (n : Int), .int .i64 (m0 : Int)] 50)) B tb SV (.slice (some ⟨g, 0, none⟩) D.length cc) p D) := Lib.hid (HRS.out _ HBL.out)
        have HED : Hid ((wr7.drew.alloc (.cells #[.string t, .int .i64 (n : Int), .int .i64 (m0 : Int)] 50)).ownsRow B 50 3 (.slice AF x.2.es.length cf) x.2.es.length (x.2.es.flatMap cEs)) := Lib.hid (by
          have := (HPA.out.2.1.2.2.1 k x HX.out).2.1
          rw [HFE.out] at this
          exact this)
        have HBS : Hid (B ≤ (wr7.drew.alloc (.cells #[.string t, .int .i64 (n : Int), .int .i64 (m0 : Int)] 50)).heap.size) := Lib.hid (Nat.le_trans HBB.out HBL.out.size)
        have HNW : Hid (∀ j u, (#[.string t, .int .i64 (n : Int), .int .i64 (m0 : Int)] : Array Value).toList[j]? = some u → (wr7.drew.alloc (.cells #[.string t, .int .i64 (n : Int), .int .i64 (m0 : Int)] 50)).cell? ((⟨wr7.heap.size, 0, none⟩ : Addr).add j) = some u) := Lib.hid (World.news_of_block (heap_alloc_new wr7.drew (.cells #[.string t, .int .i64 (n : Int), .int .i64 (m0 : Int)] 50)))
        have HOC : Hid (∀ u ∈ ([.string t, .int .i64 (n : Int), .int .i64 (m0 : Int)] : List Value), u.oneCell' = true) := Lib.hid (by intro u hu; simp at hu; rcases hu with rfl | rfl | rfl <;> rfl)
        have HG : Hid (∀ W', World.grownBy (wr7.drew.alloc (.cells #[.string t, .int .i64 (n : Int), .int .i64 (m0 : Int)] 50)) W' (Value.ownBlock (.slice AF x.2.es.length cf)) → W'.cell? ⟨g, k * 6 + 2, none⟩ = some (.slice AF x.2.es.length cf) ∧ W'.frozen? ⟨g, k * 6 + 2, none⟩ = false) := Lib.hid (fun W' hg => by
          have hr := HPA.out.2.1.2.1.kept hg (own_apart HPA.out.2.1.2.1 HED.out (by decide))
          have hk6 : k * 6 + 2 < D.length * 6 := by omega
          refine ⟨?_, hr.frozenAt _⟩
          rw [hr.cellAt _ hk6, flat_at cCo 6 len_cCo D k 2 x HX.out (by omega), ← HFE.out]
          rfl)
        have pfa := HPC.out _ HBL.out
        obtain ⟨q2a, q0a⟩ := HQ2.out _ HBL.out
        have HBL2 : Hid (Below v6.heap.size v6 (wr7.alloc (.cells #[.string t, .int .i64 (n : Int), .int .i64 (m0 : Int)] 50))) := Lib.hid (HB.out.alloc HB.out.size _)
        have pfb := HPC.out _ HBL2.out
        obtain ⟨q2b, q0b⟩ := HQ2.out _ HBL2.out
        clear hi0 hz0 hz1 hz2
        go_upto_region 32 with fail
        go_region_law (first | (refine step_append_lies _ (by rfl) _ _ 43 (by rfl) B 50 i0 (.agg #[.string ⟨#[]⟩, .int .i64 0, .int .i64 0]) 3 32 Tryz.underlying43 HI0.out HZ0.out HZ1.out HZ2.out rfl (by decide) (.slice AF x.2.es.length cf) x.2.es.length (x.2.es.flatMap cEs) (by rfl) HED.out ⟨wr7.heap.size, 0, none⟩ 1 1 [.string t, .int .i64 (n : Int), .int .i64 (m0 : Int)] (by rfl) rfl HNW.out HOC.out (by decide) HNL.out HNB.out HBS.out _ rfl ?_; intro g5 c5 w9 hown5 hgrow5 hat5 hlt5; obtain ⟨x5a, x5b⟩ := HG.out w9 hgrow5))
        all_goals
          go_wp2_with fail
          go_ret
          rw [HXR.out]
          exact app_ok_e (y := (t, n, m0)) HPA.out (HBL.out.mono (Nat.le_of_lt HTB.out)) HX.out (by first | exact hown5 | simpa using hown5) (by rw [HFE.out]; exact hgrow5) (by rw [HFE.out]; exact hat5)
end Go.Proofs.YtapdiionikfgpaaGreatDoor
