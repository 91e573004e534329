import Derived.Test.YtgmifaadlaigdaaGreatDoorXc0
namespace Go.Proofs.YtgmifaadlaigdaaGreatDoor
open Go.ChangeShapes Go.WideShapes Go.ChangeAt Go.RowKit
set_option linter.unusedVariables false
set_option maxRecDepth 100000 in
set_option maxHeartbeats 4000000 in
/-- THE REFERENCE's READ -/
theorem c14 (A : Option Addr) (c : Nat) (s : ByteArray) (w : World) (hB : Bz w A s.size (bb s)) (hc : s.size ≤ c) (hcm : c ≤ 9223372036854775807) : Calls Tryz.prog 14 #[.slice A s.size c] w (RefOut s w) := by
  obtain ⟨i0, hi, hz⟩ : ∃ i, Tryz.prog.info? 39 = some i ∧ (i.zero, i.size, i.bytes) = (some (.agg #[.string ⟨#[]⟩, .slice none 0 0]), 2, 40) := by
    have h : (Tryz.prog.info? 39).map (fun i => (i.zero, i.size, i.bytes)) = some (some (.agg #[.string ⟨#[]⟩, .slice none 0 0]), 2, 40) := by kernel_rfl
    cases hq : Tryz.prog.info? 39 with
    | none => rw [hq] at h; cases h
    | some i => rw [hq] at h; exact ⟨i, rfl, by simpa using h⟩
  simp only [Prod.mk.injEq] at hz
  obtain ⟨hz0, hz1, hz2⟩ := hz
  have HI := Lib.hid hi
  have HZ0 := Lib.hid hz0
  have HZ1 := Lib.hid hz1
  have HZ2 := Lib.hid hz2
  clear hi hz0 hz1 hz2
  by_cases hbig : 65536 < s.size
  · have HER : Hid (ReadErr s 3) := Lib.hid (Or.inl ⟨hbig, rfl⟩)
    clear hB
    go_enter Tryz.func14, Tryz.ntmps14
    go_wp2_with fail
    go_ret3
    exact Or.inl ⟨3, HER.out, rfl, Below.refl _ _⟩
  · have hs6 : s.size ≤ 65536 := by omega
    have K36 := Lib.hid (c36 A c s w hB hs6 hc hcm)
    have HS6 := Lib.hid hs6
    clear hs6 hB
    go_enter Tryz.func14, Tryz.ntmps14
    go_wp2_with fail
    refine K36.out.mono ?_
    rintro e1 w1 (⟨h8, rfl, hb⟩ | ⟨h8, hm, rfl, hb⟩ | ⟨h8, hm, k, bq, hp, hb, ⟨rfl, rfl⟩ | ⟨rfl, V, sl, rfl, ho, hsl⟩⟩)
    · have HER : Hid (ReadErr s 4) := Lib.hid (Or.inr ⟨HS6.out, Or.inl ⟨h8, rfl⟩⟩)
      have HB := Lib.hid hb
      clear hb
      go_wp2_with fail
      go_ret3
      exact Or.inl ⟨4, HER.out, rfl, HB.out⟩
    · have HER : Hid (ReadErr s 5) := Lib.hid (Or.inr ⟨HS6.out, Or.inr ⟨h8, Or.inl ⟨hm, rfl⟩⟩⟩)
      have HB := Lib.hid hb
      clear hb hm
      go_wp2_with fail
      go_ret3
      exact Or.inl ⟨5, HER.out, rfl, HB.out⟩
    · have HER : Hid (ReadErr s (erP (bb s) s.size k)) := Lib.hid (Or.inr ⟨HS6.out, Or.inr ⟨h8, Or.inr ⟨hm, k, Or.inl ⟨hp, rfl⟩⟩⟩⟩)
      have HB := Lib.hid hb
      have he0 : ((erP (bb s) s.size k : Int) != 0) = true := by
        unfold erP
        split
        · rfl
        · split
          · rfl
          · split <;> rfl
      clear hb hm hp
      generalize erP (bb s) s.size k = er at *
      go_wp2_with fail
      go_ret3
      exact Or.inl ⟨er, HER.out, rfl, HB.out⟩
    · have HP := Lib.hid hp
      have HB := Lib.hid hb
      have HM := Lib.hid hm
      have HSL := Lib.hid hsl
      obtain ⟨AV, cV, rfl, hopen⟩ := row_open ho
      have HRS : Hid (Rs w1 AV k (fun i => trS (pcS s i).nm) (fun i => (pcS s i).at') sl) := Lib.hid (rs_row ho HS6.out hp)
      have HER : Hid (¬ GoodR s k → ReadErr s 5) := Lib.hid (fun h => Or.inr ⟨HS6.out, Or.inr ⟨h8, Or.inr ⟨hm, k, Or.inr ⟨hp, h, rfl⟩⟩⟩⟩)
      have HGD : Hid (GoodR s k → ReadGood s k) := Lib.hid (fun h => ⟨HS6.out, h8, hm, hp, h⟩)
      have hk6 := parts_k HS6.out hp
      have HSM := Lib.hid (pcs_small HS6.out hp)
      have hkc : k ≤ cV := by
        by_cases hk0 : 0 < k
        · exact (hopen hk0).choose_spec.2.2.2.1
        · omega
      have HOPEN := Lib.hid hopen
      have HKC := Lib.hid hkc
      clear hp hb hm ho hsl hopen hkc
      go_upto_region 8 with fail
      go_cut [33] from 24 to 33 (fun v wx => v = .bool (decide (ix1 s k = 1)) ∧ wx = w1)
      case first =>
        by_cases hk0 : 0 < k
        · obtain ⟨b0, rfl, hl0, -, -, -⟩ := HOPEN.out hk0
          obtain ⟨b, o, hbe, hbl, hcc⟩ := HRS.out hk0
          injection hbe with hbe
          injection hbe with e1 e2
          subst e1 e2
          obtain ⟨q0, q1, q2, z1, z2⟩ := hcc 0 hk0
          simp only [Nat.zero_mul, Nat.add_zero, Nat.zero_add] at q0 q1 q2
          have hst := str_47 (trS (pcS s 0).nm)
          have HI : Hid (decide (ix1 s k = 1) = decide (trS (pcS s 0).nm = ⟨#[47]⟩)) := Lib.hid (by
            rw [decide_eq_decide]
            unfold ix1
            by_cases h : trS (pcS s 0).nm = ⟨#[47]⟩
            · rw [if_pos ⟨hk0, h⟩]; exact ⟨fun _ => h, fun _ => rfl⟩
            · rw [if_neg (fun q => h q.2)]; exact ⟨fun q => absurd q (by decide), fun q => absurd q h⟩)
          obtain ⟨bq, hbq⟩ : ∃ bq, decide (trS (pcS s 0).nm = ⟨#[47]⟩) = bq := ⟨_, rfl⟩
          rw [hbq] at hst HI
          obtain ⟨n0, hn0⟩ : ∃ n0, trS (pcS s 0).nm = n0 := ⟨_, rfl⟩
          rw [hn0] at q0 hst
          clear hn0 z1 hbq
          go_wp2_with fail
          go_meet
          case rel => exact ⟨by rw [HI.out], rfl⟩
        · obtain rfl : k = 0 := by omega
          have HI0 : Hid (decide (ix1 s 0 = 1) = false) := Lib.hid (by unfold ix1; rw [if_neg (fun h => hk0 h.1)]; rfl)
          go_wp2_with fail
          go_meet
          case rel => exact ⟨by rw [HI0.out], rfl⟩
      case rest =>
        obtain ⟨rfl, rfl⟩ := hcut
        obtain ⟨W1, rfl⟩ : ∃ W1, W1 = wc := ⟨_, rfl⟩
        obtain ⟨b1, hb1⟩ : ∃ b1, decide (ix1 s k = 1) = b1 := ⟨_, rfl⟩
        have HB1 := Lib.hid hb1
        rw [hb1]
        clear hb1
        go_upto_if 33 with fail
        go_cut [5, 7, 8] from 34 to 45 (fun l x okv wx => RelI s k sl W1 l x okv wx)
        case first =>
          cases b1
          · have HI0 : Hid (ix1 s k = 0) := Lib.hid (by
              have h : ¬ ix1 s k = 1 := of_decide_eq_false HB1.out
              unfold ix1 at h ⊢
              split at h
              · exact absurd rfl h
              · rename_i h2; rw [if_neg h2])
            go_wp2_with fail
            go_meet
            case rel =>
              exact ⟨AV, cV, true, by rw [HI0.out]; rfl, rfl, by rw [HI0.out]; exact HRS.out, Below.refl _ _, Or.inr ⟨rfl, none, 0, fun _ => ⟨⟨#[]⟩, 0⟩, by unfold cntR; rw [if_neg (by rw [HI0.out]; decide)], by unfold cntR; rw [if_neg (by rw [HI0.out]; decide)]; exact fun h => absurd h (by decide), fun h => by rw [HI0.out] at h; cases h⟩⟩
          · have HI1 : Hid (ix1 s k = 1) := Lib.hid (of_decide_eq_true HB1.out)
            have hk0 : 0 < k := by
              have h := HI1.out
              unfold ix1 at h
              split at h
              · rename_i q; exact q.1
              · cases h
            obtain ⟨b0, rfl, hl0, -, -, -⟩ := HOPEN.out hk0
            obtain ⟨b, o, hbe, hbl, hcc⟩ := HRS.out hk0
            injection hbe with hbe
            injection hbe with e1 e2
            subst e1 e2
            obtain ⟨q0, q1, q2, z1, z2⟩ := hcc 0 hk0
            simp only [Nat.zero_mul, Nat.add_zero, Nat.zero_add] at q0 q1 q2
            have hs1 := sl71 b0 k cV (by omega) HKC.out
            obtain ⟨A1, hA1⟩ : ∃ A1 : Option Addr, some (if cV = 1 then (⟨b0, 0, none⟩ : Addr) else ⟨b0, 3, none⟩) = A1 := ⟨_, rfl⟩
            rw [hA1] at hs1
            have HRT : Hid (Rs W1 A1 (k - 1) (fun i => trS (pcS s (i + 1)).nm) (fun i => (pcS s (i + 1)).at') (fun i => sl (i + 1))) := Lib.hid (rs_tail (nm := fun i => trS (pcS s i).nm) (P := fun i => (pcS s i).at') (sl := sl) HRS.out (by
              rw [← hA1]
              by_cases h : cV = 1
              · exact Or.inr (by have := HKC.out; omega)
              · rw [if_neg h]; exact Or.inl rfl))
            obtain ⟨A0, c0, hv0, z3, z4, -, z5⟩ := HSL.out 0 hk0
            have hbz : Bz W1 A0 (pcS s 0).body.size (bb (pcS s 0).body) := fun h0 => by
              obtain ⟨g, e, hb⟩ := z5 h0
              exact ⟨g, 0, e, hb_bs hb⟩
            have hszb := (HSM.out 0 hk0).2.1
            have z3' : (pcS s 0).body.size ≤ c0 := z3
            rw [hv0] at q2
            have hbd : (bdy s 0).size = (pcS s 0).body.size := rfl
            rw [hbd] at q2
            have K37 : Hid (∀ W', Below W1.heap.size W1 W' → Calls Tryz.prog 37 #[.slice A0 (pcS s 0).body.size c0, .slice A1 (k - 1) (cV - 1)] W' (RowsOut (pcS s 0).body (fun i => (pcS s (i + 1)).at') (k - 1) W')) := Lib.hid (fun W' hb => c37 A0 A1 c0 (k - 1) (cV - 1) (pcS s 0).body _ _ _ W' (hbz.below hb) hszb z3' (rs_below HRT.out hb) (by omega))
            have HSB := Lib.hid hszb
            clear hA1 hv0 z1 z2 z3 z4 z5 hbz q0 q1 hcc
            obtain ⟨bz, hbz⟩ : ∃ bz, (pcS s 0).body.size = bz := ⟨_, rfl⟩
            rw [hbz] at K37 hszb z3' q2
            clear hbz
            have K37' : Hid (∀ W', Below W1.heap.size W1 W' → Calls Tryz.prog 37 #[.slice A0 bz c0, .slice A1 (k - 1) (cV - 1)] W' fun e w' => ∃ v ib, e = .returned (.tuple #[v, .bool ib]) ∧ Below W1.heap.size W1 w' ∧ ((ib = false ∧ ¬ IdxGood (pcS s 0).body (fun i => (pcS s (i + 1)).at') (k - 1)) ∨
                (ib = true ∧ ∃ B d y, v = .slice B (cntR s k) d ∧ Is w' B (cntR s k) y ∧ IdxGood (pcS s 0).body (fun i => (pcS s (i + 1)).at') (k - 1) ∧ IxS (pcS s 0).body (fun i => (pcS s (i + 1)).at') (k - 1) (cntR s k) y))) := Lib.hid (fun W' hb => (K37.out W' hb).mono (by
              rintro _ w' (⟨h1, rfl, h2⟩ | ⟨h1, v, mf, rfl, h2, h3, h4⟩)
              · exact ⟨_, _, rfl, hb.trans (h2.mono hb.size), Or.inl ⟨rfl, fun q => h1 q.1⟩⟩
              · by_cases hq : np (bb (pcS s 0).body) (pcS s 0).body.size (bigN (bb (pcS s 0).body) 0) = (pcS s 0).body.size
                · obtain ⟨B, d, y, e1, e2, e3⟩ := is_row (P := fun i => (pcS s (i + 1)).at') h2 h3 HSB.out (show k - 1 ≤ 65536 by omega)
                  have hcn : cntR s k = bigN (bb (pcS s 0).body) 0 := by unfold cntR; rw [if_pos HI1.out]
                  exact ⟨v, true, by rw [decide_eq_true hq], hb.trans (h4.mono hb.size), Or.inr ⟨rfl, B, d, y, by rw [hcn]; exact e1, by rw [hcn]; exact e2, ⟨h1, hq⟩, by rw [hcn]; exact e3⟩⟩
                · exact ⟨v, false, by rw [decide_eq_false hq], hb.trans (h4.mono hb.size), Or.inl ⟨rfl, fun q => hq q.2⟩⟩))
            clear K37
            have HRR : Hid (∀ w', Below W1.heap.size W1 w' → Rs w' A1 (k - 1) (fun i => trS (pcS s (i + 1)).nm) (fun i => (pcS s (i + 1)).at') (fun i => sl (i + 1))) := Lib.hid (fun w' hb => rs_below HRT.out hb)
            go_upto_region 9 with fail
            go_region_held3 (fun w' => w'.cell? ⟨b0, 2, none⟩ = some (.slice A0 bz c0) ∧ Below W1.heap.size W1 w')
              (first | assumption | exact ⟨q2, Below.refl _ _⟩ | (refine ⟨?_, ?_⟩; exact q2; exact Below.refl _ _) | (refine ⟨?_, ?_⟩ <;> first | assumption | exact below_drewN (Below.refl _ _) _ | exact (Below.refl _ _).drew))
              ((go_at_call 37; (with_reducible refine (K37'.out _ (by first | assumption | exact Below.refl _ _ | exact (Below.refl _ _).drew)).mono ?_); rintro _ w4 ⟨v, ib, rfl, hb4, hix⟩; have hx4 := (hb4.cell (p := ⟨b0, 2, none⟩) hl0).trans q2))
            all_goals
              have HB4 := Lib.hid hb4
              have HIX := Lib.hid hix
              clear hb4 hix
              go_wp2_with fail
              go_meet
              case rel =>
                refine ⟨A1, cV - 1, ib, by rw [HI1.out], rfl, by rw [HI1.out]; exact HRR.out _ HB4.out, HB4.out, ?_⟩
                rcases HIX.out with ⟨h1, h2⟩ | ⟨h1, B, d, y, h2, h3, h4, h5⟩
                · exact Or.inl ⟨h1, HI1.out, h2⟩
                · exact Or.inr ⟨h1, B, d, y, h2, h3, fun _ => ⟨h4, h5⟩⟩
        case rest =>
          obtain ⟨AL, cL, ib, rfl, rfl, hrs, hbx, hix⟩ := hcut
          obtain ⟨W0, rfl⟩ : ∃ W0, W0 = wc := ⟨_, rfl⟩
          have HBX : Hid (Below w.heap.size w W0) := Lib.hid (HB.out.trans (hbx.mono HB.out.size))
          obtain ⟨n, p, sl', hN, hn6, hrs', hslx, hzx, hfail, hout⟩ : ∃ (n : Nat) (p : Nat → Pc) (sl' : Nat → Value), k - ix1 s k = n ∧ n ≤ 65536 ∧ Rs W0 AL n (fun i => trS (p i).nm) (fun i => (p i).at') sl' ∧ (∀ i, i < n → SlOk W0 (sl' i) (p i).body) ∧ (∀ i, i < n → (p i).nm.size ≤ 65536 ∧ (p i).body.size ≤ 65536) ∧
              (∀ w', Below W0.heap.size W0 w' → (¬ AllS p n ∨ ib = false) → RefOut s w (.returned (.tuple #[.slice none 0 0, .slice none 0 0, .int .i64 5])) w') ∧
              (∀ A' c' G w', ib = true → AllS p n → Ms w' A' n G → MemT p n G → Below W0.heap.size W0 w' → RefOut s w (.returned (.tuple #[.slice A' n c', u7, .int .i64 0])) w') := by
            refine ⟨k - ix1 s k, fun i => pcS s (i + ix1 s k), fun i => sl (i + ix1 s k), rfl, by omega, hrs, fun i hi => (HSL.out (i + ix1 s k) (by omega)).keep (k5_below hbx), fun i hi => ?_, fun w' hb h => ?_, fun A' c' G w' h1 h2 h3 h4 h5 => ?_⟩
            · obtain ⟨h1, h2, _⟩ := HSM.out (i + ix1 s k) (by omega)
              exact ⟨h1, h2⟩
            · refine Or.inl ⟨5, HER.out (fun hg => ?_), rfl, HBX.out.trans (hb.mono HBX.out.size)⟩
              rcases h with h | h
              · exact h hg.1
              · rcases hix with ⟨_, h1, h2⟩ | ⟨h1, _⟩
                · exact h2 (hg.2 h1)
                · rw [h] at h1; cases h1
            · rcases hix with ⟨h0, _⟩ | ⟨_, B, d, y, rfl, q1, q2⟩
              · rw [h1] at h0; cases h0
              · exact Or.inr ⟨k, HGD.out ⟨h2, fun h => (q2 h).1⟩, A', c', B, d, G, y, rfl, h3, h4, q1.below h5, fun h => (q2 h).2, HBX.out.trans (h5.mono HBX.out.size)⟩
          rw [hN]
          have HRS' := Lib.hid hrs'
          have HSLX := Lib.hid hslx
          have HZX := Lib.hid hzx
          have HFAIL := Lib.hid hfail
          have HOUT := Lib.hid hout
          clear hrs hbx hix hrs' hslx hzx hfail hout hN HRS HSL HSM HER HGD HOPEN HB1 HB HP HM K36
          go_wp2_with fail
          go_loopw [9, 10] (fun out i wr => R14b W0 p sl' n out i wr) (fun _ i _ => n - (intOf i).toNat)
          case atStart => exact ⟨0, Nat.zero_le _, rfl, World.ownsRow_nil _ _ _ _, fun i hi => absurd hi (by omega), Below.refl _ _⟩
          case round =>
            obtain ⟨j, hj, rfl, ho, hal, hb⟩ := hrel
            have HO := Lib.hid ho
            have HAL := Lib.hid hal
            have HBR := Lib.hid hb
            clear ho hal hb
            by_cases hlt : j < n
            · have HLT := Lib.hid hlt
              obtain ⟨b, o, rfl, hl, hcc⟩ := HRS'.out (by omega)
              obtain ⟨q0, -, q2, z1, z2⟩ := hcc j hlt
              have x0 := (HBR.out.cell (p := ⟨b, o + j * 3, none⟩) hl).trans q0
              have HX2 := Lib.hid ((HBR.out.cell (p := ⟨b, o + j * 3 + 2, none⟩) hl).trans q2)
              have HGT := Lib.hid (gd_tr (p j).nm)
              have HNT := Lib.hid (nm_tr (p j).nm)
              have HFL : Hid (¬ gdS (p j).nm → ¬ AllS p n) := Lib.hid (fun h q => h (q j hlt).1)
              have HFD : Hid ((∃ x, x < j ∧ nmS (p x).nm = nmS (p j).nm) → ¬ AllS p n) := Lib.hid (fun ⟨x, h1, h2⟩ q => (q j hlt).2 x h1 h2)
              have HST : Hid (gdS (p j).nm → (∀ x, x < j → nmS (p x).nm ≠ nmS (p j).nm) → AllS p (j + 1)) := Lib.hid (fun h1 h2 => alls_step.mpr ⟨HAL.out, h1, h2⟩)
              have HMC : Hid (mcC p sl' (j + 1) = mcC p sl' j ++ [.string (nmS (p j).nm), sl' j]) := Lib.hid rfl
              clear q0 q2 hcc z2
              obtain ⟨n0, hn0⟩ : ∃ n0, trS (p j).nm = n0 := ⟨_, rfl⟩
              simp only at x0 z1
              rw [hn0] at x0 z1 HGT HNT
              clear hn0
              obtain ⟨nx, hnx⟩ : ∃ nx, nmS (p j).nm = nx := ⟨_, rfl⟩
              rw [hnx] at HGT HNT HFD HST HMC
              have HNX := Lib.hid hnx
              clear hnx
              have HEM := Lib.hid (empty_size n0)
              by_cases hz : n0.size = 0
              · have hem : (n0.toList == []) = true := by rw [HEM.out, decide_eq_true hz]
                have HNG : Hid (¬ gdS (p j).nm) := Lib.hid (fun h => by have := (HGT.out.mp h).1; omega)
                clear hz
                go_wp2_with fail
                go_ret3
                exact HFAIL.out _ HBR.out (Or.inl (HFL.out HNG.out))
              · have hem : (n0.toList == []) = false := by rw [HEM.out, decide_eq_false hz]
                obtain ⟨m, hm⟩ : ∃ m, n0.size = m + 1 := ⟨n0.size - 1, by omega⟩
                have he : ∀ h, (n0[m]'h).toNat = bb n0 m := fun h => (bb_eq n0 m h).symm
                have hmlt : m < n0.size := by omega
                have he1 := he hmlt
                have e1 : (((m + 1 : Nat) : Int) - 1) = (m : Int) := by omega
                have e2 : ((n0.size : Int) - 1) = (m : Int) := by omega
                have HMZ := Lib.hid hm
                have hsx : ∀ W, (Instr.slice 9 (.string n0) none (some (.int .i64 (m : Int))) none).run Tryz.prog W = .ok (.string nx) W := fun W => by
                  rw [run_slice_string_to_if W 9 n0 .i64 (m : Int) Tryz.underlying9, if_pos (by omega), ← HNT.out]
                  congr 2
                  have := HMZ.out
                  rw [this]
                  rfl
                by_cases h47 : bb n0 m = 47
                · have b1 : ((bb n0 m : Int) != 47) = false := by rw [h47]; rfl
                  have hnxs : nx.size ≤ 65536 := by rw [← HNT.out, ByteArray.size_extract]; omega
                  have K27 := Lib.hid (c27 nx (by omega))
                  obtain ⟨bn, hbn⟩ : ∃ bn, nmB nx = bn := ⟨_, rfl⟩
                  rw [hbn] at K27
                  have HBN := Lib.hid hbn
                  rw [h47] at he1
                  clear hbn hz
                  cases bn
                  · have HNG : Hid (¬ gdS (p j).nm) := Lib.hid (fun h => by have := (HGT.out.mp h).2.2; rw [HBN.out] at this; cases this)
                    clear h47
                    go_wp2_with fail
                    refine (K27.out _).mono ?_
                    rintro _ _ ⟨rfl, rfl⟩
                    go_wp2_with fail
                    go_ret3
                    exact HFAIL.out _ HBR.out (Or.inl (HFL.out HNG.out))
                  · have HGG : Hid (gdS (p j).nm) := Lib.hid (HGT.out.mpr ⟨by omega, by rw [hm, Nat.add_sub_cancel]; exact h47, HBN.out⟩)
                    clear h47
                    go_wp2_with fail
                    refine (K27.out _).mono ?_
                    rintro _ _ ⟨rfl, rfl⟩
                    obtain ⟨AO, cO, rfl, hop⟩ := row_open HO.out
                    have HOP := Lib.hid hop
                    clear hop
                    go_wp2_with fail
                    obtain ⟨W2, rfl⟩ : ∃ W2, W2 = wr := ⟨_, rfl⟩
                    go_loopw [12] (fun i wr => wr = W2 ∧ ∃ q : Nat, q ≤ j ∧ i = .int .i64 (q : Int) ∧ ∀ x, x < q → nmS (p x).nm ≠ nx) (fun i _ => j - (intOf i).toNat)
                    case atStart => exact ⟨rfl, 0, Nat.zero_le _, rfl, fun x hx => absurd hx (by omega)⟩
                    case round =>
                      obtain ⟨rfl, q, hq, rfl, hne⟩ := hrel
                      have HNE := Lib.hid hne
                      clear hne
                      by_cases hqj : q < j
                      · obtain ⟨bo, rfl, hlo, -, -, hco⟩ := HOP.out (by omega)
                        have y0 := hco _ _ (mcC_at p sl' j q hqj).1
                        have HQJ := Lib.hid hqj
                        obtain ⟨nq, hnq⟩ : ∃ nq, nmS (p q).nm = nq := ⟨_, rfl⟩
                        rw [hnq] at y0
                        have HNQ := Lib.hid hnq
                        clear hco hnq
                        by_cases e : nq = nx
                        · have be : (nq.toList == nx.toList) = true := by rw [e]; exact beq_self_eq_true _
                          have HDU : Hid (¬ AllS p n) := Lib.hid (HFD.out ⟨q, hqj, by rw [HNQ.out]; exact e⟩)
                          clear e
                          go_wp2_with fail
                          go_ret3
                          exact HFAIL.out _ HBR.out (Or.inl HDU.out)
                        · have be : (nq.toList == nx.toList) = false := by rw [beq_eq_false_iff_ne]; exact fun h => e (ba_eq (by rwa [ByteArray.toList_eq, ByteArray.toList_eq] at h))
                          have HE := Lib.hid e
                          clear e
                          go_wp2_with fail
                          go_roundw
                          case rel => exact ⟨trivial, q + 1, HQJ.out, by go_num, fun x hx => by
                            by_cases e : x = q
                            · rw [e, HNQ.out]; exact HE.out
                            · exact HNE.out x (by omega)⟩
                          case measure => simp [intOf]; have := HQJ.out; omega
                      · obtain rfl : q = j := by omega
                        have HS2 := Lib.hid (HST.out HGG.out HNE.out)
                        have x2 := HX2.out
                        have hzw := HBR.out.size
                        have hj6 : q ≤ 65536 := by omega
                        obtain ⟨Aj, nj, cj, hsv⟩ : ∃ Aj nj cj, sl' q = .slice Aj nj cj := by
                          obtain ⟨A, c, h, _⟩ := HSLX.out q hlt
                          exact ⟨A, _, c, h⟩
                        rw [hsv] at x2 HMC
                        clear hsv
                        go_wp2_with (at_builtin; refine wpList_append_own _ rfl _ _ 22 rfl W0.heap.size 39 i0 (.agg #[.string ⟨#[]⟩, .slice none 0 0]) 2 40 Tryz.underlying22 HI.out HZ0.out HZ1.out HZ2.out rfl (by decide) _ _ _ rfl (HO.out.alloc _) ⟨wr.heap.size, 0, none⟩ 1 1 [.string nx, .slice Aj nj cj] rfl rfl (l_cells wr wr.heap.size rfl [.string nx, .slice Aj nj cj] 39) (fun y hy => by simp at hy; rcases hy with rfl | rfl <;> rfl) (by unfold maxLen; omega) (by omega) (by simp; omega) ?_)
                        intro v' w5 hown5 hgrow5 _
                        all_goals
                          have HO5 : Hid (w5.ownsRow W0.heap.size 39 2 v' (q + 1) (mcC p sl' (q + 1))) := Lib.hid (by
                            rw [HMC.out]
                            exact hown5)
                          have HB5 : Hid (Below W0.heap.size W0 w5) := Lib.hid (gr_below (HBR.out.alloc HBR.out.size _) (HO.out.alloc _) hgrow5 (by simp; omega))
                          clear hown5 hgrow5
                          go_wp2_with fail
                          go_roundw
                          case rel => exact ⟨q + 1, HLT.out, by go_num, HO5.out, HS2.out, HB5.out⟩
                          case measure => simp [intOf]; have := HLT.out; omega
                · have b1 : ((bb n0 m : Int) != 47) = true := by rw [bne_iff_ne]; omega
                  have HNG : Hid (¬ gdS (p j).nm) := Lib.hid (fun h => h47 (by have := (HGT.out.mp h).2.1; rw [hm, Nat.add_sub_cancel] at this; exact this))
                  generalize bb n0 m = v at *
                  clear h47 hz
                  go_wp2_with fail
                  go_ret3
                  exact HFAIL.out _ HBR.out (Or.inl (HFL.out HNG.out))
            · obtain rfl : j = n := by omega
              cases ib
              · go_wp2_with fail
                go_ret3
                exact HFAIL.out _ HBR.out (Or.inr trivial)
              · obtain ⟨A2, c2, G, rfl, hms, hmt⟩ := mt_row HO.out (fun x hx => (HSLX.out x hx).keep (k5_below HBR.out)) HZX.out
                have HMS := Lib.hid hms
                have HMT := Lib.hid hmt
                clear hms hmt
                go_wp2_with fail
                go_ret3
                exact HOUT.out A2 c2 G _ trivial HAL.out HMS.out HMT.out HBR.out
end Go.Proofs.YtgmifaadlaigdaaGreatDoor
