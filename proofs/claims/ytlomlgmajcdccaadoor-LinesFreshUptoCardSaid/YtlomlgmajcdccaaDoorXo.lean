import Derived.Test.YtlomlgmajcdccaaDoorXn
namespace Go.Proofs.YtlomlgmajcdccaaDoor
open Go.ChangeShapes Go.WideShapes Go.ChangeAt Go.RowKit
set_option linter.unusedVariables false
def R7c (w3 : World) (V : Value) (n m : Nat) (E : List (Nat × Value × Nat)) (i : Value) (wr : World) : Prop := ∃ k : Nat, k ≤ m ∧ i = .int .i64 (k : Int) ∧ RX wr w3 V n E
theorem alike_sg {g g' : Nat → Wl} {n : Nat} (h : AlikeW n g g') : sg g' n = sg g n := by
  have hsw : ∀ (x y : Wl) (m : Nat), (∀ j, j < m → x.f j = y.f j) → sw x m = sw y m := by
    intro x y m
    induction m with
    | zero => intro _; rfl
    | succ m ih => intro hh; rw [sw, sw, ih (fun j hj => hh j (by omega)), hh m (by omega)]
  have : ∀ m, m ≤ n → sg g' m = sg g m := by
    intro m
    induction m with
    | zero => intro _; rfl
    | succ m ih =>
      intro hm
      obtain ⟨h1, h2⟩ := h m (by omega)
      rw [sg, sg, ih (by omega), ← h1, hsw (g' m) (g m) _ (fun j hj => (h2 j hj).symm)]
  exact this n (Nat.le_refl _)
set_option maxRecDepth 100000 in
set_option maxHeartbeats 16000000 in
theorem walk7 (A : Option Addr) (n c : Nat) (g : Nat → Wl) (t : ByteArray) {W : World} (hb : Wb W A n c g) (ht : t.size ≤ 16777215) (w : World) (hw : W = w) (hg : Gl w) :
    Calls Tryd.prog 7 #[.slice A n c, .string t] w fun e w' => e = .returned (.bool true) ∧ Below w.heap.size w w' := by
  subst hw
  obtain ⟨i0, hi, hz⟩ : ∃ i, Tryd.prog.info? 31 = some i ∧ (i.zero, i.size, i.bytes) = (some (.agg #[.int .i64 0, .slice none 0 0]), 2, 32) := by
    have h : (Tryd.prog.info? 31).map (fun i => (i.zero, i.size, i.bytes)) = some (some (.agg #[.int .i64 0, .slice none 0 0]), 2, 32) := by kernel_rfl
    cases hq : Tryd.prog.info? 31 with
    | none => rw [hq] at h; cases h
    | some i => rw [hq] at h; exact ⟨i, rfl, by simpa using h⟩
  simp only [Prod.mk.injEq] at hz
  obtain ⟨hz0, hz1, hz2⟩ := hz
  have HI := Lib.hid hi
  have HZ0 := Lib.hid hz0
  have HZ1 := Lib.hid hz1
  have HZ2 := Lib.hid hz2
  obtain ⟨h1, h2, h3, h4, h5, h6⟩ := hb.out
  have hsg := hb.2.2
  have hnn := sg_n g n
  have HSG := Lib.hid hsg
  have HA := Lib.hid h1
  have HG := Lib.hid hg
  have H5 := Lib.hid h5
  have H6 := Lib.hid h6
  have K8 := Lib.hid (k8 t ht)
  have K9 := Lib.hid (fun w => (c9 t ht w).mono fun e w' h => post_ws h)
  unfold PW at K8
  have hn : n ≤ 1048576 := by omega
  have hrl4 := rdV_len t
  clear hi hz0 hz1 hz2 hb h1 h3 h4 h5 h6 hg ht hsg hnn
  generalize rdE t = er at *
  generalize rdV t = R at *
  generalize hrl : R.length = rl at *
  have HRL := Lib.hid hrl
  clear hrl
  have e1 : ((er : Int) == (er : Int)) = true := by simp
  go_enter Tryd.func7, Tryd.ntmps7
  go_wp2_with fail
  go_loopw [5, 6] (fun mv i wr => R7 W g n mv i wr) (fun _ i _ => n - (intOf i).toNat)
  case atStart => exact ⟨0, by omega, rfl, di_nil _ _ _, Below.refl _ _⟩
  case round =>
    obtain ⟨k, hk, rfl, hdi, hb⟩ := hrel
    have HB := Lib.hid hb
    have hz := hb.size
    by_cases hlt : k < n
    · obtain ⟨D, hD1, hD2, hD3⟩ := hdi
      have HD1 := Lib.hid hD1
      have HD2 := Lib.hid hD2
      have HD3 := Lib.hid hD3
      obtain ⟨b, o, rfl, hbl, hc⟩ := HA.out (by omega)
      obtain ⟨q0, q1, hs, hn2, hnc⟩ := hc k hlt
      have HN := Lib.hid (H5.out k hlt)
      have HS := Lib.hid (hs.below hb)
      have z : ∀ wz, Below W.heap.size W wz → wz.cell? ⟨b, o + k * 2, none⟩ = some (.int .i64 (g k).line) ∧ wz.cell? ⟨b, o + k * 2 + 1, none⟩ = some (.slice (g k).A (g k).n (g k).c) := fun wz hz => ⟨(hz.cell (p := ⟨b, o + k * 2, none⟩) hbl).trans q0, (hz.cell (p := ⟨b, o + k * 2 + 1, none⟩) hbl).trans q1⟩
      have HZ := Lib.hid z
      obtain ⟨p0, p1⟩ := z wr hb
      have HK := Lib.hid hlt
      clear z hc hs hD1 hD2 hD3 q0 q1 hb
      obtain ⟨x, hx⟩ : ∃ x, g k = x := ⟨_, rfl⟩
      rw [hx] at p0 p1 HN HS HZ hn2 hnc
      have HX := Lib.hid hx
      clear hx
      clear hlt hk
      have HKK := HK.out
      go_wp2_with (first | (at_builtin; refine app_txt rfl (.tmp 22) (.tmp 27) rfl rfl x.A x.n x.c x.f rfl HS.out HN.out W.heap.size HB.out.size ?_; intro v' w5 hown5 hg5; obtain ⟨A5, c5, rfl, hnc5⟩ := own_slice hown5; have HB5 := Lib.hid (HB.out.trans ((below_none hg5).mono HB.out.size)); have HO5 := Lib.hid hown5; have HW5 := Lib.hid hg5; have p05 := (HZ.out _ HB5.out).1; have z5 := HB5.out.size; have HD2' := Lib.hid (own_below HD2.out (below_none HW5.out)); clear hown5 hg5) | (at_builtin; refine wpList_append_own _ rfl (.tmp 29) (.tmp 37) 22 rfl W.heap.size 31 i0 (.agg #[.int .i64 0, .slice none 0 0]) 2 32 Tryd.underlying22 HI.out HZ0.out HZ1.out HZ2.out rfl (by decide) _ _ _ rfl (HD2'.out.alloc _) ⟨w5.heap.size, 0, none⟩ 1 1 [.int .i64 x.line, .slice A5 x.n c5] rfl rfl (two_cells _ _ _ _) (fun y hy => by simp at hy; rcases hy with rfl | rfl <;> rfl) (by unfold maxLen; omega) (by omega) (by simp; omega) ?_; intro v' w6 hown6 hgrow6 hnil6))
      have HD3' : Hid (∀ j, (h : j < D.length) → D[j].1 = (g j).line ∧ D[j].2.2 = (g j).n ∧ w5.ownsRow W.heap.size 9 1 D[j].2.1 (g j).n ((List.range (g j).n).map fun i => Value.string ((g j).f i))) :=
        Lib.hid fun j h => ⟨(HD3.out j h).1, (HD3.out j h).2.1, own_below (HD3.out j h).2.2 (below_none HW5.out)⟩
      go_roundw
      case rel => exact ⟨k + 1, HK.out, by go_num, di_snoc HX.out HD1.out (HD2'.out.alloc _) (fun j h => ⟨(HD3'.out j h).1, (HD3'.out j h).2.1, (HD3'.out j h).2.2.alloc _⟩) (HO5.out.alloc _) hown6 hgrow6, gr_below (HB5.out.alloc HB5.out.size _) (HD2'.out.alloc _) hgrow6 (by simp; omega)⟩
      case measure => simp [intOf]; have := HK.out; omega
    · have hkn : k = n := by omega
      subst hkn
      obtain ⟨A1, c1, g1, hV, hw1, ha1⟩ := di_ws hdi (fun j hj => ⟨H5.out j hj, fun i hi => Nat.le_trans (H6.out j hj i hi) (by omega)⟩)
      subst hV
      obtain ⟨o1, o2, o3⟩ := out_bounds g1 k (by rw [alike_sg ha1]; have := HSG.out; omega)
      have K14 := Lib.hid (c14 A1 k c1 g1 wr hw1 (by omega) (fun j hj => Nat.le_trans (o1 j hj) (by omega)) o2 o3)
      have HW1 := Lib.hid hw1
      have HL1 := Lib.hid ha1
      clear hdi hw1 ha1 o1 o2 o3 hb
      go_wp2_with fail
      refine (K14.out).mono ?_
      rintro _ w2 ⟨rfl, b2⟩
      have HB2 := Lib.hid (HB.out.trans (b2.mono HB.out.size))
      have K16 := Lib.hid (c16 A A1 k c c1 g g1 w2 (by omega) (HA.out.below HB2.out) (HW1.out.below b2) HL1.out)
      clear b2
      go_wp2_with fail
      refine (K16.out).mono ?_
      rintro _ w3 ⟨rfl, q, hq3⟩
      have HB3 : Hid (Below W.heap.size W w3) := Lib.hid (by rw [hq3]; exact below_drewN HB2.out q)
      clear hq3
      go_wp2_with fail
      refine (K8.out _ (HG.out.below HB3.out)).mono ?_
      rintro _ w4 ⟨A4, c4, g4, rfl, -, -, ho4, b4⟩
      obtain ⟨E, hE, hrx⟩ := rx_start HRL.out ho4 b4
      have HRX := Lib.hid hrx
      have HE := Lib.hid hE
      clear ho4 b4 hrx hE
      go_wp2_with fail
      go_loopw [10] (fun i wr => R7b w3 (.slice A4 rl c4) rl E i wr) (fun i _ => rl - (intOf i).toNat)
      case atStart => exact ⟨0, by omega, rfl, HRX.out⟩
      case round =>
        obtain ⟨k2, hk2, rfl, hrx⟩ := hrel
        have HR2 := Lib.hid hrx
        by_cases hlt2 : k2 < rl
        · obtain ⟨b4, A5, n5, c5, rfl, hcell, hmem, hEk, hnc5⟩ := rx_at hrx HE.out hlt2
          have HEK := Lib.hid hEk
          have HLT2 := Lib.hid hlt2
          clear hmem hrx hEk
          go_wp2_with fail
          go_loopw [11] (fun i wz => R7c w3 (.slice (some ⟨b4, 0, none⟩) rl c4) rl n5 E i wz) (fun i _ => n5 - (intOf i).toNat)
          case atStart => exact ⟨0, by omega, rfl, HR2.out⟩
          case round =>
            obtain ⟨j, hj, rfl, hrx2⟩ := hrel
            have HR3 := Lib.hid hrx2
            obtain ⟨b', A', n', c', hb', hcell', ⟨x, hx, hx1, hx2⟩, hEk', hnc'⟩ := rx_at hrx2 HE.out HLT2.out
            have hq := Option.some.inj (HEK.out.symm.trans hEk')
            simp only [Prod.mk.injEq, Value.slice.injEq, true_and] at hq
            obtain ⟨⟨rfl, rfl, rfl⟩, -⟩ := hq
            obtain rfl : b4 = b' := by simpa using hb'
            by_cases hlt3 : j < n5
            · obtain ⟨l, hl, ho⟩ := hrx2.2.1 x hx
              rw [hx1, hx2] at ho
              rw [hx2] at hl
              have hA : ∃ b, A5 = some ⟨b, 0, none⟩ := by
                rcases ho.2 with ⟨q, q'⟩ | ⟨b, cap, cur, q, _⟩
                · omega
                · simp at q; exact ⟨b, q.1⟩
              have hcm : c5 ≤ 9223372036854775807 := by
                rcases ho.2 with ⟨q, q'⟩ | ⟨b, cap, cur, q, _, _, _, d, _⟩
                · omega
                · simp at q
                  unfold maxLen at d
                  omega
              obtain ⟨b5, rfl⟩ := hA
              have hc5 := ho.cellAt j (by omega)
              rw [List.getElem?_map, List.getElem?_eq_getElem (show j < l.length by omega)] at hc5
              have hc5 : wr.cell? ⟨b5, j, none⟩ = some (.string l[j]) := hc5
              have hf5 := ho.frozenAt j
              have HRS := Lib.hid (rx_store (j := j) ⟨#[45]⟩ hrx2 ho)
              have HL3 := Lib.hid hlt3
              generalize l[j] = y at *
              clear hrx2 hx hx1 hx2 hEk' hb' hl ho
              go_wp2_with fail
              go_roundw
              case rel => exact ⟨j + 1, HL3.out, by go_num, HRS.out⟩
              case measure => simp [intOf]; have := HL3.out; omega
            · clear hrx2 hx hx1 hx2 hEk' hb'
              go_wp2_with fail
              go_roundw
              case rel => exact ⟨k2 + 1, HLT2.out, by go_num, HR3.out⟩
              case measure => simp [intOf]; have := HLT2.out; omega
        · have hkk : k2 = rl := by omega
          subst hkk
          have HB5 : Hid (Below W.heap.size W wr) := Lib.hid (HB3.out.trans (hrx.2.2.mono HB3.out.size))
          clear hrx
          go_wp2_with fail
          refine (K8.out _ (HG.out.below HB5.out)).mono ?_
          rintro _ w6 ⟨A6, c6, g6, rfl, hw6, hr6, -, b6⟩
          have HW6 := Lib.hid hw6
          have HR6 := Lib.hid hr6
          have HB6 := Lib.hid (HB5.out.trans (b6.mono HB5.out.size))
          clear hw6 hr6 b6
          go_wp2_with fail
          refine (K9.out _).mono ?_
          rintro _ w7 ⟨A7, c7, g7, rfl, hw7, hr7, -, b7⟩
          have hal : AlikeW k2 g6 g7 := by rw [← HRL.out]; exact reads_same HR6.out hr7
          have K16b := Lib.hid (c16 A6 A7 k2 c6 c7 g6 g7 w7 (by omega) (HW6.out.below b7) hw7 hal)
          have HB7 := Lib.hid (HB6.out.trans (b7.mono HB6.out.size))
          clear hw7 hr7 b7 hal
          go_wp2_with fail
          refine (K16b.out).mono ?_
          rintro _ w8 ⟨rfl, q8, rfl⟩
          have HB8 := Lib.hid (below_drewN HB7.out q8)
          go_wp2_with fail
          refine (c13 _ (HG.out.below HB8.out)).mono ?_
          rintro _ w9 ⟨rfl, b9⟩
          have HB9 := Lib.hid (HB8.out.trans (b9.mono HB8.out.size))
          clear b9
          go_wp2_with fail
          go_ret
          exact ⟨rfl, HB9.out⟩
end Go.Proofs.YtlomlgmajcdccaaDoor
