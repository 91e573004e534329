import Derived.Test.YtgmifaadlaigdaaGreatDoorXc
import Derived.Test.YtgmifaadlaigdaaGreatDoorYd0
import Derived.Test.YtgmifaadlaigdaaGreatDoorW
namespace Go.Proofs.YtgmifaadlaigdaaGreatDoor
open Go.ChangeShapes Go.WideShapes Go.ChangeAt Go.RowKit
set_option linter.unusedVariables false
theorem err_uniq {s : ByteArray} {a b : Nat} (h : ReadErr s a) (h' : ReadErr s b) : a = b := by
  rcases h with ⟨q, e⟩ | ⟨q, ⟨q1, e⟩ | ⟨q1, ⟨q2, e⟩ | ⟨q2, k, ⟨q3, e⟩ | ⟨q3, q4, e⟩⟩⟩⟩ <;> rcases h' with ⟨p, e'⟩ | ⟨p, ⟨p1, e'⟩ | ⟨p1, ⟨p2, e'⟩ | ⟨p2, l, ⟨p3, e'⟩ | ⟨p3, p4, e'⟩⟩⟩⟩
  all_goals first
    | (rw [e, e']; done)
    | omega
    | exact absurd q2 p2
    | exact absurd p2 q2
    | (obtain ⟨rfl, _⟩ := parts_uniq q3 p3; rw [e, e']; done)
    | exact absurd (parts_uniq q3 p3).2 (by decide)
theorem ms_same {s : ByteArray} {n d : Nat} {g h : Nat → Mem} (hg : MemS (fun i => pcS s (i + d)) n g) (hh : MemT (fun i => pcS s (i + d)) n h) : SameM n g h := fun i hi => by
  obtain ⟨a1, a2, a3, _⟩ := hg i hi
  obtain ⟨b1, b2, b3⟩ := hh i hi
  exact ⟨by rw [a1, b1], by rw [a2, b2], fun j hj => by rw [a3 j hj, b3 j (by rw [b2, ← a2]; exact hj)]⟩
theorem is_same {s : ByteArray} {n m : Nat} {x y : Nat → Ix} (hx : IxS (pcS s 0).body (fun i => (pcS s (i + 1)).at') n m x) (hy : IxS (pcS s 0).body (fun i => (pcS s (i + 1)).at') n m y) : ∀ k, k < m → x k = y k := fun i hi => by
  obtain ⟨a1, j, a2, a3, a4⟩ := hx i hi
  obtain ⟨b1, l, b2, b3, b4⟩ := hy i hi
  have a4' : (pcS s (j + 1)).at' = _ := a4
  have b4' : (pcS s (l + 1)).at' = _ := b4
  have hj : j = l := by
    rcases Nat.lt_trichotomy j l with q | q | q
    · have := pcs_at_lt s (show j + 1 < l + 1 by omega); omega
    · exact q
    · have := pcs_at_lt s (show l + 1 < j + 1 by omega); omega
  subst hj
  cases hx1 : x i with
  | mk a b =>
    cases hx2 : y i with
    | mk a' b' =>
      rw [hx1] at a1 a2
      rw [hx2] at b1 b2
      simp only at a1 a2 b1 b2
      rw [a1, a2, b1, b2]
set_option maxRecDepth 100000 in
set_option maxHeartbeats 8000000 in
/-- ArReads -/
theorem walk4 (A : Option Addr) (n c : Nat) (f : Nat → Nat) (w : World) (hB : Bz w A n f) (hn : n ≤ c) (hcm : c ≤ 9223372036854775807) (hc : n ≤ 1048576) (hf : ∀ j, j < n → f j < 256) (hg : Gl w) : Calls Tryz.prog 4 #[.slice A n c] w fun e w' => e = .returned (.bool true) ∧ Below w.heap.size w w' := by
  have K12 := Lib.hid (c12 A n c f w (by omega) hB.rd)
  have K11 : Hid (∀ w1, Below w.heap.size w w1 → Calls Tryz.prog 11 #[] w1 fun e w' => e = .returned (.bool true) ∧ Below w1.heap.size w1 w') := Lib.hid (fun w1 h => c11 w1 (hg.below h))
  have hsz := strN_size f n
  have hcong : strN (wideF n f) n = strN f n := strN_congr (fun k hk => by unfold wideF; rw [if_pos hk])
  have K14 : Hid (∀ w1, Below w.heap.size w w1 → Calls Tryz.prog 14 #[.slice A n c] w1 (RefOut (strN f n) w1)) := Lib.hid (fun w1 h => by
    have := c14 A c (strN f n) w1 (by
      rw [hsz]
      intro h0
      obtain ⟨b, o, e, hl, hcl⟩ := hB.below h h0
      exact ⟨b, o, e, hl, fun k hk => ⟨bb_lt _ _, by rw [bb_strN f n k hk (hf k hk)]; exact (hcl k hk).2⟩⟩) (by rw [hsz]; exact hn) (by omega)
    rw [hsz] at this
    exact this)
  have K17 : Hid (∀ w1 g, Below w.heap.size w w1 → w1.rowIs g 5 (n + 3) (bV (wideF n f)) → Calls Tryz.prog 17 #[.slice (some ⟨g, 0, none⟩) n (n + 3), .slice A n c] w1 fun e w' => e = .returned (.bool true) ∧ Below w1.heap.size w1 w') := Lib.hid (fun w1 g h hr => c17 A g n c f w1 (by omega) (hB.below h).rd hf hr)
  have HG := Lib.hid hg
  have HW7 : Hid (∀ j, j < n → wideF n f j < 256) := Lib.hid (fun j hj => by unfold wideF; rw [if_pos hj]; exact hf j hj)
  have HCO := Lib.hid hcong
  clear hB hg hsz hcong hf
  go_enter Tryz.func4, Tryz.ntmps4
  go_wp2_with fail
  refine K12.out.mono ?_
  rintro _ w1 ⟨rfl, hb1, hr1⟩
  have HB1 := Lib.hid hb1
  have HR1 := Lib.hid hr1
  have K13 := Lib.hid (c13 (some ⟨w.heap.size, 0, none⟩) n (n + 3) (wideF n f) w1 ((row_rd hr1 (by omega)).bz HW7.out) (by omega) (HG.out.below hb1))
  rw [HCO.out] at K13
  clear hb1 hr1 K12 HCO HW7
  generalize strN f n = s at *
  generalize wideF n f = F at *
  obtain ⟨gw, hgw⟩ : ∃ gw, w.heap.size = gw := ⟨_, rfl⟩
  have HGW := Lib.hid hgw
  have HR2 : Hid (w1.rowIs gw 5 (n + 3) (bV F)) := Lib.hid (hgw ▸ HR1.out)
  have K13' : Hid (Calls Tryz.prog 13 #[.slice (some ⟨gw, 0, none⟩) n (n + 3)] w1 (ReadOut s w1)) := Lib.hid (hgw ▸ K13.out)
  rw [hgw]
  clear hgw K13 HR1
  go_wp2_with fail
  refine K13'.out.mono ?_
  rintro e1 w2 (⟨er, her, rfl, hb2⟩ | ⟨k, hgd, A1, c1, B1, d1, g, x, rfl, hms, hmm, his, hxs, hb2⟩)
  · have HW2 := Lib.hid hb2
    have HB2 : Hid (Below w.heap.size w w2) := Lib.hid (HB1.out.trans (hb2.mono HB1.out.size))
    have HER := Lib.hid her
    clear hb2 her
    go_wp2_with fail
    refine (K14.out _ HB2.out).mono ?_
    rintro e2 w3 (⟨er2, her2, rfl, hb3⟩ | ⟨k, hgd, _⟩)
    · have HW3 : Hid (Below w1.heap.size w1 w3) := Lib.hid (HW2.out.trans (hb3.mono HW2.out.size))
      have HB3 : Hid (Below w.heap.size w w3) := Lib.hid (HB2.out.trans (hb3.mono HB2.out.size))
      obtain rfl := err_uniq HER.out her2
      have K15 := Lib.hid (c15 none none 0 0 0 (fun _ => ⟨⟨#[]⟩, none, 0, 0, fun _ => 0⟩) (fun _ => ⟨⟨#[]⟩, none, 0, 0, fun _ => 0⟩) w3 (by decide) (fun h => absurd h (by decide)) (fun h => absurd h (by decide)) (fun k hk => absurd hk (by omega)))
      have K16 : Hid (∀ w1, Calls Tryz.prog 16 #[.slice none 0 0, .slice none 0 0] w1 fun e w' => e = .returned (.bool true) ∧ ∃ q, w' = w1.drewN q) := Lib.hid (fun w1 => c16 none none 0 0 0 (fun _ => ⟨⟨#[]⟩, 0⟩) (fun _ => ⟨⟨#[]⟩, 0⟩) w1 (by decide) (fun h => absurd h (by decide)) (fun h => absurd h (by decide)) (fun k hk => absurd hk (by omega)))
      clear hb3 her2
      go_wp2_with fail
      refine K15.out.mono ?_
      rintro _ _ ⟨rfl, q, rfl⟩
      go_wp2_with fail
      refine (K16.out _).mono ?_
      rintro _ w4 h16
      have HB4 : Hid (Below w.heap.size w w4) := Lib.hid (by obtain ⟨_, q4, rfl⟩ := h16; exact below_drewN (below_drewN HB3.out q) q4)
      have HW4 : Hid (Below w1.heap.size w1 w4) := Lib.hid (by obtain ⟨_, q4, rfl⟩ := h16; exact below_drewN (below_drewN HW3.out q) q4)
      obtain ⟨rfl, -⟩ := h16
      have K17b := Lib.hid (K17.out w4 gw HB4.out (rowIs_below HR2.out HW4.out HR2.out.lt))
      go_wp2_with fail
      refine K17b.out.mono ?_
      rintro _ w5 ⟨rfl, hb5⟩
      have HB5 : Hid (Below w.heap.size w w5) := Lib.hid (HB4.out.trans (hb5.mono HB4.out.size))
      clear hb5
      go_wp2_with fail
      refine (K11.out _ HB5.out).mono ?_
      rintro _ w6 ⟨rfl, hb6⟩
      have HB6 : Hid (Below w.heap.size w w6) := Lib.hid (HB5.out.trans (hb6.mono HB5.out.size))
      clear hb6
      go_wp2_with fail
      go_ret
      exact ⟨rfl, HB6.out⟩
    · exact absurd HER.out (fun q => read_not hgd q)
  · have HW2 := Lib.hid hb2
    have HB2 : Hid (Below w.heap.size w w2) := Lib.hid (HB1.out.trans (hb2.mono HB1.out.size))
    have HGD := Lib.hid hgd
    have HMS := Lib.hid hms
    have HMM := Lib.hid hmm
    have HIS := Lib.hid his
    have HXS := Lib.hid hxs
    obtain ⟨-, -, hcn, hkn, -⟩ := once_ok hgd hmm hxs
    clear hb2 hgd hms hmm his hxs
    go_wp2_with fail
    refine (K14.out _ HB2.out).mono ?_
    rintro e2 w3 (⟨er2, her2, rfl, hb3⟩ | ⟨k2, hgd2, A2, c2, B2, d2, h, y, rfl, hms2, hmm2, his2, hys, hb3⟩)
    · exact absurd her2 (fun q => read_not HGD.out q)
    · obtain rfl := read_uniq hgd2 HGD.out
      have HV3 := Lib.hid hb3
      have HW3 : Hid (Below w1.heap.size w1 w3) := Lib.hid (HW2.out.trans (hb3.mono HW2.out.size))
      have HB3 : Hid (Below w.heap.size w w3) := Lib.hid (HB2.out.trans (hb3.mono HB2.out.size))
      have HSM := Lib.hid (ms_same HMM.out hmm2)
      have HXY : Hid (∀ j, j < cntR s k2 → x j = y j) := Lib.hid (by
        by_cases h1 : ix1 s k2 = 1
        · exact is_same (HXS.out h1) (hys h1)
        · have hcn : cntR s k2 = 0 := by unfold cntR; rw [if_neg h1]
          intro j hj
          omega)
      have K15 := Lib.hid (c15 A1 A2 (k2 - ix1 s k2) c1 c2 g h w3 (by omega) (HMS.out.below hb3) hms2 HSM.out)
      have K16 := Lib.hid (c16 B1 B2 (cntR s k2) d1 d2 x y)
      have HIS2 := Lib.hid his2
      clear hb3 hms2 hmm2 his2 hys hgd2 HSM HMM HXS HGD
      generalize k2 - ix1 s k2 = n1 at *
      generalize cntR s k2 = m1 at *
      go_wp2_with fail
      refine K15.out.mono ?_
      rintro _ _ ⟨rfl, q, rfl⟩
      have HBQ : Hid (Below w3.heap.size w3 (w3.drewN q)) := Lib.hid (below_drewN (Below.refl _ _) q)
      have HBQ1 : Hid (Below w2.heap.size w2 (w3.drewN q)) := Lib.hid (below_drewN HV3.out q)
      go_wp2_with fail
      refine (K16.out _ (by omega) (HIS.out.below HBQ1.out) (HIS2.out.below HBQ.out) HXY.out).mono ?_
      rintro _ w4 h16
      have HB4 : Hid (Below w.heap.size w w4) := Lib.hid (by obtain ⟨_, q4, rfl⟩ := h16; exact below_drewN (below_drewN HB3.out q) q4)
      have HW4 : Hid (Below w1.heap.size w1 w4) := Lib.hid (by obtain ⟨_, q4, rfl⟩ := h16; exact below_drewN (below_drewN HW3.out q) q4)
      obtain ⟨rfl, -⟩ := h16
      have K17b := Lib.hid (K17.out w4 gw HB4.out (rowIs_below HR2.out HW4.out HR2.out.lt))
      go_wp2_with fail
      refine K17b.out.mono ?_
      rintro _ w5 ⟨rfl, hb5⟩
      have HB5 : Hid (Below w.heap.size w w5) := Lib.hid (HB4.out.trans (hb5.mono HB4.out.size))
      clear hb5
      go_wp2_with fail
      refine (K11.out _ HB5.out).mono ?_
      rintro _ w6 ⟨rfl, hb6⟩
      have HB6 : Hid (Below w.heap.size w w6) := Lib.hid (HB5.out.trans (hb6.mono HB5.out.size))
      clear hb6
      go_wp2_with fail
      go_ret
      exact ⟨rfl, HB6.out⟩
end Go.Proofs.YtgmifaadlaigdaaGreatDoor
