import Derived.Test.YtlomlgmajcdccaaDoorXl
namespace Go.Proofs.YtlomlgmajcdccaaDoor
open Go.ChangeShapes Go.WideShapes Go.ChangeAt Go.RowKit
set_option linter.unusedVariables false
def R6 (s : ByteArray) (w : World) (i : Value) (wr : World) : Prop := wr = w ∧ ∃ k : Nat, k ≤ s.size ∧ i = .int .i64 (k : Int) ∧ ∀ j, j < k → 32 ≤ bb s j ∧ bb s j ≤ 126
theorem str_list (t m : ByteArray) : (((⟨#[32]⟩ : ByteArray) ++ t) ++ ⟨#[35]⟩ ++ m).data.toList = 32 :: (t.data.toList ++ 35 :: m.data.toList) := by simp [ByteArray.data_append]
theorem str_list0 (t : ByteArray) : ((⟨#[32]⟩ : ByteArray) ++ t).data.toList = 32 :: (t.data.toList ++ []) := by simp [ByteArray.data_append]
theorem last_list (t : ByteArray) (m : Nat) (h : t.size = m + 1) (h10 : bb t m = 10) : ∃ T', t.data.toList = T' ++ [10] := by
  have hm : m < t.data.toList.length := by rw [list_len]; omega
  refine ⟨t.data.toList.take m, ?_⟩
  conv => lhs; rw [← List.take_append_drop m t.data.toList, List.drop_eq_getElem_cons hm]
  have h1 : t.data.toList[m] = 10 := UInt8.toNat_inj.1 (by rw [bb_list t m hm, h10]; rfl)
  rw [h1, List.drop_eq_nil_of_le (by rw [list_len]; omega)]
theorem reads_same {g g' : Nat → Wl} {R : List (Nat × List ByteArray)} (h : Reads g R) (h' : Reads g' R) : AlikeW R.length g g' := fun k hk => by
  obtain ⟨_, h2, h3⟩ := reads_alike h h' k hk
  exact ⟨h2, fun j _ => h3 j⟩
set_option maxRecDepth 100000 in
set_option maxHeartbeats 8000000 in
theorem walk6 (t m : ByteArray) (ht : t.size ≤ 1048576) (hm : m.size ≤ 1048576) (w : World) (hg : Gl w) :
    Calls Tryd.prog 6 #[.string t, .string m] w fun e w' => e = .returned (.bool true) ∧ Below w.heap.size w w' := by
  have HG := Lib.hid hg
  have K8 := Lib.hid (k8 t (by omega))
  unfold PW at K8
  have hn := rdV_len t
  have HK0 : Hid (rdE t = 0 → ∀ w : World, Gl w → Calls Tryd.prog 8 #[.string ((⟨#[32]⟩ : ByteArray) ++ t)] w fun e w' => PS (rdV t) w e w') :=
    Lib.hid fun h w hG => k8s t _ [] h (str_list0 t) (Or.inl rfl) (by rw [ByteArray.size_append]; show 1 + _ ≤ _; omega) w hG
  have HK1 : Hid (rdE t = 0 → (∃ T', t.data.toList = T' ++ [10]) → (∀ j, j < m.size → 32 ≤ bb m j ∧ bb m j ≤ 126) → ∀ w : World, Gl w → Calls Tryd.prog 8 #[.string (((⟨#[32]⟩ : ByteArray) ++ t) ++ ⟨#[35]⟩ ++ m)] w fun e w' => PS (rdV t) w e w') :=
    Lib.hid fun h hT hM w hG => k8s t _ (35 :: m.data.toList) h (str_list t m) (Or.inr ⟨hT, _, rfl, fun b hb => by
      obtain ⟨j, hj, rfl⟩ := List.getElem_of_mem hb
      rw [bb_list m j hj]
      exact hM j hj⟩) (by rw [ByteArray.size_append, ByteArray.size_append, ByteArray.size_append]; show 1 + _ + 1 + _ ≤ _; omega) w hG
  clear hg
  obtain ⟨er, her⟩ : ∃ er, rdE t = er := ⟨_, rfl⟩
  rw [her] at K8 HK0 HK1
  clear her
  generalize rdV t = R at *
  by_cases h0 : er = 0
  · have b0 : ((er : Int) != 0) = false := by rw [h0]; rfl
    have KK0 := Lib.hid (HK0.out h0)
    have KK1 := Lib.hid (HK1.out h0)
    clear h0
    go_enter Tryd.func6, Tryd.ntmps6
    go_wp2_with fail
    refine (K8.out _ HG.out).mono ?_
    rintro _ w1 ⟨A1, c1, g1, rfl, hw1, hr1, -, b1⟩
    have HW1 := Lib.hid hw1
    have HR1 := Lib.hid hr1
    have HB1 := Lib.hid b1
    clear hw1 hr1 b1
    go_wp2_with fail
    go_loopw [7] (fun i wr => R6 m w1 i wr) (fun i _ => m.size - (intOf i).toNat)
    case atStart => exact ⟨rfl, 0, by omega, rfl, fun i hi => absurd hi (by omega)⟩
    case round =>
      obtain ⟨rfl, k, hk, rfl, hin⟩ := hrel
      have HIN := Lib.hid hin
      clear hin
      by_cases hlt : k < m.size
      · have he : (m[k]'hlt).toNat = bb m k := (bb_eq m k hlt).symm
        have HLT := Lib.hid hlt
        by_cases hok : 32 ≤ bb m k ∧ bb m k ≤ 126
        · have HS : Hid (∀ i, i < k + 1 → 32 ≤ bb m i ∧ bb m i ≤ 126) := Lib.hid fun i hi => by
            by_cases e : i = k
            · rw [e]; exact hok
            · exact HIN.out i (by omega)
          have b2 : decide ((bb m k : Int) < 32) = false := by simp; omega
          have b3 : decide ((126 : Int) < (bb m k : Int)) = false := by simp; omega
          clear hok
          generalize bb m k = v at *
          go_wp2_with fail
          go_roundw
          case rel => exact ⟨rfl, k + 1, HLT.out, by go_num, HS.out⟩
          case measure => simp [intOf]; have := HLT.out; omega
        · have hT : decide ((bb m k : Int) < 32) = true ∨ (decide ((bb m k : Int) < 32) = false ∧ decide ((126 : Int) < (bb m k : Int)) = true) := by
            by_cases h : bb m k < 32
            · exact Or.inl (by simp; omega)
            · exact Or.inr ⟨by simp; omega, by simp; omega⟩
          clear hok
          generalize bb m k = v at *
          rcases hT with b2 | ⟨b2, b3⟩
          all_goals
            go_wp2_with fail
            refine (c13 _ (HG.out.below HB1.out)).mono ?_
            rintro _ w6 ⟨rfl, b7⟩
            have HB6 := Lib.hid (HB1.out.trans (b7.mono HB1.out.size))
            clear b7
            go_wp2_with fail
            go_ret
            exact ⟨rfl, HB6.out⟩
      · have HM : Hid (∀ j, j < m.size → 32 ≤ bb m j ∧ bb m j ≤ 126) := Lib.hid fun j hj => HIN.out j (by omega)
        have hcase : (∃ K : Hid (∀ w : World, Gl w → Calls Tryd.prog 8 #[.string (((⟨#[32]⟩ : ByteArray) ++ t) ++ ⟨#[35]⟩ ++ m)] w fun e w' => PS R w e w'), ∃ (p : Nat) (h : p < t.size), t.size = p + 1 ∧ (t[p]'h).toNat = 10) ∨
            (∃ K : Hid (∀ w : World, Gl w → Calls Tryd.prog 8 #[.string ((⟨#[32]⟩ : ByteArray) ++ t)] w fun e w' => PS R w e w'), t.size = 0 ∨ ∃ (p : Nat) (h : p < t.size) (v : Nat), t.size = p + 1 ∧ (t[p]'h).toNat = v ∧ ((v : Int) == 10) = false) := by
          by_cases hz : t.size = 0
          · exact Or.inr ⟨KK0, Or.inl hz⟩
          · have hp : t.size - 1 < t.size := by omega
            by_cases h10 : bb t (t.size - 1) = 10
            · exact Or.inl ⟨Lib.hid (KK1.out (last_list t _ (by omega) h10) HM.out), t.size - 1, hp, by omega, by rw [← bb_eq t _ hp]; exact h10⟩
            · exact Or.inr ⟨KK0, Or.inr ⟨t.size - 1, hp, _, by omega, rfl, by rw [← bb_eq t _ hp]; simp; omega⟩⟩
        clear KK0 KK1 HK0 HK1 K8 HIN
        have z1 : ((⟨#[32]⟩ : ByteArray) ++ t).size ≤ 16777216 := by rw [ByteArray.size_append]; show 1 + _ ≤ _; omega
        have z2 : ((⟨#[32]⟩ : ByteArray) ++ t ++ ⟨#[35]⟩).size ≤ 16777216 := by rw [ByteArray.size_append, ByteArray.size_append]; show 1 + _ + 1 ≤ _; omega
        rcases hcase with ⟨K, p, hp, hsz, h10⟩ | ⟨K, hz | ⟨p, hp, v, hsz, hv, b10⟩⟩
        · go_wp2_with fail
          unfold PS at K
          refine (K.out _ (HG.out.below HB1.out)).mono ?_
          rintro _ w5 (⟨A5, n5, c5, rfl, b5⟩ | ⟨A5, c5, g5, rfl, hw5, hr5, b5⟩)
          · have HB5 := Lib.hid (HB1.out.trans (b5.mono HB1.out.size))
            clear b5
            go_wp2_with fail
            refine (c13 _ (HG.out.below HB5.out)).mono ?_
            rintro _ w6 ⟨rfl, b7⟩
            have HB6 := Lib.hid (HB5.out.trans (b7.mono HB5.out.size))
            clear b7
            go_wp2_with fail
            go_ret
            exact ⟨rfl, HB6.out⟩
          · have K16 := Lib.hid (c16 A1 A5 R.length c1 c5 g1 g5 w5 (by omega) (HW1.out.below b5) hw5 (reads_same HR1.out hr5))
            have HB5 := Lib.hid (HB1.out.trans (b5.mono HB1.out.size))
            clear b5 hw5 hr5
            go_wp2_with fail
            refine (K16.out).mono ?_
            rintro _ w7 ⟨rfl, q7, rfl⟩
            have HB7 := Lib.hid (below_drewN HB5.out q7)
            go_wp2_with fail
            refine (c13 _ (HG.out.below HB7.out)).mono ?_
            rintro _ w8 ⟨rfl, b8⟩
            have HB8 := Lib.hid (HB7.out.trans (b8.mono HB7.out.size))
            clear b8
            go_wp2_with fail
            go_ret
            exact ⟨rfl, HB8.out⟩
        · have hz0 : ¬ 0 < t.size := by omega
          go_wp2_with fail
          unfold PS at K
          refine (K.out _ (HG.out.below HB1.out)).mono ?_
          rintro _ w5 (⟨A5, n5, c5, rfl, b5⟩ | ⟨A5, c5, g5, rfl, hw5, hr5, b5⟩)
          · have HB5 := Lib.hid (HB1.out.trans (b5.mono HB1.out.size))
            clear b5
            go_wp2_with fail
            refine (c13 _ (HG.out.below HB5.out)).mono ?_
            rintro _ w6 ⟨rfl, b7⟩
            have HB6 := Lib.hid (HB5.out.trans (b7.mono HB5.out.size))
            clear b7
            go_wp2_with fail
            go_ret
            exact ⟨rfl, HB6.out⟩
          · have K16 := Lib.hid (c16 A1 A5 R.length c1 c5 g1 g5 w5 (by omega) (HW1.out.below b5) hw5 (reads_same HR1.out hr5))
            have HB5 := Lib.hid (HB1.out.trans (b5.mono HB1.out.size))
            clear b5 hw5 hr5
            go_wp2_with fail
            refine (K16.out).mono ?_
            rintro _ w7 ⟨rfl, q7, rfl⟩
            have HB7 := Lib.hid (below_drewN HB5.out q7)
            go_wp2_with fail
            refine (c13 _ (HG.out.below HB7.out)).mono ?_
            rintro _ w8 ⟨rfl, b8⟩
            have HB8 := Lib.hid (HB7.out.trans (b8.mono HB7.out.size))
            clear b8
            go_wp2_with fail
            go_ret
            exact ⟨rfl, HB8.out⟩
        · go_wp2_with fail
          unfold PS at K
          refine (K.out _ (HG.out.below HB1.out)).mono ?_
          rintro _ w5 (⟨A5, n5, c5, rfl, b5⟩ | ⟨A5, c5, g5, rfl, hw5, hr5, b5⟩)
          · have HB5 := Lib.hid (HB1.out.trans (b5.mono HB1.out.size))
            clear b5
            go_wp2_with fail
            refine (c13 _ (HG.out.below HB5.out)).mono ?_
            rintro _ w6 ⟨rfl, b7⟩
            have HB6 := Lib.hid (HB5.out.trans (b7.mono HB5.out.size))
            clear b7
            go_wp2_with fail
            go_ret
            exact ⟨rfl, HB6.out⟩
          · have K16 := Lib.hid (c16 A1 A5 R.length c1 c5 g1 g5 w5 (by omega) (HW1.out.below b5) hw5 (reads_same HR1.out hr5))
            have HB5 := Lib.hid (HB1.out.trans (b5.mono HB1.out.size))
            clear b5 hw5 hr5
            go_wp2_with fail
            refine (K16.out).mono ?_
            rintro _ w7 ⟨rfl, q7, rfl⟩
            have HB7 := Lib.hid (below_drewN HB5.out q7)
            go_wp2_with fail
            refine (c13 _ (HG.out.below HB7.out)).mono ?_
            rintro _ w8 ⟨rfl, b8⟩
            have HB8 := Lib.hid (HB7.out.trans (b8.mono HB7.out.size))
            clear b8
            go_wp2_with fail
            go_ret
            exact ⟨rfl, HB8.out⟩
  · have b0 : ((er : Int) != 0) = true := by simp; omega
    clear h0
    go_enter Tryd.func6, Tryd.ntmps6
    go_wp2_with fail
    refine (K8.out _ HG.out).mono ?_
    rintro _ w1 ⟨A1, c1, g1, rfl, -, -, -, b1⟩
    have HB1 := Lib.hid b1
    clear b1
    go_wp2_with fail
    refine (c13 _ (HG.out.below HB1.out)).mono ?_
    rintro _ w6 ⟨rfl, b7⟩
    have HB6 := Lib.hid (HB1.out.trans (b7.mono HB1.out.size))
    clear b7
    go_wp2_with fail
    go_ret
    exact ⟨rfl, HB6.out⟩
end Go.Proofs.YtlomlgmajcdccaaDoor
