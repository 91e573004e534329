import Derived.Test.YtgmifaadlaigdaaGreatDoorXa
import Derived.Test.YtgmifaadlaigdaaGreatDoorQi
namespace Go.Proofs.YtgmifaadlaigdaaGreatDoor
open Go.ChangeShapes Go.WideShapes Go.ChangeAt Go.RowKit
set_option linter.unusedVariables false
/-- parts in memory: names, places, slices -/
def Rs (w : World) (A : Option Addr) (n : Nat) (nm : Nat → ByteArray) (P : Nat → Nat) (sl : Nat → Value) : Prop := 0 < n → ∃ b o, A = some ⟨b, o, none⟩ ∧ b < w.heap.size ∧
  ∀ k, k < n → w.cell? ⟨b, o + k * 3, none⟩ = some (.string (nm k)) ∧ w.cell? ⟨b, o + k * 3 + 1, none⟩ = some (.int .i64 (P k : Int)) ∧ w.cell? ⟨b, o + k * 3 + 2, none⟩ = some (sl k) ∧ (nm k).size ≤ 65536 ∧ P k ≤ 65536
theorem rs_below {w w' : World} {A : Option Addr} {n : Nat} {nm : Nat → ByteArray} {P : Nat → Nat} {sl : Nat → Value} (h : Rs w A n nm P sl) (hb : Below w.heap.size w w') : Rs w' A n nm P sl := fun h0 => by
  obtain ⟨b, o, e, hl, hc⟩ := h h0
  have z : ∀ j, w'.cell? ⟨b, j, none⟩ = w.cell? ⟨b, j, none⟩ := fun j => hb.cell (p := ⟨b, j, none⟩) hl
  refine ⟨b, o, e, Nat.lt_of_lt_of_le hl hb.size, fun k hk => ?_⟩
  obtain ⟨h1, h2, h3, h4⟩ := hc k hk
  exact ⟨by rw [z]; exact h1, by rw [z]; exact h2, by rw [z]; exact h3, h4⟩
def R37 (w : World) (t : ByteArray) (P : Nat → Nat) (n C : Nat) (v a i : Value) (wr : World) : Prop := ∃ (k : Nat) (mf : Nat → Nat), k ≤ C ∧ i = .int .i64 (k : Int) ∧ a = .int .i64 (np (bb t) t.size k : Int) ∧
  IdxOk (bb t) t.size P n k ∧ wr.ownsRow w.heap.size 58 2 v k (icC t mf k) ∧ (∀ i, i < k → mf i < n ∧ P (mf i) = bigN (bb t) (4 + 4 * i)) ∧ Below w.heap.size w wr
/-- the name so far -/
def R37s (t : ByteArray) (p0 : Nat) (W0 : World) (a s : Value) (wr : World) : Prop := ∃ p : Nat, p0 ≤ p ∧ p ≤ t.size ∧ a = .int .i64 (p : Int) ∧ s = .string (strN (fun j => bb t (p0 + j)) (p - p0)) ∧ (∀ q, p0 ≤ q → q < p → bb t q ≠ 0) ∧ Below W0.heap.size W0 wr
/-- the place so far -/
def R37k (P : Nat → Nat) (n a : Nat) (W0 : World) (kv i : Value) (wr : World) : Prop := ∃ j : Nat, j ≤ n ∧ i = .int .i64 (j : Int) ∧ ((kv = .int .i64 (-1) ∧ ∀ x, x < j → P x ≠ a) ∨ ∃ m : Nat, m < j ∧ kv = .int .i64 (m : Int) ∧ P m = a) ∧ Below W0.heap.size W0 wr
theorem strN_succ (f : Nat → Nat) (m : Nat) : strN f (m + 1) = strN f m ++ ⟨#[UInt8.ofNat (f m)]⟩ := by
  apply ba_eq
  rw [ByteArray.toList_data_append]
  show ((List.range (m + 1)).map fun k => UInt8.ofNat (f k)).toArray.toList = ((List.range m).map fun k => UInt8.ofNat (f k)).toArray.toList ++ [UInt8.ofNat (f m)]
  simp [List.range_succ]
set_option maxRecDepth 100000 in
set_option maxHeartbeats 8000000 in
theorem c37 (A B : Option Addr) (c n d : Nat) (t : ByteArray) (nm : Nat → ByteArray) (P : Nat → Nat) (sl : Nat → Value) (w : World) (hA : Bz w A t.size (bb t)) (ht : t.size ≤ 65536) (hc : t.size ≤ c) (hR : Rs w B n nm P sl) (hn : n ≤ 65536) :
    Calls Tryz.prog 37 #[.slice A t.size c, .slice B n d] w (RowsOut t P n w) := by
  have HA := Lib.hid hA
  have HR := Lib.hid hR
  clear hA hR
  obtain ⟨i0, hi, hz⟩ : ∃ i, Tryz.prog.info? 58 = some i ∧ (i.zero, i.size, i.bytes) = (some (.agg #[.string ⟨#[]⟩, .int .i64 0]), 2, 24) := by
    have h : (Tryz.prog.info? 58).map (fun i => (i.zero, i.size, i.bytes)) = some (some (.agg #[.string ⟨#[]⟩, .int .i64 0]), 2, 24) := by kernel_rfl
    cases hq : Tryz.prog.info? 58 with
    | none => rw [hq] at h; cases h
    | some i => rw [hq] at h; exact ⟨i, rfl, by simpa using h⟩
  simp only [Prod.mk.injEq] at hz
  obtain ⟨hz0, hz1, hz2⟩ := hz
  have HI := Lib.hid hi
  have HZ0 := Lib.hid hz0
  have HZ1 := Lib.hid hz1
  have HZ2 := Lib.hid hz2
  clear hi hz0 hz1 hz2
  by_cases h4 : 4 ≤ t.size
  · obtain ⟨b, o, rfl, hb⟩ := HA.out (by omega)
    have HBS := Lib.hid hb
    clear hb
    have HBG : Hid (bigN (bb t) 0 < 4294967296) := Lib.hid (by
      unfold bigN
      have := bb_lt t 0; have := bb_lt t (0 + 1); have := bb_lt t (0 + 2); have := bb_lt t (0 + 3)
      omega)
    have K59 := Lib.hid (c59 b o t.size c 0 (bb t) w HBS.out (by omega) (by omega))
    have hbg := HBG.out
    obtain ⟨C, hC⟩ : ∃ C, bigN (bb t) 0 = C := ⟨_, rfl⟩
    have HC := Lib.hid hC
    rw [hC] at K59 hbg
    clear hC
    obtain ⟨Q, hQ⟩ : ∃ Q : Nat, ((t.size : Int) - 4).tdiv 4 = (Q : Int) := ⟨(t.size - 4) / 4, by rw [show ((t.size : Int) - 4) = ((t.size - 4 : Nat) : Int) by omega]; rfl⟩
    have hQ2 : Q = (t.size - 4) / 4 := by
      rw [show ((t.size : Int) - 4) = ((t.size - 4 : Nat) : Int) by omega] at hQ
      have : ((t.size - 4 : Nat) : Int).tdiv 4 = (((t.size - 4) / 4 : Nat) : Int) := rfl
      omega
    have hq6 : Q ≤ 16384 := by omega
    have HQ2 := Lib.hid hQ2
    clear hQ2
    by_cases hcnt : C ≤ Q
    · have HCN : Hid (Cnt (bb t) t.size) := Lib.hid ⟨h4, by rw [HC.out]; have := HQ2.out; omega⟩
      have hC16 : C ≤ 16384 := by have := HQ2.out; omega
      have hqc : decide (Q < C) = false := by rw [decide_eq_false_iff_not]; omega
      go_enter Tryz.func37, Tryz.ntmps37
      go_wp2_with fail
      refine (K59.out).mono ?_
      rintro _ _ ⟨rfl, q, rfl⟩
      have HB1 : Hid (Below w.heap.size w (w.drewN q)) := Lib.hid (below_drewN (Below.refl _ _) q)
      go_wp2_with fail
      go_loopw [7, 8, 9] (fun v a i wr => R37 w t P n C v a i wr) (fun _ _ i _ => C - (intOf i).toNat)
      case atStart => exact ⟨0, fun _ => 0, Nat.zero_le _, rfl, by rw [np, HC.out]; go_num, fun i hi => absurd hi (by omega), World.ownsRow_nil _ _ _ _, fun i hi => absurd hi (by omega), HB1.out⟩
      case round =>
        obtain ⟨k, mf, hk, rfl, rfl, hix, ho, hmf, hb⟩ := hrel
        have HO := Lib.hid ho
        have HIX := Lib.hid hix
        have HMF := Lib.hid hmf
        have HBW := Lib.hid hb
        clear ho hix hmf hb
        obtain ⟨W0, rfl⟩ : ∃ W0, W0 = wr := ⟨_, rfl⟩
        by_cases hlt : k < C
        · have HLT := Lib.hid hlt
          have hk16 : k ≤ 16384 := by omega
          have hnp := np_le HCN.out k HIX.out
          have HNI : Hid (¬ IdxOk (bb t) t.size P n (k + 1) → ¬ (Cnt (bb t) t.size ∧ IdxOk (bb t) t.size P n (bigN (bb t) 0))) := Lib.hid (fun h q => h (fun i hi => q.2 i (by rw [HC.out]; omega)))
          have HST : Hid ((np (bb t) t.size k < zN (bb t) t.size (np (bb t) t.size k) ∧ zN (bb t) t.size (np (bb t) t.size k) < t.size) → (∃ j, j < n ∧ P j = bigN (bb t) (4 + 4 * k)) → IdxOk (bb t) t.size P n (k + 1)) := Lib.hid (fun h1 h2 => idx_step.mpr ⟨HIX.out, h1, h2⟩)
          have HSB : Hid (IdxOk (bb t) t.size P n (k + 1) → (np (bb t) t.size k < zN (bb t) t.size (np (bb t) t.size k) ∧ zN (bb t) t.size (np (bb t) t.size k) < t.size) ∧ ∃ j, j < n ∧ P j = bigN (bb t) (4 + 4 * k)) := Lib.hid (fun h => (idx_step.mp h).2)
          have HNP1 : Hid (np (bb t) t.size (k + 1) = zN (bb t) t.size (np (bb t) t.size k) + 1) := Lib.hid rfl
          have HZE : Hid (∀ z, np (bb t) t.size k ≤ z → z ≤ t.size → (∀ p, np (bb t) t.size k ≤ p → p < z → bb t p ≠ 0) → (z < t.size → bb t z = 0) → zN (bb t) t.size (np (bb t) t.size k) = z) := Lib.hid (fun z h1 h2 h3 h4 => zN_eq h1 h2 h3 h4)
          have HCC : Hid (∀ mf, icC t mf (k + 1) = icC t mf k ++ [.string (t.extract (np (bb t) t.size k) (zN (bb t) t.size (np (bb t) t.size k))), .int .i64 (mf k : Int)]) := Lib.hid (fun _ => rfl)
          have HCL : Hid (∀ W' i, Below w.heap.size w W' → i < t.size → W'.cell? ⟨b, o + i, none⟩ = some (.int .u8 (bb t i : Int))) := Lib.hid (fun W' i hb hi => (hb.cell (p := ⟨b, o + i, none⟩) HBS.out.1).trans (HBS.out.2 i hi).2)
          have HBT : Hid (∀ W', Below W0.heap.size W0 W' → Below w.heap.size w W') := Lib.hid (fun W' hb => HBW.out.trans (hb.mono HBW.out.size))
          have K59' : Hid (∀ W', Below w.heap.size w W' → Calls Tryz.prog 59 #[.slice (some ⟨b, o, none⟩) t.size c, .int .i64 (4 + 4 * (k : Int))] W' fun e w' => e = .returned (.int .i64 (bigN (bb t) (4 + 4 * k) : Int)) ∧ ∃ q, w' = W'.drewN q) := Lib.hid (fun W' hb => by
            have h := c59 b o t.size c (4 + 4 * k) (bb t) W' (HBS.out.below hb) (by omega) (by have := HQ2.out; omega)
            have e : (((4 + 4 * k : Nat)) : Int) = 4 + 4 * (k : Int) := by omega
            rw [e] at h
            exact h)
          obtain ⟨a, ha⟩ : ∃ a, bigN (bb t) (4 + 4 * k) = a := ⟨_, rfl⟩
          have HAA := Lib.hid ha
          rw [ha] at K59' HST HSB
          clear ha
          obtain ⟨p0, hp0⟩ : ∃ p0, np (bb t) t.size k = p0 := ⟨_, rfl⟩
          rw [hp0] at hnp HST HSB HNP1 HZE HCC
          rw [hp0]
          clear hp0
          obtain ⟨zz, hzz⟩ : ∃ zz, zN (bb t) t.size p0 = zz := ⟨_, rfl⟩
          rw [hzz] at HST HSB HNP1 HZE HCC
          clear hzz
          go_wp2_with fail
          go_loopw [8, 10] (fun a s wr => R37s t p0 W0 a s wr) (fun a _ _ => t.size - (intOf a).toNat)
          case atStart => exact ⟨p0, Nat.le_refl _, hnp, rfl, by rw [Nat.sub_self]; rfl, fun q h1 h2 => absurd h2 (by omega), Below.refl _ _⟩
          case round =>
            obtain ⟨p, hp1, hp2, rfl, rfl, hnz, hb2⟩ := hrel
            have HNZ := Lib.hid hnz
            have HB2 := Lib.hid hb2
            have HBV : Hid (Below w.heap.size w wr) := Lib.hid (HBT.out _ hb2)
            clear hnz hb2
            have hus : (strN (fun j => bb t (p0 + j)) (p - p0)).size = p - p0 := strN_size _ _
            have HSS : Hid (strN (fun j => bb t (p0 + j)) (p + 1 - p0) = strN (fun j => bb t (p0 + j)) (p - p0) ++ ⟨#[UInt8.ofNat (bb t p)]⟩) := Lib.hid (by
              have e : p + 1 - p0 = (p - p0) + 1 := by omega
              rw [e, strN_succ]
              have e2 : p0 + (p - p0) = p := by omega
              show _ ++ (⟨#[UInt8.ofNat (bb t (p0 + (p - p0)))]⟩ : ByteArray) = _
              rw [e2])
            have HEX : Hid (t.extract p0 p = strN (fun j => bb t (p0 + j)) (p - p0)) := Lib.hid (by
              have h := ext_str t p0 (p - p0) (by omega)
              have e : p0 + (p - p0) = p := by omega
              rw [e] at h
              exact h)
            have HEM := Lib.hid (empty_size (strN (fun j => bb t (p0 + j)) (p - p0)))
            rw [hus] at HEM
            obtain ⟨u, hu⟩ : ∃ u, strN (fun j => bb t (p0 + j)) (p - p0) = u := ⟨_, rfl⟩
            rw [hu] at hus HSS HEX HEM
            rw [hu]
            clear hu
            have hu6 : u.size ≤ 65536 := by omega
            have HUS := Lib.hid hus
            clear hus
            by_cases hpt : p < t.size
            · have x := HCL.out wr p HBV.out hpt
              by_cases hz : bb t p = 0
              · have HZZ : Hid (zz = p) := Lib.hid (HZE.out p hp1 (by omega) HNZ.out (fun _ => hz))
                rw [hz] at x
                have HPT := Lib.hid hpt
                clear hz HSS
                by_cases he : p = p0
                · have hem : (u.toList == []) = true := by rw [HEM.out, decide_eq_true (show p - p0 = 0 by omega)]
                  have HNO : Hid (¬ (Cnt (bb t) t.size ∧ IdxOk (bb t) t.size P n (bigN (bb t) 0))) := Lib.hid (HNI.out (fun h => by
                    have := (HSB.out h).1.1
                    have := HZZ.out
                    omega))
                  clear he
                  go_wp2_with fail
                  go_ret2
                  exact Or.inl ⟨HNO.out, rfl, HBV.out⟩
                · have hem : (u.toList == []) = false := by rw [HEM.out, decide_eq_false (show ¬ p - p0 = 0 by omega)]
                  have HPP : Hid (p0 < p) := Lib.hid (by omega)
                  clear he
                  go_wp2_with fail
                  obtain ⟨W2, rfl⟩ : ∃ W2, W2 = wr := ⟨_, rfl⟩
                  have hp6 : p + 1 ≤ 65537 := by omega
                  go_loopw [11, 12] (fun kv i wr => R37k P n a W2 kv i wr) (fun _ i _ => n - (intOf i).toNat)
                  case atStart => exact ⟨0, Nat.zero_le _, rfl, Or.inl ⟨rfl, fun x hx => absurd hx (by omega)⟩, Below.refl _ _⟩
                  case round =>
                    obtain ⟨j, hj, rfl, hkv, hb3⟩ := hrel
                    have HB3 := Lib.hid hb3
                    have HBX : Hid (Below W0.heap.size W0 wr) := Lib.hid (HB2.out.trans (hb3.mono HB2.out.size))
                    have HBY : Hid (Below w.heap.size w wr) := Lib.hid (HBV.out.trans (hb3.mono HBV.out.size))
                    have HKV := Lib.hid hkv
                    clear hb3 hkv
                    by_cases hjn : j < n
                    · obtain ⟨b', o', rfl, hl', hc'⟩ := HR.out (by omega)
                      obtain ⟨-, q1, -, z1, z2⟩ := hc' j hjn
                      have x1 := (HBY.out.cell (p := ⟨b', o' + j * 3 + 1, none⟩) hl').trans q1
                      have K := Lib.hid (K59'.out)
                      have HJN := Lib.hid hjn
                      have hx0 : ∀ q, (wr.drewN q).cell? ⟨b', o' + j * 3 + 1, none⟩ = some (.int .i64 (P j : Int)) := fun q => ((below_drewN (Below.refl wr.heap.size wr) q).cell (p := ⟨b', o' + j * 3 + 1, none⟩) (Nat.lt_of_lt_of_le hl' HBY.out.size)).trans x1
                      have hw1 : IntKind.i64.wrap (4 * (k : Int)) = 4 * (k : Int) := IntWalk.i64_in _ (by omega)
                      have hw2 : IntKind.i64.wrap (4 + 4 * (k : Int)) = 4 + 4 * (k : Int) := IntWalk.i64_in _ (by omega)
                      clear hc' q1
                      have hwr := HBY.out.size
                      by_cases hpj : P j = a
                      · have b2 : ((P j : Int) == (a : Int)) = true := by rw [beq_iff_eq]; omega
                        have HPJ := Lib.hid hpj
                        obtain ⟨pj, hpjv⟩ : ∃ pj, P j = pj := ⟨_, rfl⟩
                        rw [hpjv] at b2 x1 hx0
                        clear hpj hpjv z2
                        go_wp2_with fail
                        go_quiet ((go_at_call 59; exact Calls.quiet_of (K59'.out _ (below_drewN HBY.out _))))
                        go_wp2_with fail
                        go_roundw
                        case rel => exact ⟨j + 1, HJN.out, by go_num, Or.inr ⟨j, Nat.lt_succ_self j, rfl, HPJ.out⟩, below_drewN HB3.out _⟩
                        case measure => simp [intOf]; have := HJN.out; omega
                      · have b2 : ((P j : Int) == (a : Int)) = false := by rw [beq_eq_false_iff_ne]; omega
                        have HPJ := Lib.hid hpj
                        obtain ⟨pj, hpjv⟩ : ∃ pj, P j = pj := ⟨_, rfl⟩
                        rw [hpjv] at b2 x1 hx0
                        clear hpj hpjv z2
                        go_wp2_with fail
                        go_quiet ((go_at_call 59; exact Calls.quiet_of (K59'.out _ (below_drewN HBY.out _))))
                        go_wp2_with fail
                        go_roundw
                        case rel => exact ⟨j + 1, HJN.out, by go_num, by
                          rcases HKV.out with ⟨h1, h2⟩ | ⟨m, h1, h2, h3⟩
                          · exact Or.inl ⟨h1, fun x hx => by
                              by_cases e : x = j
                              · rw [e]; exact HPJ.out
                              · exact h2 x (by omega)⟩
                          · exact Or.inr ⟨m, by omega, h2, h3⟩, below_drewN HB3.out _⟩
                        case measure => simp [intOf]; have := HJN.out; omega
                    · obtain rfl : j = n := by omega
                      rcases HKV.out with ⟨rfl, hno⟩ | ⟨m, hm, rfl, hpm⟩
                      · have HNO : Hid (¬ (Cnt (bb t) t.size ∧ IdxOk (bb t) t.size P j (bigN (bb t) 0))) := Lib.hid (HNI.out (fun h => by
                          obtain ⟨_, x, h1, h2⟩ := HSB.out h
                          exact hno x h1 h2))
                        clear hno
                        go_wp2_with fail
                        go_ret2
                        exact Or.inl ⟨HNO.out, rfl, HBY.out⟩
                      · have HPM := Lib.hid hpm
                        have HMJ := Lib.hid hm
                        have HOK1 : Hid (IdxOk (bb t) t.size P j (k + 1)) := Lib.hid (HST.out ⟨by rw [HZZ.out]; exact HPP.out, by rw [HZZ.out]; exact HPT.out⟩ ⟨m, hm, hpm⟩)
                        have HO4 := Lib.hid (own_below HO.out HBX.out)
                        have hzw := HBY.out.size
                        clear hpm
                        go_wp2_with (at_builtin; refine wpList_append_own _ rfl _ _ 23 rfl w.heap.size 58 i0 (.agg #[.string ⟨#[]⟩, .int .i64 0]) 2 24 Tryz.underlying23 HI.out HZ0.out HZ1.out HZ2.out rfl (by decide) _ _ _ rfl (HO4.out.alloc _) ⟨wr.heap.size, 0, none⟩ 1 1 [.string u, .int .i64 (m : Int)] rfl rfl (l_cells wr wr.heap.size rfl [.string u, .int .i64 (m : Int)] 58) (fun y hy => by simp at hy; rcases hy with rfl | rfl <;> rfl) (by unfold maxLen; omega) (by omega) (by simp; omega) ?_)
                        intro v' w5 hown5 hgrow5 _
                        all_goals
                          have HO5 : Hid (w5.ownsRow w.heap.size 58 2 v' (k + 1) (icC t (fun x => if x = k then m else mf x) (k + 1))) := Lib.hid (by
                            rw [HCC.out, icC_congr (b := mf) (fun x hx => by rw [if_neg (by omega)]), if_pos rfl, HZZ.out, HEX.out]
                            exact hown5)
                          have HB5 : Hid (Below w.heap.size w w5) := Lib.hid (gr_below (HBY.out.alloc HBY.out.size _) (HO4.out.alloc _) hgrow5 (by simp; omega))
                          clear hown5 hgrow5
                          go_wp2_with fail
                          go_roundw
                          case rel =>
                            exact ⟨k + 1, fun x => if x = k then m else mf x, HLT.out, by go_num, by rw [HNP1.out, HZZ.out]; go_num, HOK1.out, HO5.out, fun i hi => by
                              show (if i = k then m else mf i) < j ∧ P (if i = k then m else mf i) = _
                              by_cases e : i = k
                              · rw [if_pos e, e]; exact ⟨HMJ.out, by rw [HPM.out, HAA.out]⟩
                              · rw [if_neg e]; exact HMF.out i (by omega), HB5.out⟩
                          case measure => simp [intOf]; have := HLT.out; omega
              · have b1 : ((bb t p : Int) != 0) = true := by rw [bne_iff_ne]; omega
                have HZ := Lib.hid hz
                have hcv := cv1 wr (bb t p) (bb_lt t p)
                obtain ⟨v, hv⟩ : ∃ v, bb t p = v := ⟨_, rfl⟩
                rw [hv] at x b1 hcv HSS
                obtain ⟨y, hy⟩ : ∃ y : ByteArray, (⟨#[UInt8.ofNat v]⟩ : ByteArray) = y := ⟨_, rfl⟩
                have hy1 : y.size = 1 := by rw [← hy]; rfl
                rw [hy] at hcv HSS
                have HPT := Lib.hid hpt
                have HV := Lib.hid hv
                clear hy hz hv
                go_wp2_with fail
                go_roundw
                case rel => exact ⟨p + 1, by omega, HPT.out, by go_num, by rw [HSS.out], fun q h1 h2 => by
                  by_cases e : q = p
                  · rw [e]; exact HZ.out
                  · exact HNZ.out q h1 (by omega), HB2.out.alloc HB2.out.size _⟩
                case measure => simp [intOf]; have := HPT.out; omega
            · obtain rfl : p = t.size := by omega
              have HZZ : Hid (zz = t.size) := Lib.hid (HZE.out _ hp1 (Nat.le_refl _) HNZ.out (fun h => absurd h (by omega)))
              have HNO : Hid (¬ (Cnt (bb t) t.size ∧ IdxOk (bb t) t.size P n (bigN (bb t) 0))) := Lib.hid (HNI.out (fun h => by
                have := (HSB.out h).1.2
                have := HZZ.out
                omega))
              clear HSS
              go_wp2_with fail
              go_ret2
              exact Or.inl ⟨HNO.out, rfl, HBV.out⟩
        · obtain rfl : k = C := by omega
          have HOK2 : Hid (Cnt (bb t) t.size ∧ IdxOk (bb t) t.size P n (bigN (bb t) 0)) := Lib.hid ⟨HCN.out, by rw [HC.out]; exact HIX.out⟩
          have hnp := np_le HCN.out k HIX.out
          have HNQ : Hid (np (bb t) t.size (bigN (bb t) 0) = np (bb t) t.size k) := Lib.hid (by rw [HC.out])
          obtain ⟨p0, hp0⟩ : ∃ p0, np (bb t) t.size k = p0 := ⟨_, rfl⟩
          rw [hp0] at hnp HNQ
          rw [hp0]
          clear hp0
          have HDD : Hid (((p0 : Int) == (t.size : Int)) = decide (p0 = t.size)) := Lib.hid (by rw [Bool.eq_iff_iff, beq_iff_eq, decide_eq_true_iff]; omega)
          go_wp2_with fail
          go_ret2
          exact Or.inr ⟨HOK2.out, _, mf, by rw [HNQ.out, ← HDD.out]; rfl, by rw [HC.out]; exact HO.out, by rw [HC.out]; exact HMF.out, HBW.out⟩
    · have HNO : Hid (¬ (Cnt (bb t) t.size ∧ IdxOk (bb t) t.size P n (bigN (bb t) 0))) := Lib.hid (fun h => hcnt (by have := h.1.2; rw [HC.out] at this; have := HQ2.out; omega))
      go_enter Tryz.func37, Tryz.ntmps37
      go_wp2_with fail
      refine (K59.out).mono ?_
      rintro _ _ ⟨rfl, q, rfl⟩
      go_wp2_with fail
      go_ret2
      exact Or.inl ⟨HNO.out, rfl, below_drewN (Below.refl _ _) q⟩
  · have HNO : Hid (¬ (Cnt (bb t) t.size ∧ IdxOk (bb t) t.size P n (bigN (bb t) 0))) := Lib.hid (fun h => h4 h.1.1)
    go_enter Tryz.func37, Tryz.ntmps37
    go_wp2_with fail
    go_ret2
    exact Or.inl ⟨HNO.out, rfl, Below.refl _ _⟩
end Go.Proofs.YtgmifaadlaigdaaGreatDoor
