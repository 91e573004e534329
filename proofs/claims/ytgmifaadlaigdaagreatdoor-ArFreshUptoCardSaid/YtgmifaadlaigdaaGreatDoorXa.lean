import Derived.Test.YtgmifaadlaigdaaGreatDoorQe
import Derived.Test.YtgmifaadlaigdaaGreatDoorOk
import Derived.Test.YtgmifaadlaigdaaGreatDoorQg
namespace Go.Proofs.YtgmifaadlaigdaaGreatDoor
open Go.ChangeShapes Go.WideShapes Go.ChangeAt Go.RowKit
set_option linter.unusedVariables false
/-- the cells of so many parts -/
noncomputable def rpC (s : ByteArray) (sl : Nat → Value) : Nat → List Value
  | 0 => []
  | k + 1 => rpC s sl k ++ [.string (strN (fun j => bb s (atN (bb s) k + j)) (trimN (fun j => bb s (atN (bb s) k + j)) 16)), .int .i64 (atN (bb s) k : Int), sl k]
theorem rpC_congr {s : ByteArray} {a b : Nat → Value} : ∀ {k : Nat}, (∀ j, j < k → a j = b j) → rpC s a k = rpC s b k
  | 0, _ => rfl
  | k + 1, h => by rw [rpC, rpC, rpC_congr (fun j hj => h j (by omega)), h k (by omega)]
/-- bytes in a slice of the call's own -/
def SlOk (w : World) (v : Value) (t : ByteArray) : Prop := ∃ A c, v = .slice A t.size c ∧ t.size ≤ c ∧ c ≤ 9223372036854775807 ∧ (A = none → c = 0) ∧ (0 < t.size → ∃ g, A = some ⟨g, 0, none⟩ ∧ Hb w g t)
theorem SlOk.keep {w w' : World} {v : Value} {t : ByteArray} (h : SlOk w v t) (hk : K5 w w') : SlOk w' v t := by
  obtain ⟨A, c, e, h1, h2, h3, h4⟩ := h
  exact ⟨A, c, e, h1, h2, h3, fun h0 => by obtain ⟨g, e2, hb⟩ := h4 h0; exact ⟨g, e2, hb.keep hk⟩⟩
theorem slok_own {w : World} {B : Nat} {v : Value} {t : ByteArray} (h : w.ownsRow B 5 1 v t.size (Lib.strCells t)) : SlOk w v t := by
  rcases h.2 with ⟨hv, hz⟩ | ⟨g, cap, cur, hv, hb, hg, hc, hm, _⟩
  · exact ⟨none, 0, by rw [hv, hz], by omega, by omega, fun _ => rfl, fun h0 => by omega⟩
  · refine ⟨_, cap, hv, hc, (by unfold maxLen at hm; exact hm), (fun e => by cases e), fun h0 => ⟨g, rfl, cur, (0, 0), hg, fun j hj => ?_⟩⟩
    have h1 := h.cells (g := g) (by rw [hv]; rfl) j (.int .u8 (bb t j : Int)) (by
      rw [bb_eq t j hj]
      simp only [Lib.strCells, List.getElem?_map, bb_list t j hj]
      rfl)
    have e : ((⟨g, 0, none⟩ : Addr).add j) = ⟨g, j, none⟩ := by unfold Addr.add; split <;> simp_all
    first | rw [e] at h1 | skip
    rw [Lib.cell_of_heap hg] at h1
    exact h1
/-- the body of a part -/
noncomputable def bdy (s : ByteArray) (i : Nat) : ByteArray := s.extract (atN (bb s) i + 60) (atN (bb s) i + 60 + (szF (bb s) (atN (bb s) i)).1)
/-- what parts answers -/
def PartsOut (s : ByteArray) (w : World) (e : Ending) (w' : World) : Prop :=
  (s.size < 8 ∧ e = .returned (.tuple #[.slice none 0 0, .int .i64 4]) ∧ Below w.heap.size w w') ∨
  (8 ≤ s.size ∧ strN (bb s) 8 ≠ magicB ∧ e = .returned (.tuple #[.slice none 0 0, .int .i64 5]) ∧ Below w.heap.size w w') ∨
  (8 ≤ s.size ∧ strN (bb s) 8 = magicB ∧ ∃ k b, Parts (bb s) s.size k b ∧ Below w.heap.size w w' ∧
    ((b = false ∧ e = .returned (.tuple #[.slice none 0 0, .int .i64 (erP (bb s) s.size k : Int)])) ∨
     (b = true ∧ ∃ V sl, e = .returned (.tuple #[V, .int .i64 0]) ∧ w'.ownsRow w.heap.size 75 3 V k (rpC s sl k) ∧ ∀ j, j < k → SlOk w' (sl j) (bdy s j))))
theorem slB (b o n c a m : Nat) (hc : a + m ≤ c) (i j : Int) (hi : i = (a : Int)) (hj : j = (a : Int) + (m : Int)) : ∃ q c', (∀ W, (Instr.slice 24 (.slice (some ⟨b, o, none⟩) n c) (some (.int .i64 i)) (some (.int .i64 j)) none).run Tryz.prog W = .ok (.slice (some ⟨b, q, none⟩) m c') W) ∧ (0 < m → q = o + a) ∧ m ≤ c' := by
  subst hi hj
  have ht' : Tryz.prog.underlying 24 = some (.slice (Tryz.prog.elem 24)) := by simp [Program.elem, Tryz.underlying24]
  have he : Tryz.prog.elem 24 = 5 := by simp [Program.elem, Tryz.underlying24]
  obtain ⟨i0, h1, h2, h3, h4⟩ := info5
  have hcl : Tryz.prog.cellsOf 5 = 1 := by kernel_rfl
  have hz : ∀ w, (Go.sizeOf 5).run Tryz.prog w = .ok 1 w := fun w => by rw [run_sizeOf w h1, hcl]
  have h : ∀ W, (Instr.slice 24 (.slice (some ⟨b, o, none⟩) n c) (some (.int .i64 (a : Int))) (some (.int .i64 ((a : Int) + (m : Int)))) none).run Tryz.prog W = .ok (sliced (some ⟨b, o, none⟩) a (a + m) c 1) W := fun W => by
    rw [run_slice_lh W 24 _ _ _ ht' .i64 .i64 _ _ (by omega) (by omega) (by omega), he, hz]
    have e1 : ((a : Int) + (m : Int)).toNat = a + m := by omega
    simp [Result.andThen, e1]
  have e2 : a + m - a = m := by omega
  by_cases hca : c = a
  · refine ⟨o, c - a, fun W => ?_, fun h0 => by omega, by omega⟩
    rw [h W]
    simp [sliced, hca, e2]
  · refine ⟨o + a, c - a, fun W => ?_, fun _ => rfl, by omega⟩
    rw [h W]
    by_cases h0 : a = 0
    · subst h0; simp [sliced, hca, Addr.add]
    · simp [sliced, hca, e2, Addr.add, h0]
theorem k5_row75 {w w' : World} {B size n : Nat} {v : Value} {xs : List Value} (ho : w.ownsRow B 75 size v n xs) (hg : w.grownBy w' v.ownBlock) : K5 w w' := fun b cs fr hb => by
  rw [hg.block b (lt_of hb) (fun e => own_row ho hb (fun _ _ e2 => by injection e2 with _ e3 _; exact absurd e3 (by decide)) e.symm)]; exact hb
def R36 (s : ByteArray) (w : World) (v a : Value) (wr : World) : Prop := ∃ (k : Nat) (sl : Nat → Value), a = .int .i64 (posN (bb s) k : Int) ∧ posN (bb s) k ≤ s.size ∧ (∀ i, i < k → posN (bb s) i < s.size ∧ okP (bb s) s.size i) ∧ wr.ownsRow w.heap.size 75 3 v k (rpC s sl k) ∧ (∀ j, j < k → SlOk wr (sl j) (bdy s j)) ∧ Below w.heap.size w wr
set_option maxRecDepth 100000 in
set_option maxHeartbeats 8000000 in
theorem c36 (A : Option Addr) (c : Nat) (s : ByteArray) (w : World) (hA : Bz w A s.size (bb s)) (hs : s.size ≤ 65536) (hc : s.size ≤ c) (hcm : c ≤ 9223372036854775807) : Calls Tryz.prog 36 #[.slice A s.size c] w (PartsOut s w) := by
  have HA := Lib.hid hA
  clear hA
  obtain ⟨i0, hi, hz⟩ : ∃ i, Tryz.prog.info? 75 = some i ∧ (i.zero, i.size, i.bytes) = (some (.agg #[.string ⟨#[]⟩, .int .i64 0, .slice none 0 0]), 3, 48) := by
    have h : (Tryz.prog.info? 75).map (fun i => (i.zero, i.size, i.bytes)) = some (some (.agg #[.string ⟨#[]⟩, .int .i64 0, .slice none 0 0]), 3, 48) := by kernel_rfl
    cases hq : Tryz.prog.info? 75 with
    | none => rw [hq] at h; cases h
    | some i => rw [hq] at h; exact ⟨i, rfl, by simpa using h⟩
  simp only [Prod.mk.injEq] at hz
  obtain ⟨hz0, hz1, hz2⟩ := hz
  have HI := Lib.hid hi
  have HZ0 := Lib.hid hz0
  have HZ1 := Lib.hid hz1
  have HZ2 := Lib.hid hz2
  clear hi hz0 hz1 hz2
  by_cases h8 : s.size < 8
  · go_enter Tryz.func36, Tryz.ntmps36
    go_wp2_with fail
    go_ret2
    exact Or.inl ⟨h8, rfl, Below.refl _ _⟩
  · obtain ⟨b, o, rfl, hb⟩ := HA.out (by omega)
    have K29 : Hid (∀ w', Calls Tryz.prog 29 #[] w' fun e w'' => e = .returned (.string magicB) ∧ Below w'.heap.size w' w'') := Lib.hid (fun w' => c29 w')
    have HBS := Lib.hid hb
    clear hb
    have c8 : (8 : Int) ≤ (c : Int) := by omega
    have hcv := cvB w.drew b o 8 c (bb s) ((HBS.out.less (by omega)).below (Below.refl _ _).drew)
    go_enter Tryz.func36, Tryz.ntmps36
    go_upto_region 3 with fail
    go_cut [16] from 12 to 16 (fun v wx => v = .bool (!((strN (bb s) 8).toList == magicB.toList)) ∧ Below w.heap.size w wx)
    case first =>
      go_region_law (first | (go_simp; go_at_call 29; (with_reducible refine (K29.out _).mono ?_); rintro _ w2 ⟨rfl, hb2⟩; have HB2 := Lib.hid hb2; have hcv2 := cvB w2 b o 8 c (bb s) (((HBS.out.less (by omega)).below (Below.refl _ _).drew).below hb2); clear hb2) | fail)
      all_goals
        go_wp2_with fail
        go_meet
        case rel => exact ⟨rfl, (Below.refl _ _).drew.trans HB2.out⟩
    case rest =>
      obtain ⟨rfl, hbc⟩ := hcut
      have HBC := Lib.hid hbc
      clear hbc hcv K29
      by_cases hm : strN (bb s) 8 = magicB
      · have hm1 : ((strN (bb s) 8).toList == magicB.toList) = true := by rw [hm]; exact beq_self_eq_true _
        rw [hm1]
        have HM := Lib.hid hm
        clear hm hm1
        go_wp2_with fail
        go_loopw [4, 5] (fun v a wr => R36 s w v a wr) (fun _ a _ => s.size - (intOf a).toNat)
        case atStart => exact ⟨0, fun _ => .slice none 0 0, rfl, by show 8 ≤ _; omega, fun i hi => absurd hi (by omega), World.ownsRow_nil _ _ _ _, fun j hj => absurd hj (by omega), HBC.out⟩
        case round =>
          obtain ⟨k, sl, rfl, hle, hok, ho, hsl, hb⟩ := hrel
          have HOK := Lib.hid hok
          have HO := Lib.hid ho
          have HB := Lib.hid hb
          have HSL := Lib.hid hsl
          clear hok ho hb hsl
          by_cases hlt : posN (bb s) k < s.size
          · have HPK : Hid (¬ okP (bb s) s.size k → Parts (bb s) s.size k false) := Lib.hid (fun h => ⟨HOK.out, Or.inr ⟨rfl, hlt, h⟩⟩)
            have HST : Hid (okP (bb s) s.size k → ∀ i, i < k + 1 → posN (bb s) i < s.size ∧ okP (bb s) s.size i) := Lib.hid (fun h i hi => by
              by_cases e : i = k
              · rw [e]; exact ⟨hlt, h⟩
              · exact HOK.out i (by omega))
            have HAT : Hid (atN (bb s) k = evn (posN (bb s) k)) := Lib.hid rfl
            have HPS : Hid (posN (bb s) (k + 1) = atN (bb s) k + 60 + (szF (bb s) (atN (bb s) k)).1) := Lib.hid rfl
            have HCC : Hid (∀ sl, rpC s sl (k + 1) = rpC s sl k ++ [.string (strN (fun j => bb s (atN (bb s) k + j)) (trimN (fun j => bb s (atN (bb s) k + j)) 16)), .int .i64 (atN (bb s) k : Int), sl k]) := Lib.hid (fun _ => rfl)
            have HBD : Hid (bdy s k = s.extract (atN (bb s) k + 60) (atN (bb s) k + 60 + (szF (bb s) (atN (bb s) k)).1)) := Lib.hid rfl
            have HKP : Hid (okP (bb s) s.size k ↔ (posN (bb s) k % 2 = 1 → bb s (posN (bb s) k) = 10 ∧ posN (bb s) k + 1 ≠ s.size) ∧ atN (bb s) k + 60 ≤ s.size ∧ ((szF (bb s) (atN (bb s) k)).2 = true ∧ bb s (atN (bb s) k + 58) = 96 ∧ bb s (atN (bb s) k + 59) = 10) ∧ atN (bb s) k + 60 + (szF (bb s) (atN (bb s) k)).1 ≤ s.size) := Lib.hid Iff.rfl
            have HCL : Hid (∀ i, i < s.size → wr.cell? ⟨b, o + i, none⟩ = some (.int .u8 (bb s i : Int))) := Lib.hid (fun i hi => (HB.out.cell (p := ⟨b, o + i, none⟩) HBS.out.1).trans (HBS.out.2 i hi).2)
            obtain ⟨p, hp⟩ : ∃ p, posN (bb s) k = p := ⟨_, rfl⟩
            have HP := Lib.hid hp
            rw [hp] at hlt hle HAT HKP
            clear hp
            by_cases hodd : p % 2 = 1
            · have xp := HCL.out p (by omega)
              by_cases hg : bb s p = 10 ∧ p + 1 ≠ s.size
              · have hpar : p % 2 = 1 → bb s p = 10 ∧ p + 1 ≠ s.size := fun _ => hg
                have b2 : ((p : Int) + 1 == (s.size : Int)) = false := by rw [beq_eq_false_iff_ne]; omega
                rw [hg.1] at xp
                have HG10 := Lib.hid hg
                clear hg
                have HEV : Hid (atN (bb s) k = p + 1) := Lib.hid (by rw [HAT.out]; unfold evn; omega)
                rw [HEV.out] at HPS HCC HKP HBD
                rw [HP.out]
                by_cases h60 : p + 1 + 60 ≤ s.size
                · have f1 : (0 : Int) ≤ ((p : Int) + 1) + 48 := by omega
                  have f2 : ((p : Int) + 1) + 48 ≤ ((p : Int) + 1) + 58 := by omega
                  have f3 : ((p : Int) + 1) + 58 ≤ (c : Int) := by omega
                  have f4 : (0 : Int) ≤ ((p : Int) + 1) + 58 := by omega
                  have HKS : Hid (∀ (w' : World) (i n : Nat), Below wr.heap.size wr w' → i + n ≤ s.size → Bs w' b (o + i) n (fun j => bb s (i + j))) := Lib.hid (fun w' i n hb hi => ⟨Nat.lt_of_lt_of_le HBS.out.1 (Nat.le_trans HB.out.size hb.size), fun j hj => ⟨bb_lt s _, by
                    have h1 := (hb.cell (p := ⟨b, o + (i + j), none⟩) (Nat.lt_of_lt_of_le HBS.out.1 HB.out.size)).trans (HCL.out (i + j) (by omega))
                    rw [← Nat.add_assoc] at h1
                    exact h1⟩⟩)
                  have K57 : Hid (∀ c', 10 ≤ c' → Calls Tryz.prog 57 #[.slice (some ⟨b, o + (p + 1 + 48), none⟩) 10 c'] wr fun e w'' => e = .returned (.tuple #[.int .i64 ((szF (bb s) (p + 1)).1 : Int), .bool (szF (bb s) (p + 1)).2]) ∧ wr = w'') := Lib.hid (fun c' hc' => c57 b (o + (p + 1 + 48)) 10 c' (fun j => bb s (p + 1 + 48 + j)) wr (HKS.out wr (p + 1 + 48) 10 (Below.refl _ _) (by omega)) (by decide) hc')
                  obtain ⟨ok, hokq⟩ : ∃ ok, (szF (bb s) (p + 1)).2 = ok := ⟨_, rfl⟩
                  obtain ⟨sz, hszq⟩ : ∃ sz, (szF (bb s) (p + 1)).1 = sz := ⟨_, rfl⟩
                  rw [hokq, hszq] at K57
                  rw [hokq, hszq] at HKP
                  rw [hszq] at HPS HBD
                  clear hszq
                  have HER2 : Hid ((¬ okP (bb s) s.size k) → erP (bb s) s.size k = if ¬ (ok = true ∧ bb s (p + 1 + 58) = 96 ∧ bb s (p + 1 + 59) = 10) then 5 else 4) := Lib.hid (fun _ => by
                    unfold erP
                    rw [if_neg (by rw [HP.out]; exact fun q => q hpar), if_neg (by rw [HEV.out]; exact fun q => q h60), HEV.out, hokq])
                  clear hokq
                  have HAT := HEV
                  go_wp2_with fail
                  refine (K57.out _ (by omega)).mono ?_
                  rintro _ _ ⟨rfl, rfl⟩
                  have HX58 := Lib.hid (HCL.out (p + 1 + 58) (by omega))
                  have HX59 := Lib.hid (HCL.out (p + 1 + 59) (by omega))
                  cases ok
                  · have HNO : Hid (¬ okP (bb s) s.size k) := Lib.hid (fun h => by have := (HKP.out.mp h).2.2.1.1; cases this)
                    have HE5 : Hid (erP (bb s) s.size k = 5) := Lib.hid (by rw [HER2.out HNO.out, if_pos (fun q => by cases q.1)])
                    go_wp2_with fail
                    go_ret2
                    exact Or.inr (Or.inr ⟨by omega, HM.out, k, false, HPK.out HNO.out, HB.out, Or.inl ⟨rfl, by rw [HE5.out] <;> rfl⟩⟩)
                  · by_cases htl : bb s (p + 1 + 58) = 96 ∧ bb s (p + 1 + 59) = 10
                    · have x58 := HX58.out
                      have x59 := HX59.out
                      rw [htl.1] at x58
                      rw [htl.2] at x59
                      have HTT := Lib.hid htl
                      clear htl
                      by_cases hbig : p + 1 + 60 + sz ≤ s.size
                      · have HOKK : Hid (okP (bb s) s.size k) := Lib.hid (HKP.out.mpr ⟨hpar, h60, ⟨rfl, HTT.out⟩, hbig⟩)
                        have HS2 := Lib.hid (HST.out HOKK.out)
                        have g1 : decide ((s.size : Int) - ((p : Int) + 1) - 60 < (sz : Int)) = false := by rw [decide_eq_false_iff_not]; omega
                        have g6 : ((p : Int) + 1) ≤ ((p : Int) + 1) + 16 := by omega
                        have g7 : (0 : Int) ≤ ((p : Int) + 1) + 16 := by omega
                        have g8 : ((p : Int) + 1) + 16 ≤ (c : Int) := by omega
                        have g9 : (0 : Int) ≤ ((p : Int) + 1) := by omega
                        have hkk : k ≤ 65536 := by have := posN_ge (bb s) k; rw [HP.out] at this; omega
                        obtain ⟨q, c', hsq, hq, hqc⟩ := slB b o s.size c (p + 1 + 60) sz (by omega) (((p : Int) + 1) + 60) (((p : Int) + 1) + 60 + (sz : Int)) (by omega) (by omega)
                        have HBZ : Hid (Bz wr (some ⟨b, q, none⟩) sz (fun j => bb s (p + 1 + 60 + j))) := Lib.hid (fun h0 => ⟨b, q, rfl, by rw [hq h0]; exact HKS.out wr (p + 1 + 60) sz (Below.refl _ _) hbig⟩)
                        have hown0 : Hid (wr.ownsRow wr.heap.size 5 1 (.slice none 0 0) 0 []) := Lib.hid ⟨rfl, .inl ⟨rfl, rfl⟩⟩
                        have HBE : Hid (bdy s k = strN (fun j => bb s (p + 1 + 60 + j)) sz) := Lib.hid (by rw [HBD.out]; exact ext_str s (p + 1 + 60) sz hbig)
                        have K58 : Hid (∀ w' c', Below wr.heap.size wr w' → 16 ≤ c' → Calls Tryz.prog 58 #[.slice (some ⟨b, o + (p + 1), none⟩) 16 c'] w' fun e w'' => e = .returned (.string (strN (fun j => bb s (p + 1 + j)) (trimN (fun j => bb s (p + 1 + j)) 16))) ∧ w' = w'') := Lib.hid (fun w' c' hb hc' => c58 b (o + (p + 1)) 16 c' (fun j => bb s (p + 1 + j)) w' (HKS.out w' (p + 1) 16 hb (by omega)) (by decide) hc')
                        clear hq
                        go_wp2_with (first
                          | (refine app_any rfl (.tmp 78) (.tmp 86) rfl wr.heap.size (.slice none 0 0) 0 [] rfl hown0.out (some ⟨b, q, none⟩) sz c' (fun j => bb s (p + 1 + 60 + j)) rfl (fun e => by cases e) HBZ.out (fun e => by cases e) (by omega) (Nat.le_refl _) ?_
                             intro v4 w4 hown4 hg4
                             have hb4 : Below wr.heap.size wr w4 := (Below.refl _ _).grown hg4 (Nat.le_refl _) (fun k hk => (hown0.out.lt k hk).1)
                             rw [Nat.zero_add, List.nil_append] at hown4
                             have HSK : Hid (SlOk w4 v4 (bdy s k)) := Lib.hid (by rw [HBE.out]; exact slok_own (by rw [strN_size]; exact hown4))
                             have HB4' := Lib.hid hb4
                             have HB4 : Hid (Below w.heap.size w w4) := Lib.hid (HB.out.trans (hb4.mono HB.out.size))
                             have HO4 := Lib.hid (own_below HO.out hb4)
                             have HSL4 : Hid (∀ j, j < k → SlOk w4 (sl j) (bdy s j)) := Lib.hid (fun j hj => (HSL.out j hj).keep (k5_below hb4))
                             obtain ⟨A4, c4, hv4⟩ : ∃ A4 c4, v4 = .slice A4 sz c4 := by
                               obtain ⟨A4, c4, h, _⟩ := HSK.out
                               rw [HBE.out, strN_size] at h
                               exact ⟨A4, c4, h⟩
                             subst hv4
                             clear hown4 hg4 hb4)
                          | fail)
                        refine (K58.out w4 _ HB4'.out (by omega)).mono ?_
                        rintro _ _ ⟨rfl, rfl⟩
                        obtain ⟨nmv, hnm⟩ : ∃ nmv, strN (fun j => bb s (p + 1 + j)) (trimN (fun j => bb s (p + 1 + j)) 16) = nmv := ⟨_, rfl⟩
                        rw [hnm] at HCC ⊢
                        clear hnm K58 K57
                        have hzw := HB4.out.size
                        go_wp2_with (first
                          | (refine wpList_append_own _ rfl (.tmp 88) (.tmp 98) 71 rfl w.heap.size 75 i0 (.agg #[.string ⟨#[]⟩, .int .i64 0, .slice none 0 0]) 3 48 Tryz.underlying71 HI.out HZ0.out HZ1.out HZ2.out rfl (by decide) _ _ _ rfl (HO4.out.alloc _) ⟨w4.heap.size, 0, none⟩ 1 1 [.string nmv, .int .i64 ((p : Int) + 1), .slice A4 sz c4] rfl rfl (l_cells w4 w4.heap.size rfl [.string nmv, .int .i64 ((p : Int) + 1), .slice A4 sz c4] 75) (fun y hy => by simp at hy; rcases hy with rfl | rfl | rfl <;> rfl) (by unfold maxLen; omega) (by omega) (by simp; omega) ?_
                             intro v5 w5 hown5 hgrow5 _)
                          | fail)
                        have HK5 : Hid (K5 w4 w5) := Lib.hid (k5_trans (k5_below ((Below.refl _ _).alloc (Nat.le_refl _) _)) (k5_row75 (HO4.out.alloc _) hgrow5))
                        have HO5 := Lib.hid hown5
                        have HB5 : Hid (Below w.heap.size w w5) := Lib.hid (gr_below (HB4.out.alloc HB4.out.size _) (HO4.out.alloc _) hgrow5 (by simp; omega))
                        clear hown5 hgrow5
                        go_wp2_with fail
                        go_roundw
                        case rel =>
                          (repeat apply Exists.intro)
                          refine ⟨?_, rfl⟩
                          exact ⟨k + 1, fun j => if j < k then sl j else .slice A4 sz c4, by rw [HPS.out]; go_num, by rw [HPS.out]; exact hbig, HS2.out, by
                            rw [HCC.out, rpC_congr (b := sl) (fun j hj => if_pos hj), if_neg (Nat.lt_irrefl k)]; exact HO5.out, fun j hj => by
                            by_cases e : j < k
                            · show SlOk w5 (if j < k then sl j else .slice A4 sz c4) (bdy s j)
                              rw [if_pos e]; exact (HSL4.out j e).keep HK5.out
                            · obtain rfl : j = k := by omega
                              show SlOk w5 (if j < j then sl j else .slice A4 sz c4) (bdy s j)
                              rw [if_neg e]; exact HSK.out.keep HK5.out, HB5.out⟩
                        case measure => simp [intOf]; omega
                      · have HNO : Hid (¬ okP (bb s) s.size k) := Lib.hid (fun h => hbig (HKP.out.mp h).2.2.2)
                        have HE5 : Hid (erP (bb s) s.size k = 4) := Lib.hid (by rw [HER2.out HNO.out, if_neg (fun q => q ⟨rfl, HTT.out⟩)])
                        have g1 : decide ((s.size : Int) - ((p : Int) + 1) - 60 < (sz : Int)) = true := by rw [decide_eq_true_iff]; omega
                        go_wp2_with fail
                        go_ret2
                        exact Or.inr (Or.inr ⟨by omega, HM.out, k, false, HPK.out HNO.out, HB.out, Or.inl ⟨rfl, by rw [HE5.out] <;> rfl⟩⟩)
                    · have HNO : Hid (¬ okP (bb s) s.size k) := Lib.hid (fun h => htl (HKP.out.mp h).2.2.1.2)
                      have HE5 : Hid (erP (bb s) s.size k = 5) := Lib.hid (by rw [HER2.out HNO.out, if_pos (fun q => htl q.2)])
                      have hb : ((bb s (p + 1 + 58) : Int) != 96) = true ∨ (((bb s (p + 1 + 58) : Int) != 96) = false ∧ ((bb s (p + 1 + 59) : Int) != 10) = true) := by
                        by_cases h1 : bb s (p + 1 + 58) = 96
                        · exact Or.inr ⟨by rw [h1]; rfl, by
                            rw [bne_iff_ne]
                            intro h2
                            exact htl ⟨h1, by omega⟩⟩
                        · exact Or.inl (by rw [bne_iff_ne]; omega)
                      clear htl
                      have x58 := HX58.out
                      have x59 := HX59.out
                      rcases hb with b1 | ⟨b1, b2⟩
                      all_goals
                        go_wp2_with fail
                        go_ret2
                        exact Or.inr (Or.inr ⟨by omega, HM.out, k, false, HPK.out HNO.out, HB.out, Or.inl ⟨rfl, by rw [HE5.out] <;> rfl⟩⟩)
                · have HNO : Hid (¬ okP (bb s) s.size k) := Lib.hid (fun h => h60 (HKP.out.mp h).2.1)
                  have HE4 : Hid (erP (bb s) s.size k = 4) := Lib.hid (by
                    unfold erP
                    rw [if_neg (by rw [HP.out]; exact fun q => q hpar), if_pos (by rw [HEV.out]; exact h60)])
                  go_wp2_with fail
                  go_ret2
                  exact Or.inr (Or.inr ⟨by omega, HM.out, k, false, HPK.out HNO.out, HB.out, Or.inl ⟨rfl, by rw [HE4.out] <;> rfl⟩⟩)
              · have HNO : Hid (¬ okP (bb s) s.size k) := Lib.hid (fun h => hg ((HKP.out.mp h).1 hodd))
                have HE5 : Hid (erP (bb s) s.size k = 5) := Lib.hid (by
                  unfold erP
                  rw [if_pos (by rw [HP.out]; exact fun q => hg (q hodd))])
                rw [HP.out]
                have hb : ((bb s p : Int) != 10) = true ∨ (((bb s p : Int) != 10) = false ∧ ((p : Int) + 1 == (s.size : Int)) = true) := by
                  by_cases h1 : bb s p = 10
                  · exact Or.inr ⟨by rw [h1]; rfl, by
                      rw [beq_iff_eq]
                      by_cases h2 : p + 1 = s.size
                      · omega
                      · exact absurd ⟨h1, h2⟩ hg⟩
                  · exact Or.inl (by rw [bne_iff_ne]; omega)
                clear hg
                rcases hb with b1 | ⟨b1, b2⟩
                all_goals
                  go_wp2_with fail
                  go_ret2
                  exact Or.inr (Or.inr ⟨by omega, HM.out, k, false, HPK.out HNO.out, HB.out, Or.inl ⟨rfl, by rw [HE5.out] <;> rfl⟩⟩)
            · have hpar : p % 2 = 1 → bb s p = 10 ∧ p + 1 ≠ s.size := fun h => absurd h hodd
              have HEV : Hid (atN (bb s) k = p) := Lib.hid (by rw [HAT.out]; unfold evn; omega)
              rw [HEV.out] at HPS HCC HKP HBD
              rw [HP.out]
              by_cases h60 : p + 60 ≤ s.size
              · have f1 : (0 : Int) ≤ (p : Int) + 48 := by omega
                have f2 : (p : Int) + 48 ≤ (p : Int) + 58 := by omega
                have f3 : (p : Int) + 58 ≤ (c : Int) := by omega
                have f4 : (0 : Int) ≤ (p : Int) + 58 := by omega
                have HKS : Hid (∀ (w' : World) (i n : Nat), Below wr.heap.size wr w' → i + n ≤ s.size → Bs w' b (o + i) n (fun j => bb s (i + j))) := Lib.hid (fun w' i n hb hi => ⟨Nat.lt_of_lt_of_le HBS.out.1 (Nat.le_trans HB.out.size hb.size), fun j hj => ⟨bb_lt s _, by
                  have h1 := (hb.cell (p := ⟨b, o + (i + j), none⟩) (Nat.lt_of_lt_of_le HBS.out.1 HB.out.size)).trans (HCL.out (i + j) (by omega))
                  rw [← Nat.add_assoc] at h1
                  exact h1⟩⟩)
                have K57 : Hid (∀ c', 10 ≤ c' → Calls Tryz.prog 57 #[.slice (some ⟨b, o + (p + 48), none⟩) 10 c'] wr fun e w'' => e = .returned (.tuple #[.int .i64 ((szF (bb s) (p)).1 : Int), .bool (szF (bb s) (p)).2]) ∧ wr = w'') := Lib.hid (fun c' hc' => c57 b (o + (p + 48)) 10 c' (fun j => bb s (p + 48 + j)) wr (HKS.out wr (p + 48) 10 (Below.refl _ _) (by omega)) (by decide) hc')
                obtain ⟨ok, hokq⟩ : ∃ ok, (szF (bb s) (p)).2 = ok := ⟨_, rfl⟩
                obtain ⟨sz, hszq⟩ : ∃ sz, (szF (bb s) (p)).1 = sz := ⟨_, rfl⟩
                rw [hokq, hszq] at K57
                rw [hokq, hszq] at HKP
                rw [hszq] at HPS HBD
                clear hszq
                have HER2 : Hid ((¬ okP (bb s) s.size k) → erP (bb s) s.size k = if ¬ (ok = true ∧ bb s (p + 58) = 96 ∧ bb s (p + 59) = 10) then 5 else 4) := Lib.hid (fun _ => by
                  unfold erP
                  rw [if_neg (by rw [HP.out]; exact fun q => q hpar), if_neg (by rw [HEV.out]; exact fun q => q h60), HEV.out, hokq])
                clear hokq
                have HAT := HEV
                go_wp2_with fail
                refine (K57.out _ (by omega)).mono ?_
                rintro _ _ ⟨rfl, rfl⟩
                have HX58 := Lib.hid (HCL.out (p + 58) (by omega))
                have HX59 := Lib.hid (HCL.out (p + 59) (by omega))
                cases ok
                · have HNO : Hid (¬ okP (bb s) s.size k) := Lib.hid (fun h => by have := (HKP.out.mp h).2.2.1.1; cases this)
                  have HE5 : Hid (erP (bb s) s.size k = 5) := Lib.hid (by rw [HER2.out HNO.out, if_pos (fun q => by cases q.1)])
                  go_wp2_with fail
                  go_ret2
                  exact Or.inr (Or.inr ⟨by omega, HM.out, k, false, HPK.out HNO.out, HB.out, Or.inl ⟨rfl, by rw [HE5.out] <;> rfl⟩⟩)
                · by_cases htl : bb s (p + 58) = 96 ∧ bb s (p + 59) = 10
                  · have x58 := HX58.out
                    have x59 := HX59.out
                    rw [htl.1] at x58
                    rw [htl.2] at x59
                    have HTT := Lib.hid htl
                    clear htl
                    by_cases hbig : p + 60 + sz ≤ s.size
                    · have HOKK : Hid (okP (bb s) s.size k) := Lib.hid (HKP.out.mpr ⟨hpar, h60, ⟨rfl, HTT.out⟩, hbig⟩)
                      have HS2 := Lib.hid (HST.out HOKK.out)
                      have g1 : decide ((s.size : Int) - (p : Int) - 60 < (sz : Int)) = false := by rw [decide_eq_false_iff_not]; omega
                      have g6 : (p : Int) ≤ (p : Int) + 16 := by omega
                      have g7 : (0 : Int) ≤ (p : Int) + 16 := by omega
                      have g8 : (p : Int) + 16 ≤ (c : Int) := by omega
                      have g9 : (0 : Int) ≤ (p : Int) := by omega
                      have hkk : k ≤ 65536 := by have := posN_ge (bb s) k; rw [HP.out] at this; omega
                      obtain ⟨q, c', hsq, hq, hqc⟩ := slB b o s.size c (p + 60) sz (by omega) ((p : Int) + 60) ((p : Int) + 60 + (sz : Int)) (by omega) (by omega)
                      have HBZ : Hid (Bz wr (some ⟨b, q, none⟩) sz (fun j => bb s (p + 60 + j))) := Lib.hid (fun h0 => ⟨b, q, rfl, by rw [hq h0]; exact HKS.out wr (p + 60) sz (Below.refl _ _) hbig⟩)
                      have hown0 : Hid (wr.ownsRow wr.heap.size 5 1 (.slice none 0 0) 0 []) := Lib.hid ⟨rfl, .inl ⟨rfl, rfl⟩⟩
                      have HBE : Hid (bdy s k = strN (fun j => bb s (p + 60 + j)) sz) := Lib.hid (by rw [HBD.out]; exact ext_str s (p + 60) sz hbig)
                      have K58 : Hid (∀ w' c', Below wr.heap.size wr w' → 16 ≤ c' → Calls Tryz.prog 58 #[.slice (some ⟨b, o + (p), none⟩) 16 c'] w' fun e w'' => e = .returned (.string (strN (fun j => bb s (p + j)) (trimN (fun j => bb s (p + j)) 16))) ∧ w' = w'') := Lib.hid (fun w' c' hb hc' => c58 b (o + (p)) 16 c' (fun j => bb s (p + j)) w' (HKS.out w' (p) 16 hb (by omega)) (by decide) hc')
                      clear hq
                      go_wp2_with (first
                        | (refine app_any rfl (.tmp 78) (.tmp 86) rfl wr.heap.size (.slice none 0 0) 0 [] rfl hown0.out (some ⟨b, q, none⟩) sz c' (fun j => bb s (p + 60 + j)) rfl (fun e => by cases e) HBZ.out (fun e => by cases e) (by omega) (Nat.le_refl _) ?_
                           intro v4 w4 hown4 hg4
                           have hb4 : Below wr.heap.size wr w4 := (Below.refl _ _).grown hg4 (Nat.le_refl _) (fun k hk => (hown0.out.lt k hk).1)
                           rw [Nat.zero_add, List.nil_append] at hown4
                           have HSK : Hid (SlOk w4 v4 (bdy s k)) := Lib.hid (by rw [HBE.out]; exact slok_own (by rw [strN_size]; exact hown4))
                           have HB4' := Lib.hid hb4
                           have HB4 : Hid (Below w.heap.size w w4) := Lib.hid (HB.out.trans (hb4.mono HB.out.size))
                           have HO4 := Lib.hid (own_below HO.out hb4)
                           have HSL4 : Hid (∀ j, j < k → SlOk w4 (sl j) (bdy s j)) := Lib.hid (fun j hj => (HSL.out j hj).keep (k5_below hb4))
                           obtain ⟨A4, c4, hv4⟩ : ∃ A4 c4, v4 = .slice A4 sz c4 := by
                             obtain ⟨A4, c4, h, _⟩ := HSK.out
                             rw [HBE.out, strN_size] at h
                             exact ⟨A4, c4, h⟩
                           subst hv4
                           clear hown4 hg4 hb4)
                        | fail)
                      refine (K58.out w4 _ HB4'.out (by omega)).mono ?_
                      rintro _ _ ⟨rfl, rfl⟩
                      obtain ⟨nmv, hnm⟩ : ∃ nmv, strN (fun j => bb s (p + j)) (trimN (fun j => bb s (p + j)) 16) = nmv := ⟨_, rfl⟩
                      rw [hnm] at HCC ⊢
                      clear hnm K58 K57
                      have hzw := HB4.out.size
                      go_wp2_with (first
                        | (refine wpList_append_own _ rfl (.tmp 88) (.tmp 98) 71 rfl w.heap.size 75 i0 (.agg #[.string ⟨#[]⟩, .int .i64 0, .slice none 0 0]) 3 48 Tryz.underlying71 HI.out HZ0.out HZ1.out HZ2.out rfl (by decide) _ _ _ rfl (HO4.out.alloc _) ⟨w4.heap.size, 0, none⟩ 1 1 [.string nmv, .int .i64 (p : Int), .slice A4 sz c4] rfl rfl (l_cells w4 w4.heap.size rfl [.string nmv, .int .i64 (p : Int), .slice A4 sz c4] 75) (fun y hy => by simp at hy; rcases hy with rfl | rfl | rfl <;> rfl) (by unfold maxLen; omega) (by omega) (by simp; omega) ?_
                           intro v5 w5 hown5 hgrow5 _)
                        | fail)
                      have HK5 : Hid (K5 w4 w5) := Lib.hid (k5_trans (k5_below ((Below.refl _ _).alloc (Nat.le_refl _) _)) (k5_row75 (HO4.out.alloc _) hgrow5))
                      have HO5 := Lib.hid hown5
                      have HB5 : Hid (Below w.heap.size w w5) := Lib.hid (gr_below (HB4.out.alloc HB4.out.size _) (HO4.out.alloc _) hgrow5 (by simp; omega))
                      clear hown5 hgrow5
                      go_wp2_with fail
                      go_roundw
                      case rel =>
                        (repeat apply Exists.intro)
                        refine ⟨?_, rfl⟩
                        exact ⟨k + 1, fun j => if j < k then sl j else .slice A4 sz c4, by rw [HPS.out]; go_num, by rw [HPS.out]; exact hbig, HS2.out, by
                          rw [HCC.out, rpC_congr (b := sl) (fun j hj => if_pos hj), if_neg (Nat.lt_irrefl k)]; exact HO5.out, fun j hj => by
                          by_cases e : j < k
                          · show SlOk w5 (if j < k then sl j else .slice A4 sz c4) (bdy s j)
                            rw [if_pos e]; exact (HSL4.out j e).keep HK5.out
                          · obtain rfl : j = k := by omega
                            show SlOk w5 (if j < j then sl j else .slice A4 sz c4) (bdy s j)
                            rw [if_neg e]; exact HSK.out.keep HK5.out, HB5.out⟩
                      case measure => simp [intOf]; omega
                    · have HNO : Hid (¬ okP (bb s) s.size k) := Lib.hid (fun h => hbig (HKP.out.mp h).2.2.2)
                      have HE5 : Hid (erP (bb s) s.size k = 4) := Lib.hid (by rw [HER2.out HNO.out, if_neg (fun q => q ⟨rfl, HTT.out⟩)])
                      have g1 : decide ((s.size : Int) - (p : Int) - 60 < (sz : Int)) = true := by rw [decide_eq_true_iff]; omega
                      go_wp2_with fail
                      go_ret2
                      exact Or.inr (Or.inr ⟨by omega, HM.out, k, false, HPK.out HNO.out, HB.out, Or.inl ⟨rfl, by rw [HE5.out] <;> rfl⟩⟩)
                  · have HNO : Hid (¬ okP (bb s) s.size k) := Lib.hid (fun h => htl (HKP.out.mp h).2.2.1.2)
                    have HE5 : Hid (erP (bb s) s.size k = 5) := Lib.hid (by rw [HER2.out HNO.out, if_pos (fun q => htl q.2)])
                    have hb : ((bb s (p + 58) : Int) != 96) = true ∨ (((bb s (p + 58) : Int) != 96) = false ∧ ((bb s (p + 59) : Int) != 10) = true) := by
                      by_cases h1 : bb s (p + 58) = 96
                      · exact Or.inr ⟨by rw [h1]; rfl, by
                          rw [bne_iff_ne]
                          intro h2
                          exact htl ⟨h1, by omega⟩⟩
                      · exact Or.inl (by rw [bne_iff_ne]; omega)
                    clear htl
                    have x58 := HX58.out
                    have x59 := HX59.out
                    rcases hb with b1 | ⟨b1, b2⟩
                    all_goals
                      go_wp2_with fail
                      go_ret2
                      exact Or.inr (Or.inr ⟨by omega, HM.out, k, false, HPK.out HNO.out, HB.out, Or.inl ⟨rfl, by rw [HE5.out] <;> rfl⟩⟩)
              · have HNO : Hid (¬ okP (bb s) s.size k) := Lib.hid (fun h => h60 (HKP.out.mp h).2.1)
                have HE4 : Hid (erP (bb s) s.size k = 4) := Lib.hid (by
                  unfold erP
                  rw [if_neg (by rw [HP.out]; exact fun q => q hpar), if_pos (by rw [HEV.out]; exact h60)])
                go_wp2_with fail
                go_ret2
                exact Or.inr (Or.inr ⟨by omega, HM.out, k, false, HPK.out HNO.out, HB.out, Or.inl ⟨rfl, by rw [HE4.out] <;> rfl⟩⟩)
          · have HPT : Hid (Parts (bb s) s.size k true) := Lib.hid ⟨HOK.out, Or.inl ⟨rfl, by omega⟩⟩
            have HPE : Hid (posN (bb s) k = s.size) := Lib.hid (by omega)
            rw [HPE.out]
            go_wp2_with fail
            go_ret2
            exact Or.inr (Or.inr ⟨by omega, HM.out, k, true, HPT.out, HB.out, Or.inr ⟨rfl, _, _, rfl, HO.out, HSL.out⟩⟩)
      · have hm1 : ((strN (bb s) 8).toList == magicB.toList) = false := by rw [beq_eq_false_iff_ne]; exact fun e => hm (ba_eq (by rwa [ByteArray.toList_eq, ByteArray.toList_eq] at e))
        rw [hm1]
        have HM := Lib.hid hm
        clear hm hm1
        go_wp2_with fail
        go_ret2
        exact Or.inr (Or.inl ⟨by omega, HM.out, rfl, HBC.out⟩)
end Go.Proofs.YtgmifaadlaigdaaGreatDoor
