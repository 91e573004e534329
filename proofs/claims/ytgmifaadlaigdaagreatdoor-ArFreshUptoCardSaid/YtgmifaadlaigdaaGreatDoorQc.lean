import Derived.Test.YtgmifaadlaigdaaGreatDoorQb
namespace Go.Proofs.YtgmifaadlaigdaaGreatDoor
open Go.ChangeShapes Go.WideShapes Go.ChangeAt Go.RowKit
set_option linter.unusedVariables false
theorem below_pu {w w' : World} {s : ByteArray} (h : w' = w ∨ w' = Lib.bytesWorld w 5 s) : Below w.heap.size w w' := by
  rcases h with rfl | rfl
  · exact Below.refl _ _
  · exact below_bytes w s
def Sz (s : ByteArray) (w : World) (e : Ending) (w' : World) : Prop :=
  ∃ u : Nat, e = .returned (.tuple #[.int .u64 (u : Int), .bool (szV (bb s) (trimN (bb s) s.size)).2]) ∧ ((szV (bb s) (trimN (bb s) s.size)).2 = true → u = (szV (bb s) (trimN (bb s) s.size)).1) ∧ Below w.heap.size w w'
set_option maxRecDepth 100000 in
set_option maxHeartbeats 4000000 in
/-- sizeOf -/
theorem c51 (s : ByteArray) (hs : s.size ≤ 12) (w : World) (hg : Gl w) : Calls Tryz.prog 51 #[.string s] w (Sz s w) := by
  have K52 := Lib.hid (Tryz.strings_TrimRight_one s 32 (by decide) w (by omega))
  rw [trim_list] at K52
  have hm := trimN_le (bb s) s.size
  have hm12 : trimN (bb s) s.size ≤ 12 := by omega
  have hf : ∀ i, i < trimN (bb s) s.size → bb s i < 256 := fun i _ => bb_lt s i
  unfold Sz
  clear hm
  generalize bb s = f at *
  generalize trimN f s.size = m at *
  obtain ⟨t, ht⟩ : ∃ t, strN f m = t := ⟨_, rfl⟩
  have htz : t.size = m := by rw [← ht, strN_size]
  by_cases hd : 1 ≤ m ∧ digs f m
  · have hp := parse_yes f m hm12 hd.1 hd.2
    have hdl := dec_small f m hd.2 hm12
    rw [ht] at hp
    have K65 := Lib.hid (Tryz.strconv_ParseUint_10_at64_ok t (by omega) (decN f m) hp)
    have K66 : Hid (∀ w', Below w.heap.size w w' → Calls Tryz.prog 66 #[.int .u64 (decN f m : Int), .int .i64 10] w' fun e w'' => e = .returned (.string (tens (decN f m))) ∧ Below w'.heap.size w' w'') := Lib.hid (fun w' h => c66 (decN f m) (by omega) w' (hg.below h))
    have HEQ : Hid (((tens (decN f m)).toList == t.toList) = (szV f m).2) := Lib.hid (by
      by_cases hl : 1 < m ∧ f 0 = 48
      · rw [szV_no (fun q => q.1.2 hl)]
        rw [ByteArray.toList_eq, ByteArray.toList_eq, beq_eq_false_iff_ne]
        intro e
        obtain ⟨k, rfl⟩ : ∃ k, m = k + 2 := ⟨m - 2, by omega⟩
        exact tens_lead f k hd.2 hl.2 ((ba_eq e).trans ht.symm)
      · rw [szV_yes ⟨⟨hd.1, hl⟩, hd.2⟩]
        obtain ⟨k, rfl⟩ : ∃ k, m = k + 1 := ⟨m - 1, by omega⟩
        rw [tens_dec f k hd.2 hl, ht]
        simp)
    have HV : Hid ((szV f m).2 = true → decN f m = (szV f m).1) := Lib.hid (fun h => by
      unfold szV at h ⊢
      split
      · rfl
      · rename_i hn; rw [if_neg hn] at h; cases h)
    rw [ht] at K52
    clear hp hdl hd hf ht htz hg hm12
    generalize (szV f m).2 = ok at *
    generalize (szV f m).1 = v at *
    generalize tens (decN f m) = tn at *
    generalize decN f m = u at *
    go_enter Tryz.func51, Tryz.ntmps51
    go_wp2_with fail
    refine K52.out.mono ?_
    rintro _ _ ⟨rfl, rfl⟩
    go_wp2_with fail
    refine (K65.out _).mono ?_
    rintro _ w1 ⟨rfl, hb1⟩
    have HB1 := Lib.hid (below_pu hb1)
    clear hb1
    have hq := HEQ.out
    go_wp2_with fail
    refine (K66.out _ HB1.out).mono ?_
    rintro _ w2 ⟨rfl, hb2⟩
    have HB2 := Lib.hid (HB1.out.trans (hb2.mono HB1.out.size))
    clear hb2
    go_wp2_with fail
    go_ret2
    exact ⟨u, rfl, HV.out, HB2.out⟩
  · have hp := parse_no f m hm12 hf hd
    rw [ht] at hp
    obtain ⟨⟨ev, hev, hk⟩, _⟩ := hg
    have K65 := Lib.hid (Tryz.strconv_ParseUint_10_at64_syntax t (by omega) hp ev w hev hk)
    have HV : Hid ((szV f m).2 = false) := Lib.hid (by rw [szV_no (fun q => hd ⟨q.1.1, q.2⟩)])
    rw [ht] at K52
    rw [HV.out]
    clear hp hd hf ht htz hm12 hev hk
    go_enter Tryz.func51, Tryz.ntmps51
    go_wp2_with fail
    refine K52.out.mono ?_
    rintro _ _ ⟨rfl, rfl⟩
    go_wp2_with fail
    refine K65.out.mono ?_
    rintro _ w1 ⟨N, rfl, -, -, hb1⟩
    have HB1 := Lib.hid hb1
    clear hb1
    go_wp2_with fail
    go_ret2
    exact ⟨0, rfl, (fun h => by cases h), HB1.out⟩
end Go.Proofs.YtgmifaadlaigdaaGreatDoor
