import Derived.Test.YtgmifaadlaigdaaGreatDoorQl
namespace Go.Proofs.YtgmifaadlaigdaaGreatDoor
open Go.ChangeShapes Go.WideShapes Go.ChangeAt Go.RowKit
set_option linter.unusedVariables false
/-- string(b), of a slice that may be nil -/
theorem cvZ (w : World) (A : Option Addr) (n c : Nat) (f : Nat → Nat) (h : Bz w A n f) : (convert 24 9 (.slice A n c)).run Tryz.prog w = .ok (.string (strN f n)) w := by
  by_cases h0 : 0 < n
  · obtain ⟨b, o, rfl, hb⟩ := h h0
    exact cvB w b o n c f hb
  · obtain rfl : n = 0 := by omega
    cases A with
    | none => exact run_convert_bytes_nil (P := Tryz.prog) w 24 5 Tryz.underlying24 Tryz.underlying5 0 c 9 Tryz.underlying9
    | some a => exact run_convert_bytes_back (P := Tryz.prog) w 24 9 5 a c [] Tryz.underlying24 Tryz.underlying5 Tryz.underlying9 (fun j hj => by simp at hj)
theorem alls_congr {p q : Nat → Pc} {n : Nat} (h : ∀ i, i < n → p i = q i) (ha : AllS p n) : AllS q n := fun i hi => by
  obtain ⟨h1, h2⟩ := ha i hi
  rw [h i hi] at h1 h2
  exact ⟨h1, fun k hk => by rw [← h k (by omega)]; exact h2 k hk⟩
theorem str_47 (t : ByteArray) : (t.toList == [47]) = decide (t = ⟨#[47]⟩) := by
  rw [ByteArray.toList_eq, Bool.eq_iff_iff, beq_iff_eq, decide_eq_true_iff]
  exact ⟨fun h => ba_eq h, fun h => by rw [h]⟩
theorem ps_below {w w' : World} {A : Option Addr} {n : Nat} {g : Nat → Pc} (h : Ps w A n g) (hb : Below w.heap.size w w') : Ps w' A n g := fun h0 => by
  obtain ⟨b, o, e, hl, hc⟩ := h h0
  have z : ∀ j, w'.cell? ⟨b, j, none⟩ = w.cell? ⟨b, j, none⟩ := fun j => hb.cell (p := ⟨b, j, none⟩) hl
  refine ⟨b, o, e, Nat.lt_of_lt_of_le hl hb.size, fun k hk => ?_⟩
  obtain ⟨h1, h2, h3, h4⟩ := hc k hk
  exact ⟨by rw [z]; exact h1, by rw [z]; exact h2, by rw [z]; exact h3, h4⟩
set_option maxRecDepth 100000 in
theorem sl61 (b k c : Nat) (h1 : 1 ≤ k) (h2 : k ≤ c) (W : World) : (Instr.slice 61 (.slice (some ⟨b, 0, none⟩) k c) (some (.int .i64 1)) none none).run Tryz.prog W = .ok (.slice (some (if c = 1 then ⟨b, 0, none⟩ else ⟨b, 3, none⟩)) (k - 1) (c - 1)) W := by
  have he : Tryz.prog.elem 61 = 65 := by simp [Program.elem, Tryz.underlying61]
  have ht : Tryz.prog.underlying 61 = some (.slice (Tryz.prog.elem 61)) := by rw [he]; exact Tryz.underlying61
  rw [run_slice_l W 61 (some ⟨b, 0, none⟩) k c ht .i64 1 (by omega) (by omega), he, Tryz.sizeOf65 W]
  simp only [Result.andThen, sliced]
  by_cases hc : c = 1
  · have e : c = (1 : Int).toNat := hc
    rw [if_pos e, if_pos hc]
    rfl
  · have e : ¬ c = (1 : Int).toNat := hc
    rw [if_neg e, if_neg hc]
    rfl
/-- what Read answers, and that the members' bytes are new memory -/
def ReadOutF (s : ByteArray) (w : World) (e : Ending) (w' : World) : Prop :=
  (∃ er : Nat, ReadErr s er ∧ e = .returned (.tuple #[.slice none 0 0, .slice none 0 0, .int .i64 (er : Int)]) ∧ Below w.heap.size w w') ∨
  (∃ k, ReadGood s k ∧ ∃ A c B d g x, e = .returned (.tuple #[.slice A (k - ix1 s k) c, .slice B (cntR s k) d, .int .i64 0]) ∧ Ms w' A (k - ix1 s k) g ∧ MemS (fun i => pcS s (i + ix1 s k)) (k - ix1 s k) g ∧ Is w' B (cntR s k) x ∧ (ix1 s k = 1 → IxS (pcS s 0).body (fun i => (pcS s (i + 1)).at') (k - 1) (cntR s k) x) ∧ Below w.heap.size w w' ∧ ∀ i, i < k - ix1 s k → Fs w' w.heap.size (g i).A (g i).c)
set_option maxRecDepth 100000 in
set_option maxHeartbeats 8000000 in
theorem c13f (A : Option Addr) (n c : Nat) (f : Nat → Nat) (w : World) (hB : Bz w A n f) (hn : n ≤ 4611686018427387904) (hg : Gl w) : Calls Tryz.prog 13 #[.slice A n c] w (ReadOutF (strN f n) w) := by
  have hsz := strN_size f n
  have hcv := cvZ w A n c f hB
  obtain ⟨s, hs⟩ : ∃ s, strN f n = s := ⟨_, rfl⟩
  rw [hs] at hsz hcv ⊢
  clear hs hB
  have HSZ := Lib.hid hsz
  clear hsz
  by_cases hbig : 65536 < n
  · have HER : Hid (ReadErr s 3) := Lib.hid (Or.inl ⟨by rw [HSZ.out]; exact hbig, rfl⟩)
    go_enter Tryz.func13, Tryz.ntmps13
    go_wp2_with fail
    go_ret3
    exact Or.inl ⟨3, HER.out, rfl, Below.refl _ _⟩
  · have hs6 : s.size ≤ 65536 := by rw [HSZ.out]; omega
    have K32 := Lib.hid (c32 s hs6 w hg)
    have HS6 := Lib.hid hs6
    clear hg hs6
    go_enter Tryz.func13, Tryz.ntmps13
    go_wp2_with fail
    refine K32.out.mono ?_
    rintro e1 w1 (⟨h8, rfl, hb⟩ | ⟨h8, hm, rfl, hb⟩ | ⟨h8, hm, k, bq, hp, hb, ⟨rfl, rfl⟩ | ⟨rfl, V, rfl, ho⟩⟩)
    · have HER : Hid (ReadErr s 4) := Lib.hid (Or.inr ⟨HS6.out, Or.inl ⟨h8, rfl⟩⟩)
      have HB := Lib.hid hb
      clear hb
      go_wp2_with fail
      go_ret3
      exact Or.inl ⟨4, HER.out, rfl, HB.out⟩
    · have HER : Hid (ReadErr s 5) := Lib.hid (Or.inr ⟨HS6.out, Or.inr ⟨h8, Or.inl ⟨hm, rfl⟩⟩⟩)
      have HB := Lib.hid hb
      clear hb hm
      go_wp2_with fail
      go_ret3
      exact Or.inl ⟨5, HER.out, rfl, HB.out⟩
    · have HER : Hid (ReadErr s (erP (bb s) s.size k)) := Lib.hid (Or.inr ⟨HS6.out, Or.inr ⟨h8, Or.inr ⟨hm, k, Or.inl ⟨hp, rfl⟩⟩⟩⟩)
      have HB := Lib.hid hb
      have he0 : ((erP (bb s) s.size k : Int) != 0) = true := by
        unfold erP
        split
        · rfl
        · split
          · rfl
          · split <;> rfl
      clear hb hm hp
      generalize erP (bb s) s.size k = er at *
      go_wp2_with fail
      go_ret3
      exact Or.inl ⟨er, HER.out, rfl, HB.out⟩
    · have HP := Lib.hid hp
      have HB := Lib.hid hb
      have HM := Lib.hid hm
      obtain ⟨AV, cV, rfl, hopen⟩ := row_open ho
      have HPS : Hid (Ps w1 AV k (pcS s)) := Lib.hid (ps_row ho HS6.out hp)
      have HER : Hid (¬ GoodR s k → ReadErr s 5) := Lib.hid (fun h => Or.inr ⟨HS6.out, Or.inr ⟨h8, Or.inr ⟨hm, k, Or.inr ⟨hp, h, rfl⟩⟩⟩⟩)
      have HGD : Hid (GoodR s k → ReadGood s k) := Lib.hid (fun h => ⟨HS6.out, h8, hm, hp, h⟩)
      have hk6 := parts_k HS6.out hp
      have HSM := Lib.hid (pcs_small HS6.out hp)
      clear hp hb hm ho
      by_cases hk0 : 0 < k
      · obtain ⟨b0, rfl, hl0, -, hkc, -⟩ := hopen hk0
        have HKC := Lib.hid hkc
        clear hopen
        obtain ⟨b, o, hbe, hbl, hcc⟩ := HPS.out hk0
        injection hbe with hbe
        injection hbe with e1 e2
        subst e1 e2
        obtain ⟨q0, q1, q2, z1, z2, z3⟩ := hcc 0 hk0
        simp only [Nat.zero_mul, Nat.add_zero, Nat.zero_add] at q0 q1 q2
        have K33 := Lib.hid (c33 (pcS s 0).nm (by omega))
        by_cases hix : trS (pcS s 0).nm = ⟨#[47]⟩
        · rw [str_47, decide_eq_true hix] at K33
          have HI1 : Hid (ix1 s k = 1) := Lib.hid (by unfold ix1; rw [if_pos ⟨hk0, hix⟩])
          clear hix
          go_wp2_with fail
          refine (K33.out _).mono ?_
          rintro _ _ ⟨rfl, rfl⟩
          obtain ⟨A', hA', hA2⟩ : ∃ A' : Option Addr, some (if cV = 1 then (⟨b0, 0, none⟩ : Addr) else ⟨b0, 3, none⟩) = A' ∧ (A' = some ⟨b0, 3, none⟩ ∨ k - 1 = 0) := ⟨_, rfl, by
            have hkc2 := HKC.out
            by_cases hc1 : cV = 1
            · exact Or.inr (by omega)
            · rw [if_neg hc1]; exact Or.inl rfl⟩
          have hsl : ∀ W, (Instr.slice 61 (.slice (some ⟨b0, 0, none⟩) k cV) (some (.int .i64 1)) none none).run Tryz.prog W = .ok (.slice A' (k - 1) (cV - 1)) W := fun W => by
            have hkc2 := HKC.out
            rw [← hA']
            exact sl61 b0 k cV (by omega) (by omega) W
          have HPT : Hid (∀ W, Below w1.heap.size w1 W → Ps W A' (k - 1) (fun i => pcS s (i + 1))) := Lib.hid (fun W hb => ps_tail (ps_below HPS.out hb) hA2)
          have HW2 : Hid (Below w1.heap.size w1 (w1.alloc (.cells #[.string (pcS s 0).nm, .int .i64 ((pcS s 0).at' : Int), .string (pcS s 0).body] 65)).drew) := Lib.hid ((Below.refl w1.heap.size w1).alloc (Nat.le_refl _) _).drew
          have HBN : Hid (Below w.heap.size w (w1.alloc (.cells #[.string (pcS s 0).nm, .int .i64 ((pcS s 0).at' : Int), .string (pcS s 0).body] 65)).drew) := Lib.hid (HB.out.alloc HB.out.size _).drew
          have HTB : Hid (∀ W, Below (w1.alloc (.cells #[.string (pcS s 0).nm, .int .i64 ((pcS s 0).at' : Int), .string (pcS s 0).body] 65)).drew.heap.size (w1.alloc (.cells #[.string (pcS s 0).nm, .int .i64 ((pcS s 0).at' : Int), .string (pcS s 0).body] 65)).drew W → W.cell? ⟨w1.heap.size, 2, none⟩ = some (.string (pcS s 0).body)) := Lib.hid (fun W hb => by
            rw [hb.cell (p := ⟨w1.heap.size, 2, none⟩) (by show _ < (w1.alloc _).heap.size; simp)]
            exact World.cell?_alloc_at _ _ _ _ (by simp))
          have K34 := Lib.hid (c34 A' (k - 1) (cV - 1) (fun i => pcS s (i + 1)) (w1.alloc (.cells #[.string (pcS s 0).nm, .int .i64 ((pcS s 0).at' : Int), .string (pcS s 0).body] 65)).drew (HPT.out _ HW2.out) (by omega) (fun i j h _ => Nat.ne_of_lt (pcs_at_lt s (by omega))))
          have HGA : Hid (GoodR s k ↔ AllS (fun i => pcS s (i + 1)) (k - 1) ∧ IdxGood (pcS s 0).body (fun i => (pcS s (i + 1)).at') (k - 1)) := Lib.hid (by
            unfold GoodR
            rw [HI1.out]
            exact ⟨fun h => ⟨h.1, h.2 rfl⟩, fun h => ⟨h.1, fun _ => h.2⟩⟩)
          clear hA' hA2
          have r0 : (w1.alloc (.cells #[.string ⟨#[]⟩, .int .i64 0, .string ⟨#[]⟩] 65)).drew.cell? ⟨b0, 0, none⟩ = some (.string (pcS s 0).nm) := by
            rw [← q0]; exact (((Below.refl w1.heap.size w1).alloc (Nat.le_refl _) _).drew).cell (p := ⟨b0, 0, none⟩) hl0
          have r1 : (w1.alloc (.cells #[.string ⟨#[]⟩, .int .i64 0, .string ⟨#[]⟩] 65)).drew.cell? ⟨b0, 1, none⟩ = some (.int .i64 ((pcS s 0).at' : Int)) := by
            rw [← q1]; exact (((Below.refl w1.heap.size w1).alloc (Nat.le_refl _) _).drew).cell (p := ⟨b0, 1, none⟩) hl0
          have r2 : (w1.alloc (.cells #[.string ⟨#[]⟩, .int .i64 0, .string ⟨#[]⟩] 65)).drew.cell? ⟨b0, 2, none⟩ = some (.string (pcS s 0).body) := by
            rw [← q2]; exact (((Below.refl w1.heap.size w1).alloc (Nat.le_refl _) _).drew).cell (p := ⟨b0, 2, none⟩) hl0
          go_wp2_with fail
          go_region
          all_goals
            go_wp2_with fail
            refine K34.out.mono ?_
            rintro e2 w2 (⟨hno, rfl, hb2⟩ | ⟨hyes, v, Bm, sl, rfl, ho2, hsl2, hmi, hb2⟩)
            · have HE5 := Lib.hid (HER.out (fun h => hno (HGA.out.mp h).1))
              have HB2 : Hid (Below w.heap.size w w2) := Lib.hid (HBN.out.trans (hb2.mono HBN.out.size))
              clear hno hb2
              go_wp2_with fail
              go_ret3
              exact Or.inl ⟨5, HE5.out, rfl, HB2.out⟩
            · have HYES := Lib.hid hyes
              have HB2 : Hid (Below w.heap.size w w2) := Lib.hid (HBN.out.trans (hb2.mono HBN.out.size))
              obtain ⟨A2, c2, G, rfl, hms, hmm, hfs⟩ := ms_row ho2 hsl2 (fun j hj => ⟨(HSM.out (j + 1) (by omega)).1, (HSM.out (j + 1) (by omega)).2.1⟩)
              have HMS := Lib.hid hms
              have HMM := Lib.hid hmm
              have HFS := Lib.hid hfs
              have t2 := HTB.out w2 hb2
              have hbz := (HSM.out 0 hk0).2.1
              have K35 := Lib.hid (c35 (pcS s 0).body hbz Bm (k - 1) (fun i => (pcS s (i + 1)).at') w2 hmi (by omega))
              have HBZ := Lib.hid hbz
              have HCR : Hid (cntR s k = bigN (bb (pcS s 0).body) 0) := Lib.hid (by unfold cntR; rw [if_pos HI1.out])
              clear hyes hb2 ho2 hsl2 hmi hms hmm hbz hfs
              obtain ⟨tb, htb⟩ : ∃ tb, (pcS s 0).body = tb := ⟨_, rfl⟩
              rw [htb] at t2 K35 HGA HCR HBZ
              have HTB2 := Lib.hid htb
              clear htb
              go_wp2_with fail
              refine K35.out.mono ?_
              rintro e3 w3 (⟨hno, rfl, hb3⟩ | ⟨hyes, V, mf, rfl, ho3, hmf, hb3⟩)
              · have HE5 := Lib.hid (HER.out (fun h => hno (HGA.out.mp h).2.1))
                have HB3 : Hid (Below w.heap.size w w3) := Lib.hid (HB2.out.trans (hb3.mono HB2.out.size))
                clear hno hb3
                go_wp2_with fail
                go_ret3
                exact Or.inl ⟨5, HE5.out, rfl, HB3.out⟩
              · have HB3 : Hid (Below w.heap.size w w3) := Lib.hid (HB2.out.trans (hb3.mono HB2.out.size))
                obtain ⟨A3, c3, X, rfl, his, hixs⟩ := is_row (P := fun i => (pcS s (i + 1)).at') (n := k - 1) ho3 hmf HBZ.out (by omega)
                by_cases hnp : np (bb tb) tb.size (bigN (bb tb) 0) = tb.size
                · have HGG := Lib.hid (HGD.out (HGA.out.mpr ⟨HYES.out, hyes, hnp⟩))
                  have HMS3 := Lib.hid (HMS.out.below hb3)
                  have HFS3 : Hid (∀ i, i < k - 1 → Fs w3 w.heap.size (G i).A (G i).c) := Lib.hid (fun i hi => (HFS.out i hi).below hb3 HBN.out.size)
                  have HIS := Lib.hid his
                  have HIX2 := Lib.hid hixs
                  rw [decide_eq_true hnp]
                  clear hnp hyes hb3 ho3 hmf his hixs
                  go_wp2_with fail
                  go_ret3
                  exact Or.inr ⟨k, HGG.out, A2, c2, A3, c3, G, X, by rw [HI1.out, HCR.out]; rfl, by rw [HI1.out]; exact HMS3.out, by rw [HI1.out]; exact HMM.out, by rw [HCR.out]; exact HIS.out, fun _ => by rw [HCR.out, HTB2.out]; exact HIX2.out, HB3.out, by rw [HI1.out]; exact HFS3.out⟩
                · have HE5 := Lib.hid (HER.out (fun h => hnp (HGA.out.mp h).2.2))
                  rw [decide_eq_false hnp]
                  clear hnp hyes hb3 ho3 hmf his hixs
                  go_wp2_with fail
                  go_ret3
                  exact Or.inl ⟨5, HE5.out, rfl, HB3.out⟩
        · rw [str_47, decide_eq_false hix] at K33
          have HI0 : Hid (ix1 s k = 0) := Lib.hid (by unfold ix1; rw [if_neg (fun h => hix h.2)])
          have HW1 := Lib.hid ((Below.refl w1.heap.size w1).alloc (Nat.le_refl _) (.cells #[.string ⟨#[]⟩, .int .i64 0, .string ⟨#[]⟩] 65))
          have K34 := Lib.hid (c34 (some ⟨b0, 0, none⟩) k cV (pcS s) (w1.alloc (.cells #[.string ⟨#[]⟩, .int .i64 0, .string ⟨#[]⟩] 65)) (ps_below HPS.out HW1.out) (by omega) (fun i j h _ => Nat.ne_of_lt (pcs_at_lt s h)))
          have HBN : Hid (Below w.heap.size w (w1.alloc (.cells #[.string ⟨#[]⟩, .int .i64 0, .string ⟨#[]⟩] 65))) := Lib.hid (HB.out.alloc HB.out.size _)
          have HGA : Hid (AllS (pcS s) k ↔ GoodR s k) := Lib.hid (by
            unfold GoodR
            rw [HI0.out]
            exact ⟨fun h => ⟨h, fun e => by cases e⟩, fun h => h.1⟩)
          clear hix
          go_wp2_with fail
          refine (K33.out _).mono ?_
          rintro _ _ ⟨rfl, rfl⟩
          go_wp2_with fail
          refine K34.out.mono ?_
          rintro e2 w2 (⟨hno, rfl, hb2⟩ | ⟨hyes, v, Bm, sl, rfl, ho2, hsl, hmi, hb2⟩)
          · have HE5 := Lib.hid (HER.out (fun h => hno (HGA.out.mpr h)))
            have HB2 : Hid (Below w.heap.size w w2) := Lib.hid (HBN.out.trans (hb2.mono HBN.out.size))
            clear hno hb2
            go_wp2_with fail
            go_ret3
            exact Or.inl ⟨5, HE5.out, rfl, HB2.out⟩
          · have HGG := Lib.hid (HGD.out (HGA.out.mp hyes))
            have HB2 : Hid (Below w.heap.size w w2) := Lib.hid (HBN.out.trans (hb2.mono HBN.out.size))
            obtain ⟨A2, c2, G, rfl, hms, hmm, hfs⟩ := ms_row ho2 hsl (fun j hj => ⟨(HSM.out j hj).1, (HSM.out j hj).2.1⟩)
            have HMS := Lib.hid hms
            have HMM := Lib.hid hmm
            have HFS := Lib.hid hfs
            have HC0 : Hid (cntR s k = 0) := Lib.hid (by unfold cntR; rw [if_neg (by rw [HI0.out]; decide)])
            clear hyes hb2 ho2 hsl hmi hms hmm hfs
            go_wp2_with fail
            go_ret3
            refine Or.inr ⟨k, HGG.out, A2, c2, none, 0, G, fun _ => ⟨⟨#[]⟩, 0⟩, by rw [HI0.out, HC0.out]; rfl, by rw [HI0.out]; exact HMS.out, by rw [HI0.out]; exact HMM.out, (by rw [HC0.out]; exact fun h => absurd h (by omega)), (fun h => by rw [HI0.out] at h; cases h), HB2.out, by rw [HI0.out]; exact fun i hi => (HFS.out i hi).below (Below.refl _ _) HBN.out.size⟩
      · obtain rfl : k = 0 := by omega
        have HI0 : Hid (ix1 s 0 = 0) := Lib.hid (by unfold ix1; rw [if_neg (fun h => absurd h.1 (by omega))])
        have HBN : Hid (Below w.heap.size w (w1.alloc (.cells #[.string ⟨#[]⟩, .int .i64 0, .string ⟨#[]⟩] 65))) := Lib.hid (HB.out.alloc HB.out.size _)
        have K34 := Lib.hid (c34 AV 0 cV (pcS s) (w1.alloc (.cells #[.string ⟨#[]⟩, .int .i64 0, .string ⟨#[]⟩] 65)) (fun h => absurd h (by omega)) (by omega) (fun i j _ h => absurd h (by omega)))
        have HGA : Hid (AllS (pcS s) 0 ↔ GoodR s 0) := Lib.hid (by
          unfold GoodR
          rw [HI0.out]
          exact ⟨fun h => ⟨h, fun e => by cases e⟩, fun h => h.1⟩)
        clear hopen
        go_wp2_with fail
        refine K34.out.mono ?_
        rintro e2 w2 (⟨hno, rfl, hb2⟩ | ⟨hyes, v, Bm, sl, rfl, ho2, hsl, hmi, hb2⟩)
        · exact absurd (fun i hi => absurd hi (by omega)) hno
        · have HGG := Lib.hid (HGD.out (HGA.out.mp hyes))
          have HB2 : Hid (Below w.heap.size w w2) := Lib.hid (HBN.out.trans (hb2.mono HBN.out.size))
          obtain ⟨A2, c2, G, rfl, hms, hmm, hfs⟩ := ms_row ho2 hsl (fun j hj => absurd hj (by omega))
          have HMS := Lib.hid hms
          have HMM := Lib.hid hmm
          have HFS := Lib.hid hfs
          have HC0 : Hid (cntR s 0 = 0) := Lib.hid (by unfold cntR; rw [if_neg (by rw [HI0.out]; decide)])
          clear hyes hb2 ho2 hsl hmi hms hmm hfs
          go_wp2_with fail
          go_ret3
          exact Or.inr ⟨0, HGG.out, A2, c2, none, 0, G, fun _ => ⟨⟨#[]⟩, 0⟩, by rw [HI0.out, HC0.out]; rfl, by rw [HI0.out]; exact HMS.out, by rw [HI0.out]; exact HMM.out, (by rw [HC0.out]; exact fun h => absurd h (by omega)), (fun h => by rw [HI0.out] at h; cases h), HB2.out, by rw [HI0.out]; exact fun i hi => (HFS.out i hi).below (Below.refl _ _) HBN.out.size⟩
theorem c13 (A : Option Addr) (n c : Nat) (f : Nat → Nat) (w : World) (hB : Bz w A n f) (hn : n ≤ 4611686018427387904) (hg : Gl w) : Calls Tryz.prog 13 #[.slice A n c] w (ReadOut (strN f n) w) :=
  (c13f A n c f w hB hn hg).mono fun e w' h => by
    rcases h with h | ⟨k, h1, A, c, B, d, g, x, h2, h3, h4, h5, h6, h7, _⟩
    · exact Or.inl h
    · exact Or.inr ⟨k, h1, A, c, B, d, g, x, h2, h3, h4, h5, h6, h7⟩
end Go.Proofs.YtgmifaadlaigdaaGreatDoor
