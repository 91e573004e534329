import Derived.Test.YtgmifaadlaigdaaGreatDoorQd
namespace Go.Proofs.YtgmifaadlaigdaaGreatDoor
open Go.ChangeShapes Go.WideShapes Go.ChangeAt Go.RowKit
set_option linter.unusedVariables false
theorem slS (s : ByteArray) (a b : Nat) (h1 : a ≤ b) (h2 : b ≤ s.size) (i j : Int) (hi : i = (a : Int)) (hj : j = (b : Int)) (W : World) : (Instr.slice 9 (.string s) (some (.int .i64 i)) (some (.int .i64 j)) none).run Tryz.prog W = .ok (.string (s.extract a b)) W := by
  subst hi hj
  have h := run_slice_string (P := Tryz.prog) W 9 s .i64 .i64 (a : Int) (b : Int) Tryz.underlying9 (by omega) (by omega) (by omega)
  simpa using h
theorem l_cells (w : World) (N : Nat) (hN : w.heap.size = N) (l : List Value) (t : TypeId) : ∀ (j : Nat) (u : Value), l[j]? = some u → (w.alloc (.cells l.toArray t)).cell? ((⟨N, 0, none⟩ : Addr).add j) = some u := by
  intro j u h
  subst hN
  have ha : ((⟨w.heap.size, 0, none⟩ : Addr).add j) = ⟨w.heap.size, j, none⟩ := by unfold Addr.add; split <;> simp_all
  rw [ha]
  rw [World.cell?_alloc_new]
  simpa using h
/-- append to a row of the call's own, as one step of a region that draws -/
theorem step_own {w : World} {ops : Array Oper} {o : Oper} {a : Act} {K : Act → World → Prop} {Q : Exit → Act → World → Prop} {E : Prop} (hgd : o.guard = none) (s x : Operand) (t : TypeId)
    (ho : o.op = .call { callee := .builtin .append, args := #[s, x], argTypes := #[t, t] })
    (base : Nat) (e : TypeId) (i : TypeInfo) (z : Value) (size bytes : Nat) (ht : Tryz.prog.underlying t = some (.slice e)) (hi : Tryz.prog.info? e = some i) (hz : i.zero = some z)
    (hsize : i.size = size) (hby : i.bytes = bytes) (hzs : z.cells.size = size) (hsz : 0 < size)
    (v : Value) (n : Nat) (xs : List Value) (hs : a.eval s = v) (hown : w.ownsRow base e size v n xs)
    (ad : Addr) (m c : Nat) (news : List Value) (hx : a.eval x = .slice (some ad) m c) (hl : news.length = m * size) (hnews : ∀ j u, news[j]? = some u → w.cell? (ad.add j) = some u) (h1 : ∀ u ∈ news, u.oneCell' = true)
    (h63 : n + m ≤ maxLen) (hbytes : (n + m) * bytes ≤ 140737488355328) (hbase : base ≤ w.heap.size)
    (h : ∀ v' w', w'.ownsRow base e size v' (n + m) (xs ++ news) → w.grownBy w' v.ownBlock → K (a.put o.dst v') w') : if Region.wanted o (yielded ops a.tmps) = true then Oper.wp Tryz.prog o a w K Q else E := by
  have hw : Region.wanted o (yielded ops a.tmps) = true := by simp [Region.wanted, hgd]
  rw [if_pos hw]
  exact wp_append_own w s x t ho base e i z size bytes ht hi hz hsize hby hzs hsz v n xs hs hown ad m c news hx hl hnews h1 h63 hbytes hbase fun v' w' q1 q2 _ => h v' w' q1 q2
theorem two_bytes (s : ByteArray) (a : Nat) (h : a + 2 ≤ s.size) : ((s.extract a (a + 2)).toList == [96, 10]) = (decide (bb s a = 96) && decide (bb s (a + 1) = 10)) := by
  rw [ext_str s a 2 h, ByteArray.toList_eq, strN_data]
  have h0 := bb_lt s a
  have h1 := bb_lt s (a + 1)
  show ([UInt8.ofNat (bb s (a + 0)), UInt8.ofNat (bb s (a + 1))] == [96, 10]) = _
  rw [Nat.add_zero, Bool.eq_iff_iff]
  have k : ∀ x c : Nat, x < 256 → c < 256 → (UInt8.ofNat x = UInt8.ofNat c ↔ x = c) := fun x c hx hc => by
    rw [← UInt8.toNat_inj, UInt8.toNat_ofNat', UInt8.toNat_ofNat']
    omega
  have k1 := k (bb s a) 96 h0 (by decide)
  have k2 := k (bb s (a + 1)) 10 h1 (by decide)
  simp only [beq_iff_eq, List.cons.injEq, and_true, Bool.and_eq_true, decide_eq_true_iff]
  exact ⟨fun ⟨q1, q2⟩ => ⟨k1.mp q1, k2.mp q2⟩, fun ⟨q1, q2⟩ => ⟨k1.mpr q1, k2.mpr q2⟩⟩
/-- the cells of so many pieces -/
noncomputable def pcC (s : ByteArray) : Nat → List Value
  | 0 => []
  | k + 1 => pcC s k ++ [.string (s.extract (atN (bb s) k) (atN (bb s) k + 16)), .int .i64 (atN (bb s) k : Int), .string (s.extract (atN (bb s) k + 60) (atN (bb s) k + 60 + (szF (bb s) (atN (bb s) k)).1))]
/-- what split answers -/
def SplitOut (s : ByteArray) (w : World) (e : Ending) (w' : World) : Prop :=
  (s.size < 8 ∧ e = .returned (.tuple #[.slice none 0 0, .int .i64 4]) ∧ Below w.heap.size w w') ∨
  (8 ≤ s.size ∧ strN (bb s) 8 ≠ magicB ∧ e = .returned (.tuple #[.slice none 0 0, .int .i64 5]) ∧ Below w.heap.size w w') ∨
  (8 ≤ s.size ∧ strN (bb s) 8 = magicB ∧ ∃ k b, Parts (bb s) s.size k b ∧ Below w.heap.size w w' ∧
    ((b = false ∧ e = .returned (.tuple #[.slice none 0 0, .int .i64 (erP (bb s) s.size k : Int)])) ∨
     (b = true ∧ ∃ V, e = .returned (.tuple #[V, .int .i64 0]) ∧ w'.ownsRow w.heap.size 65 3 V k (pcC s k))))
def R32 (s : ByteArray) (w : World) (v a : Value) (wr : World) : Prop := ∃ k : Nat, a = .int .i64 (posN (bb s) k : Int) ∧ posN (bb s) k ≤ s.size ∧ (∀ i, i < k → posN (bb s) i < s.size ∧ okP (bb s) s.size i) ∧ wr.ownsRow w.heap.size 65 3 v k (pcC s k) ∧ Below w.heap.size w wr
set_option maxRecDepth 100000 in
set_option maxHeartbeats 8000000 in
theorem c32 (s : ByteArray) (hs : s.size ≤ 65536) (w : World) (hg : Gl w) : Calls Tryz.prog 32 #[.string s] w (SplitOut s w) := by
  have HG : Hid (∀ w', Below w.heap.size w w' → Gl w') := Lib.hid (fun w' h => hg.below h)
  clear hg
  obtain ⟨i0, hi, hz⟩ : ∃ i, Tryz.prog.info? 65 = some i ∧ (i.zero, i.size, i.bytes) = (some (.agg #[.string ⟨#[]⟩, .int .i64 0, .string ⟨#[]⟩]), 3, 40) := by
    have h : (Tryz.prog.info? 65).map (fun i => (i.zero, i.size, i.bytes)) = some (some (.agg #[.string ⟨#[]⟩, .int .i64 0, .string ⟨#[]⟩]), 3, 40) := by kernel_rfl
    cases hq : Tryz.prog.info? 65 with
    | none => rw [hq] at h; cases h
    | some i => rw [hq] at h; exact ⟨i, rfl, by simpa using h⟩
  simp only [Prod.mk.injEq] at hz
  obtain ⟨hz0, hz1, hz2⟩ := hz
  have HI := Lib.hid hi
  have HZ0 := Lib.hid hz0
  have HZ1 := Lib.hid hz1
  have HZ2 := Lib.hid hz2
  clear hi hz0 hz1 hz2
  by_cases h8 : s.size < 8
  · go_enter Tryz.func32, Tryz.ntmps32
    go_wp2_with fail
    go_ret2
    exact Or.inl ⟨h8, rfl, Below.refl _ _⟩
  · have K50 : Hid (∀ w, Calls Tryz.prog 50 #[.string s, .string magicB] w fun e w' => e = .returned (.bool (decide (strN (bb s) 8 = magicB))) ∧ w = w') := Lib.hid (fun w => by
      rw [← pre_magic s (by omega)]
      exact (Tryz.strings_HasPrefix s magicB w).mono fun _ _ ⟨h1, h2⟩ => ⟨h1, h2.symm⟩)
    by_cases hm : strN (bb s) 8 = magicB
    · rw [decide_eq_true hm] at K50
      have HM := Lib.hid hm
      clear hm
      go_enter Tryz.func32, Tryz.ntmps32
      go_wp2_with fail
      refine (K50.out _).mono ?_
      rintro _ _ ⟨rfl, rfl⟩
      go_wp2_with fail
      go_loopw [4, 5] (fun v a wr => R32 s w v a wr) (fun _ a _ => s.size - (intOf a).toNat)
      case atStart => exact ⟨0, rfl, by show 8 ≤ _; omega, fun i hi => absurd hi (by omega), World.ownsRow_nil _ _ _ _, Below.refl _ _⟩
      case round =>
        obtain ⟨k, rfl, hle, hok, ho, hb⟩ := hrel
        have HOK := Lib.hid hok
        have HO := Lib.hid ho
        have HB := Lib.hid hb
        clear hok ho hb
        by_cases hlt : posN (bb s) k < s.size
        · have HPK : Hid (¬ okP (bb s) s.size k → Parts (bb s) s.size k false) := Lib.hid (fun h => ⟨HOK.out, Or.inr ⟨rfl, hlt, h⟩⟩)
          have HST : Hid (okP (bb s) s.size k → ∀ i, i < k + 1 → posN (bb s) i < s.size ∧ okP (bb s) s.size i) := Lib.hid (fun h i hi => by
            by_cases e : i = k
            · rw [e]; exact ⟨hlt, h⟩
            · exact HOK.out i (by omega))
          have HAT : Hid (atN (bb s) k = evn (posN (bb s) k)) := Lib.hid rfl
          have HPS : Hid (posN (bb s) (k + 1) = atN (bb s) k + 60 + (szF (bb s) (atN (bb s) k)).1) := Lib.hid rfl
          have HCC : Hid (pcC s (k + 1) = pcC s k ++ [.string (s.extract (atN (bb s) k) (atN (bb s) k + 16)), .int .i64 (atN (bb s) k : Int), .string (s.extract (atN (bb s) k + 60) (atN (bb s) k + 60 + (szF (bb s) (atN (bb s) k)).1))]) := Lib.hid rfl
          have HKP : Hid (okP (bb s) s.size k ↔ (posN (bb s) k % 2 = 1 → bb s (posN (bb s) k) = 10 ∧ posN (bb s) k + 1 ≠ s.size) ∧ atN (bb s) k + 60 ≤ s.size ∧ ((szF (bb s) (atN (bb s) k)).2 = true ∧ bb s (atN (bb s) k + 58) = 96 ∧ bb s (atN (bb s) k + 59) = 10) ∧ atN (bb s) k + 60 + (szF (bb s) (atN (bb s) k)).1 ≤ s.size) := Lib.hid Iff.rfl
          obtain ⟨p, hp⟩ : ∃ p, posN (bb s) k = p := ⟨_, rfl⟩
          have HP := Lib.hid hp
          rw [hp] at hlt hle HAT HKP
          clear hp
          have hpe : (s[p]'hlt).toNat = bb s p := (bb_eq s p hlt).symm
          by_cases hodd : p % 2 = 1
          · by_cases hg : bb s p = 10 ∧ p + 1 ≠ s.size
            · have hpar : p % 2 = 1 → bb s p = 10 ∧ p + 1 ≠ s.size := fun _ => hg
              have b1 : ((bb s p : Int) != 10) = false := by rw [hg.1]; rfl
              have b2 : ((p : Int) + 1 == (s.size : Int)) = false := by rw [beq_eq_false_iff_ne]; omega
              have hbp := hg.1
              have HG10 := Lib.hid hg
              rw [hbp] at hpe
              clear hbp
              have HEV : Hid (atN (bb s) k = p + 1) := Lib.hid (by rw [HAT.out]; unfold evn; omega)
              rw [HEV.out] at HPS HCC HKP
              rw [HP.out]
              by_cases h60 : p + 1 + 60 ≤ s.size
              · have hs1 : ∀ W, (Instr.slice 9 (.string s) (some (.int .i64 ((p : Int) + 1))) (some (.int .i64 (((p : Int) + 1) + 60))) none).run Tryz.prog W = .ok (.string (s.extract (p + 1) (p + 1 + 60))) W := slS s (p + 1) (p + 1 + 60) (by omega) h60 _ _ (by omega) (by omega)
                have HDZ : Hid ((s.extract (p + 1) (p + 1 + 60)).size = 60) := Lib.hid (by rw [ext_size _ _ _ h60]; omega)
                have HN : Hid ((s.extract (p + 1) (p + 1 + 60)).extract 0 16 = s.extract (p + 1) (p + 1 + 16)) := Lib.hid (by rw [ext_ext _ _ _ _ _ (by omega)] <;> rfl)
                have HF : Hid ((s.extract (p + 1) (p + 1 + 60)).extract 48 58 = s.extract (p + 1 + 48) (p + 1 + 58)) := Lib.hid (by rw [ext_ext _ _ _ _ _ (by omega)])
                have HTL : Hid ((((s.extract (p + 1) (p + 1 + 60)).extract 58 60).toList == [96, 10]) = (decide (bb s (p + 1 + 58) = 96) && decide (bb s (p + 1 + 59) = 10))) := Lib.hid (by rw [ext_ext _ _ _ _ _ (by omega)]; exact two_bytes s (p + 1 + 58) (by omega))
                have K51 : Hid (∀ w', Below w.heap.size w w' → Calls Tryz.prog 51 #[.string ((s.extract (p + 1) (p + 1 + 60)).extract 48 58)] w' fun e w'' => ∃ u : Nat, e = .returned (.tuple #[.int .u64 (u : Int), .bool (szF (bb s) (p + 1)).2]) ∧ ((szF (bb s) (p + 1)).2 = true → u = (szF (bb s) (p + 1)).1) ∧ Below w'.heap.size w' w'') := Lib.hid (fun w' hb => by
                  rw [HF.out]
                  have h := c51 (s.extract (p + 1 + 48) (p + 1 + 58)) (by rw [ext_size _ _ _ (by omega)]; omega) w' (HG.out _ hb)
                  unfold Sz at h
                  rw [szF_ext s (p + 1) (by omega)] at h
                  exact h)
                obtain ⟨hd, hhd⟩ : ∃ hd, s.extract (p + 1) (p + 1 + 60) = hd := ⟨_, rfl⟩
                rw [hhd] at HDZ HN HF HTL K51 hs1
                have hs2 : ∀ W, (Instr.slice 9 (.string hd) (some (.int .i64 48)) (some (.int .i64 58)) none).run Tryz.prog W = .ok (.string (hd.extract 48 58)) W := slS hd 48 58 (by omega) (by rw [HDZ.out]; omega) _ _ rfl rfl
                have hs3 : ∀ W, (Instr.slice 9 (.string hd) (some (.int .i64 58)) none none).run Tryz.prog W = .ok (.string (hd.extract 58 60)) W := fun W => by
                  rw [run_slice_string_from_if W 9 hd .i64 58 Tryz.underlying9, if_pos (by rw [HDZ.out]; omega), HDZ.out]
                  rfl
                have hs4 : ∀ W, (Instr.slice 9 (.string hd) none (some (.int .i64 16)) none).run Tryz.prog W = .ok (.string (hd.extract 0 16)) W := fun W => by
                  rw [run_slice_string_to_if W 9 hd .i64 16 Tryz.underlying9, if_pos (by rw [HDZ.out]; omega)]
                  rfl
                clear hhd
                rw [← HN.out] at HCC
                generalize hd.extract 0 16 = nmS at *
                generalize hd.extract 48 58 = fld at *
                generalize hd.extract 58 60 = tl at *
                obtain ⟨ok, hokq⟩ : ∃ ok, (szF (bb s) (p + 1)).2 = ok := ⟨_, rfl⟩
                obtain ⟨sz, hszq⟩ : ∃ sz, (szF (bb s) (p + 1)).1 = sz := ⟨_, rfl⟩
                rw [hokq, hszq] at K51
                rw [hokq, hszq] at HKP
                rw [hszq] at HPS HCC
                clear hszq HF HN HAT
                have HER : Hid ((¬ okP (bb s) s.size k) → (posN (bb s) k % 2 = 1 → bb s (posN (bb s) k) = 10 ∧ posN (bb s) k + 1 ≠ s.size) → erP (bb s) s.size k = if ¬ (ok = true ∧ bb s (p + 1 + 58) = 96 ∧ bb s (p + 1 + 59) = 10) then 5 else 4) := Lib.hid (fun _ h => by
                unfold erP
                rw [if_neg (fun q => q h), if_neg (by rw [HEV.out]; exact fun q => q h60), HEV.out, hokq])
                go_wp2_with fail
                refine (K51.out _ HB.out).mono ?_
                rintro _ w1 ⟨u, rfl, hu, hb1⟩
                have HU := Lib.hid hu
                have HB1 : Hid (Below w.heap.size w w1) := Lib.hid (HB.out.trans (hb1.mono HB.out.size))
                have HO1 := Lib.hid (own_below HO.out hb1)
                clear hu hb1
                have HER2 : Hid (¬ okP (bb s) s.size k → erP (bb s) s.size k = if ¬ (ok = true ∧ bb s (p + 1 + 58) = 96 ∧ bb s (p + 1 + 59) = 10) then 5 else 4) := Lib.hid (fun h => HER.out h (by rw [HP.out]; exact hpar))
                cases ok
                · have HNO : Hid (¬ okP (bb s) s.size k) := Lib.hid (fun h => by have := (HKP.out.mp h).2.2.1.1; cases this)
                  have HE5 : Hid (erP (bb s) s.size k = 5) := Lib.hid (by rw [HER2.out HNO.out, if_pos (fun q => by cases q.1)])
                  go_wp2_with fail
                  go_ret2
                  exact Or.inr (Or.inr ⟨by omega, HM.out, k, false, HPK.out HNO.out, HB1.out, Or.inl ⟨rfl, by rw [HE5.out] <;> rfl⟩⟩)
                · have HU2 := Lib.hid (HU.out rfl)
                  rw [← HU2.out] at HKP HPS HCC
                  by_cases htl : bb s (p + 1 + 58) = 96 ∧ bb s (p + 1 + 59) = 10
                  · have q0 : (tl.toList == [96, 10]) = true := by rw [HTL.out, decide_eq_true htl.1, decide_eq_true htl.2]; rfl
                    have HTT := Lib.hid htl
                    clear htl
                    by_cases hbig : p + 1 + 60 + u ≤ s.size
                    · have HOKK : Hid (okP (bb s) s.size k) := Lib.hid (HKP.out.mpr ⟨hpar, h60, ⟨rfl, HTT.out⟩, hbig⟩)
                      have HS2 := Lib.hid (HST.out HOKK.out)
                      have hs5 : ∀ W, (Instr.slice 9 (.string s) (some (.int .i64 (((p : Int) + 1) + 60))) (some (.int .i64 (((p : Int) + 1) + 60 + (u : Int)))) none).run Tryz.prog W = .ok (.string (s.extract (p + 1 + 60) (p + 1 + 60 + u))) W := slS s (p + 1 + 60) (p + 1 + 60 + u) (by omega) hbig _ _ (by omega) (by omega)
                      have q1 : decide (IntKind.u64.wrap ((s.size : Int) - (((p : Int) + 1) + 60)) < (u : Int)) = false := by
                        rw [IntKind.wrap_u64, decide_eq_false_iff_not]; omega
                      have hkk : k ≤ 65536 := by have := posN_ge (bb s) k; rw [HP.out] at this; omega
                      have HO2 : Hid (w1.drew.ownsRow w.heap.size 65 3 u4 k (pcC s k)) := Lib.hid HO1.out
                      have hzw := HB1.out.size
                      go_wp2_with fail
                      go_region_law (refine step_own rfl _ _ 61 rfl w.heap.size 65 i0 (.agg #[.string ⟨#[]⟩, .int .i64 0, .string ⟨#[]⟩]) 3 40 Tryz.underlying61 HI.out HZ0.out HZ1.out HZ2.out rfl (by decide) _ _ _ rfl (HO2.out.alloc _) ⟨w1.heap.size, 0, none⟩ 1 1 [.string nmS, .int .i64 ((p : Int) + 1), .string (s.extract (p + 1 + 60) (p + 1 + 60 + u))] rfl rfl (l_cells w1.drew w1.heap.size rfl [.string nmS, .int .i64 ((p : Int) + 1), .string (s.extract (p + 1 + 60) (p + 1 + 60 + u))] 65) (fun y hy => by simp at hy; rcases hy with rfl | rfl | rfl <;> rfl) (by unfold maxLen; omega) (by omega) (by simp; omega) ?_; intro v' w5 hown5 hgrow5)
                      all_goals
                        have HO5 := Lib.hid hown5
                        have HB5 : Hid (Below w.heap.size w w5) := Lib.hid (gr_below ((HB1.out.drew).alloc HB1.out.size _) (HO2.out.alloc _) hgrow5 (by simp; omega))
                        clear hown5 hgrow5
                        go_wp2_with fail
                        go_roundw
                        case rel => exact ⟨k + 1, by rw [HPS.out]; go_num, by rw [HPS.out]; exact hbig, HS2.out, by rw [HCC.out]; exact HO5.out, HB5.out⟩
                        case measure => simp [intOf]; omega
                    · have HNO : Hid (¬ okP (bb s) s.size k) := Lib.hid (fun h => hbig (HKP.out.mp h).2.2.2)
                      have HE5 : Hid (erP (bb s) s.size k = 4) := Lib.hid (by rw [HER2.out HNO.out, if_neg (fun q => q ⟨rfl, HTT.out⟩)])
                      have q1 : decide (IntKind.u64.wrap ((s.size : Int) - (((p : Int) + 1) + 60)) < (u : Int)) = true := by
                        rw [IntKind.wrap_u64, decide_eq_true_iff]; omega
                      go_wp2_with fail
                      go_ret2
                      exact Or.inr (Or.inr ⟨by omega, HM.out, k, false, HPK.out HNO.out, HB1.out, Or.inl ⟨rfl, by rw [HE5.out] <;> rfl⟩⟩)
                  · have q0 : (tl.toList == [96, 10]) = false := by
                      rw [HTL.out]
                      by_cases h1 : bb s (p + 1 + 58) = 96
                      · rw [decide_eq_false (fun h2 => htl ⟨h1, h2⟩), Bool.and_false]
                      · rw [decide_eq_false h1, Bool.false_and]
                    have HNO : Hid (¬ okP (bb s) s.size k) := Lib.hid (fun h => htl (HKP.out.mp h).2.2.1.2)
                    have HE5 : Hid (erP (bb s) s.size k = 5) := Lib.hid (by rw [HER2.out HNO.out, if_pos (fun q => htl q.2)])
                    clear htl
                    go_wp2_with fail
                    go_ret2
                    exact Or.inr (Or.inr ⟨by omega, HM.out, k, false, HPK.out HNO.out, HB1.out, Or.inl ⟨rfl, by rw [HE5.out] <;> rfl⟩⟩)
              · have HNO : Hid (¬ okP (bb s) s.size k) := Lib.hid (fun h => h60 (HKP.out.mp h).2.1)
                have HER : Hid (erP (bb s) s.size k = 4) := Lib.hid (by
                  unfold erP
                  rw [if_neg (by rw [HP.out]; exact fun q => q hpar), if_pos (by rw [HEV.out]; exact h60)])
                go_wp2_with fail
                go_ret2
                exact Or.inr (Or.inr ⟨by omega, HM.out, k, false, HPK.out HNO.out, HB.out, Or.inl ⟨rfl, by rw [HER.out] <;> rfl⟩⟩)
            · have HNO : Hid (¬ okP (bb s) s.size k) := Lib.hid (fun h => hg ((HKP.out.mp h).1 hodd))
              have HE5 : Hid (erP (bb s) s.size k = 5) := Lib.hid (by
                unfold erP
                rw [if_pos (by rw [HP.out]; exact fun q => hg (q hodd))])
              rw [HP.out]
              have hb : ((bb s p : Int) != 10) = true ∨ (((bb s p : Int) != 10) = false ∧ ((p : Int) + 1 == (s.size : Int)) = true) := by
                by_cases h1 : bb s p = 10
                · exact Or.inr ⟨by rw [h1]; rfl, by
                    rw [beq_iff_eq]
                    by_cases h2 : p + 1 = s.size
                    · omega
                    · exact absurd ⟨h1, h2⟩ hg⟩
                · exact Or.inl (by rw [bne_iff_ne]; omega)
              clear hg
              rcases hb with b1 | ⟨b1, b2⟩
              all_goals
                go_wp2_with fail
                go_ret2
                exact Or.inr (Or.inr ⟨by omega, HM.out, k, false, HPK.out HNO.out, HB.out, Or.inl ⟨rfl, by rw [HE5.out] <;> rfl⟩⟩)
          · have hpar : p % 2 = 1 → bb s p = 10 ∧ p + 1 ≠ s.size := fun h => absurd h hodd
            have HEV : Hid (atN (bb s) k = p) := Lib.hid (by rw [HAT.out]; unfold evn; omega)
            rw [HEV.out] at HPS HCC HKP
            rw [HP.out]
            by_cases h60 : p + 60 ≤ s.size
            · have hs1 : ∀ W, (Instr.slice 9 (.string s) (some (.int .i64 (p : Int))) (some (.int .i64 ((p : Int) + 60))) none).run Tryz.prog W = .ok (.string (s.extract (p) (p + 60))) W := slS s (p) (p + 60) (by omega) h60 _ _ (by omega) (by omega)
              have HDZ : Hid ((s.extract (p) (p + 60)).size = 60) := Lib.hid (by rw [ext_size _ _ _ h60]; omega)
              have HN : Hid ((s.extract (p) (p + 60)).extract 0 16 = s.extract (p) (p + 16)) := Lib.hid (by rw [ext_ext _ _ _ _ _ (by omega)] <;> rfl)
              have HF : Hid ((s.extract (p) (p + 60)).extract 48 58 = s.extract (p + 48) (p + 58)) := Lib.hid (by rw [ext_ext _ _ _ _ _ (by omega)])
              have HTL : Hid ((((s.extract (p) (p + 60)).extract 58 60).toList == [96, 10]) = (decide (bb s (p + 58) = 96) && decide (bb s (p + 59) = 10))) := Lib.hid (by rw [ext_ext _ _ _ _ _ (by omega)]; exact two_bytes s (p + 58) (by omega))
              have K51 : Hid (∀ w', Below w.heap.size w w' → Calls Tryz.prog 51 #[.string ((s.extract (p) (p + 60)).extract 48 58)] w' fun e w'' => ∃ u : Nat, e = .returned (.tuple #[.int .u64 (u : Int), .bool (szF (bb s) (p)).2]) ∧ ((szF (bb s) (p)).2 = true → u = (szF (bb s) (p)).1) ∧ Below w'.heap.size w' w'') := Lib.hid (fun w' hb => by
                rw [HF.out]
                have h := c51 (s.extract (p + 48) (p + 58)) (by rw [ext_size _ _ _ (by omega)]; omega) w' (HG.out _ hb)
                unfold Sz at h
                rw [szF_ext s (p) (by omega)] at h
                exact h)
              obtain ⟨hd, hhd⟩ : ∃ hd, s.extract (p) (p + 60) = hd := ⟨_, rfl⟩
              rw [hhd] at HDZ HN HF HTL K51 hs1
              have hs2 : ∀ W, (Instr.slice 9 (.string hd) (some (.int .i64 48)) (some (.int .i64 58)) none).run Tryz.prog W = .ok (.string (hd.extract 48 58)) W := slS hd 48 58 (by omega) (by rw [HDZ.out]; omega) _ _ rfl rfl
              have hs3 : ∀ W, (Instr.slice 9 (.string hd) (some (.int .i64 58)) none none).run Tryz.prog W = .ok (.string (hd.extract 58 60)) W := fun W => by
                rw [run_slice_string_from_if W 9 hd .i64 58 Tryz.underlying9, if_pos (by rw [HDZ.out]; omega), HDZ.out]
                rfl
              have hs4 : ∀ W, (Instr.slice 9 (.string hd) none (some (.int .i64 16)) none).run Tryz.prog W = .ok (.string (hd.extract 0 16)) W := fun W => by
                rw [run_slice_string_to_if W 9 hd .i64 16 Tryz.underlying9, if_pos (by rw [HDZ.out]; omega)]
                rfl
              clear hhd
              rw [← HN.out] at HCC
              generalize hd.extract 0 16 = nmS at *
              generalize hd.extract 48 58 = fld at *
              generalize hd.extract 58 60 = tl at *
              obtain ⟨ok, hokq⟩ : ∃ ok, (szF (bb s) (p)).2 = ok := ⟨_, rfl⟩
              obtain ⟨sz, hszq⟩ : ∃ sz, (szF (bb s) (p)).1 = sz := ⟨_, rfl⟩
              rw [hokq, hszq] at K51
              rw [hokq, hszq] at HKP
              rw [hszq] at HPS HCC
              clear hszq HF HN HAT
              have HER : Hid ((¬ okP (bb s) s.size k) → (posN (bb s) k % 2 = 1 → bb s (posN (bb s) k) = 10 ∧ posN (bb s) k + 1 ≠ s.size) → erP (bb s) s.size k = if ¬ (ok = true ∧ bb s (p + 58) = 96 ∧ bb s (p + 59) = 10) then 5 else 4) := Lib.hid (fun _ h => by
                unfold erP
                rw [if_neg (fun q => q h), if_neg (by rw [HEV.out]; exact fun q => q h60), HEV.out, hokq])
              go_wp2_with fail
              refine (K51.out _ HB.out).mono ?_
              rintro _ w1 ⟨u, rfl, hu, hb1⟩
              have HU := Lib.hid hu
              have HB1 : Hid (Below w.heap.size w w1) := Lib.hid (HB.out.trans (hb1.mono HB.out.size))
              have HO1 := Lib.hid (own_below HO.out hb1)
              clear hu hb1
              have HER2 : Hid (¬ okP (bb s) s.size k → erP (bb s) s.size k = if ¬ (ok = true ∧ bb s (p + 58) = 96 ∧ bb s (p + 59) = 10) then 5 else 4) := Lib.hid (fun h => HER.out h (by rw [HP.out]; exact hpar))
              cases ok
              · have HNO : Hid (¬ okP (bb s) s.size k) := Lib.hid (fun h => by have := (HKP.out.mp h).2.2.1.1; cases this)
                have HE5 : Hid (erP (bb s) s.size k = 5) := Lib.hid (by rw [HER2.out HNO.out, if_pos (fun q => by cases q.1)])
                go_wp2_with fail
                go_ret2
                exact Or.inr (Or.inr ⟨by omega, HM.out, k, false, HPK.out HNO.out, HB1.out, Or.inl ⟨rfl, by rw [HE5.out] <;> rfl⟩⟩)
              · have HU2 := Lib.hid (HU.out rfl)
                rw [← HU2.out] at HKP HPS HCC
                by_cases htl : bb s (p + 58) = 96 ∧ bb s (p + 59) = 10
                · have q0 : (tl.toList == [96, 10]) = true := by rw [HTL.out, decide_eq_true htl.1, decide_eq_true htl.2]; rfl
                  have HTT := Lib.hid htl
                  clear htl
                  by_cases hbig : p + 60 + u ≤ s.size
                  · have HOKK : Hid (okP (bb s) s.size k) := Lib.hid (HKP.out.mpr ⟨hpar, h60, ⟨rfl, HTT.out⟩, hbig⟩)
                    have HS2 := Lib.hid (HST.out HOKK.out)
                    have hs5 : ∀ W, (Instr.slice 9 (.string s) (some (.int .i64 ((p : Int) + 60))) (some (.int .i64 ((p : Int) + 60 + (u : Int)))) none).run Tryz.prog W = .ok (.string (s.extract (p + 60) (p + 60 + u))) W := slS s (p + 60) (p + 60 + u) (by omega) hbig _ _ (by omega) (by omega)
                    have q1 : decide (IntKind.u64.wrap ((s.size : Int) - ((p : Int) + 60)) < (u : Int)) = false := by
                      rw [IntKind.wrap_u64, decide_eq_false_iff_not]; omega
                    have hkk : k ≤ 65536 := by have := posN_ge (bb s) k; rw [HP.out] at this; omega
                    have HO2 : Hid (w1.drew.ownsRow w.heap.size 65 3 u4 k (pcC s k)) := Lib.hid HO1.out
                    have hzw := HB1.out.size
                    go_wp2_with fail
                    go_region_law (refine step_own rfl _ _ 61 rfl w.heap.size 65 i0 (.agg #[.string ⟨#[]⟩, .int .i64 0, .string ⟨#[]⟩]) 3 40 Tryz.underlying61 HI.out HZ0.out HZ1.out HZ2.out rfl (by decide) _ _ _ rfl (HO2.out.alloc _) ⟨w1.heap.size, 0, none⟩ 1 1 [.string nmS, .int .i64 (p : Int), .string (s.extract (p + 60) (p + 60 + u))] rfl rfl (l_cells w1.drew w1.heap.size rfl [.string nmS, .int .i64 (p : Int), .string (s.extract (p + 60) (p + 60 + u))] 65) (fun y hy => by simp at hy; rcases hy with rfl | rfl | rfl <;> rfl) (by unfold maxLen; omega) (by omega) (by simp; omega) ?_; intro v' w5 hown5 hgrow5)
                    all_goals
                      have HO5 := Lib.hid hown5
                      have HB5 : Hid (Below w.heap.size w w5) := Lib.hid (gr_below ((HB1.out.drew).alloc HB1.out.size _) (HO2.out.alloc _) hgrow5 (by simp; omega))
                      clear hown5 hgrow5
                      go_wp2_with fail
                      go_roundw
                      case rel => exact ⟨k + 1, by rw [HPS.out]; go_num, by rw [HPS.out]; exact hbig, HS2.out, by rw [HCC.out]; exact HO5.out, HB5.out⟩
                      case measure => simp [intOf]; omega
                  · have HNO : Hid (¬ okP (bb s) s.size k) := Lib.hid (fun h => hbig (HKP.out.mp h).2.2.2)
                    have HE5 : Hid (erP (bb s) s.size k = 4) := Lib.hid (by rw [HER2.out HNO.out, if_neg (fun q => q ⟨rfl, HTT.out⟩)])
                    have q1 : decide (IntKind.u64.wrap ((s.size : Int) - ((p : Int) + 60)) < (u : Int)) = true := by
                      rw [IntKind.wrap_u64, decide_eq_true_iff]; omega
                    go_wp2_with fail
                    go_ret2
                    exact Or.inr (Or.inr ⟨by omega, HM.out, k, false, HPK.out HNO.out, HB1.out, Or.inl ⟨rfl, by rw [HE5.out] <;> rfl⟩⟩)
                · have q0 : (tl.toList == [96, 10]) = false := by
                    rw [HTL.out]
                    by_cases h1 : bb s (p + 58) = 96
                    · rw [decide_eq_false (fun h2 => htl ⟨h1, h2⟩), Bool.and_false]
                    · rw [decide_eq_false h1, Bool.false_and]
                  have HNO : Hid (¬ okP (bb s) s.size k) := Lib.hid (fun h => htl (HKP.out.mp h).2.2.1.2)
                  have HE5 : Hid (erP (bb s) s.size k = 5) := Lib.hid (by rw [HER2.out HNO.out, if_pos (fun q => htl q.2)])
                  clear htl
                  go_wp2_with fail
                  go_ret2
                  exact Or.inr (Or.inr ⟨by omega, HM.out, k, false, HPK.out HNO.out, HB1.out, Or.inl ⟨rfl, by rw [HE5.out] <;> rfl⟩⟩)
            · have HNO : Hid (¬ okP (bb s) s.size k) := Lib.hid (fun h => h60 (HKP.out.mp h).2.1)
              have HER : Hid (erP (bb s) s.size k = 4) := Lib.hid (by
                unfold erP
                rw [if_neg (by rw [HP.out]; exact fun q => q hpar), if_pos (by rw [HEV.out]; exact h60)])
              go_wp2_with fail
              go_ret2
              exact Or.inr (Or.inr ⟨by omega, HM.out, k, false, HPK.out HNO.out, HB.out, Or.inl ⟨rfl, by rw [HER.out] <;> rfl⟩⟩)
        · have HPT : Hid (Parts (bb s) s.size k true) := Lib.hid ⟨HOK.out, Or.inl ⟨rfl, by omega⟩⟩
          have HPE : Hid (posN (bb s) k = s.size) := Lib.hid (by omega)
          rw [HPE.out]
          go_wp2_with fail
          go_ret2
          exact Or.inr (Or.inr ⟨by omega, HM.out, k, true, HPT.out, HB.out, Or.inr ⟨rfl, _, rfl, HO.out⟩⟩)
    · rw [decide_eq_false hm] at K50
      have HM := Lib.hid hm
      clear hm
      go_enter Tryz.func32, Tryz.ntmps32
      go_wp2_with fail
      refine (K50.out _).mono ?_
      rintro _ _ ⟨rfl, rfl⟩
      go_wp2_with fail
      go_ret2
      exact Or.inr (Or.inl ⟨by omega, HM.out, rfl, Below.refl _ _⟩)
end Go.Proofs.YtgmifaadlaigdaaGreatDoor
