import Derived.Test.YtoiiiobamanclaaR
namespace Go.Proofs.Ytoiiiobamanclaa
open Go.ChangeShapes Go.WideShapes Go.ChangeAt Go.RowKit Go.Shelf
set_option linter.unusedVariables false
/-- the table of all names -/
structure Tb (D : List (List Sm)) (O : List ByteArray) (T : List Bd) : Prop where
  len : T.length ≤ 1048576
  up : ∀ (i : Nat) a b, T[i]? = some a → T[i + 1]? = some b → ltN a.nm b.nm = true
  of : ∀ (i : Nat) b, T[i]? = some b → ∃ n ∈ outE D D.length, b = bnd O n
  all : ∀ n ∈ outE D D.length, (T.find? (fun b => decide (b.nm = n.tx))).isSome = true
theorem tb_of {D : List (List Sm)} {O : List ByteArray} {E : List Nm} (hp : E.Perm (outE D D.length)) (hs : E.Pairwise (fun a b => ltN b.tx a.tx = false)) (hl : E.length ≤ 1048576) : Tb D O (E.map (bnd O)) := by
  have hnd : (E.map (·.tx)).Nodup := (hp.map (·.tx)).nodup_iff.2 (out_nodup D)
  refine ⟨by rw [List.length_map]; exact hl, fun i a b ha hb => ?_, fun i b hb => ?_, fun n hn => ?_⟩
  · rw [List.getElem?_map] at ha hb
    obtain ⟨x, hx, rfl⟩ := Option.map_eq_some_iff.1 ha
    obtain ⟨y, hy, rfl⟩ := Option.map_eq_some_iff.1 hb
    obtain ⟨hi, ex⟩ := List.getElem?_eq_some_iff.1 hx
    obtain ⟨hj, ey⟩ := List.getElem?_eq_some_iff.1 hy
    have h1 := List.pairwise_iff_getElem.1 hs i (i + 1) hi hj (by omega)
    rw [ex, ey] at h1
    show ltN x.tx y.tx = true
    cases hq : ltN x.tx y.tx with
    | true => rfl
    | false =>
      have he : x.tx = y.tx := toList_inj (bl_tri _ _ hq h1)
      unfold List.Nodup at hnd
      have h2 := List.pairwise_iff_getElem.1 hnd i (i + 1) (by rw [List.length_map]; exact hi) (by rw [List.length_map]; exact hj) (by omega)
      rw [List.getElem_map, List.getElem_map, ex, ey] at h2
      exact absurd he h2
  · rw [List.getElem?_map] at hb
    obtain ⟨x, hx, rfl⟩ := Option.map_eq_some_iff.1 hb
    exact ⟨x, hp.mem_iff.1 (List.mem_of_getElem? hx), rfl⟩
  · rw [List.find?_isSome]
    exact ⟨bnd O n, List.mem_map.2 ⟨n, hp.mem_iff.2 hn, rfl⟩, by simp [bnd]⟩
theorem ofS_at {D : List (List Sm)} {O : List ByteArray} {T : List Bd} (h : Tb D O T) {o k : Nat} {S : List Sm} {s : Sm} (hS : D[o]? = some S) (hs : S[k]? = some s) : ∃ X, ofS T D (o : Int) (k : Int) = (X, true) ∧ (s.bd = 0 → X = ⟨(o : Int), (k : Int), -1⟩) := by
  unfold ofS
  rw [if_neg (by omega), Int.toNat_natCast, hS]
  dsimp only
  rw [if_neg (by omega), Int.toNat_natCast, hs]
  dsimp only
  by_cases hb : s.bd = 0
  · rw [if_pos hb]
    exact ⟨_, rfl, fun _ => rfl⟩
  · rw [if_neg hb]
    have hm : ofN (fl 0 D) s.nm ≠ [] := fun e => by
      have h1 := mem_fl (o := 0) hS hs
      have h2 : (s, (⟨((0 + o : Nat) : Int), (k : Int), -1⟩ : Tg)) ∈ ofN (fl 0 D) s.nm := ofN_mem.2 ⟨h1, rfl, hb⟩
      rw [e] at h2
      cases h2
    obtain ⟨n, hn, e⟩ := out_mem hm
    have h3 := h.all n hn
    rw [e] at h3
    obtain ⟨b, hb2⟩ := Option.isSome_iff_exists.1 h3
    rw [hb2]
    exact ⟨b.t, rfl, fun c => absurd c hb⟩
def RN4 (n0 : Nat) (m : Nat) (w : World) (n i : Value) (wr : World) : Prop := ∃ k : Nat, k ≤ m ∧ i = .int .i64 (k : Int) ∧ n = .int .i64 ((n0 + k : Nat) : Int) ∧ Below w.heap.size w wr
def RL (n : Nat) (w : World) (i : Value) (wr : World) : Prop := ∃ k : Nat, k ≤ n ∧ i = .int .i64 (k : Int) ∧ Below w.heap.size w wr
set_option maxRecDepth 100000 in
set_option maxHeartbeats 8000000 in
theorem all4 (v ov : Value) (D : List (Lo × List Sm)) (O : List ByteArray) (w : World) (hD : Lds w v D) (hT : tot (D.map (·.2)) ≤ 1048576) (hS : ∀ x ∈ D, ∀ s ∈ x.2, s.nm.size ≤ 1048576) (hL : D.length ≤ 1048576) (hO : Sts w ov O) (hOL : O.length ≤ 1048576) (hOS : ∀ s ∈ O, s.size ≤ 1048576) :
    Calls Try.prog 4 #[v, ov] w fun e w' => e = .returned (.bool true) ∧ Below w.heap.size w w' := by
  obtain ⟨⟨A, c, rfl, hA⟩, hY⟩ := hD
  obtain ⟨OA, oc, rfl, hOA⟩ := hO
  have hD : Lds w (.slice A D.length c) D := ⟨⟨A, c, rfl, hA⟩, hY⟩
  have hO : Sts w (.slice OA O.length oc) O := ⟨OA, oc, rfl, hOA⟩
  have HDA := Lib.hid hA; have HOA := Lib.hid hOA; have HY := Lib.hid hY
  have HTT : Hid (∀ k, tot ((D.map (·.2)).take k) ≤ 1048576) := Lib.hid (fun k => Nat.le_trans (tot_take _ k) hT)
  have HTS : Hid (∀ (k : Nat) x, D[k]? = some x → tot ((D.map (·.2)).take (k + 1)) = tot ((D.map (·.2)).take k) + x.2.length) := Lib.hid (fun k x hx => by
    rw [List.take_add_one, List.getElem?_map, hx]
    unfold tot
    simp)
  clear hA hY hOA
  have K6 := Lib.hid (many6 _ D w hD hL hT)
  have K8 := Lib.hid (fun W (hW : Below w.heap.size w W) => table8 _ _ D O W (hD.below hW) hT hS hL (hO.below hW) hOL hOS)
  have K7 := Lib.hid lives7
  have HD := Lib.hid hD; have HO := Lib.hid hO
  have HEL : Hid (∀ E' : List Nm, E'.Perm (outE (D.map (·.2)) D.length) → E'.length ≤ 1048576) := Lib.hid (fun E' hp => by
    rw [hp.length_eq]
    have h2 := outE_len (D.map (·.2)) D.length
    have h3 := tot_take (D.map (·.2)) D.length
    omega)
  have HT := Lib.hid hT
  clear hD hO hS hOS hT
  go_enter Try.func4, Try.ntmps4
  go_wp2_with fail
  (with_reducible refine K6.out.mono ?_)
  rintro _ w1 ⟨rfl, hb1⟩
  have HB1 := Lib.hid hb1
  clear hb1 K6
  by_cases hm : 400 < tot (D.map (·.2))
  · rw [decide_eq_true hm]
    go_wp2_with fail
    (with_reducible refine (K7.out _).mono ?_)
    rintro _ w2 ⟨rfl, hb2⟩
    have HB2 := Lib.hid hb2
    clear hb2
    go_wp2_with fail
    go_ret
    exact ⟨rfl, HB1.out.trans (HB2.out.mono HB1.out.size)⟩
  · rw [decide_eq_false hm]
    have HM := Lib.hid hm
    clear hm
    go_wp2_with fail
    (with_reducible refine (K8.out w1 HB1.out).mono ?_)
    rintro _ w2 ⟨hb2, E, hp, hs, tv, nm, er, rfl, ht⟩
    have HB2 : Hid (Below w.heap.size w w2) := Lib.hid (HB1.out.trans (hb2.mono HB1.out.size))
    have htb := tb_of (D := D.map (·.2)) (O := O) (by rw [List.length_map]; exact hp) hs (HEL.out E hp)
    have hcs : (tv = .slice none 0 0 ∧ er ≠ 0) ∨ (er = 0 ∧ Ly w2 tv 4 Bd.c (E.map (bnd O))) := by
      unfold TabOut at ht
      split at ht
      · exact .inl ⟨ht.1, by rw [ht.2.2]; decide⟩
      · split at ht
        · exact .inl ⟨ht.1, by rw [ht.2.2]; decide⟩
        · exact .inr ⟨ht.2.1, ht.2.2⟩
    generalize E.map (bnd O) = T at htb hcs
    have HTB := Lib.hid htb
    clear hb2 hp hs ht htb K8 HEL
    rcases hcs with ⟨rfl, her⟩ | ⟨rfl, hly⟩
    · go_wp2_with fail
      (with_reducible refine (K7.out _).mono ?_)
      rintro _ w3 ⟨rfl, hb3⟩
      have HB3 := Lib.hid hb3
      clear hb3
      go_wp2_with fail
      go_ret
      exact ⟨rfl, HB2.out.trans (HB3.out.mono HB2.out.size)⟩
    · obtain ⟨TA, tc, rfl, hTA⟩ := hly
      have HLT : Hid (Ly w2 (.slice TA T.length tc) 4 Bd.c T) := Lib.hid ⟨TA, tc, rfl, hTA⟩
      clear hTA
      go_wp2_with fail
      go_loopw [8, 9, 10] (fun i _ _ wr => RL T.length w2 i wr) (fun i _ _ _ => T.length - (intOf i).toNat)
      case atStart => exact ⟨0, Nat.zero_le _, rfl, Below.refl _ _⟩
      case round =>
        obtain ⟨i, hi, rfl, hb⟩ := hrel
        have HB := Lib.hid hb
        have htl := HTB.out.len
        clear hb
        by_cases hlt : i < T.length
        · obtain ⟨b, hbi⟩ : ∃ b, T[i]? = some b := ⟨_, List.getElem?_eq_getElem hlt⟩
          obtain ⟨_, hTA⟩ := HLT.out.at'
          obtain ⟨tb, to, rfl, htb, htc⟩ := hTA (by omega)
          have HTC : Hid (∀ W, Below w2.heap.size w2 W → ∀ (j : Nat) (a : Bd), T[j]? = some a → ∀ (q : Nat) u, a.c[q]? = some u → W.cell? ⟨tb, to + j * 4 + q, none⟩ = some u) := Lib.hid (fun W hW j a ha q u hu => (hW.cell (p := ⟨tb, _, none⟩) htb).trans (htc j a ha q u hu))
          obtain ⟨n, hn, rfl⟩ := HTB.out.of i b hbi
          have htg := tgt_out (O := O) hn
          have HBI := Lib.hid hbi; have HI := Lib.hid hlt; have HTG := Lib.hid htg
          have z := HTC.out wr HB.out i _ hbi
          obtain ⟨⟨t0, t1, t2⟩, hT3⟩ : ∃ t, tgt O n = t := ⟨_, rfl⟩
          have hbd : bnd O n = ⟨n.tx, ⟨t0, t1, t2⟩⟩ := by unfold bnd; rw [hT3]
          rw [hbd] at z HBI
          rw [hT3] at HTG
          generalize n.tx = nx at *
          have y1 : wr.cell? ⟨tb, to + i * 4 + 1, none⟩ = some (.int .i64 t0) := z 1 _ rfl
          have y2 : wr.cell? ⟨tb, to + i * 4 + 1 + 1, none⟩ = some (.int .i64 t1) := z 2 _ rfl
          have y3 : wr.cell? ⟨tb, to + i * 4 + 1 + 2, none⟩ = some (.int .i64 t2) := z 3 _ rfl
          have y2' : wr.cell? ⟨tb, to + i * 4 + 2, none⟩ = some (.int .i64 t1) := z 2 _ rfl
          have y3' : wr.cell? ⟨tb, to + i * 4 + 3, none⟩ = some (.int .i64 t2) := z 3 _ rfl
          clear z htc hTA hbi hn htg hT3 hbd htb
          have HBa : Hid (Below w2.heap.size w2 (wr.alloc (.cells #[.int .i64 t0, .int .i64 t1, .int .i64 t2] 32))) := Lib.hid (HB.out.alloc HB.out.size _)
          have HXa : Hid (Blk (wr.alloc (.cells #[.int .i64 t0, .int .i64 t1, .int .i64 t2] 32)) wr.heap.size 32 #[.int .i64 t0, .int .i64 t1, .int .i64 t2]) := Lib.hid (Blk.new wr 32 _)
          go_wp2_with fail
          clear y1 y2 y3 y2' y3'
          generalize (wr.alloc (.cells #[.int .i64 t0, .int .i64 t1, .int .i64 t2] 32)) = W1 at *
          obtain rfl | ⟨j, rfl⟩ : i = 0 ∨ ∃ j, i = j + 1 := by
            cases i with
            | zero => exact .inl rfl
            | succ j => exact .inr ⟨j, rfl⟩
          · go_quiet (fail)
            have HBq := Lib.hid (below_drewN HBa.out nq)
            have HXq : Hid (Blk (W1.drewN nq) wr.heap.size 32 #[.int .i64 t0, .int .i64 t1, .int .i64 t2]) := Lib.hid HXa.out
            generalize W1.drewN nq = W2 at *
            have x0 : W2.cell? ⟨wr.heap.size, 0, none⟩ = some (.int .i64 t0) := by rw [HXq.out.cell]; rfl
            have x1 : W2.cell? ⟨wr.heap.size, 1, none⟩ = some (.int .i64 t1) := by rw [HXq.out.cell]; rfl
            have x2 : W2.cell? ⟨wr.heap.size, 2, none⟩ = some (.int .i64 t2) := by rw [HXq.out.cell]; rfl
            rcases HTG.out with e | ⟨k, hk, e⟩ | ⟨o, k, S, s, hSo, hsk, e, hnm, hbd, hix⟩
            · injection e with e0 e1 e2
              subst e0; subst e1; subst e2
              go_wp2_with fail
              go_quiet (fail)
              go_wp2_with fail
              go_roundw
              case rel => exact ⟨0 + 1, HI.out, by go_num, below_drewN HBq.out _⟩
              case measure => first | (simp [intOf]; done) | (simp [intOf]; have := HI.out; omega)
            · injection e with e0 e1 e2
              subst e0; subst e1; subst e2
              have hkl := (List.getElem?_eq_some_iff.1 hk).1
              obtain ⟨ob, oo, rfl, hobl, hoc⟩ := HOA.out (by omega)
              have o0 : W2.cell? ⟨ob, oo + k, none⟩ = some (.string nx) := by
                rw [(HB2.out.trans (HBq.out.mono HB2.out.size)).cell (p := ⟨ob, _, none⟩) hobl]
                have := hoc k nx hk 0 _ rfl
                rwa [Nat.mul_one, Nat.add_zero] at this
              have n1 : W2.cell? ⟨tb, to + 0 * 4, none⟩ = some (.string nx) := HTC.out _ HBq.out 0 _ HBI.out 0 _ rfl
              have hkO : (k : Int) < (O.length : Int) := by omega
              have hk0 : (0 : Int) ≤ (k : Int) := by omega
              have n2 : W2.cell? ⟨tb, to + (0 * 4), none⟩ = some (.string nx) := n1
              have n3 : W2.cell? ⟨tb, to, none⟩ = some (.string nx) := n1
              have hkO2 : ¬ (O.length : Int) ≤ (k : Int) := by omega
              have hkO3 : k < O.length := hkl
              clear hoc hk hobl
              go_wp2_with fail
              go_quiet (fail)
              go_wp2_with fail
              go_roundw
              case rel => exact ⟨0 + 1, HI.out, by go_num, below_drewN HBq.out _⟩
              case measure => first | (simp [intOf]; done) | (simp [intOf]; have := HI.out; omega)
            · injection e with e0 e1 e2
              subst e0; subst e1; subst e2
              rw [List.getElem?_map] at hSo
              obtain ⟨x, hx, rfl⟩ := Option.map_eq_some_iff.1 hSo
              have hol := (List.getElem?_eq_some_iff.1 hx).1
              have hkl := (List.getElem?_eq_some_iff.1 hsk).1
              obtain ⟨ab, ao, rfl, hbl, hc⟩ := HDA.out (by omega)
              have c2 := hc o x hx 2 _ rfl
              obtain ⟨B, cc, hyv, hSB⟩ := HY.out x (List.mem_of_getElem? hx)
              rw [hyv] at c2
              obtain ⟨sb, so, rfl, hsl, hsc⟩ := hSB (by omega)
              have HBqw : Hid (Below w.heap.size w W2) := Lib.hid (HB2.out.trans (HBq.out.mono HB2.out.size))
              have d2 : W2.cell? ⟨ab, ao + o * 4 + 2, none⟩ = some (.slice (some ⟨sb, so, none⟩) x.2.length cc) := (HBqw.out.cell (p := ⟨ab, _, none⟩) hbl).trans c2
              have z : ∀ (j : Nat) u, s.c[j]? = some u → W2.cell? ⟨sb, so + k * 7 + j, none⟩ = some u := fun j u hu => (HBqw.out.cell (p := ⟨sb, _, none⟩) hsl).trans (hsc k s hsk j u hu)
              generalize x.2.length = m at *
              have hoL : (o : Int) < (D.length : Int) := by omega
              have hkm : (k : Int) < (m : Int) := by omega
              have hkm2 : k < m := hkl
              clear hc c2 hyv hSB hsc hsk hx hSo
              obtain ⟨nm2, vl, sz, bd, kd, hd, ix⟩ := s
              have hnm2 : nm2 = nx := hnm
              subst hnm2
              have hbd2 : bd ≠ 0 := hbd
              have hix2 : ix ≠ -1 := hix
              have s0 : W2.cell? ⟨sb, so + k * 7, none⟩ = some (.string nm2) := z 0 _ rfl
              have s1 := z 1 _ rfl
              have s2 := z 2 _ rfl
              have s3 := z 3 _ rfl
              have s4 := z 4 _ rfl
              have s5 := z 5 _ rfl
              have s6 := z 6 _ rfl
              clear z hbd hix hnm hkl hbl hsl
              go_wp2_with fail
              go_quiet (fail)
              go_wp2_with fail
              have HBr := Lib.hid (below_drewN HBq.out nq)
              have x0r : (W2.drewN nq).drew.cell? ⟨wr.heap.size, 0, none⟩ = some (.int .i64 (o : Int)) := x0
              have x1r : (W2.drewN nq).drew.cell? ⟨wr.heap.size, 1, none⟩ = some (.int .i64 (k : Int)) := x1
              have d2r : (W2.drewN nq).drew.cell? ⟨ab, ao + o * 4 + 2, none⟩ = some (.slice (some ⟨sb, so, none⟩) m cc) := d2
              have s0r : (W2.drewN nq).drew.cell? ⟨sb, so + k * 7, none⟩ = some (.string nm2) := s0
              have s1r : (W2.drewN nq).drew.cell? ⟨sb, so + k * 7 + 1, none⟩ = some (.int .u32 vl) := s1
              have s2r : (W2.drewN nq).drew.cell? ⟨sb, so + k * 7 + 2, none⟩ = some (.int .u32 sz) := s2
              have s3r : (W2.drewN nq).drew.cell? ⟨sb, so + k * 7 + 3, none⟩ = some (.int .u8 bd) := s3
              have s4r : (W2.drewN nq).drew.cell? ⟨sb, so + k * 7 + 4, none⟩ = some (.int .u8 kd) := s4
              have s5r : (W2.drewN nq).drew.cell? ⟨sb, so + k * 7 + 5, none⟩ = some (.bool hd) := s5
              have s6r : (W2.drewN nq).drew.cell? ⟨sb, so + k * 7 + 6, none⟩ = some (.int .i64 ix) := s6
              clear x0 x1 x2 d2 s0 s1 s2 s3 s4 s5 s6
              generalize W2.drewN nq = W3 at *
              have l0 : wr.heap.size < W3.heap.size := World.block_lt_of_cell? W3 _ x0r
              have l1 : ab < W3.heap.size := World.block_lt_of_cell? W3 _ d2r
              have l2 : sb < W3.heap.size := World.block_lt_of_cell? W3 _ s0r
              have HKP : Hid (∀ W, Below W3.heap.size W3 W → W.cell? ⟨wr.heap.size, 0, none⟩ = some (.int .i64 (o : Int)) ∧ W.cell? ⟨wr.heap.size, 1, none⟩ = some (.int .i64 (k : Int)) ∧ W.cell? ⟨ab, ao + o * 4 + 2, none⟩ = some (.slice (some ⟨sb, so, none⟩) m cc) ∧ W.cell? ⟨sb, so + k * 7, none⟩ = some (.string nm2) ∧ W.cell? ⟨sb, so + k * 7 + 1, none⟩ = some (.int .u32 vl) ∧ W.cell? ⟨sb, so + k * 7 + 2, none⟩ = some (.int .u32 sz) ∧ W.cell? ⟨sb, so + k * 7 + 3, none⟩ = some (.int .u8 bd) ∧ W.cell? ⟨sb, so + k * 7 + 4, none⟩ = some (.int .u8 kd) ∧ W.cell? ⟨sb, so + k * 7 + 5, none⟩ = some (.bool hd) ∧ W.cell? ⟨sb, so + k * 7 + 6, none⟩ = some (.int .i64 ix)) := Lib.hid (fun W h => ⟨(h.cell (p := ⟨_, _, none⟩) l0).trans x0r, (h.cell (p := ⟨_, _, none⟩) l0).trans x1r, (h.cell (p := ⟨_, _, none⟩) l1).trans d2r, (h.cell (p := ⟨_, _, none⟩) l2).trans s0r, (h.cell (p := ⟨_, _, none⟩) l2).trans s1r, (h.cell (p := ⟨_, _, none⟩) l2).trans s2r, (h.cell (p := ⟨_, _, none⟩) l2).trans s3r, (h.cell (p := ⟨_, _, none⟩) l2).trans s4r, (h.cell (p := ⟨_, _, none⟩) l2).trans s5r, (h.cell (p := ⟨_, _, none⟩) l2).trans s6r⟩)
              have HI9 := Lib.hid (And.intro x0r (And.intro x1r (And.intro d2r (And.intro s0r (And.intro s1r (And.intro s2r (And.intro s3r (And.intro s4r (And.intro s5r s6r)))))))))
              go_region_held3 (fun W => W.cell? ⟨wr.heap.size, 0, none⟩ = some (.int .i64 (o : Int)) ∧ W.cell? ⟨wr.heap.size, 1, none⟩ = some (.int .i64 (k : Int)) ∧ W.cell? ⟨ab, ao + o * 4 + 2, none⟩ = some (.slice (some ⟨sb, so, none⟩) m cc) ∧ W.cell? ⟨sb, so + k * 7, none⟩ = some (.string nm2) ∧ W.cell? ⟨sb, so + k * 7 + 1, none⟩ = some (.int .u32 vl) ∧ W.cell? ⟨sb, so + k * 7 + 2, none⟩ = some (.int .u32 sz) ∧ W.cell? ⟨sb, so + k * 7 + 3, none⟩ = some (.int .u8 bd) ∧ W.cell? ⟨sb, so + k * 7 + 4, none⟩ = some (.int .u8 kd) ∧ W.cell? ⟨sb, so + k * 7 + 5, none⟩ = some (.bool hd) ∧ W.cell? ⟨sb, so + k * 7 + 6, none⟩ = some (.int .i64 ix))
                (first | assumption | exact HI9.out | exact HKP.out _ ((Below.refl _ W3).alloc (Nat.le_refl _) _).drew | exact HKP.out _ (((Below.refl _ W3).alloc (Nat.le_refl _) _).setCell (by simp) _).drew)
                (first | fail)
              clear HKP HI9 x0r x1r d2r s0r s1r s2r s3r s4r s5r s6r l0 l1 l2
              have HBs : Hid (Below w2.heap.size w2 (W3.alloc (.cells #[.string nm2, .int .u32 vl, .int .u32 sz, .int .u8 bd, .int .u8 kd, .bool hd, .int .i64 ix] 47)).drew) := Lib.hid ((HBr.out.alloc HBr.out.size _).drew)
              have HXs : Hid (Blk (W3.alloc (.cells #[.string nm2, .int .u32 vl, .int .u32 sz, .int .u8 bd, .int .u8 kd, .bool hd, .int .i64 ix] 47)).drew W3.heap.size 47 #[.string nm2, .int .u32 vl, .int .u32 sz, .int .u8 bd, .int .u8 kd, .bool hd, .int .i64 ix]) := Lib.hid ((Blk.new W3 47 _).drew)
              generalize (W3.alloc (.cells #[.string nm2, .int .u32 vl, .int .u32 sz, .int .u8 bd, .int .u8 kd, .bool hd, .int .i64 ix] 47)).drew = W4 at *
              have q0 : W4.cell? ⟨W3.heap.size, 0, none⟩ = some (.string nm2) := by rw [HXs.out.cell]; rfl
              have q3 : W4.cell? ⟨W3.heap.size, 3, none⟩ = some (.int .u8 bd) := by rw [HXs.out.cell]; rfl
              have q6 : W4.cell? ⟨W3.heap.size, 6, none⟩ = some (.int .i64 ix) := by rw [HXs.out.cell]; rfl
              have n1 : W4.cell? ⟨tb, to + 0 * 4, none⟩ = some (.string nm2) := HTC.out _ HBs.out 0 _ HBI.out 0 _ rfl
              have n3 : W4.cell? ⟨tb, to, none⟩ = some (.string nm2) := n1
              have hbd3 : (bd == 0) = false := beq_eq_false_iff_ne.2 hbd2
              have hix3 : (ix == -1) = false := beq_eq_false_iff_ne.2 hix2
              go_wp2_with fail
              go_quiet (fail)
              try simp only [hbd3, hix3, Bool.or_false]
              go_wp2_with fail
              go_roundw
              case rel => exact ⟨0 + 1, HI.out, by go_num, below_drewN HBs.out _⟩
              case measure => first | (simp [intOf]; done) | (simp [intOf]; have := HI.out; omega)
          · obtain ⟨a, ha⟩ : ∃ a, T[j]? = some a := ⟨_, List.getElem?_eq_getElem (Nat.lt_of_succ_lt HI.out)⟩
            have hup := HTB.out.up j a _ ha HBI.out
            have p0 : W1.cell? ⟨tb, to + j * 4, none⟩ = some (.string a.nm) := HTC.out _ HBa.out j a ha 0 _ rfl
            have p1 : W1.cell? ⟨tb, to + (j + 1) * 4, none⟩ = some (.string nx) := HTC.out _ HBa.out (j + 1) _ HBI.out 0 _ rfl
            have hpos : (0 : Int) < ((j + 1 : Nat) : Int) := by omega
            have hil : ((j + 1 : Nat) : Int) < (T.length : Int) := by have := HI.out; omega
            go_quiet (fail)
            have hup' : Op.bytesLess a.nm.toList nx.toList = true := hup
            clear p0 p1 hup ha hpos hil
            generalize a.nm = an at *
            simp only [hup', Bool.not_true]
            have HBq := Lib.hid (below_drewN HBa.out nq)
            have HXq : Hid (Blk (W1.drewN nq) wr.heap.size 32 #[.int .i64 t0, .int .i64 t1, .int .i64 t2]) := Lib.hid HXa.out
            generalize W1.drewN nq = W2 at *
            have x0 : W2.cell? ⟨wr.heap.size, 0, none⟩ = some (.int .i64 t0) := by rw [HXq.out.cell]; rfl
            have x1 : W2.cell? ⟨wr.heap.size, 1, none⟩ = some (.int .i64 t1) := by rw [HXq.out.cell]; rfl
            have x2 : W2.cell? ⟨wr.heap.size, 2, none⟩ = some (.int .i64 t2) := by rw [HXq.out.cell]; rfl
            rcases HTG.out with e | ⟨k, hk, e⟩ | ⟨o, k, S, s, hSo, hsk, e, hnm, hbd, hix⟩
            · injection e with e0 e1 e2
              subst e0; subst e1; subst e2
              go_wp2_with fail
              go_quiet (fail)
              go_wp2_with fail
              go_roundw
              case rel => exact ⟨(j + 1) + 1, HI.out, by go_num, below_drewN HBq.out _⟩
              case measure => first | (simp [intOf]; done) | (simp [intOf]; have := HI.out; omega)
            · injection e with e0 e1 e2
              subst e0; subst e1; subst e2
              have hkl := (List.getElem?_eq_some_iff.1 hk).1
              obtain ⟨ob, oo, rfl, hobl, hoc⟩ := HOA.out (by omega)
              have o0 : W2.cell? ⟨ob, oo + k, none⟩ = some (.string nx) := by
                rw [(HB2.out.trans (HBq.out.mono HB2.out.size)).cell (p := ⟨ob, _, none⟩) hobl]
                have := hoc k nx hk 0 _ rfl
                rwa [Nat.mul_one, Nat.add_zero] at this
              have n1 : W2.cell? ⟨tb, to + (j + 1) * 4, none⟩ = some (.string nx) := HTC.out _ HBq.out (j + 1) _ HBI.out 0 _ rfl
              have hkO : (k : Int) < (O.length : Int) := by omega
              have hk0 : (0 : Int) ≤ (k : Int) := by omega
              have n2 : W2.cell? ⟨tb, to + ((j + 1) * 4), none⟩ = some (.string nx) := n1
              have hil9 : ((j + 1 : Nat) : Int) < (T.length : Int) := by have := HI.out; omega
              have hil8 : (j : Int) + 1 < (T.length : Int) := by omega
              have hil7 : (0 : Int) ≤ (j : Int) + 1 := by omega
              have hil6 : ((j : Int) + 1).toNat = j + 1 := by omega
              have hil5 : j + 1 < T.length := HI.out
              have hkO2 : ¬ (O.length : Int) ≤ (k : Int) := by omega
              have hkO3 : k < O.length := hkl
              clear hoc hk hobl
              go_wp2_with fail
              go_quiet (fail)
              go_wp2_with fail
              go_roundw
              case rel => exact ⟨(j + 1) + 1, HI.out, by go_num, below_drewN HBq.out _⟩
              case measure => first | (simp [intOf]; done) | (simp [intOf]; have := HI.out; omega)
            · injection e with e0 e1 e2
              subst e0; subst e1; subst e2
              rw [List.getElem?_map] at hSo
              obtain ⟨x, hx, rfl⟩ := Option.map_eq_some_iff.1 hSo
              have hol := (List.getElem?_eq_some_iff.1 hx).1
              have hkl := (List.getElem?_eq_some_iff.1 hsk).1
              obtain ⟨ab, ao, rfl, hbl, hc⟩ := HDA.out (by omega)
              have c2 := hc o x hx 2 _ rfl
              obtain ⟨B, cc, hyv, hSB⟩ := HY.out x (List.mem_of_getElem? hx)
              rw [hyv] at c2
              obtain ⟨sb, so, rfl, hsl, hsc⟩ := hSB (by omega)
              have HBqw : Hid (Below w.heap.size w W2) := Lib.hid (HB2.out.trans (HBq.out.mono HB2.out.size))
              have d2 : W2.cell? ⟨ab, ao + o * 4 + 2, none⟩ = some (.slice (some ⟨sb, so, none⟩) x.2.length cc) := (HBqw.out.cell (p := ⟨ab, _, none⟩) hbl).trans c2
              have z : ∀ (j : Nat) u, s.c[j]? = some u → W2.cell? ⟨sb, so + k * 7 + j, none⟩ = some u := fun j u hu => (HBqw.out.cell (p := ⟨sb, _, none⟩) hsl).trans (hsc k s hsk j u hu)
              generalize x.2.length = m at *
              have hoL : (o : Int) < (D.length : Int) := by omega
              have hkm : (k : Int) < (m : Int) := by omega
              have hkm2 : k < m := hkl
              clear hc c2 hyv hSB hsc hsk hx hSo
              obtain ⟨nm2, vl, sz, bd, kd, hd, ix⟩ := s
              have hnm2 : nm2 = nx := hnm
              subst hnm2
              have hbd2 : bd ≠ 0 := hbd
              have hix2 : ix ≠ -1 := hix
              have s0 : W2.cell? ⟨sb, so + k * 7, none⟩ = some (.string nm2) := z 0 _ rfl
              have s1 := z 1 _ rfl
              have s2 := z 2 _ rfl
              have s3 := z 3 _ rfl
              have s4 := z 4 _ rfl
              have s5 := z 5 _ rfl
              have s6 := z 6 _ rfl
              clear z hbd hix hnm hkl hbl hsl
              go_wp2_with fail
              go_quiet (fail)
              go_wp2_with fail
              have HBr := Lib.hid (below_drewN HBq.out nq)
              have x0r : (W2.drewN nq).drew.cell? ⟨wr.heap.size, 0, none⟩ = some (.int .i64 (o : Int)) := x0
              have x1r : (W2.drewN nq).drew.cell? ⟨wr.heap.size, 1, none⟩ = some (.int .i64 (k : Int)) := x1
              have d2r : (W2.drewN nq).drew.cell? ⟨ab, ao + o * 4 + 2, none⟩ = some (.slice (some ⟨sb, so, none⟩) m cc) := d2
              have s0r : (W2.drewN nq).drew.cell? ⟨sb, so + k * 7, none⟩ = some (.string nm2) := s0
              have s1r : (W2.drewN nq).drew.cell? ⟨sb, so + k * 7 + 1, none⟩ = some (.int .u32 vl) := s1
              have s2r : (W2.drewN nq).drew.cell? ⟨sb, so + k * 7 + 2, none⟩ = some (.int .u32 sz) := s2
              have s3r : (W2.drewN nq).drew.cell? ⟨sb, so + k * 7 + 3, none⟩ = some (.int .u8 bd) := s3
              have s4r : (W2.drewN nq).drew.cell? ⟨sb, so + k * 7 + 4, none⟩ = some (.int .u8 kd) := s4
              have s5r : (W2.drewN nq).drew.cell? ⟨sb, so + k * 7 + 5, none⟩ = some (.bool hd) := s5
              have s6r : (W2.drewN nq).drew.cell? ⟨sb, so + k * 7 + 6, none⟩ = some (.int .i64 ix) := s6
              clear x0 x1 x2 d2 s0 s1 s2 s3 s4 s5 s6
              generalize W2.drewN nq = W3 at *
              have l0 : wr.heap.size < W3.heap.size := World.block_lt_of_cell? W3 _ x0r
              have l1 : ab < W3.heap.size := World.block_lt_of_cell? W3 _ d2r
              have l2 : sb < W3.heap.size := World.block_lt_of_cell? W3 _ s0r
              have HKP : Hid (∀ W, Below W3.heap.size W3 W → W.cell? ⟨wr.heap.size, 0, none⟩ = some (.int .i64 (o : Int)) ∧ W.cell? ⟨wr.heap.size, 1, none⟩ = some (.int .i64 (k : Int)) ∧ W.cell? ⟨ab, ao + o * 4 + 2, none⟩ = some (.slice (some ⟨sb, so, none⟩) m cc) ∧ W.cell? ⟨sb, so + k * 7, none⟩ = some (.string nm2) ∧ W.cell? ⟨sb, so + k * 7 + 1, none⟩ = some (.int .u32 vl) ∧ W.cell? ⟨sb, so + k * 7 + 2, none⟩ = some (.int .u32 sz) ∧ W.cell? ⟨sb, so + k * 7 + 3, none⟩ = some (.int .u8 bd) ∧ W.cell? ⟨sb, so + k * 7 + 4, none⟩ = some (.int .u8 kd) ∧ W.cell? ⟨sb, so + k * 7 + 5, none⟩ = some (.bool hd) ∧ W.cell? ⟨sb, so + k * 7 + 6, none⟩ = some (.int .i64 ix)) := Lib.hid (fun W h => ⟨(h.cell (p := ⟨_, _, none⟩) l0).trans x0r, (h.cell (p := ⟨_, _, none⟩) l0).trans x1r, (h.cell (p := ⟨_, _, none⟩) l1).trans d2r, (h.cell (p := ⟨_, _, none⟩) l2).trans s0r, (h.cell (p := ⟨_, _, none⟩) l2).trans s1r, (h.cell (p := ⟨_, _, none⟩) l2).trans s2r, (h.cell (p := ⟨_, _, none⟩) l2).trans s3r, (h.cell (p := ⟨_, _, none⟩) l2).trans s4r, (h.cell (p := ⟨_, _, none⟩) l2).trans s5r, (h.cell (p := ⟨_, _, none⟩) l2).trans s6r⟩)
              have HI9 := Lib.hid (And.intro x0r (And.intro x1r (And.intro d2r (And.intro s0r (And.intro s1r (And.intro s2r (And.intro s3r (And.intro s4r (And.intro s5r s6r)))))))))
              go_region_held3 (fun W => W.cell? ⟨wr.heap.size, 0, none⟩ = some (.int .i64 (o : Int)) ∧ W.cell? ⟨wr.heap.size, 1, none⟩ = some (.int .i64 (k : Int)) ∧ W.cell? ⟨ab, ao + o * 4 + 2, none⟩ = some (.slice (some ⟨sb, so, none⟩) m cc) ∧ W.cell? ⟨sb, so + k * 7, none⟩ = some (.string nm2) ∧ W.cell? ⟨sb, so + k * 7 + 1, none⟩ = some (.int .u32 vl) ∧ W.cell? ⟨sb, so + k * 7 + 2, none⟩ = some (.int .u32 sz) ∧ W.cell? ⟨sb, so + k * 7 + 3, none⟩ = some (.int .u8 bd) ∧ W.cell? ⟨sb, so + k * 7 + 4, none⟩ = some (.int .u8 kd) ∧ W.cell? ⟨sb, so + k * 7 + 5, none⟩ = some (.bool hd) ∧ W.cell? ⟨sb, so + k * 7 + 6, none⟩ = some (.int .i64 ix))
                (first | assumption | exact HI9.out | exact HKP.out _ ((Below.refl _ W3).alloc (Nat.le_refl _) _).drew | exact HKP.out _ (((Below.refl _ W3).alloc (Nat.le_refl _) _).setCell (by simp) _).drew)
                (first | fail)
              clear HKP HI9 x0r x1r d2r s0r s1r s2r s3r s4r s5r s6r l0 l1 l2
              have HBs : Hid (Below w2.heap.size w2 (W3.alloc (.cells #[.string nm2, .int .u32 vl, .int .u32 sz, .int .u8 bd, .int .u8 kd, .bool hd, .int .i64 ix] 47)).drew) := Lib.hid ((HBr.out.alloc HBr.out.size _).drew)
              have HXs : Hid (Blk (W3.alloc (.cells #[.string nm2, .int .u32 vl, .int .u32 sz, .int .u8 bd, .int .u8 kd, .bool hd, .int .i64 ix] 47)).drew W3.heap.size 47 #[.string nm2, .int .u32 vl, .int .u32 sz, .int .u8 bd, .int .u8 kd, .bool hd, .int .i64 ix]) := Lib.hid ((Blk.new W3 47 _).drew)
              generalize (W3.alloc (.cells #[.string nm2, .int .u32 vl, .int .u32 sz, .int .u8 bd, .int .u8 kd, .bool hd, .int .i64 ix] 47)).drew = W4 at *
              have q0 : W4.cell? ⟨W3.heap.size, 0, none⟩ = some (.string nm2) := by rw [HXs.out.cell]; rfl
              have q3 : W4.cell? ⟨W3.heap.size, 3, none⟩ = some (.int .u8 bd) := by rw [HXs.out.cell]; rfl
              have q6 : W4.cell? ⟨W3.heap.size, 6, none⟩ = some (.int .i64 ix) := by rw [HXs.out.cell]; rfl
              have n1 : W4.cell? ⟨tb, to + (j + 1) * 4, none⟩ = some (.string nm2) := HTC.out _ HBs.out (j + 1) _ HBI.out 0 _ rfl
              have hil9 : ((j + 1 : Nat) : Int) < (T.length : Int) := by have := HI.out; omega
              have hbd3 : (bd == 0) = false := beq_eq_false_iff_ne.2 hbd2
              have hix3 : (ix == -1) = false := beq_eq_false_iff_ne.2 hix2
              go_wp2_with fail
              go_quiet (fail)
              try simp only [hbd3, hix3, Bool.or_false]
              go_wp2_with fail
              go_roundw
              case rel => exact ⟨(j + 1) + 1, HI.out, by go_num, below_drewN HBs.out _⟩
              case measure => first | (simp [intOf]; done) | (simp [intOf]; have := HI.out; omega)
        · obtain rfl : i = T.length := by omega
          have HB5 : Hid (Below w.heap.size w wr) := Lib.hid (HB2.out.trans (HB.out.mono HB2.out.size))
          go_wp2_with fail
          go_loopw [11, 12, 13, 14, 15, 16] (fun n i _ _ _ _ wr => RM6 (D.map (·.2)) w2 n i wr) (fun _ i _ _ _ _ _ => D.length - (intOf i).toNat)
          case atStart => exact ⟨0, Nat.zero_le _, rfl, rfl, HB.out⟩
          case round =>
            obtain ⟨o, ho, rfl, rfl, hb⟩ := hrel
            rw [List.length_map] at ho
            have HB := Lib.hid hb
            clear hb
            by_cases hlo : o < D.length
            · obtain ⟨x, hx⟩ : ∃ x, D[o]? = some x := ⟨_, List.getElem?_eq_getElem hlo⟩
              obtain ⟨ab, ao, rfl, hbl, hc⟩ := HDA.out (by omega)
              have c2 := hc o x hx 2 _ rfl
              obtain ⟨B, cc, hyv, hSB⟩ := HY.out x (List.mem_of_getElem? hx)
              rw [hyv] at c2
              have h1 := HTT.out (o + 1)
              have HTK := Lib.hid (HTS.out o x hx)
              rw [HTK.out] at h1
              have HX := Lib.hid hx; have HLO := Lib.hid hlo; have HSB := Lib.hid hSB
              have HXS : Hid ((D.map (·.2))[o]? = some x.2) := Lib.hid (by rw [List.getElem?_map, hx]; rfl)
              have HC2 : Hid (∀ W, Below w.heap.size w W → W.cell? ⟨ab, ao + o * 4 + 2, none⟩ = some (.slice B x.2.length cc)) := Lib.hid (fun W hW => (hW.cell (p := ⟨ab, _, none⟩) hbl).trans c2)
              clear hc c2 hyv hx hSB
              generalize x.2 = S at *
              obtain ⟨tk, htk⟩ : ∃ tk, tot ((D.map (·.2)).take o) = tk := ⟨_, rfl⟩
              rw [htk] at h1 HTK ⊢
              clear htk
              go_wp2_with fail
              go_loopw [11, 13, 14, 15, 16] (fun n i _ _ _ wr => RN4 tk S.length w2 n i wr) (fun _ i _ _ _ _ => S.length - (intOf i).toNat)
              case atStart => exact ⟨0, Nat.zero_le _, rfl, rfl, HB.out⟩
              case round =>
                obtain ⟨k, hk, rfl, rfl, hb⟩ := hrel
                have HBk := Lib.hid hb
                clear hb
                have HBw : Hid (Below w.heap.size w wr) := Lib.hid (HB2.out.trans (HBk.out.mono HB2.out.size))
                have c2 := HC2.out wr HBw.out
                by_cases hlk : k < S.length
                · obtain ⟨s, hs⟩ : ∃ s, S[k]? = some s := ⟨_, List.getElem?_eq_getElem hlk⟩
                  obtain ⟨X, hX, hX0⟩ := ofS_at HTB.out HXS.out hs
                  have K11 := Lib.hid (of11 _ _ T D (o : Int) (k : Int) wr (HLT.out.below (HBk.out)) HTB.out.len (HD.out.below HBw.out) hL)
                  rw [hX] at K11
                  obtain ⟨sb, so, rfl, hsl, hsc⟩ := HSB.out (by omega)
                  have HSC : Hid (∀ W, Below w.heap.size w W → ∀ (j : Nat) u, s.c[j]? = some u → W.cell? ⟨sb, so + k * 7 + j, none⟩ = some u) := Lib.hid (fun W hW j u hu => (hW.cell (p := ⟨sb, _, none⟩) hsl).trans (hsc k s hs j u hu))
                  have HX0 := Lib.hid hX0
                  obtain ⟨x0, x1, x2⟩ := X
                  have HLK := Lib.hid hlk
                  have htl := HTB.out.len
                  clear hs hX hX0 hsc hsl
                  obtain ⟨nm, vl, sz, bd, kd, hd, ix⟩ := s
                  go_wp2_with fail
                  (with_reducible refine K11.out.mono ?_)
                  rintro _ w3 ⟨rfl, hb3⟩
                  have HB3 : Hid (Below w2.heap.size w2 w3) := Lib.hid (HBk.out.trans (hb3.mono HBk.out.size))
                  clear hb3 K11 c2
                  have HBa : Hid (Below w2.heap.size w2 (w3.alloc (.cells #[.int .i64 x0, .int .i64 x1, .int .i64 x2] 32))) := Lib.hid (HB3.out.alloc HB3.out.size _)
                  have HBaw : Hid (Below w.heap.size w (w3.alloc (.cells #[.int .i64 x0, .int .i64 x1, .int .i64 x2] 32))) := Lib.hid (HB2.out.trans (HBa.out.mono HB2.out.size))
                  have c2 := HC2.out _ HBaw.out
                  have z := HSC.out _ HBaw.out
                  have s0 := z 0 _ rfl
                  rw [Nat.add_zero] at s0
                  have s1 := z 1 _ rfl
                  have s2 := z 2 _ rfl
                  have s3 := z 3 _ rfl
                  have s4 := z 4 _ rfl
                  have s5 := z 5 _ rfl
                  have s6 := z 6 _ rfl
                  have HBE : Hid (∀ o, Below w2.heap.size w2 ((w3.alloc (.cells #[.int .i64 x0, .int .i64 x1, .int .i64 x2] 32)).alloc o)) := Lib.hid (fun o => HBa.out.alloc HBa.out.size _)
                  clear z
                  by_cases hbd : bd = 0
                  · have e := HX0.out hbd
                    injection e with e0 e1 e2
                    subst hbd; subst e0; subst e1; subst e2
                    have heq : ∀ W, (Op.equalIn 10000 32 (.agg #[.int .i64 (o : Int), .int .i64 (k : Int), .int .i64 (-1)]) (.agg #[.int .i64 (o : Int), .int .i64 (k : Int), .int .i64 (-1)])).run Try.prog W = .ok true W := fun W => by
                      have := eqTg ⟨(o : Int), (k : Int), -1⟩ ⟨(o : Int), (k : Int), -1⟩ W
                      rwa [decide_eq_true rfl] at this
                    go_wp2_with fail
                    go_roundw
                    case rel => exact ⟨k + 1, HLK.out, by go_num, by go_num, HBE.out _⟩
                    case measure => first | (simp [intOf]; done) | (simp [intOf]; have := HLK.out; omega)
                  · go_wp2_with fail
                    go_roundw
                    case rel => exact ⟨k + 1, HLK.out, by go_num, by go_num, HBE.out _⟩
                    case measure => first | (simp [intOf]; done) | (simp [intOf]; have := HLK.out; omega)
                · obtain rfl : k = S.length := by omega
                  go_wp2_with fail
                  go_roundw
                  case rel => exact ⟨o + 1, by rw [List.length_map]; exact HLO.out, by go_num, by rw [HTK.out], HBk.out⟩
                  case measure => simp [intOf]; have := HLO.out; omega
            · obtain rfl : o = D.length := by omega
              have e : (D.map (·.2)).take D.length = D.map (·.2) := by rw [List.take_of_length_le (by rw [List.length_map]; exact Nat.le_refl _)]
              rw [e]
              have hm := HM.out
              obtain ⟨tk, htk⟩ : ∃ tk, tot (D.map (·.2)) = tk := ⟨_, rfl⟩
              rw [htk] at hm ⊢
              have hle : (tk : Int) ≤ 400 := by omega
              clear htk e
              go_wp2_with fail
              (with_reducible refine (K7.out _).mono ?_)
              rintro _ w3 ⟨rfl, hb3⟩
              have HB3 := Lib.hid hb3
              clear hb3
              go_wp2_with fail
              go_ret
              exact ⟨rfl, (HB2.out.trans (HB.out.mono HB2.out.size)).trans (HB3.out.mono (HB2.out.trans (HB.out.mono HB2.out.size)).size)⟩
end Go.Proofs.Ytoiiiobamanclaa
