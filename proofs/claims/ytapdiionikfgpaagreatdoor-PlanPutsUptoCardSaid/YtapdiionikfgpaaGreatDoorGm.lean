import Derived.Test.YtapdiionikfgpaaGreatDoorGc
import Derived.WalkSmall
namespace Go.Proofs.YtapdiionikfgpaaGreatDoor
open Go.ChangeShapes Go.WideShapes Go.ChangeAt Go.RowKit
open Li (bb)
set_option linter.unusedVariables false
set_option linter.unusedSimpArgs false
theorem line_Device (p : Pm) (a t u v : ByteArray) : lineV p [kDevice, a, t, u, v] = deviceO (numO u 65280 65532 4) (numO v 4 256 4) p a t := by
  show five p kDevice a t u v = _
  unfold five
  rw [if_neg (by decide), if_pos rfl]
  rfl
theorem devO_n1 {o2 : Option Nat} {p : Pm} {a t : ByteArray} : deviceO none o2 p a t = (5, p) := by cases o2 <;> rfl
theorem devO_n2 {o1 : Option Nat} {p : Pm} {a t : ByteArray} : deviceO o1 none p a t = (5, p) := by cases o1 <;> rfl
theorem devO_no {o1 o2 : Option Nat} {p : Pm} {a t : ByteArray} (h : nameB a = false ∨ nameB t = false) : deviceO o1 o2 p a t = (5, p) := by
  cases o1 with
  | none => exact devO_n1
  | some n => cases o2 with
    | none => rfl
    | some m =>
      show (if nameB a = true ∧ nameB t = true ∧ n + m ≤ 65536 then _ else _) = _
      rw [if_neg (by rcases h with h | h <;> simp [h])]
theorem devO_big {n m : Nat} {p : Pm} {a t : ByteArray} (h : 65536 < n + m) : deviceO (some n) (some m) p a t = (5, p) := by
  show (if nameB a = true ∧ nameB t = true ∧ n + m ≤ 65536 then _ else _) = _
  rw [if_neg (by omega)]
theorem devO_yes {n m : Nat} {p : Pm} {a t : ByteArray} (h1 : nameB a = true) (h2 : nameB t = true) (h : n + m ≤ 65536) : deviceO (some n) (some m) p a t = (match fnd (byName a) p.cs with
      | none => (6, p)
      | some k => match p.cs[k]? with
        | none => (6, p)
        | some x => addV x.ds (t, n, m) (fun y => decide (y.1 = t)) 16 (fun l => upd p k { x with ds := l }) p) := by
  show (if nameB a = true ∧ nameB t = true ∧ n + m ≤ 65536 then _ else _) = _
  rw [if_pos ⟨h1, h2, h⟩]
  rfl
set_option maxRecDepth 100000 in
set_option maxHeartbeats 8000000 in
theorem r53_Device (a t u v : ByteArray) (w : World) (B tb : Nat) (SV CV : Value) (p : Pm) (D : List (Sv × Co)) (h : RS w B tb SV CV p D) (hB : B ≤ w.heap.size) (hsm : Sm p) (hs : a.size ≤ 9223372036854775807) (hs2 : t.size ≤ 9223372036854775807) (hs3 : u.size ≤ 9223372036854775807) (hs4 : v.size ≤ 9223372036854775807) (b o c : Nat) (hb : b < tb)
    (q0 : w.cell? ⟨b, o, none⟩ = some (.string ⟨#[100, 101, 118, 105, 99, 101]⟩)) (q1 : w.cell? ⟨b, o + 1, none⟩ = some (.string a)) (q2 : w.cell? ⟨b, o + 2, none⟩ = some (.string t)) (q3 : w.cell? ⟨b, o + 3, none⟩ = some (.string u)) (q4 : w.cell? ⟨b, o + 4, none⟩ = some (.string v)) :
    Calls Tryz.prog 53 #[.pointer (some ⟨tb, 0, none⟩), .slice (some ⟨b, o, none⟩) 5 c] w fun e w' => Lp tb B (lineV p [kDevice, a, t, u, v]) w e w' := by
  have HLV := Lib.hid (line_Device p a t u v)
  have HRS : Hid (∀ W, Below w.heap.size w W → RS W B tb SV CV p D) := Lib.hid (fun W hW => h.below hW)
  have HTB : Hid (tb < w.heap.size) := Lib.hid h.1.lt
  have HBB : Hid (B ≤ w.heap.size) := Lib.hid hB
  have HD := Lib.hid h.2.2.1
  have HSM := Lib.hid hsm
  have HQ2 : Hid (∀ W, Below w.heap.size w W → W.cell? ⟨b, o + 2, none⟩ = some (.string t) ∧ W.cell? ⟨b, o, none⟩ = some (.string ⟨#[100, 101, 118, 105, 99, 101]⟩)) := Lib.hid (fun W hW => ⟨(hW.cell (p := ⟨b, _, none⟩) (World.block_lt_of_cell? w _ q2)).trans q2, (hW.cell (p := ⟨b, _, none⟩) (World.block_lt_of_cell? w _ q0)).trans q0⟩)
  have HQ4 : Hid (∀ W, Below w.heap.size w W → W.cell? ⟨b, o + 4, none⟩ = some (.string v)) := Lib.hid (fun W hW => (hW.cell (p := ⟨b, _, none⟩) (World.block_lt_of_cell? w _ q4)).trans q4)
  have H22 := Lib.hid (c22 a hs)
  have H22t := Lib.hid (c22 t hs2)
  have H48u : Hid (∀ W, _) := Lib.hid (fun W => r48 u 65280 65532 4 hs3 (by omega) (by omega) (by omega) (by omega) W)
  have H48v : Hid (∀ W, _) := Lib.hid (fun W => r48 v 4 256 4 hs4 (by omega) (by omega) (by omega) (by omega) W)
  simp only [show ((65280 : Nat) : Int) = 65280 from rfl, show ((65532 : Nat) : Int) = 65532 from rfl, show ((4 : Nat) : Int) = 4 from rfl, show ((256 : Nat) : Int) = 256 from rfl] at H48u H48v
  have H50 := Lib.hid (r50 a w B tb SV CV p D h)
  cases hnm : nameB a
  · have HX : Hid (lineV p [kDevice, a, t, u, v] = (5, p)) := Lib.hid (by rw [HLV.out, devO_no (Or.inl hnm)])
    rw [hnm] at H22
    clear hnm H50 h hsm hs hs2 H48u H48v
    go_enter Tryz.func53, Tryz.ntmps53
    go_wp2_with fail
    with_reducible refine (H22.out _).mono ?_
    rintro _ w5 ⟨rfl, rfl⟩
    go_wp2_with fail
    go_ret
    exact lp_err (p := p) HX.out (Below.refl _ _)
  rw [hnm] at H22
  have HNA := Lib.hid hnm
  clear hnm
  have p3 := h.1.cell 3
  have HLN : Hid (D.length = p.cs.length) := Lib.hid h.len
  have HR0 := Lib.hid h
  clear h hsm hs hs2 hs3 hs4 hB
  generalize hat : atI (fnd (byName a) p.cs) = ak at *
  have HAT := Lib.hid hat
  clear hat p3
  go_enter Tryz.func53, Tryz.ntmps53
  go_wp2_with fail
  with_reducible refine (H22.out w).mono ?_
  rintro _ v5 ⟨rfl, hv5⟩
  subst hv5
  go_wp2_with fail
  with_reducible refine H50.out.mono ?_
  rintro _ v6 ⟨rfl, hv6⟩
  subst hv6
  go_wp2_with fail
  with_reducible refine (H48u.out _).mono ?_
  rintro _ w5 ⟨⟨n, hn, hnm, rfl⟩, hb5⟩
  have HB5 := Lib.hid hb5
  have HNM := Lib.hid hnm
  have q4' := HQ4.out w5 hb5
  clear hb5 hnm q0 q1 q2 q3 q4 H22 H48u H50
  go_wp2_with fail
  with_reducible refine (H48v.out _).mono ?_
  rintro _ w6 ⟨⟨m0, hm0, hnm0, rfl⟩, hb6⟩
  have HB6 := Lib.hid (HB5.out.trans (hb6.mono HB5.out.size))
  have HNM0 := Lib.hid hnm0
  obtain ⟨q2, q0⟩ := HQ2.out w6 HB6.out
  clear hb6 hnm0 q4' H48v
  cases hnt : nameB t
  · have HX : Hid (lineV p [kDevice, a, t, u, v] = (5, p)) := Lib.hid (by rw [HLV.out, devO_no (Or.inr hnt)])
    rw [hnt] at H22t
    clear hnt
    go_wp2_with fail
    with_reducible refine (H22t.out _).mono ?_
    rintro _ v7 ⟨rfl, hv7⟩
    subst hv7
    go_wp2_with fail
    go_ret
    exact lp_err (p := p) HX.out (HB6.out.mono (Nat.le_of_lt HTB.out))
  rw [hnt] at H22t
  cases hu : numO u 65280 65532 4 with
  | none =>
    have HX : Hid (lineV p [kDevice, a, t, u, v] = (5, p)) := Lib.hid (by rw [HLV.out, hu, devO_n1])
    clear hnt hu
    go_wp2_with fail
    with_reducible refine (H22t.out _).mono ?_
    rintro _ v7 ⟨rfl, hv7⟩
    subst hv7
    go_wp2_with fail
    go_ret
    exact lp_err (p := p) HX.out (HB6.out.mono (Nat.le_of_lt HTB.out))
  | some n' =>
  obtain rfl : n = n' := HNM.out n' hu
  cases hv : numO v 4 256 4 with
  | none =>
    have HX : Hid (lineV p [kDevice, a, t, u, v] = (5, p)) := Lib.hid (by rw [HLV.out, hv, devO_n2])
    clear hnt hu hv
    go_wp2_with fail
    with_reducible refine (H22t.out _).mono ?_
    rintro _ v7 ⟨rfl, hv7⟩
    subst hv7
    go_wp2_with fail
    go_ret
    exact lp_err (p := p) HX.out (HB6.out.mono (Nat.le_of_lt HTB.out))
  | some m' =>
  obtain rfl : m0 = m' := HNM0.out m' hv
  have hnb : n ≤ 65532 := (numO_le hu).2.1
  have hmb : m0 ≤ 256 := (numO_le hv).2.1
  have hadd : IntKind.u32.wrap ((n : Int) + (m0 : Int)) = (n : Int) + (m0 : Int) := by rw [IntKind.wrap_u32]; omega
  by_cases hbig : 65536 < n + m0
  · have HX : Hid (lineV p [kDevice, a, t, u, v] = (5, p)) := Lib.hid (by rw [HLV.out, hu, hv, devO_big hbig])
    have e2 : decide ((65536 : Int) < (n : Int) + (m0 : Int)) = true := decide_eq_true (by omega)
    clear hnt hu hv hbig
    go_wp2_with fail
    with_reducible refine (H22t.out _).mono ?_
    rintro _ v7 ⟨rfl, hv7⟩
    subst hv7
    go_wp2_with fail
    go_ret
    exact lp_err (p := p) HX.out (HB6.out.mono (Nat.le_of_lt HTB.out))
  have e2 : decide ((65536 : Int) < (n : Int) + (m0 : Int)) = false := decide_eq_false (by omega)
  have HYS := Lib.hid (devO_yes (p := p) HNA.out hnt (show n + m0 ≤ 65536 by omega))
  have HHU := Lib.hid hu
  have HHV := Lib.hid hv
  clear hnt hu hv hbig
  cases hf : fnd (byName a) p.cs with
  | none =>
    have HX : Hid (lineV p [kDevice, a, t, u, v] = (6, p)) := Lib.hid (by rw [HLV.out, HHU.out, HHV.out, HYS.out, hf])
    obtain rfl : ak = -1 := by rw [← HAT.out, hf]; rfl
    clear hf
    go_wp2_with fail
    with_reducible refine (H22t.out _).mono ?_
    rintro _ v7 ⟨rfl, hv7⟩
    subst hv7
    go_wp2_with fail
    go_ret
    exact lp_err (p := p) HX.out (HB6.out.mono (Nat.le_of_lt HTB.out))
  | some k =>
    obtain rfl : ak = (k : Int) := by rw [← HAT.out, hf]; rfl
    obtain ⟨hk, -, -⟩ := fnd_some hf
    have hkD0 : k < D.length := by rw [HLN.out]; exact hk
    obtain ⟨x, hx, hxc⟩ : ∃ x, D[k]? = some x ∧ p.cs[k]? = some x.2 := ⟨D[k], List.getElem?_eq_getElem hkD0, by rw [← HD.out, List.getElem?_map, List.getElem?_eq_getElem hkD0]; rfl⟩
    have HADD : Hid (lineV p [kDevice, a, t, u, v] = addV x.2.ds (t, n, m0) (fun y => decide (y.1 = t)) 16 (fun l => upd p k { x.2 with ds := l }) p) := Lib.hid (by
      rw [HLV.out, HHU.out, HHV.out, HYS.out, hf]
      simp only [hxc])
    have HX := Lib.hid hx
    have hmem : x.2 ∈ p.cs := List.mem_of_getElem? hxc
    have hl16 : x.2.ds.length ≤ 16 := (HSM.out.2.2 x.2 hmem).2.2.2.1
    have HL16 := Lib.hid hl16
    obtain ⟨g, cc, hce, hg, hBg, hat⟩ := own_at len_cCo HR0.out.2.1.2.1 (by omega)
    subst hce
    obtain ⟨AF, cf, hfe, _⟩ := own_slice (HR0.out.2.1.2.2.1 k x hx).2.2.2.1
    have HFE := Lib.hid hfe
    have HPC : Hid (∀ W, Below v6.heap.size v6 W → W.cell? ⟨g, k * 6 + 4, none⟩ = some (.slice AF x.2.ds.length cf)) := Lib.hid (fun W hW => by
      rw [hW.cell (p := ⟨g, _, none⟩) hg]
      have := hat k x hx 4 (by omega)
      rw [this, ← hfe]; rfl)
    have HP3 := Lib.hid (HRS.out w6 HB6.out)
    have p3 := HP3.out.1.cell 3
    simp at p3
    have e1 : decide ((k : Int) < 0) = false := by simp
    have hkn : (k : Int) < (D.length : Int) := by omega
    have hkw : IntKind.i64.wrap (k : Int) = (k : Int) := by rw [IntKind.wrap_i64]; have := HLN.out; have := HSM.out.1; omega
    have HGB : Hid (B ≤ g) := Lib.hid hBg
    clear hf hat hx hxc hmem hk hfe hg hBg hkD0
    go_wp2_with fail
    with_reducible refine (H22t.out _).mono ?_
    rintro _ v7 ⟨rfl, hv7⟩
    subst hv7
    go_wp2_with fail
    clear q0 q2 p3 H22t
    go_loopw [21] (fun i wr => FB v6 x.2.ds.length (fun j => (x.2.ds[j]?).any (fun y => decide (y.1 = t))) i wr) (fun i _ => x.2.ds.length - (intOf i).toNat)
    case atStart => exact ⟨0, Nat.zero_le _, rfl, HB6.out, fun j hj => absurd hj (by omega)⟩
    case round =>
      obtain ⟨m, hm, rfl, hb, hno⟩ := hrel
      have HB := Lib.hid hb
      have HNO := Lib.hid hno
      have HR := Lib.hid (HRS.out wr hb)
      have pf := HPC.out wr hb
      obtain ⟨q2, q0⟩ := HQ2.out wr hb
      clear hb hno
      by_cases hlt : m < x.2.ds.length
      · obtain ⟨y, hy⟩ : ∃ y, x.2.ds[m]? = some y := ⟨_, List.getElem?_eq_getElem hlt⟩
        have hro := (HR.out.2.1.2.2.1 k x HX.out).2.2.2.1
        rw [HFE.out] at hro
        obtain ⟨gf, cf', hce, hgf, hBf, hatf⟩ := own_at len_cDs hro (by omega)
        cases hce
        have i0 := hatf m y hy 0 (by omega)
        simp only [Nat.add_zero] at i0
        change wr.cell? ⟨gf, m * 3, none⟩ = some (.string y.1) at i0
        have hmn : (m : Int) < (x.2.ds.length : Int) := by omega
        have hmw : IntKind.i64.wrap (m : Int) = (m : Int) := by rw [IntKind.wrap_i64]; omega
        have HY := Lib.hid hy
        have HLT := Lib.hid hlt
        clear hatf hro hlt hy
        by_cases he : y.1 = t
        · have e2 : (y.1.toList == t.toList) = true := by rw [bs_eq]; exact decide_eq_true he
          have HXR : Hid (lineV p [kDevice, a, t, u, v] = (7, p)) := Lib.hid (by
            have hh := hitD (g := fun y : ByteArray × Nat × Nat => y) (p := fun y => decide (y.1 = t)) HY.out (decide_eq_true he) HNO.out
            rw [List.map_id'] at hh
            rw [HADD.out]
            unfold addV
            rw [hh, if_pos (show (some m).isSome = true from rfl)])
          clear he
          go_wp2_with fail
          go_quiet (fail)
          go_wp2_with fail
          go_ret
          exact lp_err (p := p) HXR.out (below_drewN (HB.out.mono (Nat.le_of_lt HTB.out)) _)
        · have e2 : (y.1.toList == t.toList) = false := by rw [bs_eq]; exact decide_eq_false he
          have HE := Lib.hid (decide_eq_false he)
          clear he
          go_wp2_with fail
          go_quiet (fail)
          go_wp2_with fail
          go_roundw
          case rel => exact ⟨m + 1, HLT.out, by go_num, below_drewN HB.out _, fun j hj => by
            by_cases hjm : j = m
            · subst hjm
              show (x.2.ds[j]?).any _ = false
              rw [HY.out]
              exact HE.out
            · exact HNO.out j (by omega)⟩
          case measure => simp [intOf]; have := HLT.out; omega
      · have HMISS := Lib.hid (missD (g := fun y : ByteArray × Nat × Nat => y) (p := fun y => decide (y.1 = t)) (D := x.2.ds) (fun j hj => HNO.out j (by omega)))
        obtain rfl : m = x.2.ds.length := by omega
        clear hlt hm
        have HAD2 : Hid (lineV p [kDevice, a, t, u, v] = if 16 ≤ x.2.ds.length then (3, p) else (0, upd p k { x.2 with ds := x.2.ds ++ [(t, n, m0)] })) := Lib.hid (by
          have hh := HMISS.out
          rw [List.map_id'] at hh
          rw [HADD.out]
          unfold addV
          rw [hh, if_neg (by simp)])
        by_cases hl : 16 ≤ x.2.ds.length
        · have HXR : Hid (lineV p [kDevice, a, t, u, v] = (3, p)) := Lib.hid (by rw [HAD2.out, if_pos hl])
          have e2 : decide ((16 : Int) ≤ (x.2.ds.length : Int)) = true := by simp; omega
          clear hl
          go_wp2_with fail
          go_ret
          exact lp_err (p := p) HXR.out (HB.out.mono (Nat.le_of_lt HTB.out))
        · have HXR : Hid (lineV p [kDevice, a, t, u, v] = (0, upd p k { x.2 with ds := x.2.ds ++ [(t, n, m0)] })) := Lib.hid (by rw [HAD2.out, if_neg hl])
          have e2 : decide ((16 : Int) ≤ (x.2.ds.length : Int)) = false := by simp; omega
          clear hl
          obtain ⟨i0, hi0, hz0, hz1, hz2⟩ := info90
          have HI0 := Lib.hid hi0
          have HZ0 := Lib.hid hz0
          have HZ1 := Lib.hid hz1
          have HZ2 := Lib.hid hz2
          have HNL : Hid (x.2.ds.length + 1 ≤ maxLen) := Lib.hid (by unfold maxLen; have := HL16.out; omega)
          have HNB : Hid ((x.2.ds.length + 1) * 24 ≤ 140737488355328) := Lib.hid (by have := HL16.out; omega)
          have HBL : Hid (Below v6.heap.size v6 (wr.drew.alloc (.cells #[.string t, .int .u32 (n : Int), .int .u32 (m0 : Int)] 90))) := Lib.hid (HB.out.drew.alloc HB.out.size _)
          have HPA : Hid (RS (wr.drew.alloc (.cells #[.string t, .int .u32 (n : Int), .int .u32 (m0 : Int)] 90)) B tb SV (.slice (some ⟨g, 0, none⟩) D.length cc) p D) := Lib.hid (HRS.out _ HBL.out)
          have HED : Hid ((wr.drew.alloc (.cells #[.string t, .int .u32 (n : Int), .int .u32 (m0 : Int)] 90)).ownsRow B 90 3 (.slice AF x.2.ds.length cf) x.2.ds.length (x.2.ds.flatMap cDs)) := Lib.hid (by
            have := (HPA.out.2.1.2.2.1 k x HX.out).2.2.2.1
            rw [HFE.out] at this
            exact this)
          have HBS : Hid (B ≤ (wr.drew.alloc (.cells #[.string t, .int .u32 (n : Int), .int .u32 (m0 : Int)] 90)).heap.size) := Lib.hid (Nat.le_trans HBB.out HBL.out.size)
          have HNW : Hid (∀ j u, (#[.string t, .int .u32 (n : Int), .int .u32 (m0 : Int)] : Array Value).toList[j]? = some u → (wr.drew.alloc (.cells #[.string t, .int .u32 (n : Int), .int .u32 (m0 : Int)] 90)).cell? ((⟨wr.heap.size, 0, none⟩ : Addr).add j) = some u) := Lib.hid (World.news_of_block (heap_alloc_new wr.drew (.cells #[.string t, .int .u32 (n : Int), .int .u32 (m0 : Int)] 90)))
          have HOC : Hid (∀ u ∈ ([.string t, .int .u32 (n : Int), .int .u32 (m0 : Int)] : List Value), u.oneCell' = true) := Lib.hid (by intro u hu; simp at hu; rcases hu with rfl | rfl | rfl <;> rfl)
          have HG : Hid (∀ W', World.grownBy (wr.drew.alloc (.cells #[.string t, .int .u32 (n : Int), .int .u32 (m0 : Int)] 90)) W' (Value.ownBlock (.slice AF x.2.ds.length cf)) → W'.cell? ⟨g, k * 6 + 4, none⟩ = some (.slice AF x.2.ds.length cf) ∧ W'.frozen? ⟨g, k * 6 + 4, none⟩ = false) := Lib.hid (fun W' hg => by
            have hr := HPA.out.2.1.2.1.kept hg (own_apart HPA.out.2.1.2.1 HED.out (by decide))
            have hk6 : k * 6 + 4 < D.length * 6 := by omega
            refine ⟨?_, hr.frozenAt _⟩
            rw [hr.cellAt _ hk6, flat_at cCo 6 len_cCo D k 4 x HX.out (by omega), ← HFE.out]
            rfl)
          have pfa := HPC.out _ HBL.out
          obtain ⟨q2a, q0a⟩ := HQ2.out _ HBL.out
          have HBL2 : Hid (Below v6.heap.size v6 (wr.alloc (.cells #[.string t, .int .u32 (n : Int), .int .u32 (m0 : Int)] 90))) := Lib.hid (HB.out.alloc HB.out.size _)
          have pfb := HPC.out _ HBL2.out
          obtain ⟨q2b, q0b⟩ := HQ2.out _ HBL2.out
          clear hi0 hz0 hz1 hz2
          go_upto_region 63 with fail
          go_region_law (first | (refine step_append_lies _ (by rfl) _ _ 45 (by rfl) B 90 i0 (.agg #[.string ⟨#[]⟩, .int .u32 0, .int .u32 0]) 3 24 Tryz.underlying45 HI0.out HZ0.out HZ1.out HZ2.out rfl (by decide) (.slice AF x.2.ds.length cf) x.2.ds.length (x.2.ds.flatMap cDs) (by rfl) HED.out ⟨wr.heap.size, 0, none⟩ 1 1 [.string t, .int .u32 (n : Int), .int .u32 (m0 : Int)] (by rfl) rfl HNW.out HOC.out (by decide) HNL.out HNB.out HBS.out _ rfl ?_; intro g5 c5 w8 hown5 hgrow5 hat5 hlt5; obtain ⟨x5a, x5b⟩ := HG.out w8 hgrow5))
          all_goals
            go_wp2_with fail
            go_ret
            rw [HXR.out]
            exact app_ok_d (y := (t, n, m0)) HPA.out (HBL.out.mono (Nat.le_of_lt HTB.out)) HX.out (by first | exact hown5 | simpa using hown5) (by rw [HFE.out]; exact hgrow5) (by rw [HFE.out]; exact hat5)
end Go.Proofs.YtapdiionikfgpaaGreatDoor
namespace Go.Proofs.YtapdiionikfgpaaGreatDoor
open Go.ChangeShapes Go.WideShapes Go.ChangeAt Go.RowKit
open Li (bb)
set_option linter.unusedVariables false
set_option linter.unusedSimpArgs false
theorem line_Give (p : Pm) (a t u : ByteArray) : lineV p [kGive, a, t, u] = giveV p a t u := by
  show four p kGive a t u = _
  unfold four
  rw [if_neg (by decide), if_pos rfl]
theorem giveV_no {p : Pm} {a t u : ByteArray} (h : nameB a = false ∨ nameB t = false ∨ ¬ (u = kR ∨ u = kRw)) : giveV p a t u = (5, p) := by
  unfold giveV
  rw [if_neg]
  rintro ⟨h1, h2, h3⟩
  rcases h with h | h | h
  · rw [h1] at h; cases h
  · rw [h2] at h; cases h
  · exact h h3
theorem giveV_yes {p : Pm} {a t u : ByteArray} (h1 : nameB a = true) (h2 : nameB t = true) (h3 : u = kR ∨ u = kRw) : giveV p a t u = (match fnd (byName a) p.cs, fnd (fun x => decide (x.1 = t)) p.ss with
    | some k, some d => match p.cs[k]? with
      | none => (6, p)
      | some x => addV x.gs (d, decide (u = kRw)) (fun y => decide (y.1 = d)) 16 (fun l => upd p k { x with gs := l }) p
    | _, _ => (6, p)) := by
  unfold giveV
  rw [if_pos ⟨h1, h2, h3⟩]
  rfl
set_option maxRecDepth 100000 in
set_option maxHeartbeats 8000000 in
theorem r53_GiveR (a t : ByteArray) (w : World) (B tb : Nat) (SV CV : Value) (p : Pm) (D : List (Sv × Co)) (h : RS w B tb SV CV p D) (hB : B ≤ w.heap.size) (hsm : Sm p) (hs : a.size ≤ 9223372036854775807) (hs2 : t.size ≤ 9223372036854775807) (b o c : Nat) (hb : b < tb)
    (q0 : w.cell? ⟨b, o, none⟩ = some (.string ⟨#[103, 105, 118, 101]⟩)) (q1 : w.cell? ⟨b, o + 1, none⟩ = some (.string a)) (q2 : w.cell? ⟨b, o + 2, none⟩ = some (.string t)) (q3 : w.cell? ⟨b, o + 3, none⟩ = some (.string ⟨#[114]⟩)) :
    Calls Tryz.prog 53 #[.pointer (some ⟨tb, 0, none⟩), .slice (some ⟨b, o, none⟩) 4 c] w fun e w' => Lp tb B (lineV p [kGive, a, t, kR]) w e w' := by
  have HLV := Lib.hid (line_Give p a t kR)
  have HRS : Hid (∀ W, Below w.heap.size w W → RS W B tb SV CV p D) := Lib.hid (fun W hW => h.below hW)
  have HTB : Hid (tb < w.heap.size) := Lib.hid h.1.lt
  have HBB : Hid (B ≤ w.heap.size) := Lib.hid hB
  have HD := Lib.hid h.2.2.1
  have HSM := Lib.hid hsm
  have HQ2 : Hid (∀ W, Below w.heap.size w W → W.cell? ⟨b, o + 3, none⟩ = some (.string ⟨#[114]⟩) ∧ W.cell? ⟨b, o, none⟩ = some (.string ⟨#[103, 105, 118, 101]⟩)) := Lib.hid (fun W hW => ⟨(hW.cell (p := ⟨b, _, none⟩) (World.block_lt_of_cell? w _ q3)).trans q3, (hW.cell (p := ⟨b, _, none⟩) (World.block_lt_of_cell? w _ q0)).trans q0⟩)
  have H22 := Lib.hid (c22 a hs)
  have H22t := Lib.hid (c22 t hs2)
  have H50 := Lib.hid (r50 a w B tb SV CV p D h)
  have H51 := Lib.hid (r51 t w B tb SV CV p D h)
  have HLN : Hid (D.length = p.cs.length) := Lib.hid h.len
  have HR0 := Lib.hid h
  have p3 := h.1.cell 3
  clear h hs hs2 hB hsm
  cases hnm : nameB a
  · have HX : Hid (lineV p [kGive, a, t, kR] = (5, p)) := Lib.hid (by rw [HLV.out, giveV_no (Or.inl hnm)])
    rw [hnm] at H22
    clear hnm H50 p3
    go_enter Tryz.func53, Tryz.ntmps53
    go_wp2_with fail
    with_reducible refine (H22.out _).mono ?_
    rintro _ w5 ⟨rfl, rfl⟩
    go_wp2_with fail
    go_ret
    exact lp_err (p := p) HX.out (Below.refl _ _)
  rw [hnm] at H22
  cases hnt : nameB t
  · have HX : Hid (lineV p [kGive, a, t, kR] = (5, p)) := Lib.hid (by rw [HLV.out, giveV_no (Or.inr (Or.inl hnt))])
    rw [hnt] at H22t
    clear hnm hnt p3
    go_enter Tryz.func53, Tryz.ntmps53
    go_wp2_with fail
    with_reducible refine (H22.out w).mono ?_
    rintro _ v5 ⟨rfl, hv5⟩
    subst hv5
    go_wp2_with fail
    with_reducible refine H50.out.mono ?_
    rintro _ v6 ⟨rfl, hv6⟩
    subst hv6
    go_wp2_with fail
    with_reducible refine (H22t.out _).mono ?_
    rintro _ v7 ⟨rfl, hv7⟩
    subst hv7
    go_wp2_with fail
    go_ret
    exact lp_err (p := p) HX.out (Below.refl _ _)
  rw [hnt] at H22t
  have HYS := Lib.hid (giveV_yes (p := p) hnm hnt (Or.inl rfl : kR = kR ∨ kR = kRw))
  clear hnm hnt
  cases hf : fnd (byName a) p.cs with
  | none =>
    have HX : Hid (lineV p [kGive, a, t, kR] = (6, p)) := Lib.hid (by rw [HLV.out, HYS.out, hf])
    rw [hf] at H50
    change Hid (Calls Tryz.prog 50 _ _ fun e w' => e = .returned (.int .i64 (-1)) ∧ w' = w) at H50
    clear hf p3
    go_enter Tryz.func53, Tryz.ntmps53
    go_wp2_with fail
    with_reducible refine (H22.out w).mono ?_
    rintro _ v5 ⟨rfl, hv5⟩
    subst hv5
    go_wp2_with fail
    with_reducible refine H50.out.mono ?_
    rintro _ v6 ⟨rfl, hv6⟩
    subst hv6
    go_wp2_with fail
    with_reducible refine (H22t.out _).mono ?_
    rintro _ v7 ⟨rfl, hv7⟩
    subst hv7
    go_wp2_with fail
    with_reducible refine H51.out.mono ?_
    rintro _ v8 ⟨rfl, hv8⟩
    subst hv8
    go_wp2_with fail
    go_ret
    exact lp_err (p := p) HX.out (Below.refl _ _)
  | some k =>
  rw [hf] at H50
  change Hid (Calls Tryz.prog 50 _ _ fun e w' => e = .returned (.int .i64 (k : Int)) ∧ w' = w) at H50
  have e1 : decide ((k : Int) < 0) = false := by simp
  cases hd : fnd (fun y : ByteArray × Nat => decide (y.1 = t)) p.ss with
  | none =>
    have HX : Hid (lineV p [kGive, a, t, kR] = (6, p)) := Lib.hid (by rw [HLV.out, HYS.out, hf, hd])
    rw [hd] at H51
    change Hid (Calls Tryz.prog 51 _ _ fun e w' => e = .returned (.int .i64 (-1)) ∧ w' = w) at H51
    clear hf hd p3
    go_enter Tryz.func53, Tryz.ntmps53
    go_wp2_with fail
    with_reducible refine (H22.out w).mono ?_
    rintro _ v5 ⟨rfl, hv5⟩
    subst hv5
    go_wp2_with fail
    with_reducible refine H50.out.mono ?_
    rintro _ v6 ⟨rfl, hv6⟩
    subst hv6
    go_wp2_with fail
    with_reducible refine (H22t.out _).mono ?_
    rintro _ v7 ⟨rfl, hv7⟩
    subst hv7
    go_wp2_with fail
    with_reducible refine H51.out.mono ?_
    rintro _ v8 ⟨rfl, hv8⟩
    subst hv8
    go_wp2_with fail
    go_ret
    exact lp_err (p := p) HX.out (Below.refl _ _)
  | some d =>
    rw [hd] at H51
    change Hid (Calls Tryz.prog 51 _ _ fun e w' => e = .returned (.int .i64 (d : Int)) ∧ w' = w) at H51
    have e3 : decide ((d : Int) < 0) = false := by simp
    obtain ⟨hk, -, -⟩ := fnd_some hf
    have hkD0 : k < D.length := by rw [HLN.out]; exact hk
    obtain ⟨x, hx, hxc⟩ : ∃ x, D[k]? = some x ∧ p.cs[k]? = some x.2 := ⟨D[k], List.getElem?_eq_getElem hkD0, by rw [← HD.out, List.getElem?_map, List.getElem?_eq_getElem hkD0]; rfl⟩
    have HADD : Hid (lineV p [kGive, a, t, kR] = addV x.2.gs (d, false) (fun y => decide (y.1 = d)) 16 (fun l => upd p k { x.2 with gs := l }) p) := Lib.hid (by
      rw [HLV.out, HYS.out, hf, hd]
      simp only [hxc]
      rfl)
    have HX := Lib.hid hx
    have hmem : x.2 ∈ p.cs := List.mem_of_getElem? hxc
    have hl16 : x.2.gs.length ≤ 16 := (HSM.out.2.2 x.2 hmem).2.2.2.2
    have HL16 := Lib.hid hl16
    obtain ⟨g, cc, hce, hg, hBg, hat⟩ := own_at len_cCo HR0.out.2.1.2.1 (by omega)
    subst hce
    obtain ⟨AF, cf, hfe, _⟩ := own_slice (HR0.out.2.1.2.2.1 k x hx).2.2.2.2
    have HFE := Lib.hid hfe
    have HPC : Hid (∀ W, Below w.heap.size w W → W.cell? ⟨g, k * 6 + 5, none⟩ = some (.slice AF x.2.gs.length cf)) := Lib.hid (fun W hW => by
      rw [hW.cell (p := ⟨g, _, none⟩) hg]
      have := hat k x hx 5 (by omega)
      rw [this, ← hfe]; rfl)
    simp at p3
    have hkn : (k : Int) < (D.length : Int) := by omega
    have hkw : IntKind.i64.wrap (k : Int) = (k : Int) := by rw [IntKind.wrap_i64]; have := HLN.out; have := HSM.out.1; omega
    have HGB : Hid (B ≤ g) := Lib.hid hBg
    clear hf hd hat hx hxc hmem hk hfe hg hBg hkD0
    go_enter Tryz.func53, Tryz.ntmps53
    go_wp2_with fail
    with_reducible refine (H22.out w).mono ?_
    rintro _ v5 ⟨rfl, hv5⟩
    subst hv5
    go_wp2_with fail
    with_reducible refine H50.out.mono ?_
    rintro _ v6 ⟨rfl, hv6⟩
    subst hv6
    go_wp2_with fail
    with_reducible refine (H22t.out _).mono ?_
    rintro _ v7 ⟨rfl, hv7⟩
    subst hv7
    go_wp2_with fail
    with_reducible refine H51.out.mono ?_
    rintro _ v8 ⟨rfl, hv8⟩
    subst hv8
    go_wp2_with fail
    clear q0 q1 q2 q3 p3 H22t H22 H50 H51
    go_loopw [24] (fun i wr => FB v8 x.2.gs.length (fun j => (x.2.gs[j]?).any (fun y => decide (y.1 = d))) i wr) (fun i _ => x.2.gs.length - (intOf i).toNat)
    case atStart => exact ⟨0, Nat.zero_le _, rfl, Below.refl _ _, fun j hj => absurd hj (by omega)⟩
    case round =>
      obtain ⟨m, hm, rfl, hb, hno⟩ := hrel
      have HB := Lib.hid hb
      have HNO := Lib.hid hno
      have HR := Lib.hid (HRS.out wr hb)
      have pf := HPC.out wr hb
      obtain ⟨q2, q0⟩ := HQ2.out wr hb
      clear hb hno
      by_cases hlt : m < x.2.gs.length
      · obtain ⟨y, hy⟩ : ∃ y, x.2.gs[m]? = some y := ⟨_, List.getElem?_eq_getElem hlt⟩
        have hro := (HR.out.2.1.2.2.1 k x HX.out).2.2.2.2
        rw [HFE.out] at hro
        obtain ⟨gf, cf', hce, hgf, hBf, hatf⟩ := own_at len_cGs hro (by omega)
        cases hce
        have i0 := hatf m y hy 0 (by omega)
        simp only [Nat.add_zero] at i0
        change wr.cell? ⟨gf, m * 2, none⟩ = some (.int .i64 (y.1 : Int)) at i0
        have hmn : (m : Int) < (x.2.gs.length : Int) := by omega
        have hmw : IntKind.i64.wrap (m : Int) = (m : Int) := by rw [IntKind.wrap_i64]; omega
        have HY := Lib.hid hy
        have HLT := Lib.hid hlt
        clear hatf hro hlt hy
        by_cases he : y.1 = d
        · have e2 : ((y.1 : Int) == (d : Int)) = true := by simp; omega
          have HXR : Hid (lineV p [kGive, a, t, kR] = (7, p)) := Lib.hid (by
            have hh := hitD (g := fun y : Nat × Bool => y) (p := fun y => decide (y.1 = d)) HY.out (decide_eq_true he) HNO.out
            rw [List.map_id'] at hh
            rw [HADD.out]
            unfold addV
            rw [hh, if_pos (show (some m).isSome = true from rfl)])
          clear he
          go_wp2_with fail
          go_ret
          exact lp_err (p := p) HXR.out (HB.out.mono (Nat.le_of_lt HTB.out))
        · have e2 : ((y.1 : Int) == (d : Int)) = false := by simp; omega
          have HE := Lib.hid (decide_eq_false he)
          clear he
          go_wp2_with fail
          go_roundw
          case rel => exact ⟨m + 1, HLT.out, by go_num, HB.out, fun j hj => by
            by_cases hjm : j = m
            · subst hjm
              show (x.2.gs[j]?).any _ = false
              rw [HY.out]
              exact HE.out
            · exact HNO.out j (by omega)⟩
          case measure => simp [intOf]; have := HLT.out; omega
      · have HMISS := Lib.hid (missD (g := fun y : Nat × Bool => y) (p := fun y => decide (y.1 = d)) (D := x.2.gs) (fun j hj => HNO.out j (by omega)))
        obtain rfl : m = x.2.gs.length := by omega
        clear hlt hm
        have HAD2 : Hid (lineV p [kGive, a, t, kR] = if 16 ≤ x.2.gs.length then (3, p) else (0, upd p k { x.2 with gs := x.2.gs ++ [(d, false)] })) := Lib.hid (by
          have hh := HMISS.out
          rw [List.map_id'] at hh
          rw [HADD.out]
          unfold addV
          rw [hh, if_neg (by simp)])
        by_cases hl : 16 ≤ x.2.gs.length
        · have HXR : Hid (lineV p [kGive, a, t, kR] = (3, p)) := Lib.hid (by rw [HAD2.out, if_pos hl])
          have e2 : decide ((16 : Int) ≤ (x.2.gs.length : Int)) = true := by simp; omega
          clear hl
          go_wp2_with fail
          go_ret
          exact lp_err (p := p) HXR.out (HB.out.mono (Nat.le_of_lt HTB.out))
        · have HXR : Hid (lineV p [kGive, a, t, kR] = (0, upd p k { x.2 with gs := x.2.gs ++ [(d, false)] })) := Lib.hid (by rw [HAD2.out, if_neg hl])
          have e2 : decide ((16 : Int) ≤ (x.2.gs.length : Int)) = false := by simp; omega
          clear hl
          obtain ⟨i0, hi0, hz0, hz1, hz2⟩ := info92
          have HI0 := Lib.hid hi0
          have HZ0 := Lib.hid hz0
          have HZ1 := Lib.hid hz1
          have HZ2 := Lib.hid hz2
          have HNL : Hid (x.2.gs.length + 1 ≤ maxLen) := Lib.hid (by unfold maxLen; have := HL16.out; omega)
          have HNB : Hid ((x.2.gs.length + 1) * 16 ≤ 140737488355328) := Lib.hid (by have := HL16.out; omega)
          have HBL : Hid (Below v8.heap.size v8 (wr.drew.alloc (.cells #[.int .i64 (d : Int), .bool false] 92))) := Lib.hid (HB.out.drew.alloc HB.out.size _)
          have HPA : Hid (RS (wr.drew.alloc (.cells #[.int .i64 (d : Int), .bool false] 92)) B tb SV (.slice (some ⟨g, 0, none⟩) D.length cc) p D) := Lib.hid (HRS.out _ HBL.out)
          have HED : Hid ((wr.drew.alloc (.cells #[.int .i64 (d : Int), .bool false] 92)).ownsRow B 92 2 (.slice AF x.2.gs.length cf) x.2.gs.length (x.2.gs.flatMap cGs)) := Lib.hid (by
            have := (HPA.out.2.1.2.2.1 k x HX.out).2.2.2.2
            rw [HFE.out] at this
            exact this)
          have HBS : Hid (B ≤ (wr.drew.alloc (.cells #[.int .i64 (d : Int), .bool false] 92)).heap.size) := Lib.hid (Nat.le_trans HBB.out HBL.out.size)
          have HNW : Hid (∀ j u, (#[.int .i64 (d : Int), .bool false] : Array Value).toList[j]? = some u → (wr.drew.alloc (.cells #[.int .i64 (d : Int), .bool false] 92)).cell? ((⟨wr.heap.size, 0, none⟩ : Addr).add j) = some u) := Lib.hid (World.news_of_block (heap_alloc_new wr.drew (.cells #[.int .i64 (d : Int), .bool false] 92)))
          have HOC : Hid (∀ u ∈ ([.int .i64 (d : Int), .bool false] : List Value), u.oneCell' = true) := Lib.hid (by intro u hu; simp at hu; rcases hu with rfl | rfl <;> rfl)
          have HG : Hid (∀ W', World.grownBy (wr.drew.alloc (.cells #[.int .i64 (d : Int), .bool false] 92)) W' (Value.ownBlock (.slice AF x.2.gs.length cf)) → W'.cell? ⟨g, k * 6 + 5, none⟩ = some (.slice AF x.2.gs.length cf) ∧ W'.frozen? ⟨g, k * 6 + 5, none⟩ = false) := Lib.hid (fun W' hg => by
            have hr := HPA.out.2.1.2.1.kept hg (own_apart HPA.out.2.1.2.1 HED.out (by decide))
            have hk6 : k * 6 + 5 < D.length * 6 := by omega
            refine ⟨?_, hr.frozenAt _⟩
            rw [hr.cellAt _ hk6, flat_at cCo 6 len_cCo D k 5 x HX.out (by omega), ← HFE.out]
            rfl)
          have pfa := HPC.out _ HBL.out
          obtain ⟨q2a, q0a⟩ := HQ2.out _ HBL.out
          have HBL2 : Hid (Below v8.heap.size v8 (wr.alloc (.cells #[.int .i64 (d : Int), .bool false] 92))) := Lib.hid (HB.out.alloc HB.out.size _)
          have pfb := HPC.out _ HBL2.out
          obtain ⟨q2b, q0b⟩ := HQ2.out _ HBL2.out
          clear hi0 hz0 hz1 hz2
          go_upto_region 78 with fail
          go_region_law (first | (refine step_append_lies _ (by rfl) _ _ 46 (by rfl) B 92 i0 (.agg #[.int .i64 0, .bool false]) 2 16 Tryz.underlying46 HI0.out HZ0.out HZ1.out HZ2.out rfl (by decide) (.slice AF x.2.gs.length cf) x.2.gs.length (x.2.gs.flatMap cGs) (by rfl) HED.out ⟨wr.heap.size, 0, none⟩ 1 1 [.int .i64 (d : Int), .bool false] (by rfl) rfl HNW.out HOC.out (by decide) HNL.out HNB.out HBS.out _ rfl ?_; intro g5 c5 w8 hown5 hgrow5 hat5 hlt5; obtain ⟨x5a, x5b⟩ := HG.out w8 hgrow5))
          all_goals
            go_wp2_with fail
            go_ret
            rw [HXR.out]
            exact app_ok_g (y := (d, false)) HPA.out (HBL.out.mono (Nat.le_of_lt HTB.out)) HX.out (by first | exact hown5 | simpa using hown5) (by rw [HFE.out]; exact hgrow5) (by rw [HFE.out]; exact hat5)
end Go.Proofs.YtapdiionikfgpaaGreatDoor
namespace Go.Proofs.YtapdiionikfgpaaGreatDoor
open Go.ChangeShapes Go.WideShapes Go.ChangeAt Go.RowKit
open Li (bb)
set_option linter.unusedVariables false
set_option linter.unusedSimpArgs false
set_option maxRecDepth 100000 in
set_option maxHeartbeats 8000000 in
theorem r53_GiveRw (a t : ByteArray) (w : World) (B tb : Nat) (SV CV : Value) (p : Pm) (D : List (Sv × Co)) (h : RS w B tb SV CV p D) (hB : B ≤ w.heap.size) (hsm : Sm p) (hs : a.size ≤ 9223372036854775807) (hs2 : t.size ≤ 9223372036854775807) (b o c : Nat) (hb : b < tb)
    (q0 : w.cell? ⟨b, o, none⟩ = some (.string ⟨#[103, 105, 118, 101]⟩)) (q1 : w.cell? ⟨b, o + 1, none⟩ = some (.string a)) (q2 : w.cell? ⟨b, o + 2, none⟩ = some (.string t)) (q3 : w.cell? ⟨b, o + 3, none⟩ = some (.string ⟨#[114, 119]⟩)) :
    Calls Tryz.prog 53 #[.pointer (some ⟨tb, 0, none⟩), .slice (some ⟨b, o, none⟩) 4 c] w fun e w' => Lp tb B (lineV p [kGive, a, t, kRw]) w e w' := by
  have HLV := Lib.hid (line_Give p a t kRw)
  have HRS : Hid (∀ W, Below w.heap.size w W → RS W B tb SV CV p D) := Lib.hid (fun W hW => h.below hW)
  have HTB : Hid (tb < w.heap.size) := Lib.hid h.1.lt
  have HBB : Hid (B ≤ w.heap.size) := Lib.hid hB
  have HD := Lib.hid h.2.2.1
  have HSM := Lib.hid hsm
  have HQ2 : Hid (∀ W, Below w.heap.size w W → W.cell? ⟨b, o + 3, none⟩ = some (.string ⟨#[114, 119]⟩) ∧ W.cell? ⟨b, o, none⟩ = some (.string ⟨#[103, 105, 118, 101]⟩)) := Lib.hid (fun W hW => ⟨(hW.cell (p := ⟨b, _, none⟩) (World.block_lt_of_cell? w _ q3)).trans q3, (hW.cell (p := ⟨b, _, none⟩) (World.block_lt_of_cell? w _ q0)).trans q0⟩)
  have H22 := Lib.hid (c22 a hs)
  have H22t := Lib.hid (c22 t hs2)
  have H50 := Lib.hid (r50 a w B tb SV CV p D h)
  have H51 := Lib.hid (r51 t w B tb SV CV p D h)
  have HLN : Hid (D.length = p.cs.length) := Lib.hid h.len
  have HR0 := Lib.hid h
  have p3 := h.1.cell 3
  clear h hs hs2 hB hsm
  cases hnm : nameB a
  · have HX : Hid (lineV p [kGive, a, t, kRw] = (5, p)) := Lib.hid (by rw [HLV.out, giveV_no (Or.inl hnm)])
    rw [hnm] at H22
    clear hnm H50 p3
    go_enter Tryz.func53, Tryz.ntmps53
    go_wp2_with fail
    with_reducible refine (H22.out _).mono ?_
    rintro _ w5 ⟨rfl, rfl⟩
    go_wp2_with fail
    go_ret
    exact lp_err (p := p) HX.out (Below.refl _ _)
  rw [hnm] at H22
  cases hnt : nameB t
  · have HX : Hid (lineV p [kGive, a, t, kRw] = (5, p)) := Lib.hid (by rw [HLV.out, giveV_no (Or.inr (Or.inl hnt))])
    rw [hnt] at H22t
    clear hnm hnt p3
    go_enter Tryz.func53, Tryz.ntmps53
    go_wp2_with fail
    with_reducible refine (H22.out w).mono ?_
    rintro _ v5 ⟨rfl, hv5⟩
    subst hv5
    go_wp2_with fail
    with_reducible refine H50.out.mono ?_
    rintro _ v6 ⟨rfl, hv6⟩
    subst hv6
    go_wp2_with fail
    with_reducible refine (H22t.out _).mono ?_
    rintro _ v7 ⟨rfl, hv7⟩
    subst hv7
    go_wp2_with fail
    go_ret
    exact lp_err (p := p) HX.out (Below.refl _ _)
  rw [hnt] at H22t
  have HYS := Lib.hid (giveV_yes (p := p) hnm hnt (Or.inr rfl : kRw = kR ∨ kRw = kRw))
  clear hnm hnt
  cases hf : fnd (byName a) p.cs with
  | none =>
    have HX : Hid (lineV p [kGive, a, t, kRw] = (6, p)) := Lib.hid (by rw [HLV.out, HYS.out, hf])
    rw [hf] at H50
    change Hid (Calls Tryz.prog 50 _ _ fun e w' => e = .returned (.int .i64 (-1)) ∧ w' = w) at H50
    clear hf p3
    go_enter Tryz.func53, Tryz.ntmps53
    go_wp2_with fail
    with_reducible refine (H22.out w).mono ?_
    rintro _ v5 ⟨rfl, hv5⟩
    subst hv5
    go_wp2_with fail
    with_reducible refine H50.out.mono ?_
    rintro _ v6 ⟨rfl, hv6⟩
    subst hv6
    go_wp2_with fail
    with_reducible refine (H22t.out _).mono ?_
    rintro _ v7 ⟨rfl, hv7⟩
    subst hv7
    go_wp2_with fail
    with_reducible refine H51.out.mono ?_
    rintro _ v8 ⟨rfl, hv8⟩
    subst hv8
    go_wp2_with fail
    go_ret
    exact lp_err (p := p) HX.out (Below.refl _ _)
  | some k =>
  rw [hf] at H50
  change Hid (Calls Tryz.prog 50 _ _ fun e w' => e = .returned (.int .i64 (k : Int)) ∧ w' = w) at H50
  have e1 : decide ((k : Int) < 0) = false := by simp
  cases hd : fnd (fun y : ByteArray × Nat => decide (y.1 = t)) p.ss with
  | none =>
    have HX : Hid (lineV p [kGive, a, t, kRw] = (6, p)) := Lib.hid (by rw [HLV.out, HYS.out, hf, hd])
    rw [hd] at H51
    change Hid (Calls Tryz.prog 51 _ _ fun e w' => e = .returned (.int .i64 (-1)) ∧ w' = w) at H51
    clear hf hd p3
    go_enter Tryz.func53, Tryz.ntmps53
    go_wp2_with fail
    with_reducible refine (H22.out w).mono ?_
    rintro _ v5 ⟨rfl, hv5⟩
    subst hv5
    go_wp2_with fail
    with_reducible refine H50.out.mono ?_
    rintro _ v6 ⟨rfl, hv6⟩
    subst hv6
    go_wp2_with fail
    with_reducible refine (H22t.out _).mono ?_
    rintro _ v7 ⟨rfl, hv7⟩
    subst hv7
    go_wp2_with fail
    with_reducible refine H51.out.mono ?_
    rintro _ v8 ⟨rfl, hv8⟩
    subst hv8
    go_wp2_with fail
    go_ret
    exact lp_err (p := p) HX.out (Below.refl _ _)
  | some d =>
    rw [hd] at H51
    change Hid (Calls Tryz.prog 51 _ _ fun e w' => e = .returned (.int .i64 (d : Int)) ∧ w' = w) at H51
    have e3 : decide ((d : Int) < 0) = false := by simp
    obtain ⟨hk, -, -⟩ := fnd_some hf
    have hkD0 : k < D.length := by rw [HLN.out]; exact hk
    obtain ⟨x, hx, hxc⟩ : ∃ x, D[k]? = some x ∧ p.cs[k]? = some x.2 := ⟨D[k], List.getElem?_eq_getElem hkD0, by rw [← HD.out, List.getElem?_map, List.getElem?_eq_getElem hkD0]; rfl⟩
    have HADD : Hid (lineV p [kGive, a, t, kRw] = addV x.2.gs (d, true) (fun y => decide (y.1 = d)) 16 (fun l => upd p k { x.2 with gs := l }) p) := Lib.hid (by
      rw [HLV.out, HYS.out, hf, hd]
      simp only [hxc]
      rfl)
    have HX := Lib.hid hx
    have hmem : x.2 ∈ p.cs := List.mem_of_getElem? hxc
    have hl16 : x.2.gs.length ≤ 16 := (HSM.out.2.2 x.2 hmem).2.2.2.2
    have HL16 := Lib.hid hl16
    obtain ⟨g, cc, hce, hg, hBg, hat⟩ := own_at len_cCo HR0.out.2.1.2.1 (by omega)
    subst hce
    obtain ⟨AF, cf, hfe, _⟩ := own_slice (HR0.out.2.1.2.2.1 k x hx).2.2.2.2
    have HFE := Lib.hid hfe
    have HPC : Hid (∀ W, Below w.heap.size w W → W.cell? ⟨g, k * 6 + 5, none⟩ = some (.slice AF x.2.gs.length cf)) := Lib.hid (fun W hW => by
      rw [hW.cell (p := ⟨g, _, none⟩) hg]
      have := hat k x hx 5 (by omega)
      rw [this, ← hfe]; rfl)
    simp at p3
    have hkn : (k : Int) < (D.length : Int) := by omega
    have hkw : IntKind.i64.wrap (k : Int) = (k : Int) := by rw [IntKind.wrap_i64]; have := HLN.out; have := HSM.out.1; omega
    have HGB : Hid (B ≤ g) := Lib.hid hBg
    clear hf hd hat hx hxc hmem hk hfe hg hBg hkD0
    go_enter Tryz.func53, Tryz.ntmps53
    go_wp2_with fail
    with_reducible refine (H22.out w).mono ?_
    rintro _ v5 ⟨rfl, hv5⟩
    subst hv5
    go_wp2_with fail
    with_reducible refine H50.out.mono ?_
    rintro _ v6 ⟨rfl, hv6⟩
    subst hv6
    go_wp2_with fail
    with_reducible refine (H22t.out _).mono ?_
    rintro _ v7 ⟨rfl, hv7⟩
    subst hv7
    go_wp2_with fail
    with_reducible refine H51.out.mono ?_
    rintro _ v8 ⟨rfl, hv8⟩
    subst hv8
    go_wp2_with fail
    clear q0 q1 q2 q3 p3 H22t H22 H50 H51
    go_loopw [24] (fun i wr => FB v8 x.2.gs.length (fun j => (x.2.gs[j]?).any (fun y => decide (y.1 = d))) i wr) (fun i _ => x.2.gs.length - (intOf i).toNat)
    case atStart => exact ⟨0, Nat.zero_le _, rfl, Below.refl _ _, fun j hj => absurd hj (by omega)⟩
    case round =>
      obtain ⟨m, hm, rfl, hb, hno⟩ := hrel
      have HB := Lib.hid hb
      have HNO := Lib.hid hno
      have HR := Lib.hid (HRS.out wr hb)
      have pf := HPC.out wr hb
      obtain ⟨q2, q0⟩ := HQ2.out wr hb
      clear hb hno
      by_cases hlt : m < x.2.gs.length
      · obtain ⟨y, hy⟩ : ∃ y, x.2.gs[m]? = some y := ⟨_, List.getElem?_eq_getElem hlt⟩
        have hro := (HR.out.2.1.2.2.1 k x HX.out).2.2.2.2
        rw [HFE.out] at hro
        obtain ⟨gf, cf', hce, hgf, hBf, hatf⟩ := own_at len_cGs hro (by omega)
        cases hce
        have i0 := hatf m y hy 0 (by omega)
        simp only [Nat.add_zero] at i0
        change wr.cell? ⟨gf, m * 2, none⟩ = some (.int .i64 (y.1 : Int)) at i0
        have hmn : (m : Int) < (x.2.gs.length : Int) := by omega
        have hmw : IntKind.i64.wrap (m : Int) = (m : Int) := by rw [IntKind.wrap_i64]; omega
        have HY := Lib.hid hy
        have HLT := Lib.hid hlt
        clear hatf hro hlt hy
        by_cases he : y.1 = d
        · have e2 : ((y.1 : Int) == (d : Int)) = true := by simp; omega
          have HXR : Hid (lineV p [kGive, a, t, kRw] = (7, p)) := Lib.hid (by
            have hh := hitD (g := fun y : Nat × Bool => y) (p := fun y => decide (y.1 = d)) HY.out (decide_eq_true he) HNO.out
            rw [List.map_id'] at hh
            rw [HADD.out]
            unfold addV
            rw [hh, if_pos (show (some m).isSome = true from rfl)])
          clear he
          go_wp2_with fail
          go_ret
          exact lp_err (p := p) HXR.out (HB.out.mono (Nat.le_of_lt HTB.out))
        · have e2 : ((y.1 : Int) == (d : Int)) = false := by simp; omega
          have HE := Lib.hid (decide_eq_false he)
          clear he
          go_wp2_with fail
          go_roundw
          case rel => exact ⟨m + 1, HLT.out, by go_num, HB.out, fun j hj => by
            by_cases hjm : j = m
            · subst hjm
              show (x.2.gs[j]?).any _ = false
              rw [HY.out]
              exact HE.out
            · exact HNO.out j (by omega)⟩
          case measure => simp [intOf]; have := HLT.out; omega
      · have HMISS := Lib.hid (missD (g := fun y : Nat × Bool => y) (p := fun y => decide (y.1 = d)) (D := x.2.gs) (fun j hj => HNO.out j (by omega)))
        obtain rfl : m = x.2.gs.length := by omega
        clear hlt hm
        have HAD2 : Hid (lineV p [kGive, a, t, kRw] = if 16 ≤ x.2.gs.length then (3, p) else (0, upd p k { x.2 with gs := x.2.gs ++ [(d, true)] })) := Lib.hid (by
          have hh := HMISS.out
          rw [List.map_id'] at hh
          rw [HADD.out]
          unfold addV
          rw [hh, if_neg (by simp)])
        by_cases hl : 16 ≤ x.2.gs.length
        · have HXR : Hid (lineV p [kGive, a, t, kRw] = (3, p)) := Lib.hid (by rw [HAD2.out, if_pos hl])
          have e2 : decide ((16 : Int) ≤ (x.2.gs.length : Int)) = true := by simp; omega
          clear hl
          go_wp2_with fail
          go_ret
          exact lp_err (p := p) HXR.out (HB.out.mono (Nat.le_of_lt HTB.out))
        · have HXR : Hid (lineV p [kGive, a, t, kRw] = (0, upd p k { x.2 with gs := x.2.gs ++ [(d, true)] })) := Lib.hid (by rw [HAD2.out, if_neg hl])
          have e2 : decide ((16 : Int) ≤ (x.2.gs.length : Int)) = false := by simp; omega
          clear hl
          obtain ⟨i0, hi0, hz0, hz1, hz2⟩ := info92
          have HI0 := Lib.hid hi0
          have HZ0 := Lib.hid hz0
          have HZ1 := Lib.hid hz1
          have HZ2 := Lib.hid hz2
          have HNL : Hid (x.2.gs.length + 1 ≤ maxLen) := Lib.hid (by unfold maxLen; have := HL16.out; omega)
          have HNB : Hid ((x.2.gs.length + 1) * 16 ≤ 140737488355328) := Lib.hid (by have := HL16.out; omega)
          have HBL : Hid (Below v8.heap.size v8 (wr.drew.alloc (.cells #[.int .i64 (d : Int), .bool true] 92))) := Lib.hid (HB.out.drew.alloc HB.out.size _)
          have HPA : Hid (RS (wr.drew.alloc (.cells #[.int .i64 (d : Int), .bool true] 92)) B tb SV (.slice (some ⟨g, 0, none⟩) D.length cc) p D) := Lib.hid (HRS.out _ HBL.out)
          have HED : Hid ((wr.drew.alloc (.cells #[.int .i64 (d : Int), .bool true] 92)).ownsRow B 92 2 (.slice AF x.2.gs.length cf) x.2.gs.length (x.2.gs.flatMap cGs)) := Lib.hid (by
            have := (HPA.out.2.1.2.2.1 k x HX.out).2.2.2.2
            rw [HFE.out] at this
            exact this)
          have HBS : Hid (B ≤ (wr.drew.alloc (.cells #[.int .i64 (d : Int), .bool true] 92)).heap.size) := Lib.hid (Nat.le_trans HBB.out HBL.out.size)
          have HNW : Hid (∀ j u, (#[.int .i64 (d : Int), .bool true] : Array Value).toList[j]? = some u → (wr.drew.alloc (.cells #[.int .i64 (d : Int), .bool true] 92)).cell? ((⟨wr.heap.size, 0, none⟩ : Addr).add j) = some u) := Lib.hid (World.news_of_block (heap_alloc_new wr.drew (.cells #[.int .i64 (d : Int), .bool true] 92)))
          have HOC : Hid (∀ u ∈ ([.int .i64 (d : Int), .bool true] : List Value), u.oneCell' = true) := Lib.hid (by intro u hu; simp at hu; rcases hu with rfl | rfl <;> rfl)
          have HG : Hid (∀ W', World.grownBy (wr.drew.alloc (.cells #[.int .i64 (d : Int), .bool true] 92)) W' (Value.ownBlock (.slice AF x.2.gs.length cf)) → W'.cell? ⟨g, k * 6 + 5, none⟩ = some (.slice AF x.2.gs.length cf) ∧ W'.frozen? ⟨g, k * 6 + 5, none⟩ = false) := Lib.hid (fun W' hg => by
            have hr := HPA.out.2.1.2.1.kept hg (own_apart HPA.out.2.1.2.1 HED.out (by decide))
            have hk6 : k * 6 + 5 < D.length * 6 := by omega
            refine ⟨?_, hr.frozenAt _⟩
            rw [hr.cellAt _ hk6, flat_at cCo 6 len_cCo D k 5 x HX.out (by omega), ← HFE.out]
            rfl)
          have pfa := HPC.out _ HBL.out
          obtain ⟨q2a, q0a⟩ := HQ2.out _ HBL.out
          have HBL2 : Hid (Below v8.heap.size v8 (wr.alloc (.cells #[.int .i64 (d : Int), .bool true] 92))) := Lib.hid (HB.out.alloc HB.out.size _)
          have pfb := HPC.out _ HBL2.out
          obtain ⟨q2b, q0b⟩ := HQ2.out _ HBL2.out
          clear hi0 hz0 hz1 hz2
          go_upto_region 78 with fail
          go_region_law (first | (refine step_append_lies _ (by rfl) _ _ 46 (by rfl) B 92 i0 (.agg #[.int .i64 0, .bool false]) 2 16 Tryz.underlying46 HI0.out HZ0.out HZ1.out HZ2.out rfl (by decide) (.slice AF x.2.gs.length cf) x.2.gs.length (x.2.gs.flatMap cGs) (by rfl) HED.out ⟨wr.heap.size, 0, none⟩ 1 1 [.int .i64 (d : Int), .bool true] (by rfl) rfl HNW.out HOC.out (by decide) HNL.out HNB.out HBS.out _ rfl ?_; intro g5 c5 w8 hown5 hgrow5 hat5 hlt5; obtain ⟨x5a, x5b⟩ := HG.out w8 hgrow5))
          all_goals
            go_wp2_with fail
            go_ret
            rw [HXR.out]
            exact app_ok_g (y := (d, true)) HPA.out (HBL.out.mono (Nat.le_of_lt HTB.out)) HX.out (by first | exact hown5 | simpa using hown5) (by rw [HFE.out]; exact hgrow5) (by rw [HFE.out]; exact hat5)
set_option maxRecDepth 100000 in
set_option maxHeartbeats 8000000 in
theorem r53_GiveNo (a t u : ByteArray) (hu1 : u ≠ kR) (hu2 : u ≠ kRw) (w : World) (B tb : Nat) (SV CV : Value) (p : Pm) (D : List (Sv × Co)) (h : RS w B tb SV CV p D) (hs : a.size ≤ 9223372036854775807) (hs2 : t.size ≤ 9223372036854775807) (b o c : Nat)
    (q0 : w.cell? ⟨b, o, none⟩ = some (.string ⟨#[103, 105, 118, 101]⟩)) (q1 : w.cell? ⟨b, o + 1, none⟩ = some (.string a)) (q2 : w.cell? ⟨b, o + 2, none⟩ = some (.string t)) (q3 : w.cell? ⟨b, o + 3, none⟩ = some (.string u)) :
    Calls Tryz.prog 53 #[.pointer (some ⟨tb, 0, none⟩), .slice (some ⟨b, o, none⟩) 4 c] w fun e w' => Lp tb B (lineV p [kGive, a, t, u]) w e w' := by
  have HLV := Lib.hid (line_Give p a t u)
  have H22 := Lib.hid (c22 a hs)
  have H22t := Lib.hid (c22 t hs2)
  have H50 := Lib.hid (r50 a w B tb SV CV p D h)
  have H51 := Lib.hid (r51 t w B tb SV CV p D h)
  have hu3 : ¬ (u = kR ∨ u = kRw) := fun h => h.elim hu1 hu2
  have HX : Hid (lineV p [kGive, a, t, u] = (5, p)) := Lib.hid (by rw [HLV.out, giveV_no (Or.inr (Or.inr hu3))])
  have n1 : ¬ u.toList = [114] := fun hh => by
    have h1 : (u.toList == (⟨#[114]⟩ : ByteArray).toList) = false := by rw [bs_eq]; exact decide_eq_false hu1
    rw [hh] at h1
    simp at h1
  have n2 : ¬ u.toList = [114, 119] := fun hh => by
    have h1 : (u.toList == (⟨#[114, 119]⟩ : ByteArray).toList) = false := by rw [bs_eq]; exact decide_eq_false hu2
    rw [hh] at h1
    simp at h1
  have u1 : (u.toList == [114]) = false := by simpa using n1
  have u2 : (u.toList == [114, 119]) = false := by simpa using n2
  have p3 := h.1.cell 3
  generalize nameB a = na at *
  generalize nameB t = nt at *
  generalize atI (fnd (byName a) p.cs) = ak at *
  generalize atI (fnd (fun y : ByteArray × Nat => decide (y.1 = t)) p.ss) = ad at *
  clear h hs hs2 hu1 hu2 hu3 p3
  cases na
  · go_enter Tryz.func53, Tryz.ntmps53
    go_wp2_with fail
    with_reducible refine (H22.out _).mono ?_
    rintro _ w5 ⟨rfl, rfl⟩
    go_wp2_with fail
    go_ret
    exact lp_err (p := p) HX.out (Below.refl _ _)
  cases nt
  · go_enter Tryz.func53, Tryz.ntmps53
    go_wp2_with fail
    with_reducible refine (H22.out w).mono ?_
    rintro _ v5 ⟨rfl, hv5⟩
    subst hv5
    go_wp2_with fail
    with_reducible refine H50.out.mono ?_
    rintro _ v6 ⟨rfl, hv6⟩
    subst hv6
    go_wp2_with fail
    with_reducible refine (H22t.out _).mono ?_
    rintro _ v7 ⟨rfl, hv7⟩
    subst hv7
    go_wp2_with fail
    go_ret
    exact lp_err (p := p) HX.out (Below.refl _ _)
  go_enter Tryz.func53, Tryz.ntmps53
  go_wp2_with fail
  with_reducible refine (H22.out w).mono ?_
  rintro _ v5 ⟨rfl, hv5⟩
  subst hv5
  go_wp2_with fail
  with_reducible refine H50.out.mono ?_
  rintro _ v6 ⟨rfl, hv6⟩
  subst hv6
  go_wp2_with fail
  with_reducible refine (H22t.out _).mono ?_
  rintro _ v7 ⟨rfl, hv7⟩
  subst hv7
  go_wp2_with fail
  go_ret
  exact lp_err (p := p) HX.out (Below.refl _ _)
end Go.Proofs.YtapdiionikfgpaaGreatDoor
