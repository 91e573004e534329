import Derived.Laws.MakeOwn
import Derived.Test.YtoiiiobamanclaaK
namespace Go.Proofs.Ytoiiiobamanclaa
open Go.ChangeShapes Go.WideShapes Go.ChangeAt Go.RowKit Go.Shelf
set_option linter.unusedVariables false
def bnd (O : List ByteArray) (n : Nm) : Bd := ⟨n.tx, tgt O n⟩
def bad (O : List ByteArray) (n : Nm) : Bool := n.ak && decide (tgt O n = tn)
/-- what Table says of names -/
def TabOut (E : List Nm) (O : List ByteArray) (w : World) (tv : Value) (nm : ByteArray) (er : Int) : Prop :=
  match E.find? (fun n => n.tw) with
  | some n => tv = .slice none 0 0 ∧ nm = n.tx ∧ er = 7
  | none => match E.find? (bad O) with
    | some n => tv = .slice none 0 0 ∧ nm = n.tx ∧ er = 6
    | none => nm = ⟨#[]⟩ ∧ er = 0 ∧ Ly w tv 4 Bd.c (E.map (bnd O))
/-- round of the table -/
def RB (E : List Nm) (O : List ByteArray) (w8 : World) (tv i : Value) (wr : World) : Prop := ∃ k : Nat, k ≤ E.length ∧ i = .int .i64 (k : Int) ∧ Below w8.heap.size w8 wr ∧ BdR wr w8.heap.size tv ((E.take k).map (bnd O))
theorem blk_far {w w' : World} {b g : Nat} {cs : Array Value} {v : Value} {n : Nat} {xs : List Value} (h : Blk w g 57 cs) (hR : w.ownsRow b 37 4 v n xs) (hg : w.grownBy w' v.ownBlock) : Blk w' g 57 cs := by
  refine (hg.block g h.lt (fun e => ?_)).trans h
  rcases hR.2 with ⟨rfl, _⟩ | ⟨g', cap, cur, rfl, hgb, hgg, _⟩
  · cases e
  · simp [Value.ownBlock] at e
    subst e
    have := h.symm.trans hgg
    injection this with this
    injection this with _ h2
    exact absurd h2 (by decide)
set_option maxRecDepth 100000 in
set_option maxHeartbeats 8000000 in
theorem table8 (v ov : Value) (D : List (Lo × List Sm)) (O : List ByteArray) (w : World) (hD : Lds w v D) (hT : tot (D.map (·.2)) ≤ 1048576) (hS : ∀ x ∈ D, ∀ s ∈ x.2, s.nm.size ≤ 1048576) (hL : D.length ≤ 1048576) (hO : Sts w ov O) (hOL : O.length ≤ 1048576) (hOS : ∀ s ∈ O, s.size ≤ 1048576) :
    Calls Try.prog 8 #[v, ov] w fun e w' => Below w.heap.size w w' ∧ ∃ E', E'.Perm (outE (D.map (·.2)) D.length) ∧ E'.Pairwise (fun a b => ltN b.tx a.tx = false) ∧ ∃ tv nm er, e = .returned (.tuple #[tv, .string nm, .int .i64 er]) ∧ TabOut E' O w' tv nm er := by
  have K15 := Lib.hid (all15 v D w hD hT hS hL)
  have K16 := Lib.hid (fun W (hW : Below w.heap.size w W) => numbers16 ov O W (hO.below hW) hOL hOS)
  have HEL : Hid (∀ E' : List Nm, E'.Perm (outE (D.map (·.2)) D.length) → E'.length ≤ 1048576 ∧ ∀ n ∈ E', n.tx.size ≤ 1048576) := Lib.hid (fun E' hp => by
    refine ⟨?_, fun n hn => ?_⟩
    · rw [hp.length_eq]
      have h2 := outE_len (D.map (·.2)) D.length
      have h3 := tot_take (D.map (·.2)) D.length
      omega
    · exact outE_tx (P := fun s => s.size ≤ 1048576) (D := D.map (·.2)) (fun S hS' s hs => by
        obtain ⟨x, hx, rfl⟩ := List.mem_map.1 hS'
        exact hS x hx s hs) _ n (hp.mem_iff.1 hn))
  have eg19 : ∀ args w, (callFunc 19 args).run Try.prog w = .ok (.enter 19 args) w := enters_of Try.func19 (by kernel_rfl) rfl
  have eg20 : ∀ args w, (callFunc 20 args).run Try.prog w = .ok (.enter 20 args) w := enters_of Try.func20 (by kernel_rfl) rfl
  have E19 := Lib.hid eg19; have E20 := Lib.hid eg20
  clear eg19 eg20 hD hT hS hL hO hOL hOS
  go_enter Try.func8, Try.ntmps8
  go_wp2_with fail
  (with_reducible refine K15.out.mono ?_)
  rintro _ w1 ⟨V, E, rfl, hp, hs, hn, hb⟩
  obtain ⟨hel, htx⟩ := HEL.out E hp
  have HP := Lib.hid hp; have HSO := Lib.hid hs
  obtain ⟨A, c, rfl, hA⟩ := hn.ly
  have HLY : Hid (Ly w1 (.slice A E.length c) 12 Nm.c E) := Lib.hid ⟨A, c, rfl, hA⟩
  have HB1 := Lib.hid hb; have HE1 := Lib.hid hel; have HTX := Lib.hid htx
  clear hp hs hn hA hb hel htx K15 HEL
  go_wp2_with fail
  (with_reducible refine (K16.out w1 HB1.out).mono ?_)
  rintro _ w2 ⟨rfl, ⟨n2, hm2⟩, hb2⟩
  have HM2 := Lib.hid hm2; have HB2 := Lib.hid hb2; have HLY2 := Lib.hid (HLY.out.below hb2)
  clear hm2 hb2 K16
  go_wp2_with fail
  have hb3 : Below w2.heap.size w2 ((w2.alloc (.cells #[.slice A E.length c] 50)).alloc (.cells #[.map (some w1.heap.size)] 52)) := ((Below.refl _ w2).alloc (Nat.le_refl _) _).alloc (by simp) _
  have b7 : Blk ((w2.alloc (.cells #[.slice A E.length c] 50)).alloc (.cells #[.map (some w1.heap.size)] 52)) w2.heap.size 50 #[.slice A E.length c] := (Blk.new w2 50 _).alloc _
  have b8 : Blk ((w2.alloc (.cells #[.slice A E.length c] 50)).alloc (.cells #[.map (some w1.heap.size)] 52)) (w2.heap.size + 1) 52 #[.map (some w1.heap.size)] := by
    have := Blk.new (w2.alloc (.cells #[.slice A E.length c] 50)) 52 #[.map (some w1.heap.size)]
    rw [World.size_alloc] at this
    exact this
  have HM3 := Lib.hid (HM2.out.below hb3); have HLY3 := Lib.hid (HLY2.out.below hb3); have HB3 := Lib.hid hb3; have B7 := Lib.hid b7; have B8 := Lib.hid b8
  clear hb3 b7 b8
  generalize ((w2.alloc (.cells #[.slice A E.length c] 50)).alloc (.cells #[.map (some w1.heap.size)] 52)) = W3 at *
  have K17 := Lib.hid (wrong17 w2.heap.size A c E 19 #[] E19.out (fun n => n.tw) W3 (by rw [B7.out.cell]; rfl) HLY3.out HE1.out (fun k n _ W hW => (twice19 n W).mono fun e w' h => ⟨h.1, hW.trans (h.2.mono hW.size)⟩))
  have HBW : Hid (Below w.heap.size w W3) := Lib.hid (HB1.out.trans ((HB2.out.trans (HB3.out.mono HB2.out.size)).mono HB1.out.size))
  have HC7 : Hid (∀ W, Below W3.heap.size W3 W → W.cell? ⟨w2.heap.size, 0, none⟩ = some (.slice A E.length c)) := Lib.hid (fun W h => by rw [(B7.out.below h B7.out.lt).cell]; rfl)
  have HC8 : Hid (∀ W, Below W3.heap.size W3 W → W.cell? ⟨w2.heap.size + 1, 0, none⟩ = some (.map (some w1.heap.size))) := Lib.hid (fun W h => by rw [(B8.out.below h B8.out.lt).cell]; rfl)
  (with_reducible refine K17.out.mono ?_)
  rintro _ w4 ⟨rfl, hb4⟩
  have HB4 := Lib.hid hb4
  clear hb4 K17
  rcases ixp_cases (fun n : Nm => n.tw) E with ⟨i, n, hi, hpn, hix, hfd⟩ | ⟨hix, hfd⟩
  · rw [hix]
    have HFD := Lib.hid hfd
    have HI := Lib.hid hi
    have hil := (List.getElem?_eq_some_iff.1 hi).1
    have hly4 := HLY3.out.below HB4.out
    obtain ⟨_, hA⟩ := hly4.at'
    obtain ⟨ab, ao, rfl, hbl, hc⟩ := hA (by omega)
    have q0 := hc i n hi 0 _ rfl
    rw [Nat.add_zero] at q0
    have q1 := HC7.out w4 (HB4.out)
    have hi2 : i < E.length := hil
    have hge : (0 : Int) ≤ (i : Int) := by omega
    clear hc hA hly4 hil hpn hix hfd hi hbl
    go_wp2_with fail
    have HI9 : Hid (w4.drew.cell? ⟨w2.heap.size, 0, none⟩ = some (.slice (some ⟨ab, ao, none⟩) E.length c) ∧ w4.drew.cell? ⟨ab, ao + i * 12, none⟩ = some (.string n.tx)) := Lib.hid ⟨q1, q0⟩
    go_region_held3 (fun W => W.cell? ⟨w2.heap.size, 0, none⟩ = some (.slice (some ⟨ab, ao, none⟩) E.length c) ∧ W.cell? ⟨ab, ao + i * 12, none⟩ = some (.string n.tx))
      (first | assumption | exact HI9.out)
      (first | fail)
    rename_i hHeld
    clear hHeld
    go_wp2_with fail
    exact bodyPost_ret (v := .tuple #[.slice none 0 0, .string n.tx, .int .i64 7]) (by simp [results, Try.results8, go_sem]) rfl ⟨(HBW.out.trans (HB4.out.mono HBW.out.size)).drew, E, HP.out, HSO.out, _, _, _, rfl, by unfold TabOut; rw [HFD.out]; exact ⟨rfl, rfl, rfl⟩⟩
  · rw [hix]
    have HFD := Lib.hid hfd
    have K20 := Lib.hid (wrong17 w2.heap.size A c E 20 #[.pointer (some ⟨w2.heap.size + 1, 0, none⟩)] E20.out (bad O) w4 (HC7.out _ HB4.out) (HLY3.out.below HB4.out) HE1.out (fun k n hk W hW => (asked20 O n w1.heap.size n2 (w2.heap.size + 1) W ((HM3.out.below HB4.out).below hW) (by have h1 := (B8.out.below HB4.out B8.out.lt).lt; have := hW.size; omega) (HC8.out _ (HB4.out.trans (hW.mono HB4.out.size))) (HTX.out n (List.mem_of_getElem? hk))).mono fun e w' h => ⟨h.1, hW.trans (h.2.mono hW.size)⟩))
    clear hix hfd
    go_wp2_with fail
    (with_reducible refine K20.out.mono ?_)
    rintro _ w5 ⟨rfl, hb5⟩
    have HB5 : Hid (Below W3.heap.size W3 w5) := Lib.hid (HB4.out.trans (hb5.mono HB4.out.size))
    clear hb5 K20 HB4
    rcases ixp_cases (bad O) E with ⟨i, n, hi, hpn, hix, hfd⟩ | ⟨hix, hfd⟩
    · rw [hix]
      have HFD2 := Lib.hid hfd
      have HI := Lib.hid hi
      have hil := (List.getElem?_eq_some_iff.1 hi).1
      have hly4 := HLY3.out.below HB5.out
      obtain ⟨_, hA⟩ := hly4.at'
      obtain ⟨ab, ao, rfl, hbl, hc⟩ := hA (by omega)
      have q0 := hc i n hi 0 _ rfl
      rw [Nat.add_zero] at q0
      have q1 := HC7.out w5 (HB5.out)
      have hi2 : i < E.length := hil
      have hge : (0 : Int) ≤ (i : Int) := by omega
      clear hc hA hly4 hil hpn hix hfd hi hbl
      go_wp2_with fail
      have HI9 : Hid (w5.drew.cell? ⟨w2.heap.size, 0, none⟩ = some (.slice (some ⟨ab, ao, none⟩) E.length c) ∧ w5.drew.cell? ⟨ab, ao + i * 12, none⟩ = some (.string n.tx)) := Lib.hid ⟨q1, q0⟩
      go_region_held3 (fun W => W.cell? ⟨w2.heap.size, 0, none⟩ = some (.slice (some ⟨ab, ao, none⟩) E.length c) ∧ W.cell? ⟨ab, ao + i * 12, none⟩ = some (.string n.tx))
        (first | assumption | exact HI9.out)
        (first | fail)
      rename_i hHeld
      clear hHeld
      go_wp2_with fail
      exact bodyPost_ret (v := .tuple #[.slice none 0 0, .string n.tx, .int .i64 6]) (by simp [results, Try.results8, go_sem]) rfl ⟨(HBW.out.trans (HB5.out.mono HBW.out.size)).drew, E, HP.out, HSO.out, _, _, _, rfl, by unfold TabOut; rw [HFD.out]; dsimp only; rw [HFD2.out]; exact ⟨rfl, rfl, rfl⟩⟩
    · rw [hix]
      have HFD2 := Lib.hid hfd
      clear hix hfd
      obtain ⟨i0, hi0, hz0, hz1, hz2⟩ := info_parts info37
      have HI0 := Lib.hid hi0; have HZ0 := Lib.hid hz0; have HZ1 := Lib.hid hz1; have HZ2 := Lib.hid hz2
      clear hi0 hz0 hz1 hz2
      have HBM : Hid (i0.bytes * E.length ≤ 281474976710656) := Lib.hid (by rw [HZ2.out]; have := HE1.out; omega)
      have HEM : Hid (E.length ≤ maxLen) := Lib.hid (by have := HE1.out; unfold maxLen; omega)
      have HMK : Hid (∀ W, w5.grownBy W none → Below w5.heap.size w5 W) := Lib.hid (fun W hg => (Below.refl _ _).grown hg (Nat.le_refl _) (fun k hk => by cases hk))
      have q1 := HC7.out w5 HB5.out
      have HNP : Hid (∀ W, Below w5.heap.size w5 W → W.cell? ⟨w2.heap.size, 0, none⟩ = some (.slice A E.length c)) := Lib.hid (fun W hW => HC7.out W (HB5.out.trans (hW.mono HB5.out.size)))
      go_wp2_with (at_make; refine wpList_make_own _ rfl _ _ 26 rfl w5.heap.size 37 i0 (.agg #[.string ⟨#[]⟩, .int .i64 0, .int .i64 0, .int .i64 0]) 4 Try.underlying26 HI0.out HZ0.out HZ1.out .i64 .i64 (E.length : Int) E.length rfl rfl rfl HBM.out HEM.out (Nat.le_refl _) ?_; intro W0 hown0 hgrow0; have hnp := HNP.out W0 (HMK.out W0 hgrow0))
      have HB0 := Lib.hid (HMK.out W0 hgrow0)
      have HR0 := Lib.hid hown0
      clear hown0 hgrow0 hnp q1
      go_loopw [12, 14, 44] (fun tv _ i wr => RB E O w5 tv i wr) (fun _ _ i _ => E.length - (intOf i).toNat)
      case atStart => exact ⟨0, Nat.zero_le _, rfl, HB0.out, HR0.out⟩
      case round =>
        obtain ⟨k, hk, rfl, hb, hr⟩ := hrel
        by_cases hlt : k < E.length
        · obtain ⟨n, hn⟩ : ∃ n, E[k]? = some n := ⟨_, List.getElem?_eq_getElem hlt⟩
          obtain ⟨_, hA⟩ := ((HLY3.out.below (HB5.out.trans (hb.mono HB5.out.size)))).at'
          obtain ⟨ab, ao, rfl, hbl, hc⟩ := hA (by omega)
          have hcc : ∀ (j : Nat) u, n.c[j]? = some u → wr.cell? ⟨ab, ao + k * 12 + j, none⟩ = some u := fun j u hu => hc k n hn j u hu
          have HTK : Hid ((E.take (k + 1)).map (bnd O) = ((E.take k).map (bnd O)) ++ [bnd O n]) := Lib.hid (by rw [List.take_add_one, hn, List.map_append]; rfl)
          have HTL : Hid (((E.take k).map (bnd O)).length = k) := Lib.hid (by rw [List.length_map, List.length_take]; omega)
          have HNS := Lib.hid (HTX.out n (List.mem_of_getElem? hn))
          have HLT := Lib.hid hlt; have HRW := Lib.hid hr; have HBR := Lib.hid hb
          obtain ⟨⟨t0, t1, t2⟩, htg⟩ : ∃ t, tgt O n = t := ⟨_, rfl⟩
          have HTG := Lib.hid htg
          have hbn : bnd O n = ⟨n.tx, ⟨t0, t1, t2⟩⟩ := by unfold bnd; rw [htg]
          have HBN := Lib.hid hbn
          clear hA hc hbl hn hr htg hb hbn
          obtain ⟨tx, ⟨s0, s1, s2⟩, ⟨d0, d1, d2⟩, ⟨e0, e1, e2⟩, tw, ak⟩ := n
          have c0 : wr.cell? ⟨ab, ao + k * 12, none⟩ = some (.string tx) := hcc 0 _ rfl
          have c1 : wr.cell? ⟨ab, ao + k * 12 + 1, none⟩ = some (.int .i64 s0) := hcc 1 _ rfl
          have c2 : wr.cell? ⟨ab, ao + k * 12 + 2, none⟩ = some (.int .i64 s1) := hcc 2 _ rfl
          have c3 : wr.cell? ⟨ab, ao + k * 12 + 3, none⟩ = some (.int .i64 s2) := hcc 3 _ rfl
          have c4 : wr.cell? ⟨ab, ao + k * 12 + 4, none⟩ = some (.int .i64 d0) := hcc 4 _ rfl
          have c5 : wr.cell? ⟨ab, ao + k * 12 + 5, none⟩ = some (.int .i64 d1) := hcc 5 _ rfl
          have c6 : wr.cell? ⟨ab, ao + k * 12 + 6, none⟩ = some (.int .i64 d2) := hcc 6 _ rfl
          have c7 : wr.cell? ⟨ab, ao + k * 12 + 7, none⟩ = some (.int .i64 e0) := hcc 7 _ rfl
          have c8 : wr.cell? ⟨ab, ao + k * 12 + 8, none⟩ = some (.int .i64 e1) := hcc 8 _ rfl
          have c9 : wr.cell? ⟨ab, ao + k * 12 + 9, none⟩ = some (.int .i64 e2) := hcc 9 _ rfl
          have c10 : wr.cell? ⟨ab, ao + k * 12 + 10, none⟩ = some (.bool tw) := hcc 10 _ rfl
          have c11 : wr.cell? ⟨ab, ao + k * 12 + 11, none⟩ = some (.bool ak) := hcc 11 _ rfl
          have HX : Hid (Blk (wr.alloc (.cells #[.string tx, .int .i64 s0, .int .i64 s1, .int .i64 s2, .int .i64 d0, .int .i64 d1, .int .i64 d2, .int .i64 e0, .int .i64 e1, .int .i64 e2, .bool tw, .bool ak] 57)) wr.heap.size 57 (Nm.c ⟨tx, ⟨s0, s1, s2⟩, ⟨d0, d1, d2⟩, ⟨e0, e1, e2⟩, tw, ak⟩).toArray) := Lib.hid (Blk.new wr 57 _)
          have HBX : Hid (Below w5.heap.size w5 (wr.alloc (.cells #[.string tx, .int .i64 s0, .int .i64 s1, .int .i64 s2, .int .i64 d0, .int .i64 d1, .int .i64 d2, .int .i64 e0, .int .i64 e1, .int .i64 e2, .bool tw, .bool ak] 57))) := Lib.hid (HBR.out.alloc HBR.out.size _)
          have HRX : Hid ((wr.alloc (.cells #[.string tx, .int .i64 s0, .int .i64 s1, .int .i64 s2, .int .i64 d0, .int .i64 d1, .int .i64 d2, .int .i64 e0, .int .i64 e1, .int .i64 e2, .bool tw, .bool ak] 57)).ownsRow w5.heap.size 37 4 u12 k (((E.take k).map (bnd O)).flatMap Bd.c)) := Lib.hid (by
            have h := HRW.out
            unfold BdR at h
            rw [HTL.out] at h
            exact h.alloc _)
          have HPK : Hid (∀ W, Blk W wr.heap.size 57 (Nm.c ⟨tx, ⟨s0, s1, s2⟩, ⟨d0, d1, d2⟩, ⟨e0, e1, e2⟩, tw, ak⟩).toArray → Below w5.heap.size w5 W → W.cell? ⟨wr.heap.size, 0, none⟩ = some (.string tx) ∧ W.cell? ⟨wr.heap.size, 1, none⟩ = some (.int .i64 s0) ∧ W.cell? ⟨wr.heap.size, 2, none⟩ = some (.int .i64 s1) ∧ W.cell? ⟨wr.heap.size, 3, none⟩ = some (.int .i64 s2) ∧ W.cell? ⟨wr.heap.size, 4, none⟩ = some (.int .i64 d0) ∧ W.cell? ⟨wr.heap.size, 5, none⟩ = some (.int .i64 d1) ∧ W.cell? ⟨wr.heap.size, 6, none⟩ = some (.int .i64 d2) ∧ W.cell? ⟨wr.heap.size, 7, none⟩ = some (.int .i64 e0) ∧ W.cell? ⟨wr.heap.size, 8, none⟩ = some (.int .i64 e1) ∧ W.cell? ⟨wr.heap.size, 9, none⟩ = some (.int .i64 e2) ∧ W.cell? ⟨wr.heap.size, 10, none⟩ = some (.bool tw) ∧ W.cell? ⟨wr.heap.size, 11, none⟩ = some (.bool ak) ∧ W.cell? ⟨w2.heap.size + 1, 0, none⟩ = some (.map (some w1.heap.size))) := Lib.hid (fun W hx hb => ⟨hx.cell 0, hx.cell 1, hx.cell 2, hx.cell 3, hx.cell 4, hx.cell 5, hx.cell 6, hx.cell 7, hx.cell 8, hx.cell 9, hx.cell 10, hx.cell 11, HC8.out _ (HB5.out.trans (hb.mono HB5.out.size))⟩)
          have HMW : Hid (∀ W, Below w5.heap.size w5 W → Mf W w1.heap.size n2 (oidx O)) := Lib.hid (fun W hb => HM3.out.below (HB5.out.trans (hb.mono HB5.out.size)))
          have HKN : Hid (k + 1 ≤ maxLen) := Lib.hid (by have := HE1.out; unfold maxLen; omega)
          have HKB : Hid ((k + 1) * 40 ≤ 140737488355328) := Lib.hid (by have := HE1.out; omega)
          clear hcc
          go_wp2_with fail
          clear c0 c1 c2 c3 c4 c5 c6 c7 c8 c9 c10 c11
          generalize (wr.alloc (.cells #[.string tx, .int .i64 s0, .int .i64 s1, .int .i64 s2, .int .i64 d0, .int .i64 d1, .int .i64 d2, .int .i64 e0, .int .i64 e1, .int .i64 e2, .bool tw, .bool ak] 57)) = X at *
          have HC := Lib.hid (target21 O ⟨tx, ⟨s0, s1, s2⟩, ⟨d0, d1, d2⟩, ⟨e0, e1, e2⟩, tw, ak⟩ w1.heap.size n2 X.drew (HMW.out _ HBX.out.drew) HNS.out)
          rw [HTG.out] at HC
          have HI9 : Hid (X.drew.cell? ⟨wr.heap.size, 0, none⟩ = some (.string tx) ∧ X.drew.cell? ⟨wr.heap.size, 1, none⟩ = some (.int .i64 s0) ∧ X.drew.cell? ⟨wr.heap.size, 2, none⟩ = some (.int .i64 s1) ∧ X.drew.cell? ⟨wr.heap.size, 3, none⟩ = some (.int .i64 s2) ∧ X.drew.cell? ⟨wr.heap.size, 4, none⟩ = some (.int .i64 d0) ∧ X.drew.cell? ⟨wr.heap.size, 5, none⟩ = some (.int .i64 d1) ∧ X.drew.cell? ⟨wr.heap.size, 6, none⟩ = some (.int .i64 d2) ∧ X.drew.cell? ⟨wr.heap.size, 7, none⟩ = some (.int .i64 e0) ∧ X.drew.cell? ⟨wr.heap.size, 8, none⟩ = some (.int .i64 e1) ∧ X.drew.cell? ⟨wr.heap.size, 9, none⟩ = some (.int .i64 e2) ∧ X.drew.cell? ⟨wr.heap.size, 10, none⟩ = some (.bool tw) ∧ X.drew.cell? ⟨wr.heap.size, 11, none⟩ = some (.bool ak) ∧ X.drew.cell? ⟨w2.heap.size + 1, 0, none⟩ = some (.map (some w1.heap.size))) := Lib.hid (HPK.out X.drew HX.out.drew HBX.out.drew)
          go_region_held3 (fun W => W.cell? ⟨wr.heap.size, 0, none⟩ = some (.string tx) ∧ W.cell? ⟨wr.heap.size, 1, none⟩ = some (.int .i64 s0) ∧ W.cell? ⟨wr.heap.size, 2, none⟩ = some (.int .i64 s1) ∧ W.cell? ⟨wr.heap.size, 3, none⟩ = some (.int .i64 s2) ∧ W.cell? ⟨wr.heap.size, 4, none⟩ = some (.int .i64 d0) ∧ W.cell? ⟨wr.heap.size, 5, none⟩ = some (.int .i64 d1) ∧ W.cell? ⟨wr.heap.size, 6, none⟩ = some (.int .i64 d2) ∧ W.cell? ⟨wr.heap.size, 7, none⟩ = some (.int .i64 e0) ∧ W.cell? ⟨wr.heap.size, 8, none⟩ = some (.int .i64 e1) ∧ W.cell? ⟨wr.heap.size, 9, none⟩ = some (.int .i64 e2) ∧ W.cell? ⟨wr.heap.size, 10, none⟩ = some (.bool tw) ∧ W.cell? ⟨wr.heap.size, 11, none⟩ = some (.bool ak) ∧ W.cell? ⟨w2.heap.size + 1, 0, none⟩ = some (.map (some w1.heap.size)))
            (first | assumption | exact HI9.out)
            (first
              | (go_at_call 21; (with_reducible refine HC.out.mono ?_); rintro _ w9 ⟨rfl, hb9⟩; have HX9 : Blk w9 wr.heap.size 57 (Nm.c ⟨tx, ⟨s0, s1, s2⟩, ⟨d0, d1, d2⟩, ⟨e0, e1, e2⟩, tw, ak⟩).toArray := HX.out.drew.below hb9 HX.out.drew.lt; have HB9 : Below w5.heap.size w5 w9 := HBX.out.drew.trans (hb9.mono HBX.out.size); have HR9 : w9.ownsRow w5.heap.size 37 4 u12 k (((E.take k).map (bnd O)).flatMap Bd.c) := HRX.out.drew.kept (grown_below hb9) (by cases u12.ownBlock <;> simp); have HS9 : w9.cell? ⟨wr.heap.size, 0, none⟩ = some (.string tx) ∧ w9.cell? ⟨wr.heap.size, 1, none⟩ = some (.int .i64 s0) ∧ w9.cell? ⟨wr.heap.size, 2, none⟩ = some (.int .i64 s1) ∧ w9.cell? ⟨wr.heap.size, 3, none⟩ = some (.int .i64 s2) ∧ w9.cell? ⟨wr.heap.size, 4, none⟩ = some (.int .i64 d0) ∧ w9.cell? ⟨wr.heap.size, 5, none⟩ = some (.int .i64 d1) ∧ w9.cell? ⟨wr.heap.size, 6, none⟩ = some (.int .i64 d2) ∧ w9.cell? ⟨wr.heap.size, 7, none⟩ = some (.int .i64 e0) ∧ w9.cell? ⟨wr.heap.size, 8, none⟩ = some (.int .i64 e1) ∧ w9.cell? ⟨wr.heap.size, 9, none⟩ = some (.int .i64 e2) ∧ w9.cell? ⟨wr.heap.size, 10, none⟩ = some (.bool tw) ∧ w9.cell? ⟨wr.heap.size, 11, none⟩ = some (.bool ak) ∧ w9.cell? ⟨w2.heap.size + 1, 0, none⟩ = some (.map (some w1.heap.size)) := HPK.out w9 HX9 HB9; have HX9a : Blk (w9.alloc (.cells #[.string tx, .int .i64 t0, .int .i64 t1, .int .i64 t2] 37)) wr.heap.size 57 (Nm.c ⟨tx, ⟨s0, s1, s2⟩, ⟨d0, d1, d2⟩, ⟨e0, e1, e2⟩, tw, ak⟩).toArray := HX9.alloc _; have HB9a : Below w5.heap.size w5 (w9.alloc (.cells #[.string tx, .int .i64 t0, .int .i64 t1, .int .i64 t2] 37)) := HB9.alloc HB9.size _; have HS9a : (w9.alloc (.cells #[.string tx, .int .i64 t0, .int .i64 t1, .int .i64 t2] 37)).cell? ⟨wr.heap.size, 0, none⟩ = some (.string tx) ∧ (w9.alloc (.cells #[.string tx, .int .i64 t0, .int .i64 t1, .int .i64 t2] 37)).cell? ⟨wr.heap.size, 1, none⟩ = some (.int .i64 s0) ∧ (w9.alloc (.cells #[.string tx, .int .i64 t0, .int .i64 t1, .int .i64 t2] 37)).cell? ⟨wr.heap.size, 2, none⟩ = some (.int .i64 s1) ∧ (w9.alloc (.cells #[.string tx, .int .i64 t0, .int .i64 t1, .int .i64 t2] 37)).cell? ⟨wr.heap.size, 3, none⟩ = some (.int .i64 s2) ∧ (w9.alloc (.cells #[.string tx, .int .i64 t0, .int .i64 t1, .int .i64 t2] 37)).cell? ⟨wr.heap.size, 4, none⟩ = some (.int .i64 d0) ∧ (w9.alloc (.cells #[.string tx, .int .i64 t0, .int .i64 t1, .int .i64 t2] 37)).cell? ⟨wr.heap.size, 5, none⟩ = some (.int .i64 d1) ∧ (w9.alloc (.cells #[.string tx, .int .i64 t0, .int .i64 t1, .int .i64 t2] 37)).cell? ⟨wr.heap.size, 6, none⟩ = some (.int .i64 d2) ∧ (w9.alloc (.cells #[.string tx, .int .i64 t0, .int .i64 t1, .int .i64 t2] 37)).cell? ⟨wr.heap.size, 7, none⟩ = some (.int .i64 e0) ∧ (w9.alloc (.cells #[.string tx, .int .i64 t0, .int .i64 t1, .int .i64 t2] 37)).cell? ⟨wr.heap.size, 8, none⟩ = some (.int .i64 e1) ∧ (w9.alloc (.cells #[.string tx, .int .i64 t0, .int .i64 t1, .int .i64 t2] 37)).cell? ⟨wr.heap.size, 9, none⟩ = some (.int .i64 e2) ∧ (w9.alloc (.cells #[.string tx, .int .i64 t0, .int .i64 t1, .int .i64 t2] 37)).cell? ⟨wr.heap.size, 10, none⟩ = some (.bool tw) ∧ (w9.alloc (.cells #[.string tx, .int .i64 t0, .int .i64 t1, .int .i64 t2] 37)).cell? ⟨wr.heap.size, 11, none⟩ = some (.bool ak) ∧ (w9.alloc (.cells #[.string tx, .int .i64 t0, .int .i64 t1, .int .i64 t2] 37)).cell? ⟨w2.heap.size + 1, 0, none⟩ = some (.map (some w1.heap.size)) := HPK.out _ HX9a HB9a; have HR9a : Hid ((w9.alloc (.cells #[.string tx, .int .i64 t0, .int .i64 t1, .int .i64 t2] 37)).ownsRow w5.heap.size 37 4 u12 k (((E.take k).map (bnd O)).flatMap Bd.c)) := Lib.hid (HR9.alloc _); have HZB : Hid (w5.heap.size ≤ (w9.alloc (.cells #[.string tx, .int .i64 t0, .int .i64 t1, .int .i64 t2] 37)).heap.size) := Lib.hid HB9a.size; have HNW := Lib.hid (cells_new w9 [.string tx, .int .i64 t0, .int .i64 t1, .int .i64 t2] 37))
              | (refine step_append_lies _ (by rfl) _ _ 26 (by rfl) w5.heap.size 37 i0 (.agg #[.string ⟨#[]⟩, .int .i64 0, .int .i64 0, .int .i64 0]) 4 40 Try.underlying26 HI0.out HZ0.out HZ1.out HZ2.out rfl (by decide) u12 k (((E.take k).map (bnd O)).flatMap Bd.c) (by rfl) HR9a.out ⟨w9.heap.size, 0, none⟩ 1 1 [.string tx, .int .i64 t0, .int .i64 t1, .int .i64 t2] (by rfl) rfl HNW.out (fun x hx => by simp at hx; rcases hx with rfl | rfl | rfl | rfl <;> rfl) (by decide) HKN.out HKB.out HZB.out _ rfl ?_; intro g5 c5 w10 hown10 hgrow10 hat10 hlt10; have HB10 : Below w5.heap.size w5 w10 := gr_below HB9a HR9a.out hgrow10 HZB.out; have HS10 : w10.cell? ⟨wr.heap.size, 0, none⟩ = some (.string tx) ∧ w10.cell? ⟨wr.heap.size, 1, none⟩ = some (.int .i64 s0) ∧ w10.cell? ⟨wr.heap.size, 2, none⟩ = some (.int .i64 s1) ∧ w10.cell? ⟨wr.heap.size, 3, none⟩ = some (.int .i64 s2) ∧ w10.cell? ⟨wr.heap.size, 4, none⟩ = some (.int .i64 d0) ∧ w10.cell? ⟨wr.heap.size, 5, none⟩ = some (.int .i64 d1) ∧ w10.cell? ⟨wr.heap.size, 6, none⟩ = some (.int .i64 d2) ∧ w10.cell? ⟨wr.heap.size, 7, none⟩ = some (.int .i64 e0) ∧ w10.cell? ⟨wr.heap.size, 8, none⟩ = some (.int .i64 e1) ∧ w10.cell? ⟨wr.heap.size, 9, none⟩ = some (.int .i64 e2) ∧ w10.cell? ⟨wr.heap.size, 10, none⟩ = some (.bool tw) ∧ w10.cell? ⟨wr.heap.size, 11, none⟩ = some (.bool ak) ∧ w10.cell? ⟨w2.heap.size + 1, 0, none⟩ = some (.map (some w1.heap.size)) := HPK.out w10 (blk_far HX9a HR9a.out hgrow10) HB10))
          rename_i hHeld
          have HB1x := Lib.hid HB10
          have HR1x := Lib.hid hown10
          clear HX HBX HRX HPK HMW HC HKN HKB HI9 HX9 HB9 HR9 HS9 HX9a HB9a HS9a HR9a HZB HNW hown10 hgrow10 hat10 hlt10 HB10 HS10 hb9 hHeld
          have hel := HE1.out
          have hlt := HLT.out
          go_wp2_with fail
          go_roundw
          case rel =>
            refine ⟨k + 1, HLT.out, by go_num, HB1x.out, ?_⟩
            rw [HTK.out, HBN.out]
            unfold BdR
            rw [List.length_append, HTL.out, List.flatMap_append, List.flatMap_cons, List.flatMap_nil, List.append_nil]
            exact HR1x.out
          case measure => simp [intOf]; omega
        · obtain rfl : k = E.length := by omega
          rw [List.take_length] at hr
          have HR := Lib.hid hr; have HB := Lib.hid hb
          clear hr hb
          go_wp2_with fail
          exact bodyPost_ret (v := .tuple #[u12, .string ⟨#[]⟩, .int .i64 0]) (by simp [results, Try.results8, go_sem]) rfl ⟨HBW.out.trans ((HB5.out.trans (HB.out.mono HB5.out.size)).mono HBW.out.size), E, HP.out, HSO.out, _, _, _, rfl, by unfold TabOut; rw [HFD.out]; dsimp only; rw [HFD2.out]; exact ⟨rfl, rfl, HR.out.ly⟩⟩
end Go.Proofs.Ytoiiiobamanclaa
