import Derived.Test.YtoiiiobamanclaaN
namespace Go.Proofs.Ytoiiiobamanclaa
open Go.ChangeShapes Go.WideShapes Go.ChangeAt Go.RowKit Go.Shelf
set_option linter.unusedVariables false
abbrev tF : ByteArray := ⟨#[102]⟩
abbrev tS : ByteArray := ⟨#[115, 119, 105, 116, 99, 104]⟩
abbrev sF : Sm := ⟨tF, 0, 0, 1, 0, false, -2⟩
abbrev sS : Sm := ⟨tS, 0, 0, 1, 0, false, -1⟩
abbrev nF : Nm := ⟨tF, ⟨0, 0, -1⟩, tn, tn, false, false⟩
abbrev nS : Nm := ⟨tS, tn, tn, tn, false, true⟩
abbrev T2 : List Bd := [⟨tF, ⟨0, 0, -1⟩⟩, ⟨tS, ⟨-1, 0, 0⟩⟩]
theorem out2 : outE [[sF, sS]] 1 = [nF, nS] := by kernel_rfl
theorem fs_ne : nF ≠ nS := fun e => by
  have := congrArg Nm.ak e
  cases this
theorem two_of {E : List Nm} (hp : E.Perm [nF, nS]) (hs : E.Pairwise (fun a b => ltN b.tx a.tx = false)) : E = [nF, nS] := by
  have hl : E.length = 2 := hp.length_eq
  match E, hl with
  | [a, b], _ =>
    have m1 : nF ∈ [a, b] := hp.mem_iff.2 (by simp)
    have m2 : nS ∈ [a, b] := hp.mem_iff.2 (by simp)
    simp only [List.mem_cons, List.not_mem_nil, or_false] at m1 m2
    rcases m1 with e1 | e1
    · rcases m2 with e2 | e2
      · exact absurd (e1.trans e2.symm) fs_ne
      · rw [← e1, ← e2]
    · rcases m2 with e2 | e2
      · subst e1; subst e2
        have := (List.pairwise_cons.1 hs).1 nF (by simp)
        have h9 : ltN tF tS = true := by kernel_rfl
        have : ltN tF tS = false := this
        rw [h9] at this
        cases this
      · exact absurd (e1.trans e2.symm) fs_ne
theorem tab2 {E : List Nm} (hp : E.Perm (outE [[sF, sS]] 1)) (hs : E.Pairwise (fun a b => ltN b.tx a.tx = false)) {w : World} {tv : Value} {nm : ByteArray} {er : Int} (h : TabOut E [tS] w tv nm er) : er = 0 ∧ Ly w tv 4 Bd.c T2 := by
  rw [out2] at hp
  obtain rfl := two_of hp hs
  have h1 : ([nF, nS].find? fun n => n.tw) = none := by kernel_rfl
  have h2 : ([nF, nS].find? (bad [tS])) = none := by kernel_rfl
  have h3 : [nF, nS].map (bnd [tS]) = T2 := by kernel_rfl
  unfold TabOut at h
  rw [h1] at h
  dsimp only at h
  rw [h2, h3] at h
  exact h.2
theorem tab0 {E : List Nm} (hp : E.Perm (outE [[sF, sS]] 1)) (hs : E.Pairwise (fun a b => ltN b.tx a.tx = false)) {w : World} {tv : Value} {nm : ByteArray} {er : Int} (h : TabOut E [] w tv nm er) : tv = .slice none 0 0 ∧ nm = tS ∧ er = 6 := by
  rw [out2] at hp
  obtain rfl := two_of hp hs
  have h1 : ([nF, nS].find? fun n => n.tw) = none := by kernel_rfl
  have h2 : ([nF, nS].find? (bad [])) = some nS := by kernel_rfl
  unfold TabOut at h
  rw [h1] at h
  dsimp only at h
  rw [h2] at h
  exact h
abbrev syC : List Value := [.string tF, .int .u32 0, .int .u32 0, .int .u8 1, .int .u8 0, .bool false, .int .i64 (-2), .string tS, .int .u32 0, .int .u32 0, .int .u8 1, .int .u8 0, .bool false, .int .i64 (-1)]
abbrev obC (a : Nat) : List Value := [.string ⟨#[]⟩, .slice none 0 0, .slice (some ⟨a, 0, none⟩) 2 2, .slice none 0 0]
def lo1 (a : Nat) : Lo := ⟨⟨#[]⟩, none, 0, 0, .slice (some ⟨a, 0, none⟩) 2 2, none, 0, 0⟩
theorem lds1 {W : World} {a b : Nat} (ha : Blk W a 47 syC.toArray) (hb : Blk W b 44 (obC a).toArray) : Lds W (.slice (some ⟨b, 0, none⟩) 1 1) [(lo1 a, [sF, sS])] := by
  refine ⟨⟨_, _, rfl, fun _ => ⟨b, 0, rfl, hb.lt, fun k x hx j u hu => ?_⟩⟩, fun x hx => ?_⟩
  · match k, hx with
    | 0, hx =>
      simp at hx
      subst hx
      have hu2 : (obC a)[j]? = some u := hu
      rw [hb.cell]
      simpa using hu2
  · simp at hx
    subst hx
    refine ⟨_, _, rfl, fun _ => ⟨a, 0, rfl, ha.lt, fun k s hs j u hu => ?_⟩⟩
    rw [ha.cell]
    match k, hs with
    | 0, hs =>
      simp at hs
      subst hs
      match j, hu with
      | 0, hu => exact hu
      | 1, hu => exact hu
      | 2, hu => exact hu
      | 3, hu => exact hu
      | 4, hu => exact hu
      | 5, hu => exact hu
      | 6, hu => exact hu
    | 1, hs =>
      simp at hs
      subst hs
      match j, hu with
      | 0, hu => exact hu
      | 1, hu => exact hu
      | 2, hu => exact hu
      | 3, hu => exact hu
      | 4, hu => exact hu
      | 5, hu => exact hu
      | 6, hu => exact hu
theorem sts1 {W : World} {b : Nat} (hb : Blk W b 9 #[.string tS]) : Sts W (.slice (some ⟨b, 0, none⟩) 1 1) [tS] := by
  refine ⟨_, _, rfl, fun _ => ⟨b, 0, rfl, hb.lt, fun k x hx j u hu => ?_⟩⟩
  match k, hx with
  | 0, hx =>
    simp at hx
    subst hx
    match j, hu with
    | 0, hu => rw [hb.cell]; exact hu
theorem sts0 (W : World) : Sts W (.slice none 0 0) [] := ⟨none, 0, rfl, fun h => absurd h (Nat.lt_irrefl 0)⟩
theorem eqA (w : World) : (Op.equalIn 10000 32 (.agg #[.int .i64 0, .int .i64 0, .int .i64 (-1)]) (.agg #[.int .i64 0, .int .i64 0, .int .i64 (-1)])).run Try.prog w = .ok true w := eqTg ⟨0, 0, -1⟩ ⟨0, 0, -1⟩ w
theorem eqB (w : World) : (Op.equalIn 10000 32 (.agg #[.int .i64 (-1), .int .i64 0, .int .i64 0]) (.agg #[.int .i64 (-1), .int .i64 0, .int .i64 0])).run Try.prog w = .ok true w := eqTg ⟨-1, 0, 0⟩ ⟨-1, 0, 0⟩ w
set_option maxRecDepth 100000 in
set_option maxHeartbeats 4000000 in
theorem lives7 (w : World) : Calls Try.prog 7 #[] w fun e w' => e = .returned (.bool true) ∧ Below w.heap.size w w' := by
  go_enter Try.func7, Try.ntmps7
  go_wp2_with fail
  have hb0 : Below w.heap.size w (((w.alloc (.cells #[.string ⟨#[102]⟩, .int .u32 0, .int .u32 0, .int .u8 1, .int .u8 0, .bool false, .int .i64 (-2), .string ⟨#[115, 119, 105, 116, 99, 104]⟩, .int .u32 0, .int .u32 0, .int .u8 1, .int .u8 0, .bool false, .int .i64 (-1)] 47)).alloc (.cells #[.string ⟨#[]⟩, .slice none 0 0, .slice (some ⟨w.heap.size, 0, none⟩) 2 2, .slice none 0 0] 44)).alloc (.cells #[.string ⟨#[115, 119, 105, 116, 99, 104]⟩] 9)) := (((Below.refl _ w).alloc (Nat.le_refl _) _).alloc (by simp) _).alloc (by simp; omega) _
  have b0 : Blk (((w.alloc (.cells #[.string ⟨#[102]⟩, .int .u32 0, .int .u32 0, .int .u8 1, .int .u8 0, .bool false, .int .i64 (-2), .string ⟨#[115, 119, 105, 116, 99, 104]⟩, .int .u32 0, .int .u32 0, .int .u8 1, .int .u8 0, .bool false, .int .i64 (-1)] 47)).alloc (.cells #[.string ⟨#[]⟩, .slice none 0 0, .slice (some ⟨w.heap.size, 0, none⟩) 2 2, .slice none 0 0] 44)).alloc (.cells #[.string ⟨#[115, 119, 105, 116, 99, 104]⟩] 9)) w.heap.size 47 syC.toArray := ((Blk.new w 47 _).alloc _).alloc _
  have b1 : Blk (((w.alloc (.cells #[.string ⟨#[102]⟩, .int .u32 0, .int .u32 0, .int .u8 1, .int .u8 0, .bool false, .int .i64 (-2), .string ⟨#[115, 119, 105, 116, 99, 104]⟩, .int .u32 0, .int .u32 0, .int .u8 1, .int .u8 0, .bool false, .int .i64 (-1)] 47)).alloc (.cells #[.string ⟨#[]⟩, .slice none 0 0, .slice (some ⟨w.heap.size, 0, none⟩) 2 2, .slice none 0 0] 44)).alloc (.cells #[.string ⟨#[115, 119, 105, 116, 99, 104]⟩] 9)) (w.heap.size + 1) 44 (obC w.heap.size).toArray := by
    have := Blk.new (w.alloc (.cells syC.toArray 47)) 44 (obC w.heap.size).toArray
    rw [World.size_alloc] at this
    exact this.alloc _
  have b2 : Blk (((w.alloc (.cells #[.string ⟨#[102]⟩, .int .u32 0, .int .u32 0, .int .u8 1, .int .u8 0, .bool false, .int .i64 (-2), .string ⟨#[115, 119, 105, 116, 99, 104]⟩, .int .u32 0, .int .u32 0, .int .u8 1, .int .u8 0, .bool false, .int .i64 (-1)] 47)).alloc (.cells #[.string ⟨#[]⟩, .slice none 0 0, .slice (some ⟨w.heap.size, 0, none⟩) 2 2, .slice none 0 0] 44)).alloc (.cells #[.string ⟨#[115, 119, 105, 116, 99, 104]⟩] 9)) (w.heap.size + 1 + 1) 9 #[.string tS] := by
    have := Blk.new ((w.alloc (.cells syC.toArray 47)).alloc (.cells (obC w.heap.size).toArray 44)) 9 #[.string tS]
    rw [World.size_alloc, World.size_alloc] at this
    exact this
  have HL := Lib.hid (lds1 b0 b1); have HS := Lib.hid (sts1 b2); have HB0 := Lib.hid hb0
  clear hb0 b0 b1 b2
  generalize (((w.alloc (.cells #[.string ⟨#[102]⟩, .int .u32 0, .int .u32 0, .int .u8 1, .int .u8 0, .bool false, .int .i64 (-2), .string ⟨#[115, 119, 105, 116, 99, 104]⟩, .int .u32 0, .int .u32 0, .int .u8 1, .int .u8 0, .bool false, .int .i64 (-1)] 47)).alloc (.cells #[.string ⟨#[]⟩, .slice none 0 0, .slice (some ⟨w.heap.size, 0, none⟩) 2 2, .slice none 0 0] 44)).alloc (.cells #[.string ⟨#[115, 119, 105, 116, 99, 104]⟩] 9)) = W0 at *
  have hsm : ∀ x ∈ [(lo1 w.heap.size, [sF, sS])], ∀ s ∈ x.2, s.nm.size ≤ 1048576 := fun x hx s hs => by
    simp at hx
    subst hx
    simp at hs
    rcases hs with rfl | rfl <;> decide
  have K1 := Lib.hid (table8 _ _ _ _ W0 HL.out (show tot [[sF, sS]] ≤ 1048576 by decide) hsm (show 1 ≤ 1048576 by decide) HS.out (show 1 ≤ 1048576 by decide) (fun s hs => by simp at hs; subst hs; decide))
  have HSM := Lib.hid hsm
  clear hsm
  (with_reducible refine K1.out.mono ?_)
  rintro _ w1 ⟨hb1, E1, hp1, hs1, tv, nm1, er1, rfl, ht1⟩
  obtain ⟨rfl, hly⟩ := tab2 hp1 hs1 ht1
  have HB1 := Lib.hid hb1
  have HL1 := Lib.hid (HL.out.below hb1)
  obtain ⟨TA, tc, rfl, hTA⟩ := hly
  have HT : Hid (Ly w1 (.slice TA 2 tc) 4 Bd.c T2) := Lib.hid ⟨TA, tc, rfl, hTA⟩
  clear hb1 hp1 hs1 ht1 K1 hTA
  go_wp2_with fail
  have K2 := Lib.hid (table8 _ _ _ _ w1 HL1.out (show tot [[sF, sS]] ≤ 1048576 by decide) HSM.out (show 1 ≤ 1048576 by decide) (sts0 w1) (show 0 ≤ 1048576 by decide) (fun s hs => by simp at hs))
  (with_reducible refine K2.out.mono ?_)
  rintro _ w2 ⟨hb2, E2, hp2, hs2, tv2, nm2, er2, rfl, ht2⟩
  obtain ⟨rfl, rfl, rfl⟩ := tab0 hp2 hs2 ht2
  have HB2 := Lib.hid hb2
  have HL2 := Lib.hid (HL1.out.below hb2)
  have HT2 := Lib.hid (HT.out.below hb2)
  clear hb2 hp2 hs2 ht2 K2
  go_wp2_with fail
  have K3 := Lib.hid (of11 _ _ T2 _ 0 1 w2 HT2.out (show 2 ≤ 1048576 by decide) HL2.out (show 1 ≤ 1048576 by decide))
  have h11 : ofS T2 ([(lo1 w.heap.size, [sF, sS])].map (·.2)) 0 1 = (⟨-1, 0, 0⟩, true) := by kernel_rfl
  rw [h11] at K3
  (with_reducible refine K3.out.mono ?_)
  rintro _ w3 ⟨rfl, hb3⟩
  have HT3 := Lib.hid (HT2.out.below hb3)
  have HB3 : Hid (Below w.heap.size w w3) := Lib.hid (HB0.out.trans ((HB1.out.trans ((HB2.out.trans (hb3.mono HB2.out.size)).mono HB1.out.size)).mono HB0.out.size))
  clear hb3 K3 h11
  obtain ⟨_, hTA⟩ := HT3.out.at'
  obtain ⟨tb, to, rfl, htl, htc⟩ := hTA (by decide)
  have u0 : w3.cell? ⟨tb, to, none⟩ = some (.string ⟨#[102]⟩) := by simpa using htc 0 _ rfl 0 _ rfl
  have u1 : w3.cell? ⟨tb, to + 1, none⟩ = some (.int .i64 0) := by simpa using htc 0 _ rfl 1 _ rfl
  have u2 : w3.cell? ⟨tb, to + 2, none⟩ = some (.int .i64 0) := by simpa using htc 0 _ rfl 2 _ rfl
  have u3 : w3.cell? ⟨tb, to + 3, none⟩ = some (.int .i64 (-1)) := by simpa using htc 0 _ rfl 3 _ rfl
  have u2' : w3.cell? ⟨tb, to + 1 + 1, none⟩ = some (.int .i64 0) := u2
  have u3' : w3.cell? ⟨tb, to + 1 + 2, none⟩ = some (.int .i64 (-1)) := u3
  have hbz : Below w3.heap.size w3 (w3.alloc (.cells #[.int .i64 (-1), .int .i64 0, .int .i64 0] 32)) := (Below.refl _ _).alloc (Nat.le_refl _) _
  have HBZ := Lib.hid hbz
  have v0 := (hbz.cell (p := ⟨tb, to, none⟩) htl).trans u0
  have v1 := (hbz.cell (p := ⟨tb, to + 1, none⟩) htl).trans u1
  have v2 := (hbz.cell (p := ⟨tb, to + 1 + 1, none⟩) htl).trans u2
  have v3 := (hbz.cell (p := ⟨tb, to + 1 + 2, none⟩) htl).trans u3
  have eA := eqA; have eB := eqB
  clear hTA htc htl hbz
  go_wp2_with fail
  go_ret
  exact ⟨rfl, HB3.out.alloc HB3.out.size _⟩
end Go.Proofs.Ytoiiiobamanclaa
