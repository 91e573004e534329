import Derived.Test.YtoiiiobamanclaaL
namespace Go.Proofs.Ytoiiiobamanclaa
open Go.ChangeShapes Go.WideShapes Go.ChangeAt Go.RowKit Go.Shelf
set_option linter.unusedVariables false
theorem tl_eq (a b : ByteArray) : (a.toList == b.toList) = decide (a = b) := by
  rw [ByteArray.toList_eq, ByteArray.toList_eq, Bool.eq_iff_iff]
  simp only [beq_iff_eq, decide_eq_true_iff]
  constructor
  · intro h
    obtain ⟨⟨a⟩⟩ := a
    obtain ⟨⟨b⟩⟩ := b
    simpa using h
  · intro h
    rw [h]
theorem results_cell2 {P : Program} {fn : Func} {p u : Tmp} {ty : TypeId} (h : fn.results = #[.cell p ty, .tmp u]) (tmps : Array Value) (w : World) (g : Nat) (t : TypeId) (cs : Array Value) (fr : Nat × Nat) (d : TypeDesc)
    (hp : tmps.getD p undef = .pointer (some ⟨g, 0, none⟩)) (hg : w.heap[g]? = some (.cells cs t fr))
    (hu : P.underlying ty = some d) (hd : (match d with | .struct _ | .array _ _ => true | _ => false) = true) (hi : (P.info? ty).map (·.size) = some cs.size) :
    (results fn tmps).run P w = .ok (.tuple #[.agg cs, tmps.getD u undef]) w := by
  have hp' : tmps[p]?.getD undef = .pointer (some ⟨g, 0, none⟩) := by simpa using hp
  simp [results, h, hp', asAddr, run_loadVar_row w g t ty cs fr d hg hu hd hi]
/-- is it this name's? -/
theorem eq27 (b : Bd) (sb : Nat) (nm : ByteArray) (w : World) (hc : w.cell? ⟨sb, 0, none⟩ = some (.string nm)) (hsb : sb < w.heap.size) :
    Calls Try.prog 27 #[.agg b.c.toArray, .pointer (some ⟨sb, 0, none⟩)] w fun e w' => e = .returned (.bool (decide (b.nm = nm))) ∧ Below w.heap.size w w' := by
  have hb : Below w.heap.size w (w.alloc (.cells b.c.toArray 37)) := (Below.refl _ w).alloc (Nat.le_refl _) _
  have hc' : (w.alloc (.cells b.c.toArray 37)).cell? ⟨sb, 0, none⟩ = some (.string nm) := (hb.cell (p := ⟨sb, 0, none⟩) hsb).trans hc
  have HB := Lib.hid hb
  clear hb hc
  obtain ⟨bn, ⟨t0, t1, t2⟩⟩ := b
  go_enter Try.func27, Try.ntmps27
  go_wp2_with fail
  go_ret
  exact ⟨retb (tl_eq _ _), HB.out⟩
/-- what a symbol of an object is -/
def ofS (T : List Bd) (D : List (List Sm)) (ob sy : Int) : Tg × Bool :=
  if ob < 0 then (⟨0, 0, 0⟩, false) else
  match D[ob.toNat]? with
  | none => (⟨0, 0, 0⟩, false)
  | some S =>
    if sy < 0 then (⟨0, 0, 0⟩, false) else
    match S[sy.toNat]? with
    | none => (⟨0, 0, 0⟩, false)
    | some s => if s.bd = 0 then (⟨ob, sy, -1⟩, true) else
      match T.find? (fun b => decide (b.nm = s.nm)) with
      | some b => (b.t, true)
      | none => (⟨0, 0, 0⟩, false)

set_option maxRecDepth 100000 in
set_option maxHeartbeats 8000000 in
theorem of11 (tv v : Value) (T : List Bd) (D : List (Lo × List Sm)) (ob sy : Int) (w : World) (hT : Ly w tv 4 Bd.c T) (hTL : T.length ≤ 1048576) (hD : Lds w v D) (hDL : D.length ≤ 1048576) :
    Calls Try.prog 11 #[tv, v, .int .i64 ob, .int .i64 sy] w fun e w' => e = .returned (.tuple #[.agg (ofS T (D.map (·.2)) ob sy).1.c.toArray, .bool (ofS T (D.map (·.2)) ob sy).2]) ∧ Below w.heap.size w w' := by
  obtain ⟨⟨A, c, rfl, hA⟩, hY⟩ := hD
  obtain ⟨TA, tc, rfl, hTA⟩ := hT
  have HTL : Hid (Ly w (.slice TA T.length tc) 4 Bd.c T) := Lib.hid ⟨TA, tc, rfl, hTA⟩
  have HY := Lib.hid hY
  have eg27 : ∀ args w, (callFunc 27 args).run Try.prog w = .ok (.enter 27 args) w := enters_of Try.func27 (by kernel_rfl) rfl
  have E27 := Lib.hid eg27
  have HTB := Lib.hid hTL
  have hb0 : Below w.heap.size w (w.alloc (.cells #[.int .i64 0, .int .i64 0, .int .i64 0] 32)) := (Below.refl _ w).alloc (Nat.le_refl _) _
  have x0 : Blk (w.alloc (.cells #[.int .i64 0, .int .i64 0, .int .i64 0] 32)) w.heap.size 32 #[.int .i64 0, .int .i64 0, .int .i64 0] := Blk.new w 32 _
  have HB0 := Lib.hid hb0; have HX0 := Lib.hid x0; have HA := Lib.hid hA
  have HMD : Hid (∀ i : Nat, (D.map (·.2))[i]? = D[i]?.map (·.2)) := Lib.hid (fun i => List.getElem?_map)
  clear hY eg27 hTA x0 hTL hb0 hA
  by_cases h1 : ob < 0
  · rw [show ofS T (D.map (·.2)) ob sy = (⟨0, 0, 0⟩, false) by unfold ofS; rw [if_pos h1]]
    go_enter Try.func11, Try.ntmps11
    go_wp2_with fail
    refine bodyPost_ret (results_cell2 (P := Try.prog) rfl _ _ w.heap.size 32 #[.int .i64 0, .int .i64 0, .int .i64 0] (0, 0) _ rfl HX0.out Try.underlying32 rfl info32) rfl ⟨rfl, HB0.out⟩
  · obtain ⟨o, rfl⟩ : ∃ o : Nat, ob = (o : Int) := ⟨ob.toNat, by omega⟩
    by_cases h2 : o < D.length
    · obtain ⟨x, hx⟩ : ∃ x, D[o]? = some x := ⟨_, List.getElem?_eq_getElem h2⟩
      obtain ⟨ab, ao, rfl, hbl, hc⟩ := HA.out (by omega)
      have hc2 := hc o x hx 2 _ rfl
      have hly := HY.out x (List.mem_of_getElem? hx)
      have HOF : Hid (ofS T (D.map (·.2)) (o : Int) sy = if sy < 0 then (⟨0, 0, 0⟩, false) else match x.2[sy.toNat]? with
          | none => (⟨0, 0, 0⟩, false)
          | some s => if s.bd = 0 then (⟨(o : Int), sy, -1⟩, true) else
            match T.find? (fun b => decide (b.nm = s.nm)) with
            | some b => (b.t, true)
            | none => (⟨0, 0, 0⟩, false)) := Lib.hid (by
        unfold ofS
        rw [if_neg h1, Int.toNat_natCast, HMD.out, hx]
        rfl)
      rw [HOF.out]
      obtain ⟨B, c2, hyv, hB⟩ := hly
      rw [hyv] at hc2
      generalize x.2 = S at *
      have HS := Lib.hid hB
      have h2' : (o : Int) < (D.length : Int) := by omega
      have hcw : (w.alloc (.cells #[.int .i64 0, .int .i64 0, .int .i64 0] 32)).cell? ⟨ab, ao + o * 4 + 2, none⟩ = some (.slice B S.length c2) := (HB0.out.cell (p := ⟨ab, _, none⟩) hbl).trans hc2
      clear hc hx hB HOF hyv
      by_cases h3 : sy < 0
      · rw [if_pos h3]
        go_enter Try.func11, Try.ntmps11
        go_wp2_with fail
        refine bodyPost_ret (results_cell2 (P := Try.prog) rfl _ _ w.heap.size 32 #[.int .i64 0, .int .i64 0, .int .i64 0] (0, 0) _ rfl HX0.out Try.underlying32 rfl info32) rfl ⟨rfl, HB0.out⟩
      · rw [if_neg h3]
        obtain ⟨k, rfl⟩ : ∃ k : Nat, sy = (k : Int) := ⟨sy.toNat, by omega⟩
        rw [Int.toNat_natCast]
        by_cases h4 : k < S.length
        · obtain ⟨s, hs⟩ : ∃ s, S[k]? = some s := ⟨_, List.getElem?_eq_getElem h4⟩
          rw [hs]
          dsimp only
          obtain ⟨sb, so, rfl, hsl, hsc⟩ := HS.out (by omega)
          have z : ∀ (j : Nat) u, s.c[j]? = some u → (w.alloc (.cells #[.int .i64 0, .int .i64 0, .int .i64 0] 32)).cell? ⟨sb, so + k * 7 + j, none⟩ = some u := fun j u hu => (HB0.out.cell (p := ⟨sb, _, none⟩) hsl).trans (hsc k s hs j u hu)
          obtain ⟨nm, vl, sz, bd, kd, hd, ix⟩ := s
          have s0 : (w.alloc (.cells #[.int .i64 0, .int .i64 0, .int .i64 0] 32)).cell? ⟨sb, so + k * 7, none⟩ = some (.string nm) := z 0 _ rfl
          have s1 : (w.alloc (.cells #[.int .i64 0, .int .i64 0, .int .i64 0] 32)).cell? ⟨sb, so + k * 7 + 1, none⟩ = some (.int .u32 vl) := z 1 _ rfl
          have s2 : (w.alloc (.cells #[.int .i64 0, .int .i64 0, .int .i64 0] 32)).cell? ⟨sb, so + k * 7 + 2, none⟩ = some (.int .u32 sz) := z 2 _ rfl
          have s3 : (w.alloc (.cells #[.int .i64 0, .int .i64 0, .int .i64 0] 32)).cell? ⟨sb, so + k * 7 + 3, none⟩ = some (.int .u8 bd) := z 3 _ rfl
          have s4 : (w.alloc (.cells #[.int .i64 0, .int .i64 0, .int .i64 0] 32)).cell? ⟨sb, so + k * 7 + 4, none⟩ = some (.int .u8 kd) := z 4 _ rfl
          have s5 : (w.alloc (.cells #[.int .i64 0, .int .i64 0, .int .i64 0] 32)).cell? ⟨sb, so + k * 7 + 5, none⟩ = some (.bool hd) := z 5 _ rfl
          have s6 : (w.alloc (.cells #[.int .i64 0, .int .i64 0, .int .i64 0] 32)).cell? ⟨sb, so + k * 7 + 6, none⟩ = some (.int .i64 ix) := z 6 _ rfl
          have h4' : (k : Int) < (S.length : Int) := by omega
          clear z hs hsc
          by_cases h5 : bd = 0
          · rw [if_pos h5]
            subst h5
            go_enter Try.func11, Try.ntmps11
            go_wp2_with fail
            refine bodyPost_ret (results_cell2 (P := Try.prog) rfl _ _ w.heap.size 32 #[.int .i64 (o : Int), .int .i64 (k : Int), .int .i64 (-1)] (0, 0) _ rfl ((Blk.new w 32 #[.int .i64 (o : Int), .int .i64 (k : Int), .int .i64 (-1)]).alloc _) Try.underlying32 rfl info32) rfl ⟨rfl, (((Below.refl _ w).alloc (Nat.le_refl _) _).alloc (by simp) _)⟩
          · rw [if_neg h5]
            have hbx : Below w.heap.size w ((w.alloc (.cells #[.int .i64 0, .int .i64 0, .int .i64 0] 32)).alloc (.cells #[.string nm, .int .u32 vl, .int .u32 sz, .int .u8 bd, .int .u8 kd, .bool hd, .int .i64 ix] 47)) := HB0.out.alloc HB0.out.size _
            have hx0 : Blk ((w.alloc (.cells #[.int .i64 0, .int .i64 0, .int .i64 0] 32)).alloc (.cells #[.string nm, .int .u32 vl, .int .u32 sz, .int .u8 bd, .int .u8 kd, .bool hd, .int .i64 ix] 47)) w.heap.size 32 #[.int .i64 0, .int .i64 0, .int .i64 0] := HX0.out.alloc _
            have hbs : Blk ((w.alloc (.cells #[.int .i64 0, .int .i64 0, .int .i64 0] 32)).alloc (.cells #[.string nm, .int .u32 vl, .int .u32 sz, .int .u8 bd, .int .u8 kd, .bool hd, .int .i64 ix] 47)) (w.heap.size + 1) 47 #[.string nm, .int .u32 vl, .int .u32 sz, .int .u8 bd, .int .u8 kd, .bool hd, .int .i64 ix] := by
              have := Blk.new (w.alloc (.cells #[.int .i64 0, .int .i64 0, .int .i64 0] 32)) 47 #[.string nm, .int .u32 vl, .int .u32 sz, .int .u8 bd, .int .u8 kd, .bool hd, .int .i64 ix]
              rw [World.size_alloc] at this
              exact this
            have HBX := Lib.hid hbx; have HXX := Lib.hid hx0; have HBS := Lib.hid hbs
            clear hbx hx0 hbs
            rcases ixp_cases (fun b : Bd => decide (b.nm = nm)) T with ⟨i, b, hi, hpb, hix, hfd⟩ | ⟨hix, hfd⟩
            · rw [hfd]
              dsimp only
              have HIX := Lib.hid hix; have HI := Lib.hid hi
              clear hpb hix hfd hi
              go_enter Try.func11, Try.ntmps11
              go_wp2_with fail
              generalize ((w.alloc (.cells #[.int .i64 0, .int .i64 0, .int .i64 0] 32)).alloc (.cells #[.string nm, .int .u32 vl, .int .u32 sz, .int .u8 bd, .int .u8 kd, .bool hd, .int .i64 ix] 47)) = X at *
              have K := Lib.hid (index26 (.slice TA T.length tc) T 27 #[.pointer (some ⟨w.heap.size + 1, 0, none⟩)] E27.out (fun b => decide (b.nm = nm)) X (HTL.out.below HBX.out) HTB.out (fun j b _ W hW => (eq27 b (w.heap.size + 1) nm W (by rw [(HBS.out.below hW HBS.out.lt).cell]; rfl) (HBS.out.below hW HBS.out.lt).lt).mono fun e w' h => ⟨h.1, hW.trans (h.2.mono hW.size)⟩))
              (with_reducible refine K.out.mono ?_)
              rintro _ w5 ⟨rfl, hb5⟩
              have HB5 := Lib.hid hb5
              have HX5 := Lib.hid (HXX.out.below hb5 HXX.out.lt)
              clear hb5 K s0 s1 s2 s3 s4 s5 s6 hcw
              have y0 : w5.cell? ⟨w.heap.size, 0, none⟩ = some (.int .i64 0) := by rw [HX5.out.cell]; rfl
              have y1 : w5.cell? ⟨w.heap.size, 1, none⟩ = some (.int .i64 0) := by rw [HX5.out.cell]; rfl
              have y2 : w5.cell? ⟨w.heap.size, 2, none⟩ = some (.int .i64 0) := by rw [HX5.out.cell]; rfl
              have z0 := HX5.out.frozen 0
              have z1 := HX5.out.frozen 1
              have z2 := HX5.out.frozen 2
              have HBY : Hid (Below w.heap.size w w5) := Lib.hid (HBX.out.trans (HB5.out.mono HBX.out.size))
              rw [HIX.out]
              have hil := (List.getElem?_eq_some_iff.1 HI.out).1
              obtain ⟨_, hTA⟩ := (HTL.out.below HBY.out).at'
              obtain ⟨tb, to, rfl, htl, htc⟩ := hTA (by omega)
              have z : ∀ (j : Nat) u, b.c[j]? = some u → w5.cell? ⟨tb, to + i * 4 + j, none⟩ = some u := fun j u hu => htc i b HI.out j u hu
              obtain ⟨bn, ⟨t0, t1, t2⟩⟩ := b
              have u1 : w5.cell? ⟨tb, to + i * 4 + 1, none⟩ = some (.int .i64 t0) := z 1 _ rfl
              have u2 : w5.cell? ⟨tb, to + i * 4 + 1 + 1, none⟩ = some (.int .i64 t1) := z 2 _ rfl
              have u3 : w5.cell? ⟨tb, to + i * 4 + 1 + 2, none⟩ = some (.int .i64 t2) := z 3 _ rfl
              have u2' : w5.cell? ⟨tb, to + i * 4 + 2, none⟩ = some (.int .i64 t1) := z 2 _ rfl
              have u3' : w5.cell? ⟨tb, to + i * 4 + 3, none⟩ = some (.int .i64 t2) := z 3 _ rfl
              have hge : ¬ (i : Int) < 0 := by omega
              clear z htc hTA htl
              go_wp2_with fail
              refine bodyPost_ret (results_cell2 (P := Try.prog) rfl _ _ w.heap.size 32 #[.int .i64 t0, .int .i64 t1, .int .i64 t2] (0, 0) _ rfl (((HX5.out.set_ 0 _).set_ 1 _).set_ 2 _) Try.underlying32 rfl info32) rfl ⟨rfl, ((((HBY.out).setCell (by simp) _).setCell (by simp) _).setCell (by simp) _)⟩
            · rw [hfd]
              dsimp only
              have HIX := Lib.hid hix
              clear hix hfd
              go_enter Try.func11, Try.ntmps11
              go_wp2_with fail
              generalize ((w.alloc (.cells #[.int .i64 0, .int .i64 0, .int .i64 0] 32)).alloc (.cells #[.string nm, .int .u32 vl, .int .u32 sz, .int .u8 bd, .int .u8 kd, .bool hd, .int .i64 ix] 47)) = X at *
              have K := Lib.hid (index26 (.slice TA T.length tc) T 27 #[.pointer (some ⟨w.heap.size + 1, 0, none⟩)] E27.out (fun b => decide (b.nm = nm)) X (HTL.out.below HBX.out) HTB.out (fun j b _ W hW => (eq27 b (w.heap.size + 1) nm W (by rw [(HBS.out.below hW HBS.out.lt).cell]; rfl) (HBS.out.below hW HBS.out.lt).lt).mono fun e w' h => ⟨h.1, hW.trans (h.2.mono hW.size)⟩))
              (with_reducible refine K.out.mono ?_)
              rintro _ w5 ⟨rfl, hb5⟩
              have HB5 := Lib.hid hb5
              have HX5 := Lib.hid (HXX.out.below hb5 HXX.out.lt)
              clear hb5 K s0 s1 s2 s3 s4 s5 s6 hcw
              have y0 : w5.cell? ⟨w.heap.size, 0, none⟩ = some (.int .i64 0) := by rw [HX5.out.cell]; rfl
              have y1 : w5.cell? ⟨w.heap.size, 1, none⟩ = some (.int .i64 0) := by rw [HX5.out.cell]; rfl
              have y2 : w5.cell? ⟨w.heap.size, 2, none⟩ = some (.int .i64 0) := by rw [HX5.out.cell]; rfl
              have z0 := HX5.out.frozen 0
              have z1 := HX5.out.frozen 1
              have z2 := HX5.out.frozen 2
              have HBY : Hid (Below w.heap.size w w5) := Lib.hid (HBX.out.trans (HB5.out.mono HBX.out.size))
              rw [HIX.out]
              go_wp2_with fail
              refine bodyPost_ret (results_cell2 (P := Try.prog) rfl _ _ w.heap.size 32 #[.int .i64 0, .int .i64 0, .int .i64 0] (0, 0) _ rfl (((HX5.out.set_ 0 _).set_ 1 _).set_ 2 _) Try.underlying32 rfl info32) rfl ⟨rfl, ((((HBY.out).setCell (by simp) _).setCell (by simp) _).setCell (by simp) _)⟩
        · have hs : S[k]? = none := List.getElem?_eq_none (by omega)
          rw [hs]
          dsimp only
          have h4' : (S.length : Int) ≤ (k : Int) := by omega
          go_enter Try.func11, Try.ntmps11
          go_wp2_with fail
          refine bodyPost_ret (results_cell2 (P := Try.prog) rfl _ _ w.heap.size 32 #[.int .i64 0, .int .i64 0, .int .i64 0] (0, 0) _ rfl HX0.out Try.underlying32 rfl info32) rfl ⟨rfl, HB0.out⟩
    · have hx : D[o]? = none := List.getElem?_eq_none (by omega)
      rw [show ofS T (D.map (·.2)) (o : Int) sy = (⟨0, 0, 0⟩, false) by unfold ofS; rw [if_neg h1, Int.toNat_natCast, HMD.out, hx]; rfl]
      have h2' : (D.length : Int) ≤ (o : Int) := by omega
      go_enter Try.func11, Try.ntmps11
      go_wp2_with fail
      refine bodyPost_ret (results_cell2 (P := Try.prog) rfl _ _ w.heap.size 32 #[.int .i64 0, .int .i64 0, .int .i64 0] (0, 0) _ rfl HX0.out Try.underlying32 rfl info32) rfl ⟨rfl, HB0.out⟩
end Go.Proofs.Ytoiiiobamanclaa
