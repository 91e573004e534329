import Derived.Test.YtoiiiobamanclaaM
namespace Go.Proofs.Ytoiiiobamanclaa
open Go.ChangeShapes Go.WideShapes Go.ChangeAt Go.RowKit Go.Shelf
set_option linter.unusedVariables false
def RO12 (T : List Bd) (nm : ByteArray) (X : World) (i : Value) (wr : World) : Prop := ∃ k : Nat, k ≤ T.length ∧ i = .int .i64 (k : Int) ∧ Below X.heap.size X wr ∧ ∀ (j : Nat) b, j < k → T[j]? = some b → decide (b.nm = nm) = false
def ofB (T : List Bd) (nm : ByteArray) : Tg × Bool := match T.find? (fun b => decide (b.nm = nm)) with
  | some b => (b.t, true)
  | none => (⟨0, 0, 0⟩, false)
def RM6 (D : List (List Sm)) (w : World) (n i : Value) (wr : World) : Prop := ∃ k : Nat, k ≤ D.length ∧ i = .int .i64 (k : Int) ∧ n = .int .i64 (tot (D.take k) : Int) ∧ Below w.heap.size w wr
set_option maxRecDepth 100000 in
set_option maxHeartbeats 4000000 in
/-- more than 400 symbols? -/
theorem many6 (v : Value) (D : List (Lo × List Sm)) (w : World) (hD : Lds w v D) (hDL : D.length ≤ 1048576) (hT : tot (D.map (·.2)) ≤ 1048576) :
    Calls Try.prog 6 #[v] w fun e w' => e = .returned (.bool (decide (400 < tot (D.map (·.2))))) ∧ Below w.heap.size w w' := by
  obtain ⟨⟨A, c, rfl, hA⟩, hY⟩ := hD
  have HA := Lib.hid hA; have HY := Lib.hid hY
  have HTT : Hid (∀ k, tot ((D.map (·.2)).take k) ≤ 1048576) := Lib.hid (fun k => Nat.le_trans (tot_take _ k) hT)
  have HTS : Hid (∀ (k : Nat) x, D[k]? = some x → tot ((D.map (·.2)).take (k + 1)) = tot ((D.map (·.2)).take k) + x.2.length) := Lib.hid (fun k x hx => by
    rw [List.take_add_one, List.getElem?_map, hx]
    unfold tot
    simp)
  clear hA hY hT
  go_enter Try.func6, Try.ntmps6
  go_wp2_with fail
  go_loopw [3, 4] (fun n i wr => RM6 (D.map (·.2)) w n i wr) (fun _ i _ => D.length - (intOf i).toNat)
  case atStart => exact ⟨0, Nat.zero_le _, rfl, rfl, Below.refl _ _⟩
  case round =>
    obtain ⟨k, hk, rfl, rfl, hb⟩ := hrel
    rw [List.length_map] at hk
    have HB := Lib.hid hb
    clear hb
    by_cases hlt : k < D.length
    · obtain ⟨x, hx⟩ : ∃ x, D[k]? = some x := ⟨_, List.getElem?_eq_getElem hlt⟩
      obtain ⟨ab, ao, rfl, hbl, hc⟩ := HA.out (by omega)
      have c2 := hc k x hx 2 _ rfl
      obtain ⟨B, cc, hyv, _⟩ := HY.out x (List.mem_of_getElem? hx)
      rw [hyv] at c2
      have hcw : wr.cell? ⟨ab, ao + k * 4 + 2, none⟩ = some (.slice B x.2.length cc) := (HB.out.cell (p := ⟨ab, _, none⟩) hbl).trans c2
      have h1 := HTT.out (k + 1)
      have HTK := Lib.hid (HTS.out k x hx)
      rw [HTK.out] at h1
      have HLT := Lib.hid hlt
      clear hc c2 hyv
      generalize x.2.length = m at *
      generalize tot ((D.map (·.2)).take k) = tk at *
      go_wp2_with fail
      go_roundw
      case rel => exact ⟨k + 1, by rw [List.length_map]; exact HLT.out, by go_num, by rw [HTK.out]; go_num, HB.out⟩
      case measure => simp [intOf]; have := HLT.out; omega
    · obtain rfl : k = D.length := by omega
      have e : (D.map (·.2)).take D.length = D.map (·.2) := by rw [List.take_of_length_le (by rw [List.length_map]; exact Nat.le_refl _)]
      rw [e]
      have h1 := HTT.out D.length
      rw [e] at h1
      obtain ⟨tk, htk⟩ : ∃ tk, tot (D.map (·.2)) = tk := ⟨_, rfl⟩
      rw [htk] at h1 ⊢
      have HTK := Lib.hid htk
      clear htk e
      go_wp2_with fail
      go_ret
      exact ⟨retb (by rw [HTK.out, decide_eq_decide]; omega), HB.out⟩
/-- what a symbol says of its name -/
def kindS (s : Sm) : Int := if s.bd = 0 then -1 else if s.ix = -1 then 0 else if s.ix = -3 then 2 else if s.bd = 1 then 3 else 1
theorem kind33 (s : Sm) (w : World) : Calls Try.prog 33 #[.agg s.c.toArray] w fun e w' => e = .returned (.int .i64 (kindS s)) ∧ Below w.heap.size w w' := by
  have HB : Hid (∀ cs, Below w.heap.size w (w.alloc (.cells cs 47))) := Lib.hid (fun cs => (Below.refl _ w).alloc (Nat.le_refl _) _)
  obtain ⟨nm, vl, sz, bd, kd, hd, ix⟩ := s
  unfold kindS
  dsimp only
  by_cases h1 : bd = 0
  · rw [if_pos h1]
    go_enter Try.func33, Try.ntmps33
    go_wp2_with fail
    go_ret
    exact ⟨rfl, HB.out _⟩
  · rw [if_neg h1]
    by_cases h2 : ix = -1
    · rw [if_pos h2]
      go_enter Try.func33, Try.ntmps33
      go_wp2_with fail
      go_ret
      exact ⟨rfl, HB.out _⟩
    · rw [if_neg h2]
      by_cases h3 : ix = -3
      · rw [if_pos h3]
        go_enter Try.func33, Try.ntmps33
        go_wp2_with fail
        go_ret
        exact ⟨rfl, HB.out _⟩
      · rw [if_neg h3]
        by_cases h4 : bd = 1
        · rw [if_pos h4]
          go_enter Try.func33, Try.ntmps33
          go_wp2_with fail
          go_ret
          exact ⟨rfl, HB.out _⟩
        · rw [if_neg h4]
          go_enter Try.func33, Try.ntmps33
          go_wp2_with fail
          go_ret
          exact ⟨rfl, HB.out _⟩
set_option maxRecDepth 100000 in
set_option maxHeartbeats 8000000 in
theorem refOf12 (tv v : Value) (T : List Bd) (D : List (Lo × List Sm)) (ob sy : Int) (w : World) (hT : Ly w tv 4 Bd.c T) (hTL : T.length ≤ 1048576) (hD : Lds w v D) (hDL : D.length ≤ 1048576) :
    Calls Try.prog 12 #[tv, v, .int .i64 ob, .int .i64 sy] w fun e w' => e = .returned (.tuple #[.agg (ofS T (D.map (·.2)) ob sy).1.c.toArray, .bool (ofS T (D.map (·.2)) ob sy).2]) ∧ Below w.heap.size w w' := by
  obtain ⟨⟨A, c, rfl, hA⟩, hY⟩ := hD
  obtain ⟨TA, tc, rfl, hTA⟩ := hT
  have HTL : Hid (Ly w (.slice TA T.length tc) 4 Bd.c T) := Lib.hid ⟨TA, tc, rfl, hTA⟩
  have HY := Lib.hid hY
  have eg27 : ∀ args w, (callFunc 27 args).run Try.prog w = .ok (.enter 27 args) w := enters_of Try.func27 (by kernel_rfl) rfl
  have E27 := Lib.hid eg27
  have HTB := Lib.hid hTL
  have hb0 : Below w.heap.size w (w.alloc (.cells #[.int .i64 0, .int .i64 0, .int .i64 0] 32)) := (Below.refl _ w).alloc (Nat.le_refl _) _
  have x0 : Blk (w.alloc (.cells #[.int .i64 0, .int .i64 0, .int .i64 0] 32)) w.heap.size 32 #[.int .i64 0, .int .i64 0, .int .i64 0] := Blk.new w 32 _
  have HB0 := Lib.hid hb0; have HX0 := Lib.hid x0; have HA := Lib.hid hA
  have HMD : Hid (∀ i : Nat, (D.map (·.2))[i]? = D[i]?.map (·.2)) := Lib.hid (fun i => List.getElem?_map)
  clear hY eg27 hTA x0 hTL hb0 hA
  by_cases h1 : ob < 0
  · rw [show ofS T (D.map (·.2)) ob sy = (⟨0, 0, 0⟩, false) by unfold ofS; rw [if_pos h1]]
    go_enter Try.func12, Try.ntmps12
    go_wp2_with fail
    refine bodyPost_ret (results_cell2 (P := Try.prog) rfl _ _ w.heap.size 32 #[.int .i64 0, .int .i64 0, .int .i64 0] (0, 0) _ rfl HX0.out Try.underlying32 rfl info32) rfl ⟨rfl, HB0.out⟩
  · obtain ⟨o, rfl⟩ : ∃ o : Nat, ob = (o : Int) := ⟨ob.toNat, by omega⟩
    by_cases h2 : o < D.length
    · obtain ⟨x, hx⟩ : ∃ x, D[o]? = some x := ⟨_, List.getElem?_eq_getElem h2⟩
      obtain ⟨ab, ao, rfl, hbl, hc⟩ := HA.out (by omega)
      have hc2 := hc o x hx 2 _ rfl
      have hly := HY.out x (List.mem_of_getElem? hx)
      have HOF : Hid (ofS T (D.map (·.2)) (o : Int) sy = if sy < 0 then (⟨0, 0, 0⟩, false) else match x.2[sy.toNat]? with
          | none => (⟨0, 0, 0⟩, false)
          | some s => if s.bd = 0 then (⟨(o : Int), sy, -1⟩, true) else ofB T s.nm) := Lib.hid (by
        unfold ofS
        rw [if_neg h1, Int.toNat_natCast, HMD.out, hx]
        rfl)
      rw [HOF.out]
      obtain ⟨B, c2, hyv, hB⟩ := hly
      rw [hyv] at hc2
      generalize x.2 = S at *
      have HS := Lib.hid hB
      have h2' : (o : Int) < (D.length : Int) := by omega
      have hcw : (w.alloc (.cells #[.int .i64 0, .int .i64 0, .int .i64 0] 32)).cell? ⟨ab, ao + o * 4 + 2, none⟩ = some (.slice B S.length c2) := (HB0.out.cell (p := ⟨ab, _, none⟩) hbl).trans hc2
      clear hc hx hB HOF hyv
      by_cases h3 : sy < 0
      · rw [if_pos h3]
        go_enter Try.func12, Try.ntmps12
        go_wp2_with fail
        refine bodyPost_ret (results_cell2 (P := Try.prog) rfl _ _ w.heap.size 32 #[.int .i64 0, .int .i64 0, .int .i64 0] (0, 0) _ rfl HX0.out Try.underlying32 rfl info32) rfl ⟨rfl, HB0.out⟩
      · rw [if_neg h3]
        obtain ⟨k, rfl⟩ : ∃ k : Nat, sy = (k : Int) := ⟨sy.toNat, by omega⟩
        rw [Int.toNat_natCast]
        by_cases h4 : k < S.length
        · obtain ⟨s, hs⟩ : ∃ s, S[k]? = some s := ⟨_, List.getElem?_eq_getElem h4⟩
          rw [hs]
          dsimp only
          obtain ⟨sb, so, rfl, hsl, hsc⟩ := HS.out (by omega)
          have z : ∀ (j : Nat) u, s.c[j]? = some u → (w.alloc (.cells #[.int .i64 0, .int .i64 0, .int .i64 0] 32)).cell? ⟨sb, so + k * 7 + j, none⟩ = some u := fun j u hu => (HB0.out.cell (p := ⟨sb, _, none⟩) hsl).trans (hsc k s hs j u hu)
          obtain ⟨nm, vl, sz, bd, kd, hd, ix⟩ := s
          have s0 : (w.alloc (.cells #[.int .i64 0, .int .i64 0, .int .i64 0] 32)).cell? ⟨sb, so + k * 7, none⟩ = some (.string nm) := z 0 _ rfl
          have s1 : (w.alloc (.cells #[.int .i64 0, .int .i64 0, .int .i64 0] 32)).cell? ⟨sb, so + k * 7 + 1, none⟩ = some (.int .u32 vl) := z 1 _ rfl
          have s2 : (w.alloc (.cells #[.int .i64 0, .int .i64 0, .int .i64 0] 32)).cell? ⟨sb, so + k * 7 + 2, none⟩ = some (.int .u32 sz) := z 2 _ rfl
          have s3 : (w.alloc (.cells #[.int .i64 0, .int .i64 0, .int .i64 0] 32)).cell? ⟨sb, so + k * 7 + 3, none⟩ = some (.int .u8 bd) := z 3 _ rfl
          have s4 : (w.alloc (.cells #[.int .i64 0, .int .i64 0, .int .i64 0] 32)).cell? ⟨sb, so + k * 7 + 4, none⟩ = some (.int .u8 kd) := z 4 _ rfl
          have s5 : (w.alloc (.cells #[.int .i64 0, .int .i64 0, .int .i64 0] 32)).cell? ⟨sb, so + k * 7 + 5, none⟩ = some (.bool hd) := z 5 _ rfl
          have s6 : (w.alloc (.cells #[.int .i64 0, .int .i64 0, .int .i64 0] 32)).cell? ⟨sb, so + k * 7 + 6, none⟩ = some (.int .i64 ix) := z 6 _ rfl
          have h4' : (k : Int) < (S.length : Int) := by omega
          clear z hs hsc
          by_cases h5 : bd = 0
          · rw [if_pos h5]
            subst h5
            go_enter Try.func12, Try.ntmps12
            go_wp2_with fail
            refine bodyPost_ret (results_cell2 (P := Try.prog) rfl _ _ w.heap.size 32 #[.int .i64 (o : Int), .int .i64 (k : Int), .int .i64 (-1)] (0, 0) _ rfl ((Blk.new w 32 #[.int .i64 (o : Int), .int .i64 (k : Int), .int .i64 (-1)]).alloc _) Try.underlying32 rfl info32) rfl ⟨rfl, (((Below.refl _ w).alloc (Nat.le_refl _) _).alloc (by simp) _)⟩
          · rw [if_neg h5]
            have hbx : Below w.heap.size w ((w.alloc (.cells #[.int .i64 0, .int .i64 0, .int .i64 0] 32)).alloc (.cells #[.string nm, .int .u32 vl, .int .u32 sz, .int .u8 bd, .int .u8 kd, .bool hd, .int .i64 ix] 47)) := HB0.out.alloc HB0.out.size _
            have hx0 : Blk ((w.alloc (.cells #[.int .i64 0, .int .i64 0, .int .i64 0] 32)).alloc (.cells #[.string nm, .int .u32 vl, .int .u32 sz, .int .u8 bd, .int .u8 kd, .bool hd, .int .i64 ix] 47)) w.heap.size 32 #[.int .i64 0, .int .i64 0, .int .i64 0] := HX0.out.alloc _
            have hbs : Blk ((w.alloc (.cells #[.int .i64 0, .int .i64 0, .int .i64 0] 32)).alloc (.cells #[.string nm, .int .u32 vl, .int .u32 sz, .int .u8 bd, .int .u8 kd, .bool hd, .int .i64 ix] 47)) (w.heap.size + 1) 47 #[.string nm, .int .u32 vl, .int .u32 sz, .int .u8 bd, .int .u8 kd, .bool hd, .int .i64 ix] := by
              have := Blk.new (w.alloc (.cells #[.int .i64 0, .int .i64 0, .int .i64 0] 32)) 47 #[.string nm, .int .u32 vl, .int .u32 sz, .int .u8 bd, .int .u8 kd, .bool hd, .int .i64 ix]
              rw [World.size_alloc] at this
              exact this
            have HBX := Lib.hid hbx; have HXX := Lib.hid hx0; have HBS := Lib.hid hbs
            clear hbx hx0 hbs
            obtain ⟨R, hR⟩ : ∃ R, ofB T nm = R := ⟨_, rfl⟩
            rw [hR]
            have HR := Lib.hid hR
            clear hR
            have HCS : Hid (∀ W, Below ((w.alloc (.cells #[.int .i64 0, .int .i64 0, .int .i64 0] 32)).alloc (.cells #[.string nm, .int .u32 vl, .int .u32 sz, .int .u8 bd, .int .u8 kd, .bool hd, .int .i64 ix] 47)).heap.size ((w.alloc (.cells #[.int .i64 0, .int .i64 0, .int .i64 0] 32)).alloc (.cells #[.string nm, .int .u32 vl, .int .u32 sz, .int .u8 bd, .int .u8 kd, .bool hd, .int .i64 ix] 47)) W → W.cell? ⟨w.heap.size + 1, 0, none⟩ = some (.string nm)) := Lib.hid (fun W hW => by rw [(HBS.out.below hW HBS.out.lt).cell]; rfl)
            go_enter Try.func12, Try.ntmps12
            go_wp2_with fail
            generalize ((w.alloc (.cells #[.int .i64 0, .int .i64 0, .int .i64 0] 32)).alloc (.cells #[.string nm, .int .u32 vl, .int .u32 sz, .int .u8 bd, .int .u8 kd, .bool hd, .int .i64 ix] 47)) = X at *
            clear s0 s1 s2 s3 s4 s5 s6 hcw
            go_loopw [11] (fun i wr => RO12 T nm X i wr) (fun i _ => T.length - (intOf i).toNat)
            case atStart => exact ⟨0, Nat.zero_le _, rfl, Below.refl _ _, fun j b hj => absurd hj (Nat.not_lt_zero _)⟩
            case round =>
              obtain ⟨i, hi, rfl, hb, hno⟩ := hrel
              have HB := Lib.hid hb; have HNO := Lib.hid hno
              have HBY : Hid (Below w.heap.size w wr) := Lib.hid (HBX.out.trans (hb.mono HBX.out.size))
              clear hb hno
              have hTB := HTB.out
              by_cases hlt : i < T.length
              · obtain ⟨b, hbi⟩ : ∃ b, T[i]? = some b := ⟨_, List.getElem?_eq_getElem hlt⟩
                obtain ⟨_, hTA⟩ := (HTL.out.below HBY.out).at'
                obtain ⟨tb, to, rfl, htl, htc⟩ := hTA (by omega)
                have z : ∀ (j : Nat) u, b.c[j]? = some u → wr.cell? ⟨tb, to + i * 4 + j, none⟩ = some u := fun j u hu => htc i b hbi j u hu
                obtain ⟨bn, ⟨t0, t1, t2⟩⟩ := b
                have u0 : wr.cell? ⟨tb, to + i * 4, none⟩ = some (.string bn) := z 0 _ rfl
                have u1 : wr.cell? ⟨tb, to + i * 4 + 1, none⟩ = some (.int .i64 t0) := z 1 _ rfl
                have u2 : wr.cell? ⟨tb, to + i * 4 + 1 + 1, none⟩ = some (.int .i64 t1) := z 2 _ rfl
                have u3 : wr.cell? ⟨tb, to + i * 4 + 1 + 2, none⟩ = some (.int .i64 t2) := z 3 _ rfl
                have u2' : wr.cell? ⟨tb, to + i * 4 + 2, none⟩ = some (.int .i64 t1) := z 2 _ rfl
                have u3' : wr.cell? ⟨tb, to + i * 4 + 3, none⟩ = some (.int .i64 t2) := z 3 _ rfl
                have v0 := HCS.out wr HB.out
                have HBI := Lib.hid hbi; have HLT := Lib.hid hlt
                have HX5 := Lib.hid (HXX.out.below HB.out HXX.out.lt)
                have y0 : wr.drew.cell? ⟨w.heap.size, 0, none⟩ = some (.int .i64 0) := by rw [HX5.out.drew.cell]; rfl
                have y1 : wr.drew.cell? ⟨w.heap.size, 1, none⟩ = some (.int .i64 0) := by rw [HX5.out.drew.cell]; rfl
                have y2 : wr.drew.cell? ⟨w.heap.size, 2, none⟩ = some (.int .i64 0) := by rw [HX5.out.drew.cell]; rfl
                have z0 := HX5.out.drew.frozen 0
                have z1 := HX5.out.drew.frozen 1
                have z2 := HX5.out.drew.frozen 2
                clear z htc hTA htl hbi
                go_wp2_with fail
                have HI9 : Hid (wr.drew.cell? ⟨tb, to + i * 4, none⟩ = some (.string bn) ∧ wr.drew.cell? ⟨w.heap.size + 1, 0, none⟩ = some (.string nm)) := Lib.hid ⟨u0, v0⟩
                go_region_held3 (fun W => W.cell? ⟨tb, to + i * 4, none⟩ = some (.string bn) ∧ W.cell? ⟨w.heap.size + 1, 0, none⟩ = some (.string nm))
                  (first | assumption | exact HI9.out)
                  (first | fail)
                rename_i hHeld
                clear hHeld
                have u1' : wr.drew.cell? ⟨tb, to + i * 4 + 1, none⟩ = some (.int .i64 t0) := u1
                have u2'' : wr.drew.cell? ⟨tb, to + i * 4 + 1 + 1, none⟩ = some (.int .i64 t1) := u2
                have u3'' : wr.drew.cell? ⟨tb, to + i * 4 + 1 + 2, none⟩ = some (.int .i64 t2) := u3
                have w2' : wr.drew.cell? ⟨tb, to + i * 4 + 2, none⟩ = some (.int .i64 t1) := u2
                have w3' : wr.drew.cell? ⟨tb, to + i * 4 + 3, none⟩ = some (.int .i64 t2) := u3
                rw [tl_eq]
                clear u0 u1 u2 u3 u2' u3' v0 HI9
                have HBq := Lib.hid HB.out.drew; have HBYq := Lib.hid HBY.out.drew; have HX5q := Lib.hid HX5.out.drew
                generalize wr.drew = wq at *
                by_cases he : bn = nm
                · have hfd : T.find? (fun b => decide (b.nm = nm)) = some ⟨bn, ⟨t0, t1, t2⟩⟩ := by
                    rw [List.find?_eq_some_iff_getElem]
                    refine ⟨decide_eq_true he, i, HLT.out, ?_, fun j hj => ?_⟩
                    · have := HBI.out
                      rw [List.getElem?_eq_getElem HLT.out] at this
                      exact Option.some.inj this
                    · have hjl : j < T.length := Nat.lt_trans hj HLT.out
                      rw [HNO.out j _ hj (List.getElem?_eq_getElem hjl)]
                      rfl
                  rw [decide_eq_true he]
                  have HFD := Lib.hid hfd
                  clear hfd
                  go_wp2_with fail
                  refine bodyPost_ret (results_cell2 (P := Try.prog) rfl _ _ w.heap.size 32 #[.int .i64 t0, .int .i64 t1, .int .i64 t2] (0, 0) _ rfl (((HX5q.out.set_ 0 _).set_ 1 _).set_ 2 _) Try.underlying32 rfl info32) rfl ⟨by rw [← HR.out]; unfold ofB; rw [HFD.out]; rfl, ((((HBYq.out).setCell (by simp) _).setCell (by simp) _).setCell (by simp) _)⟩
                · rw [decide_eq_false he]
                  have HE := Lib.hid he
                  clear he
                  go_wp2_with fail
                  go_roundw
                  case rel =>
                    refine ⟨i + 1, HLT.out, by go_num, HBq.out, fun j b hj hbj => ?_⟩
                    by_cases e : j = i
                    · subst e
                      have := HBI.out.symm.trans hbj
                      cases this
                      exact decide_eq_false HE.out
                    · exact HNO.out j b (by omega) hbj
                  case measure => simp [intOf]; have := HLT.out; omega
              · obtain rfl : i = T.length := by omega
                have hfd : T.find? (fun b => decide (b.nm = nm)) = none := by
                  rw [List.find?_eq_none]
                  intro b hb
                  obtain ⟨j, hj, e⟩ := List.getElem_of_mem hb
                  have := HNO.out j b hj (by rw [← e]; exact List.getElem?_eq_getElem hj)
                  rw [this]
                  exact Bool.false_ne_true
                have HFD := Lib.hid hfd
                have HX5 := Lib.hid (HXX.out.below HB.out HXX.out.lt)
                have y0 : wr.cell? ⟨w.heap.size, 0, none⟩ = some (.int .i64 0) := by rw [HX5.out.cell]; rfl
                have y1 : wr.cell? ⟨w.heap.size, 1, none⟩ = some (.int .i64 0) := by rw [HX5.out.cell]; rfl
                have y2 : wr.cell? ⟨w.heap.size, 2, none⟩ = some (.int .i64 0) := by rw [HX5.out.cell]; rfl
                have z0 := HX5.out.frozen 0
                have z1 := HX5.out.frozen 1
                have z2 := HX5.out.frozen 2
                clear hfd
                go_wp2_with fail
                refine bodyPost_ret (results_cell2 (P := Try.prog) rfl _ _ w.heap.size 32 #[.int .i64 0, .int .i64 0, .int .i64 0] (0, 0) _ rfl (((HX5.out.set_ 0 _).set_ 1 _).set_ 2 _) Try.underlying32 rfl info32) rfl ⟨by rw [← HR.out]; unfold ofB; rw [HFD.out]; rfl, ((((HBY.out).setCell (by simp) _).setCell (by simp) _).setCell (by simp) _)⟩
        · have hs : S[k]? = none := List.getElem?_eq_none (by omega)
          rw [hs]
          dsimp only
          have h4' : (S.length : Int) ≤ (k : Int) := by omega
          go_enter Try.func12, Try.ntmps12
          go_wp2_with fail
          refine bodyPost_ret (results_cell2 (P := Try.prog) rfl _ _ w.heap.size 32 #[.int .i64 0, .int .i64 0, .int .i64 0] (0, 0) _ rfl HX0.out Try.underlying32 rfl info32) rfl ⟨rfl, HB0.out⟩
    · have hx : D[o]? = none := List.getElem?_eq_none (by omega)
      rw [show ofS T (D.map (·.2)) (o : Int) sy = (⟨0, 0, 0⟩, false) by unfold ofS; rw [if_neg h1, Int.toNat_natCast, HMD.out, hx]; rfl]
      have h2' : (D.length : Int) ≤ (o : Int) := by omega
      go_enter Try.func12, Try.ntmps12
      go_wp2_with fail
      refine bodyPost_ret (results_cell2 (P := Try.prog) rfl _ _ w.heap.size 32 #[.int .i64 0, .int .i64 0, .int .i64 0] (0, 0) _ rfl HX0.out Try.underlying32 rfl info32) rfl ⟨rfl, HB0.out⟩
end Go.Proofs.Ytoiiiobamanclaa
