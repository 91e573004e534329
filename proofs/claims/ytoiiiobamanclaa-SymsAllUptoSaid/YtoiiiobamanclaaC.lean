import Derived.Test.YtoiiiobamanclaaB
import Derived.Deep.Cut
import Derived.Deep.RegionLaw
namespace Go.Proofs.Ytoiiiobamanclaa
open Go.ChangeShapes Go.WideShapes Go.ChangeAt Go.RowKit
set_option linter.unusedVariables false
theorem putA_sub {C : Array Value} {o j : Nat} {L M : List Value} (h : At C o L) (hj : j + M.length ≤ L.length) : putA C (o + j) M = putA C o (L.take j ++ (M ++ L.drop (j + M.length))) := by
  have hl : (L.take j ++ (M ++ L.drop (j + M.length))).length = L.length := by simp; omega
  have hb := h.1
  apply Array.ext_getElem?
  intro i
  rw [putA_get (by omega), putA_get (by rw [hl]; omega), hl]
  by_cases h1 : o ≤ i ∧ i < o + L.length
  · rw [if_pos h1]
    obtain ⟨k, rfl⟩ : ∃ k, i = o + k := ⟨i - o, by omega⟩
    rw [show o + k - o = k by omega]
    by_cases h2 : k < j
    · rw [if_neg (by omega), List.getElem?_append_left (by rw [List.length_take]; omega), List.getElem?_take_of_lt h2]
      have := h.2 k L[k] (List.getElem?_eq_getElem (by omega))
      rw [this]
      exact (List.getElem?_eq_getElem (by omega)).symm
    · rw [List.getElem?_append_right (by rw [List.length_take]; omega), List.length_take, show min j L.length = j by omega]
      by_cases h3 : k < j + M.length
      · rw [if_pos (by omega), List.getElem?_append_left (by omega)]
        congr 1
        omega
      · rw [if_neg (by omega), List.getElem?_append_right (by omega), List.getElem?_drop]
        rw [show j + M.length + (k - j - M.length) = k by omega]
        have := h.2 k L[k] (List.getElem?_eq_getElem (by omega))
        rw [this]
        exact (List.getElem?_eq_getElem (by omega)).symm
  · rw [if_neg h1, if_neg (by omega)]
theorem At.sub {C : Array Value} {o j : Nat} {L : List Value} (h : At C o L) (m : Nat) (hj : j + m ≤ L.length) : At C (o + j) ((L.drop j).take m) := by
  refine ⟨by simp; have := h.1; omega, fun k u hu => ?_⟩
  have hk := (List.getElem?_eq_some_iff.1 hu).1
  simp at hk
  rw [List.getElem?_take_of_lt (by omega), List.getElem?_drop] at hu
  rw [Nat.add_assoc]
  exact h.2 (j + k) u hu
theorem putA_putA {C : Array Value} {o : Nat} {L M : List Value} (h : o + L.length ≤ C.size) (he : L.length = M.length) : putA (putA C o L) o M = putA C o M := by
  apply Array.ext_getElem?
  intro i
  rw [putA_get (by rw [putA_size h]; omega), putA_get h, putA_get (by omega)]
  rw [he]
  split
  · rfl
  · rfl
set_option maxHeartbeats 2000000 in
theorem take29 (g o T : Nat) (C : Array Value) (n : Nm) (s : Sm) (t : Tg) (w : World) (hC : Blk w g T C) (hA : At C o n.c) :
    Calls Try.prog 29 #[.pointer (some ⟨g, o, none⟩), .agg s.c.toArray, .agg t.c.toArray] w fun e w' => e = .returned (.tuple #[]) ∧ Blk w' g T (putA C o (take n s t).c) ∧ Only g w w' := by
  have KN := Lib.hid none22
  have hgl := hC.lt
  have hC2 : Blk ((w.alloc (.cells s.c.toArray 47)).alloc (.cells t.c.toArray 32)) g T C := (hC.alloc _).alloc _
  have hT2 : Blk ((w.alloc (.cells s.c.toArray 47)).alloc (.cells t.c.toArray 32)) (w.heap.size + 1) 32 t.c.toArray := by
    have := Blk.new (w.alloc (.cells s.c.toArray 47)) 32 t.c.toArray
    rwa [World.size_alloc] at this
  have hS2 : Blk ((w.alloc (.cells s.c.toArray 47)).alloc (.cells t.c.toArray 32)) w.heap.size 47 s.c.toArray := (Blk.new w 47 _).alloc _
  have hO2 : Only g w ((w.alloc (.cells s.c.toArray 47)).alloc (.cells t.c.toArray 32)) := ((Only.refl g w).alloc _).alloc _
  have k3 : ((w.alloc (.cells s.c.toArray 47)).alloc (.cells t.c.toArray 32)).cell? ⟨w.heap.size, 3, none⟩ = some (.int .u8 s.bd) := by rw [hS2.cell]; rfl
  have k6 : ((w.alloc (.cells s.c.toArray 47)).alloc (.cells t.c.toArray 32)).cell? ⟨w.heap.size, 6, none⟩ = some (.int .i64 s.ix) := by rw [hS2.cell]; rfl
  have hgz : g ≠ w.heap.size := by omega
  have hgy : w.heap.size + 1 ≠ g := by omega
  obtain ⟨N', hN'⟩ : ∃ N', take n s t = N' := ⟨_, rfl⟩
  have HTK : Hid (N' = if s.ix = -1 then { n with ak := n.ak || decide (s.bd = 1) }
    else if s.ix = -3 then { n with co := first n.co t }
    else if s.bd = 1 then { n with tw := n.tw || decide (n.st ≠ tn), st := first n.st t }
    else { n with we := first n.we t }) := Lib.hid (by rw [← hN']; rfl)
  rw [hN']
  clear hN'
  obtain ⟨nm, vl, sz, bd, kd, hd, ix⟩ := s
  obtain ⟨t0, t1, t2⟩ := t
  obtain ⟨tx, st, co, we, tw, ak⟩ := n
  simp only at HTK k3 k6
  have HC := Lib.hid hC2; have HT := Lib.hid hT2; have HO := Lib.hid hO2; have HA := Lib.hid hA
  clear hC hC2 hT2 hS2 hO2 hA
  go_enter Try.func29, Try.ntmps29
  go_upto_region 3 with fail
  generalize ((w.alloc (.cells #[.string nm, .int .u32 vl, .int .u32 sz, .int .u8 bd, .int .u8 kd, .bool hd, .int .i64 ix] 47)).alloc (.cells #[.int .i64 t0, .int .i64 t1, .int .i64 t2] 32)) = W2 at *
  have y11 : W2.cell? ⟨g, o + 11, none⟩ = some (.bool ak) := by rw [HC.out.cell]; exact HA.out.2 11 _ rfl
  have y10 : W2.cell? ⟨g, o + 10, none⟩ = some (.bool tw) := by rw [HC.out.cell]; exact HA.out.2 10 _ rfl
  have z11 := HC.out.frozen (o + 11)
  have z10 := HC.out.frozen (o + 10)
  have K35 : Hid (∀ j W (a : Tg), Blk W g T C → Blk W (w.heap.size + 1) 32 #[.int .i64 t0, .int .i64 t1, .int .i64 t2] → At C (o + j) a.c → Calls Try.prog 35 #[.pointer (some ⟨g, o + j, none⟩), .pointer (some ⟨w.heap.size + 1, 0, none⟩)] W fun e w' => e = .returned (.tuple #[]) ∧ Blk w' g T (putA C (o + j) (first a ⟨t0, t1, t2⟩).c) ∧ Only g W w') :=
    Lib.hid (fun j W a h1 h2 h3 => first35 g (o + j) (w.heap.size + 1) T C a ⟨t0, t1, t2⟩ W h1 h3 h2 hgy)
  by_cases h1 : ix = -1
  · subst h1
    have P11 : ∀ v, Blk (W2.setCell ⟨g, o + 11, none⟩ v) g T (putA C o (List.set (Nm.c ⟨tx, st, co, we, tw, ak⟩) 11 v)) := fun v => by
      have := HC.out.set_ (o + 11) v
      have e := putA_set (C := C) (o := o) (j := 11) (L := Nm.c ⟨tx, st, co, we, tw, ak⟩) v HA.out.1 (by simp)
      rw [putA_self HA.out] at e
      rwa [e] at this
    have HP := Lib.hid P11
    have HO11 : Hid (∀ v, Only g w (W2.setCell ⟨g, o + 11, none⟩ v)) := Lib.hid (fun v => HO.out.set_ _ _)
    clear P11
    rw [if_pos rfl] at HTK
    cases ak with
    | true =>
      go_wp2_with fail
      go_end0
      refine ⟨rfl, ?_, HO11.out _⟩
      have := HP.out (.bool true)
      rw [HTK.out]
      exact this
    | false =>
      go_wp2_with fail
      go_end0
      refine ⟨rfl, ?_, HO11.out _⟩
      have := HP.out (.bool (bd == 1))
      rw [HTK.out]
      have e : (bd == 1) = decide (bd = 1) := rfl
      rw [e] at this ⊢
      simpa using this
  · by_cases h2 : ix = -3
    · subst h2
      have HN : Hid (N' = ⟨tx, st, first co ⟨t0, t1, t2⟩, we, tw, ak⟩) := Lib.hid (by rw [HTK.out, if_neg (by decide), if_pos rfl])
      have HE := Lib.hid (putA_sub (C := C) (o := o) (j := 4) (L := Nm.c ⟨tx, st, co, we, tw, ak⟩) (M := (first co ⟨t0, t1, t2⟩).c) HA.out (by simp))
      have KC := Lib.hid (K35.out 4 W2 co HC.out HT.out (HA.out.sub (j := 4) 3 (by simp)))
      generalize first co ⟨t0, t1, t2⟩ = F at *
      go_wp2_with fail
      refine KC.out.mono ?_
      rintro e6 w6 ⟨rfl, hb6, ho6⟩
      have HB6 := Lib.hid hb6; have HO6 := Lib.hid (HO.out.trans ho6)
      clear hb6 ho6
      go_wp2_with fail
      go_end0
      refine ⟨rfl, ?_, HO6.out⟩
      rw [HN.out]
      have := HB6.out
      rw [HE.out] at this
      exact this
    · have e1 : (ix == -1) = false := by simp [h1]
      have e2 : (ix == -3) = false := by simp [h2]
      by_cases h3 : bd = 1
      · subst h3
        have HN : Hid (N' = ⟨tx, first st ⟨t0, t1, t2⟩, co, we, tw || decide (st ≠ tn), ak⟩) := Lib.hid (by rw [HTK.out, if_neg h1, if_neg h2, if_pos rfl])
        have HEQ := Lib.hid (eqTg st tn)
        obtain ⟨s0, s1, s2⟩ := st
        obtain ⟨q, hq⟩ : ∃ q, decide ((⟨s0, s1, s2⟩ : Tg) = tn) = q := ⟨_, rfl⟩
        have HQ := Lib.hid hq
        rw [hq] at HEQ
        clear hq
        go_wp2_with fail
        cases tw with
        | true =>
          go_region
          have HP : Hid (Blk (W2.setCell ⟨g, o + 10, none⟩ (.bool true)).drew g T C) := Lib.hid (by
            have := HC.out.set_ (o + 10) (.bool true)
            have e := putA_set (C := C) (o := o) (j := 10) (L := Nm.c ⟨tx, ⟨s0, s1, s2⟩, co, we, true, ak⟩) (.bool true) HA.out.1 (by simp)
            rw [putA_self HA.out] at e
            rw [e] at this
            have e2 := putA_self HA.out
            simp only [List.set] at this
            rw [e2] at this
            exact this.drew)
          have HT6 : Hid (Blk (W2.setCell ⟨g, o + 10, none⟩ (.bool true)).drew (w.heap.size + 1) 32 #[.int .i64 t0, .int .i64 t1, .int .i64 t2]) := Lib.hid (HT.out.far hgy _)
          have HO6 : Hid (Only g w (W2.setCell ⟨g, o + 10, none⟩ (.bool true)).drew) := Lib.hid ((HO.out.set_ _ _).drew)
          have HE := Lib.hid (putA_sub (C := C) (o := o) (j := 1) (L := Nm.c ⟨tx, ⟨s0, s1, s2⟩, co, we, true, ak⟩) (M := (first ⟨s0, s1, s2⟩ ⟨t0, t1, t2⟩).c) HA.out (by simp))
          have KC := Lib.hid (K35.out 1 _ ⟨s0, s1, s2⟩ HP.out HT6.out (HA.out.sub (j := 1) 3 (by simp)))
          generalize first ⟨s0, s1, s2⟩ ⟨t0, t1, t2⟩ = F at *
          generalize (W2.setCell ⟨g, o + 10, none⟩ (.bool true)).drew = W3 at *
          go_wp2_with fail
          refine KC.out.mono ?_
          rintro e6 w6 ⟨rfl, hb6, ho6⟩
          have HB6 := Lib.hid hb6; have HO6 := Lib.hid (HO6.out.trans ho6)
          clear hb6 ho6
          go_wp2_with fail
          go_end0
          refine ⟨rfl, ?_, HO6.out⟩
          rw [HN.out]
          have := HB6.out
          rw [HE.out] at this
          exact this
        | false =>
          have HY : Hid (∀ W, Blk W g T C → W.cell? ⟨g, o + 1, none⟩ = some (.int .i64 s0) ∧ W.cell? ⟨g, o + 1 + 1, none⟩ = some (.int .i64 s1) ∧ W.cell? ⟨g, o + 1 + 2, none⟩ = some (.int .i64 s2)) := Lib.hid (fun W h => ⟨by rw [h.cell]; exact HA.out.2 1 _ rfl, by rw [h.cell]; exact HA.out.2 2 _ rfl, by rw [h.cell]; exact HA.out.2 3 _ rfl⟩)
          have HI : Hid (W2.drew.cell? ⟨g, o + 1, none⟩ = some (.int .i64 s0) ∧ W2.drew.cell? ⟨g, o + 1 + 1, none⟩ = some (.int .i64 s1) ∧ W2.drew.cell? ⟨g, o + 1 + 2, none⟩ = some (.int .i64 s2)) := Lib.hid (HY.out _ HC.out.drew)
          have heq := HEQ.out
          have e10 : W2.drew.cell? ⟨g, o + 10, none⟩ = some (.bool false) := y10
          obtain ⟨d1, d2, d3⟩ := HI.out
          cases q with
          | true =>
            go_region_law (first | (go_simp; go_at_call 22; (with_reducible refine (KN.out _).mono ?_); rintro _ w6 ⟨rfl, hb6⟩; have HB6 : Below W2.heap.size W2 w6 := ((Below.refl _ W2).drew).trans hb6; have HC6 : Hid (Blk w6 g T C) := Lib.hid (HC.out.below HB6 HC.out.lt); have HT6 : Hid (Blk w6 (w.heap.size + 1) 32 #[.int .i64 t0, .int .i64 t1, .int .i64 t2]) := Lib.hid (HT.out.below HB6 HT.out.lt); have HO6 : Hid (Only g w w6) := Lib.hid (HO.out.below (HB6.mono (Nat.le_refl _))); have ⟨x1, x2, x3⟩ := HY.out _ HC6.out; have y10' : w6.cell? ⟨g, o + 10, none⟩ = some (.bool false) := (by rw [HC6.out.cell]; exact HA.out.2 10 _ rfl); have z10' := HC6.out.frozen (o + 10)))
            all_goals
              have HP : Hid (Blk (w6.setCell ⟨g, o + 10, none⟩ (.bool false)) g T (putA C o (Nm.c ⟨tx, ⟨s0, s1, s2⟩, co, we, false, ak⟩))) := Lib.hid (by
                have h := HC6.out.set_ (o + 10) (.bool false)
                have e := putA_set (C := C) (o := o) (j := 10) (L := Nm.c ⟨tx, ⟨s0, s1, s2⟩, co, we, false, ak⟩) (.bool false) HA.out.1 (by simp)
                rw [putA_self HA.out] at e
                rw [e] at h
                exact h)
              have HA2 := Lib.hid (putA_at (C := C) (o := o) (L := Nm.c ⟨tx, ⟨s0, s1, s2⟩, co, we, false, ak⟩) HA.out.1)
              have HPP : Hid (∀ M : List Value, M.length = 12 → putA (putA C o (Nm.c ⟨tx, ⟨s0, s1, s2⟩, co, we, false, ak⟩)) o M = putA C o M) := Lib.hid (fun M hM => putA_putA HA.out.1 hM.symm)
              have HT7 : Hid (Blk (w6.setCell ⟨g, o + 10, none⟩ (.bool false)) (w.heap.size + 1) 32 #[.int .i64 t0, .int .i64 t1, .int .i64 t2]) := Lib.hid (HT6.out.far hgy _)
              have HO7 : Hid (Only g w (w6.setCell ⟨g, o + 10, none⟩ (.bool false))) := Lib.hid (HO6.out.set_ _ _)
              have HE := Lib.hid (putA_sub (C := putA C o (Nm.c ⟨tx, ⟨s0, s1, s2⟩, co, we, false, ak⟩)) (o := o) (j := 1) (L := Nm.c ⟨tx, ⟨s0, s1, s2⟩, co, we, false, ak⟩) (M := (first ⟨s0, s1, s2⟩ ⟨t0, t1, t2⟩).c) HA2.out (by simp))
              have KC := Lib.hid (first35 g (o + 1) (w.heap.size + 1) T _ ⟨s0, s1, s2⟩ ⟨t0, t1, t2⟩ _ HP.out (HA2.out.sub (j := 1) 3 (by simp)) HT7.out hgy)
              have HN2 : Hid (N' = ⟨tx, first ⟨s0, s1, s2⟩ ⟨t0, t1, t2⟩, co, we, false, ak⟩) := Lib.hid (by rw [HN.out]; simp only [ne_eq, decide_not, HQ.out]; rfl)
              generalize first ⟨s0, s1, s2⟩ ⟨t0, t1, t2⟩ = F at *
              generalize w6.setCell ⟨g, o + 10, none⟩ (.bool false) = W3 at *
              go_wp2_with fail
              refine KC.out.mono ?_
              rintro e7 w7 ⟨rfl, hb7, ho7⟩
              have HB7 := Lib.hid hb7; have HO8 := Lib.hid (HO7.out.trans ho7)
              clear hb7 ho7
              go_wp2_with fail
              go_end0
              refine ⟨rfl, ?_, HO8.out⟩
              rw [HN2.out]
              have h := HB7.out
              rw [HE.out, HPP.out _ (by rfl)] at h
              exact h
          | false =>
            go_region_law (first | (go_simp; go_at_call 22; (with_reducible refine (KN.out _).mono ?_); rintro _ w6 ⟨rfl, hb6⟩; have HB6 : Below W2.heap.size W2 w6 := ((Below.refl _ W2).drew).trans hb6; have HC6 : Hid (Blk w6 g T C) := Lib.hid (HC.out.below HB6 HC.out.lt); have HT6 : Hid (Blk w6 (w.heap.size + 1) 32 #[.int .i64 t0, .int .i64 t1, .int .i64 t2]) := Lib.hid (HT.out.below HB6 HT.out.lt); have HO6 : Hid (Only g w w6) := Lib.hid (HO.out.below (HB6.mono (Nat.le_refl _))); have ⟨x1, x2, x3⟩ := HY.out _ HC6.out; have y10' : w6.cell? ⟨g, o + 10, none⟩ = some (.bool false) := (by rw [HC6.out.cell]; exact HA.out.2 10 _ rfl); have z10' := HC6.out.frozen (o + 10)))
            all_goals
              have HP : Hid (Blk (w6.setCell ⟨g, o + 10, none⟩ (.bool true)) g T (putA C o (Nm.c ⟨tx, ⟨s0, s1, s2⟩, co, we, true, ak⟩))) := Lib.hid (by
                have h := HC6.out.set_ (o + 10) (.bool true)
                have e := putA_set (C := C) (o := o) (j := 10) (L := Nm.c ⟨tx, ⟨s0, s1, s2⟩, co, we, false, ak⟩) (.bool true) HA.out.1 (by simp)
                rw [putA_self HA.out] at e
                rw [e] at h
                exact h)
              have HA2 := Lib.hid (putA_at (C := C) (o := o) (L := Nm.c ⟨tx, ⟨s0, s1, s2⟩, co, we, true, ak⟩) HA.out.1)
              have HPP : Hid (∀ M : List Value, M.length = 12 → putA (putA C o (Nm.c ⟨tx, ⟨s0, s1, s2⟩, co, we, true, ak⟩)) o M = putA C o M) := Lib.hid (fun M hM => putA_putA HA.out.1 hM.symm)
              have HT7 : Hid (Blk (w6.setCell ⟨g, o + 10, none⟩ (.bool true)) (w.heap.size + 1) 32 #[.int .i64 t0, .int .i64 t1, .int .i64 t2]) := Lib.hid (HT6.out.far hgy _)
              have HO7 : Hid (Only g w (w6.setCell ⟨g, o + 10, none⟩ (.bool true))) := Lib.hid (HO6.out.set_ _ _)
              have HE := Lib.hid (putA_sub (C := putA C o (Nm.c ⟨tx, ⟨s0, s1, s2⟩, co, we, true, ak⟩)) (o := o) (j := 1) (L := Nm.c ⟨tx, ⟨s0, s1, s2⟩, co, we, true, ak⟩) (M := (first ⟨s0, s1, s2⟩ ⟨t0, t1, t2⟩).c) HA2.out (by simp))
              have KC := Lib.hid (first35 g (o + 1) (w.heap.size + 1) T _ ⟨s0, s1, s2⟩ ⟨t0, t1, t2⟩ _ HP.out (HA2.out.sub (j := 1) 3 (by simp)) HT7.out hgy)
              have HN2 : Hid (N' = ⟨tx, first ⟨s0, s1, s2⟩ ⟨t0, t1, t2⟩, co, we, true, ak⟩) := Lib.hid (by rw [HN.out]; simp only [ne_eq, decide_not, HQ.out]; rfl)
              generalize first ⟨s0, s1, s2⟩ ⟨t0, t1, t2⟩ = F at *
              generalize w6.setCell ⟨g, o + 10, none⟩ (.bool true) = W3 at *
              go_wp2_with fail
              refine KC.out.mono ?_
              rintro e7 w7 ⟨rfl, hb7, ho7⟩
              have HB7 := Lib.hid hb7; have HO8 := Lib.hid (HO7.out.trans ho7)
              clear hb7 ho7
              go_wp2_with fail
              go_end0
              refine ⟨rfl, ?_, HO8.out⟩
              rw [HN2.out]
              have h := HB7.out
              rw [HE.out, HPP.out _ (by rfl)] at h
              exact h
      · have e3 : (bd == 1) = false := by simp [h3]
        have HN : Hid (N' = ⟨tx, st, co, first we ⟨t0, t1, t2⟩, tw, ak⟩) := Lib.hid (by rw [HTK.out, if_neg h1, if_neg h2, if_neg h3])
        have HE := Lib.hid (putA_sub (C := C) (o := o) (j := 7) (L := Nm.c ⟨tx, st, co, we, tw, ak⟩) (M := (first we ⟨t0, t1, t2⟩).c) HA.out (by simp))
        have KC := Lib.hid (K35.out 7 W2 we HC.out HT.out (HA.out.sub (j := 7) 3 (by simp)))
        generalize first we ⟨t0, t1, t2⟩ = F at *
        go_wp2_with fail
        refine KC.out.mono ?_
        rintro e6 w6 ⟨rfl, hb6, ho6⟩
        have HB6 := Lib.hid hb6; have HO6 := Lib.hid (HO.out.trans ho6)
        clear hb6 ho6
        go_wp2_with fail
        go_end0
        refine ⟨rfl, ?_, HO6.out⟩
        rw [HN.out]
        have := HB6.out
        rw [HE.out] at this
        exact this
end Go.Proofs.Ytoiiiobamanclaa
