import Derived.Test.YtlomlgmajcdccaaDoorXf
namespace Go.Proofs.YtlomlgmajcdccaaDoor
open Go.ChangeShapes Go.WideShapes Go.ChangeAt Go.RowKit
set_option linter.unusedVariables false
def T0 : ByteArray := ⟨#[97, 32, 98, 32, 35, 32, 99, 10, 10, 100]⟩
theorem t0_ok : okT T0 = true := okT_yes T0 (fun i hi => by
  have h : (List.range 10).all (fun i => okb (bb T0 i)) = true := by decide
  exact (List.all_eq_true.1 h) i (List.mem_range.2 hi))
theorem t0_lns : lnsB T0 = [mk [97, 32, 98, 32, 35, 32, 99], mk [], mk [100]] := by
  rw [lns_list, show T0.data.toList = [97, 32, 98, 32, 35, 32, 99, 10, 10, 100] from rfl]
  rfl
theorem mk_asc (l : List UInt8) (h : l.all (fun b => decide (b.toNat < 128)) = true) : asc (mk l) := fun i hi => by
  have hi2 : i < l.length := by
    have : (mk l).size = l.length := by show (mk l).data.toList.length = _; rw [list_mk]
    omega
  rw [bb_eq _ i hi]
  have := (List.all_eq_true.1 h) l[i] (List.getElem_mem hi2)
  have e : (mk l)[i]'hi = l[i] := by
    show (mk l).data[i] = _
    unfold mk
    simp
  rw [e]
  simpa using this
theorem t0_w1 : wordsB (mk [97, 32, 98, 32, 35, 32, 99]) = [⟨#[97]⟩, ⟨#[98]⟩] := by
  rw [words_list _ (mk_asc _ (by decide)), list_mk]
  rfl
theorem t0_w2 : wordsB (mk []) = [] := by
  rw [words_list _ (mk_asc _ (by decide)), list_mk]
  rfl
theorem t0_w3 : wordsB (mk [100]) = [⟨#[100]⟩] := by
  rw [words_list _ (mk_asc _ (by decide)), list_mk]
  rfl
theorem t0_e : rdE T0 = 0 := rdE_ok T0 t0_ok (by
  rintro (h | ⟨x, hx, h⟩)
  · rw [t0_lns] at h; simp at h
  · rw [t0_lns] at hx
    simp at hx
    rcases hx with rfl | rfl | rfl <;> exact absurd h (by decide))
theorem t0_v : rdV T0 = [(1, [⟨#[97]⟩, ⟨#[98]⟩]), (3, [⟨#[100]⟩])] := by
  rw [rdV_ok T0 t0_e, t0_lns]
  simp [saidB, t0_w1, t0_w2, t0_w3]
def ab (j : Nat) : ByteArray := (([⟨#[97]⟩, ⟨#[98]⟩] : List ByteArray)[j]?).getD ⟨#[]⟩
theorem k8_0 (w : World) (hG : Gl w) : Calls Tryd.prog 8 #[.string T0] w fun e w' => ∃ (b o c c1 : Nat) (A1 : Option Addr), e = .returned (.tuple #[.slice (some ⟨b, o, none⟩) 2 c, .int .i64 0]) ∧
    w'.cell? ⟨b, o, none⟩ = some (.int .i64 1) ∧ w'.cell? ⟨b, o + 1, none⟩ = some (.slice A1 2 c1) ∧ w'.cell? ⟨b, o + 2, none⟩ = some (.int .i64 3) ∧ Ss w' A1 2 ab ∧ b < w'.heap.size ∧ Below w.heap.size w w' := by
  refine (c8 T0 (by decide) w hG).mono ?_
  intro e w' h
  obtain ⟨A, c, g, he, hw, hr, ho, hb⟩ := post_ws h
  have hlen : (rdV T0).length = 2 := by rw [t0_v]; rfl
  rw [t0_e, hlen] at he
  rw [hlen] at hw
  obtain ⟨b, o, rfl, hbl, hc⟩ := hw (by decide)
  have r0 := hr 0 (by omega)
  have r1 := hr 1 (by omega)
  simp only [t0_v] at r0 r1
  obtain ⟨c0, c1, s0, _, _⟩ := hc 0 (by decide)
  obtain ⟨d0, _⟩ := hc 1 (by decide)
  obtain ⟨l0, n0, f0⟩ := r0
  obtain ⟨l1, _⟩ := r1
  rw [l0] at c0
  rw [n0] at c1 s0
  rw [l1] at d0
  refine ⟨b, o, c, (g 0).c, (g 0).A, he, ?_, ?_, ?_, ?_, hbl, hb⟩
  · simpa using c0
  · simpa using c1
  · simpa using d0
  · have : (g 0).f = ab := funext f0
    rw [← this]
    exact s0
theorem r_1f : refV ⟨#[48, 120, 49, 102]⟩ = .tuple #[.int .u32 31, .bool true] := by
  unfold refV
  rw [if_pos (show hexP _ from ⟨by decide, by decide, by decide⟩), if_neg (by decide)]
  rw [fin_yes]
  · rfl
  · rintro (h | ⟨i, hi, h⟩ | h)
    · exact absurd h (by decide)
    · have hi2 : i < 2 := hi
      rcases (by omega : i = 0 ∨ i = 1) with rfl | rfl <;> exact absurd h (by decide)
    · exact absurd h (by decide)
theorem r_007 : refV ⟨#[48, 48, 55]⟩ = .tuple #[.int .u32 0, .bool false] := by
  unfold refV
  rw [if_neg (show ¬ hexP _ from fun h => absurd h.2.2 (by decide)), if_pos (Or.inl ⟨by decide, by decide⟩)]
  rfl
theorem r_big : refV ⟨#[52, 50, 57, 52, 57, 54, 55, 50, 57, 54]⟩ = .tuple #[.int .u32 0, .bool false] := by
  unfold refV
  rw [if_neg (show ¬ hexP _ from fun h => absurd h.2.2 (by decide)), if_neg (by decide), fin_no]
  · rfl
  · exact Or.inr (Or.inr (by decide))
theorem k10 (s : ByteArray) (v : Value) (h : refV s = v) (hs : s.size ≤ 281474976710656) (w : World) (hG : Gl w) : Calls Tryd.prog 10 #[.string s] w fun e w' => e = .returned v ∧ Below w.heap.size w w' := by
  rw [← h]; exact c10 s hs w hG
theorem k12ab (A : Option Addr) (c : Nat) (w : World) (hA : Ss w A 2 ab) (t : TypeId) : Calls Tryd.prog 12 #[.slice A 2 c, .slice (some ⟨w.heap.size, 0, none⟩) 2 2] (w.alloc (.cells #[.string ⟨#[97]⟩, .string ⟨#[98]⟩] t)) fun e w' => e = .returned (.bool true) ∧ ∃ q, w' = (w.alloc (.cells #[.string ⟨#[97]⟩, .string ⟨#[98]⟩] t)).drewN q :=
  c12 A _ 2 c 2 ab ab _ (by decide) (hA.below ((Below.refl _ _).alloc (Nat.le_refl _) _)) (fun _ => ⟨w.heap.size, 0, rfl, by simp, fun k hk => by
    rw [Nat.zero_add, World.cell?_alloc_at _ _ _ _ (by simp)]
    rcases (by omega : k = 0 ∨ k = 1) with rfl | rfl <;> exact ⟨rfl, by decide⟩⟩) (fun k _ => rfl)
set_option maxRecDepth 100000 in
set_option maxHeartbeats 4000000 in
theorem c13 (w : World) (hG : Gl w) : Calls Tryd.prog 13 #[] w fun e w' => e = .returned (.bool true) ∧ Below w.heap.size w w' := by
  have HG := Lib.hid hG
  have K8 := Lib.hid (k8_0 w hG)
  unfold T0 at K8
  clear hG
  go_enter Tryd.func13, Tryd.ntmps13
  go_wp2_with fail
  refine (K8.out).mono ?_
  rintro _ w1 ⟨b, o, c, c1, A1, rfl, q0, q1, q2, q3, q4, b1⟩
  have HQ0 := Lib.hid q0
  have HQ1 := Lib.hid q1
  have HQ2 := Lib.hid q2
  have HQ3 := Lib.hid q3
  have HQ4 := Lib.hid q4
  have HB1 := Lib.hid b1
  clear q0 q1 q2 q3 q4 b1
  go_wp2_with fail
  refine (k10 _ _ r_1f (by decide) _ (HG.out.below HB1.out)).mono ?_
  rintro _ w2 ⟨rfl, b2⟩
  have HB2 := Lib.hid b2
  clear b2
  go_wp2_with fail
  refine (k10 _ _ r_007 (by decide) _ ((HG.out.below HB1.out).below HB2.out)).mono ?_
  rintro _ w3 ⟨rfl, b3⟩
  have HB3 := Lib.hid (HB2.out.trans (b3.mono HB2.out.size))
  clear b3
  go_wp2_with fail
  refine (k10 _ _ r_big (by decide) _ ((HG.out.below HB1.out).below HB3.out)).mono ?_
  rintro _ w4 ⟨rfl, b4⟩
  have hb4 := HB3.out.trans (b4.mono HB3.out.size)
  have HB4 := Lib.hid hb4
  have q0 := HQ0.out
  have q1 := HQ1.out
  have q2 := HQ2.out
  have HA := Lib.hid (HQ3.out.below hb4)
  have z : ∀ j, w4.cell? ⟨b, j, none⟩ = w1.cell? ⟨b, j, none⟩ := fun j => hb4.cell (p := ⟨b, j, none⟩) HQ4.out
  rw [← z] at q0 q1 q2
  clear z hb4 b4
  have hlt : b < w4.heap.size := Nat.lt_of_lt_of_le HQ4.out HB4.out.size
  go_wp2_with (go_at_call 12; refine (k12ab _ _ _ HA.out _).mono ?_; rintro _ w5 ⟨rfl, n5, rfl⟩)
  go_ret
  exact ⟨rfl, below_drewN ((HB1.out.trans (HB4.out.mono HB1.out.size)).alloc (Nat.le_trans HB1.out.size HB4.out.size) _) _⟩
theorem rdV_len (s : ByteArray) : (rdV s).length ≤ 400 := by
  by_cases h : rdE s = 0
  · rw [rdV_ok s h]
    have hm : ¬ manyP s := fun hm => by
      unfold rdE at h
      rw [if_pos hm] at h
      split at h <;> cases h
    have h4 : ¬ 400 < (lnsB s).length := fun hh => hm (Or.inl hh)
    have : ∀ (l : List ByteArray) (j : Nat), (saidB j l).length ≤ l.length := by
      intro l
      induction l with
      | nil => intro j; exact Nat.le_refl _
      | cons y r ih =>
        intro j
        rw [saidB]
        split
        · exact Nat.le_succ_of_le (ih _)
        · exact Nat.succ_le_succ (ih _)
    have := this (lnsB s) 1
    omega
  · rw [rdV_no s h]; simp
theorem refV_two (t : ByteArray) : ∃ (m : Int) (q : Bool), refV t = .tuple #[.int .u32 m, .bool q] := by
  have hf : ∀ b u, ∃ (m : Int) (q : Bool), finV b u = .tuple #[.int .u32 m, .bool q] := by
    intro b u
    unfold finV
    split
    · exact ⟨_, _, rfl⟩
    · exact ⟨_, _, rfl⟩
  unfold refV
  split
  · split
    · exact ⟨_, _, rfl⟩
    · exact hf _ _
  · split
    · exact ⟨_, _, rfl⟩
    · exact hf _ _
def BR (w : World) (n : Nat) (i : Value) (wr : World) : Prop := ∃ k : Nat, k ≤ n ∧ i = .int .i64 (k : Int) ∧ Below w.heap.size w wr
theorem reads_alike {g g' : Nat → Wl} {R : List (Nat × List ByteArray)} (h : Reads g R) (h' : Reads g' R) (k : Nat) (hk : k < R.length) : (g k).line = (g' k).line ∧ (g k).n = (g' k).n ∧ ∀ j, (g k).f j = (g' k).f j := by
  obtain ⟨a1, a2, a3⟩ := h k hk
  obtain ⟨b1, b2, b3⟩ := h' k hk
  exact ⟨by rw [a1, b1], by rw [a2, b2], fun j => by rw [a3, b3]⟩
set_option maxRecDepth 100000 in
set_option maxHeartbeats 4000000 in
theorem walk3 (s t : ByteArray) (hs : s.size ≤ 16777215) (ht : t.size ≤ 281474976710656) (w : World) (hG : Gl w) : Calls Tryd.prog 3 #[.string s, .string t] w fun e w' => e = .returned (.bool true) ∧ Below w.heap.size w w' := by
  have HG := Lib.hid hG
  have K8 := Lib.hid (fun w hG => (c8 s hs w hG).mono fun e w' h => post_ws h)
  have K9 := Lib.hid (fun w => (c9 s hs w).mono fun e w' h => post_ws h)
  have K10 := Lib.hid (c10 t ht)
  have K11 := Lib.hid (c11 t (by omega))
  have hn := rdV_len s
  clear hG
  obtain ⟨m, q, hmq⟩ := refV_two t
  rw [hmq] at K10 K11
  clear hmq
  generalize (rdE s : Nat) = er at *
  generalize rdV s = R at *
  have b1 : ((er : Int) != (er : Int)) = false := by simp
  have b3 : (m != m) = false := by simp
  have b4 : (q != q) = false := by simp
  go_enter Tryd.func3, Tryd.ntmps3
  go_wp2_with fail
  refine (K8.out _ HG.out).mono ?_
  rintro _ w1 ⟨A1, c1, g1, rfl, hw1, hr1, -, hb1⟩
  have HW1 := Lib.hid hw1
  have HR1 := Lib.hid hr1
  have HB1 := Lib.hid hb1
  clear hw1 hr1 hb1
  go_wp2_with fail
  refine (K9.out _).mono ?_
  rintro _ w2 ⟨A2, c2, g2, rfl, hw2, hr2, -, hb2⟩
  have HW2 := Lib.hid hw2
  have HR2 := Lib.hid hr2
  have HB2 := Lib.hid (HB1.out.trans (hb2.mono HB1.out.size))
  have HW12 := Lib.hid (HW1.out.below hb2)
  clear hw2 hr2 hb2
  go_wp2_with fail
  refine (K10.out _ (HG.out.below HB2.out)).mono ?_
  rintro _ w3 ⟨rfl, b3'⟩
  have HB3 := Lib.hid (HB2.out.trans (b3'.mono HB2.out.size))
  have HWA := Lib.hid (HW12.out.below b3')
  have HWB := Lib.hid (HW2.out.below b3')
  clear b3'
  go_wp2_with fail
  refine (K11.out _).mono ?_
  rintro _ _ ⟨rfl, rfl⟩
  have HAL := Lib.hid (fun k hk => reads_alike HR1.out HR2.out k hk)
  generalize hln : R.length = n at *
  have b2 : ((n : Int) != (n : Int)) = false := by simp
  go_wp2_with fail
  go_loopw [13] (fun i wr => BR w3 n i wr) (fun i _ => n - (intOf i).toNat)
  case atStart => exact ⟨0, by omega, rfl, Below.refl _ _⟩
  case round =>
    obtain ⟨k, hk, rfl, hb⟩ := hrel
    have HB := Lib.hid hb
    clear hb
    by_cases hlt : k < n
    · obtain ⟨b, o, rfl, hbl, hc⟩ := HWA.out (by omega)
      obtain ⟨b', o', rfl, hbl', hc'⟩ := HWB.out (by omega)
      obtain ⟨p0, p1, ps, pn, pc⟩ := hc k hlt
      obtain ⟨r0, r1, rs, rn, rc⟩ := hc' k hlt
      obtain ⟨a1, a2, a3⟩ := HAL.out k hlt
      have z : ∀ j, wr.cell? ⟨b, j, none⟩ = w3.cell? ⟨b, j, none⟩ := fun j => HB.out.cell (p := ⟨b, j, none⟩) hbl
      have z' : ∀ j, wr.cell? ⟨b', j, none⟩ = w3.cell? ⟨b', j, none⟩ := fun j => HB.out.cell (p := ⟨b', j, none⟩) hbl'
      rw [← z] at p0 p1
      rw [← z'] at r0 r1
      rw [← a1] at r0
      rw [← a2] at r1 rs rn
      have K12 := Lib.hid (fun nq => c12 (g1 k).A (g2 k).A (g1 k).n (g1 k).c (g2 k).c (g1 k).f (g2 k).f (wr.drewN nq) pn ((ps.below HB.out).below (below_drewN (Below.refl _ _) nq)) ((rs.below HB.out).below (below_drewN (Below.refl _ _) nq)) (fun j _ => a3 j))
      have HK : Hid (k + 1 ≤ n) := Lib.hid hlt
      clear z z' hc hc' ps rs a1 a2 a3
      generalize (g1 k).A = A1 at *
      generalize (g2 k).A = A2 at *
      generalize (g1 k).n = n1 at *
      generalize (g1 k).c = cc1 at *
      generalize (g2 k).c = cc2 at *
      generalize (g1 k).line = ln at *
      have b5 : (ln != ln) = false := by simp
      go_wp2_with fail
      go_quiet ((go_at_call 12; exact Calls.quiet_of (K12.out _)))
      go_wp2
      go_roundw
      case rel => exact ⟨k + 1, HK.out, by go_num, below_drewN HB.out _⟩
      case measure => simp [intOf]; have := HK.out; omega
    · have hkn : k = n := by omega
      subst hkn
      go_wp2_with fail
      refine (c13 _ (HG.out.below (HB3.out.trans (HB.out.mono HB3.out.size)))).mono ?_
      rintro _ w6 ⟨rfl, b6⟩
      go_wp2_with fail
      go_ret
      exact ⟨rfl, (HB3.out.trans (HB.out.mono HB3.out.size)).trans (b6.mono (Nat.le_trans HB3.out.size HB.out.size))⟩
end Go.Proofs.YtlomlgmajcdccaaDoor
