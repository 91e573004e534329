import Derived.Test.YtlomlgmajcdccaaDoorXj
namespace Go.Proofs.YtlomlgmajcdccaaDoor
open Go.ChangeShapes Go.WideShapes Go.ChangeAt Go.RowKit
set_option linter.unusedVariables false
/-- the two answers of Read, as they come -/
def PW (s : ByteArray) (w : World) (e : Ending) (w' : World) : Prop :=
  ∃ A c g, e = .returned (.tuple #[.slice A (rdV s).length c, .int .i64 (rdE s : Int)]) ∧ Ws w' A (rdV s).length g ∧ Reads g (rdV s) ∧ RdOut w.heap.size (.slice A (rdV s).length c) (rdV s) w' ∧ Below w.heap.size w w'
theorem k8 (s : ByteArray) (hs : s.size ≤ 16777215) (w : World) (hG : Gl w) : Calls Tryd.prog 8 #[.string s] w fun e w' => PW s w e w' := (c8 s hs w hG).mono fun e w' h => post_ws h
/-- of a text that was put: OK, and the same words -/
def PWb (n : Nat) (g : Nat → Wl) (w : World) (e : Ending) (w' : World) : Prop :=
  ∃ A c g', e = .returned (.tuple #[.slice A n c, .int .i64 0]) ∧ Ws w' A n g' ∧ AlikeW n g g' ∧ Below w.heap.size w w'
theorem k8b (g : Nat → Wl) (n : Nat) (h : ∀ k, k < n → lineP (g k)) (hl : ∀ k, k < n → ¬ longP (g k)) (h4 : n ≤ 400) (hs : (outN g n).size ≤ 16777215) (w : World) (hG : Gl w) :
    Calls Tryd.prog 8 #[.string (outN g n)] w fun e w' => PWb n g w e w' := by
  refine (k8 _ hs w hG).mono ?_
  rintro e w' ⟨A, c, g', he, hw, hr, -, hb⟩
  obtain ⟨m1, m2⟩ := back_maths g n h hl h4
  have hlen : (rdV (outN g n)).length = n := by rw [m2]; simp
  rw [hlen] at he hw
  rw [m1] at he
  rw [m2] at hr
  exact ⟨A, c, g', he, hw, back_alike g g' n hr, hb⟩
theorem ws_drew {w : World} {A : Option Addr} {n : Nat} {g : Nat → Wl} (h : Ws w A n g) (q : Nat) : Ws (w.drewN q) A n g := h.below (below_drewN (Below.refl _ _) q)
set_option maxRecDepth 100000 in
set_option maxHeartbeats 8000000 in
/-- behind the first half -/
theorem walk5 (A : Option Addr) (n c : Nat) (g : Nat → Wl) (s : ByteArray) {W : World} (hb : Wb W A n c g) (hs : s.size ≤ 16777215) (w : World) (hw : W = w) (hg : Gl w) :
    Calls Tryd.prog 5 #[.slice A n c, .string s] w fun e w' => e = .returned (.bool true) ∧ Below w.heap.size w w' := by
  subst hw
  obtain ⟨h1, h2, h3, h4, h5, h6⟩ := hb.out
  have hsz : (outN g n).size ≤ 1048576 := by have := outN_le g n; have := hb.2.2; omega
  have HWs := Lib.hid h1
  have HG := Lib.hid hg
  have K14 := Lib.hid (c14 A n c g W h1 h2 h3 h4 h5)
  have K8s := Lib.hid (k8 s hs)
  have KB : Hid ((∀ k, k < n → lineP (g k)) → (∀ k, k < n → ¬ longP (g k)) → n ≤ 400 → ∀ w : World, Gl w → Calls Tryd.prog 8 #[.string (outN g n)] w fun e w' => PWb n g w e w') := Lib.hid fun a b c w hG => k8b g n a b c (by omega) w hG
  have hn := rdV_len s
  have HRL : Hid (rdE s = 0 → ∀ g' : Nat → Wl, Reads g' (rdV s) → (∀ k, k < (rdV s).length → lineP (g' k)) ∧ sg g' (rdV s).length ≤ 8388608) := Lib.hid fun h0 g' hr => by
    have hh := read_line s h0 g' hr
    refine ⟨fun k hk => (hh k hk).1, ?_⟩
    have := sg_bound g' (rdV s).length (fun k hk => (hh k hk).2)
    omega
  have hE := rdE_cases s
  have hpc := putV_cases g n
  have HN : Hid (rdE s ≠ 0 → (rdV s).length = 0) := Lib.hid fun h => by rw [rdV_no s h]; rfl
  clear hb h1 h3 h4 h5 h6 hg hs
  unfold PW at K8s
  generalize rdE s = er at *
  generalize rdV s = R at *
  generalize hrl : R.length = rl at *
  have HRLn := Lib.hid hrl
  clear hrl
  rcases hpc with ⟨e1, he1, hp, -⟩ | ⟨hp, q1, q2, q3⟩
  · rw [hp] at K14
    have b0 : ((e1 : Int) == 0) = false := by rcases he1 with rfl | rfl <;> rfl
    clear hp he1
    go_enter Tryd.func5, Tryd.ntmps5
    go_wp2_with fail
    refine (K14.out).mono ?_
    rintro _ w1 ⟨rfl, b1⟩
    have HB1 := Lib.hid b1
    clear b1
    have HBz := HB1
    go_wp2_with fail
    refine (K8s.out _ (HG.out.below HBz.out)).mono ?_
    rintro _ w4 ⟨A4, c4, g4, rfl, hw4, hr4, -, b4⟩
    have HW4 := Lib.hid hw4
    have HR4 := Lib.hid hr4
    have HB4 := Lib.hid (HBz.out.trans (b4.mono HBz.out.size))
    clear hw4 hr4 b4
    by_cases h0 : er = 0
    · have b5 : ((er : Int) != 0) = false := by rw [h0]; rfl
      obtain ⟨hl4, hsg4⟩ := HRL.out h0 g4 HR4.out
      obtain ⟨o1, o2, o3⟩ := out_bounds g4 rl hsg4
      have HO1 := Lib.hid (o1 rl (Nat.le_refl _))
      have K14b := c14 A4 rl c4 g4 w4 HW4.out (by omega) (fun k hk => Nat.le_trans (o1 k hk) (by omega)) o2 o3
      have hpc2 := putV_cases g4 rl
      have HMY := Lib.hid (mayB_yes g4 rl hl4)
      clear o1 o2 o3 hl4 hsg4 h0
      rcases hpc2 with ⟨e2, he2, hp2, hm2⟩ | ⟨hp2, r1, r2, r3⟩
      · have he3 := hm2 HMY.out
        subst he3
        rw [hp2] at K14b
        have K14c : Hid (Calls Tryd.prog 14 #[.slice A4 rl c4] w4 fun e w' => e = .returned (.tuple #[.string ⟨#[]⟩, .int .i64 3]) ∧ Below w4.heap.size w4 w') := Lib.hid K14b
        clear hp2 hm2 K14b he2
        go_wp2_with fail
        refine (K14c.out).mono ?_
        rintro _ w5 ⟨rfl, b6⟩
        have HB5 := Lib.hid (HB4.out.trans (b6.mono HB4.out.size))
        clear b6
        go_wp2_with fail
        refine (c13 _ (HG.out.below HB5.out)).mono ?_
        rintro _ w6 ⟨rfl, b7⟩
        have HB6 := Lib.hid (HB5.out.trans (b7.mono HB5.out.size))
        clear b7
        go_wp2_with fail
        go_ret
        exact ⟨rfl, HB6.out⟩
      · rw [hp2] at K14b
        have K14c := Lib.hid K14b
        have KB2 := Lib.hid (k8b g4 rl r1 r2 r3 HO1.out)
        unfold PWb at KB2
        clear hp2 K14b r1 r2 r3
        generalize outN g4 rl = T2 at *
        go_wp2_with fail
        refine (K14c.out).mono ?_
        rintro _ w5 ⟨rfl, b6⟩
        have HB5 := Lib.hid (HB4.out.trans (b6.mono HB4.out.size))
        have HW5 := Lib.hid (HW4.out.below b6)
        clear b6
        go_wp2_with fail
        refine (KB2.out _ (HG.out.below HB5.out)).mono ?_
        rintro _ w6 ⟨A6, c6, g6, rfl, hw6, ha6, b7⟩
        have K16b := Lib.hid (c16 A4 A6 rl c4 c6 g4 g6 w6 (by omega) (HW5.out.below b7) hw6 ha6)
        have HB6 := Lib.hid (HB5.out.trans (b7.mono HB5.out.size))
        clear b7 hw6 ha6
        go_wp2_with fail
        refine (K16b.out).mono ?_
        rintro _ w7 ⟨rfl, q7, rfl⟩
        have HB7 := Lib.hid (below_drewN HB6.out q7)
        go_wp2_with fail
        refine (c13 _ (HG.out.below HB7.out)).mono ?_
        rintro _ w8 ⟨rfl, b8⟩
        have HB8 := Lib.hid (HB7.out.trans (b8.mono HB7.out.size))
        clear b8
        go_wp2_with fail
        go_ret
        exact ⟨rfl, HB8.out⟩
    · have hr0 := HN.out h0
      have b5 : ((er : Int) != 0) = true := by simp; omega
      have b6 : ((rl : Int) == 0) = true := by simp; omega
      clear h0 hr0
      go_wp2_with fail
      refine (c13 _ (HG.out.below HB4.out)).mono ?_
      rintro _ w6 ⟨rfl, b7⟩
      have HB6 := Lib.hid (HB4.out.trans (b7.mono HB4.out.size))
      clear b7
      go_wp2_with fail
      go_ret
      exact ⟨rfl, HB6.out⟩
  · rw [hp] at K14
    have KBB := Lib.hid (KB.out q1 q2 q3)
    unfold PWb at KBB
    have hn4 := q3
    clear hp q1 q2 q3
    generalize outN g n = T at *
    go_enter Tryd.func5, Tryd.ntmps5
    go_wp2_with fail
    refine (K14.out).mono ?_
    rintro _ w1 ⟨rfl, b1⟩
    have HB1 := Lib.hid b1
    clear b1
    go_wp2_with fail
    refine (KBB.out _ (HG.out.below HB1.out)).mono ?_
    rintro _ w2 ⟨A2, c2, g2, rfl, hw2, ha2, b2⟩
    have K16 := Lib.hid (c16 A A2 n c c2 g g2 w2 h2 ((HWs.out.below HB1.out).below b2) hw2 ha2)
    have HB2 := Lib.hid (HB1.out.trans (b2.mono HB1.out.size))
    clear b2 hw2 ha2
    go_wp2_with fail
    refine (K16.out).mono ?_
    rintro _ w3 ⟨rfl, q, rfl⟩
    have HBz := Lib.hid (below_drewN HB2.out q)
    go_wp2_with fail
    refine (K8s.out _ (HG.out.below HBz.out)).mono ?_
    rintro _ w4 ⟨A4, c4, g4, rfl, hw4, hr4, -, b4⟩
    have HW4 := Lib.hid hw4
    have HR4 := Lib.hid hr4
    have HB4 := Lib.hid (HBz.out.trans (b4.mono HBz.out.size))
    clear hw4 hr4 b4
    by_cases h0 : er = 0
    · have b5 : ((er : Int) != 0) = false := by rw [h0]; rfl
      obtain ⟨hl4, hsg4⟩ := HRL.out h0 g4 HR4.out
      obtain ⟨o1, o2, o3⟩ := out_bounds g4 rl hsg4
      have HO1 := Lib.hid (o1 rl (Nat.le_refl _))
      have K14b := c14 A4 rl c4 g4 w4 HW4.out (by omega) (fun k hk => Nat.le_trans (o1 k hk) (by omega)) o2 o3
      have hpc2 := putV_cases g4 rl
      have HMY := Lib.hid (mayB_yes g4 rl hl4)
      clear o1 o2 o3 hl4 hsg4 h0
      rcases hpc2 with ⟨e2, he2, hp2, hm2⟩ | ⟨hp2, r1, r2, r3⟩
      · have he3 := hm2 HMY.out
        subst he3
        rw [hp2] at K14b
        have K14c : Hid (Calls Tryd.prog 14 #[.slice A4 rl c4] w4 fun e w' => e = .returned (.tuple #[.string ⟨#[]⟩, .int .i64 3]) ∧ Below w4.heap.size w4 w') := Lib.hid K14b
        clear hp2 hm2 K14b he2
        go_wp2_with fail
        refine (K14c.out).mono ?_
        rintro _ w5 ⟨rfl, b6⟩
        have HB5 := Lib.hid (HB4.out.trans (b6.mono HB4.out.size))
        clear b6
        go_wp2_with fail
        refine (c13 _ (HG.out.below HB5.out)).mono ?_
        rintro _ w6 ⟨rfl, b7⟩
        have HB6 := Lib.hid (HB5.out.trans (b7.mono HB5.out.size))
        clear b7
        go_wp2_with fail
        go_ret
        exact ⟨rfl, HB6.out⟩
      · rw [hp2] at K14b
        have K14c := Lib.hid K14b
        have KB2 := Lib.hid (k8b g4 rl r1 r2 r3 HO1.out)
        unfold PWb at KB2
        clear hp2 K14b r1 r2 r3
        generalize outN g4 rl = T2 at *
        go_wp2_with fail
        refine (K14c.out).mono ?_
        rintro _ w5 ⟨rfl, b6⟩
        have HB5 := Lib.hid (HB4.out.trans (b6.mono HB4.out.size))
        have HW5 := Lib.hid (HW4.out.below b6)
        clear b6
        go_wp2_with fail
        refine (KB2.out _ (HG.out.below HB5.out)).mono ?_
        rintro _ w6 ⟨A6, c6, g6, rfl, hw6, ha6, b7⟩
        have K16b := Lib.hid (c16 A4 A6 rl c4 c6 g4 g6 w6 (by omega) (HW5.out.below b7) hw6 ha6)
        have HB6 := Lib.hid (HB5.out.trans (b7.mono HB5.out.size))
        clear b7 hw6 ha6
        go_wp2_with fail
        refine (K16b.out).mono ?_
        rintro _ w7 ⟨rfl, q7, rfl⟩
        have HB7 := Lib.hid (below_drewN HB6.out q7)
        go_wp2_with fail
        refine (c13 _ (HG.out.below HB7.out)).mono ?_
        rintro _ w8 ⟨rfl, b8⟩
        have HB8 := Lib.hid (HB7.out.trans (b8.mono HB7.out.size))
        clear b8
        go_wp2_with fail
        go_ret
        exact ⟨rfl, HB8.out⟩
    · have hr0 := HN.out h0
      have b5 : ((er : Int) != 0) = true := by simp; omega
      have b6 : ((rl : Int) == 0) = true := by simp; omega
      clear h0 hr0
      go_wp2_with fail
      refine (c13 _ (HG.out.below HB4.out)).mono ?_
      rintro _ w6 ⟨rfl, b7⟩
      have HB6 := Lib.hid (HB4.out.trans (b7.mono HB4.out.size))
      clear b7
      go_wp2_with fail
      go_ret
      exact ⟨rfl, HB6.out⟩
end Go.Proofs.YtlomlgmajcdccaaDoor
