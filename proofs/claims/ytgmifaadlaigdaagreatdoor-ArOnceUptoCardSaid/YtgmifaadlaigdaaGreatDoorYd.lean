import Derived.Test.YtgmifaadlaigdaaGreatDoorYc
import Derived.Test.YtgmifaadlaigdaaGreatDoorYd0
namespace Go.Proofs.YtgmifaadlaigdaaGreatDoor
open Go.ChangeShapes Go.WideShapes Go.ChangeAt Go.RowKit
set_option linter.unusedVariables false
set_option maxRecDepth 100000 in
set_option maxHeartbeats 8000000 in
/-- ArOnce -/
theorem walk6 (A : Option Addr) (n c : Nat) (f : Nat → Nat) (w : World) (hB : Bz w A n f) (hn : n ≤ 4611686018427387904) (hg : Gl w) : Calls Tryz.prog 6 #[.slice A n c] w fun e w' => e = .returned (.bool true) ∧ Below w.heap.size w w' := by
  have K13 := Lib.hid (c13 A n c f w hB hn hg)
  have K11 : Hid (∀ w1, Below w.heap.size w w1 → Calls Tryz.prog 11 #[] w1 fun e w' => e = .returned (.bool true) ∧ Below w1.heap.size w1 w') := Lib.hid (fun w1 h => c11 w1 (hg.below h))
  have HG := Lib.hid hg
  clear hB hg
  generalize strN f n = s at K13
  go_enter Tryz.func6, Tryz.ntmps6
  go_wp2_with fail
  refine K13.out.mono ?_
  rintro e1 w1 (⟨er, her, rfl, hb1⟩ | ⟨k, hgd, A1, c1, B1, d1, g, x, rfl, hms, hmm, his, hxs, hb1⟩)
  · have HB1 := Lib.hid hb1
    have he0 := (err_ne her).1
    clear hb1 her
    go_wp2_with fail
    refine (K11.out _ HB1.out).mono ?_
    rintro _ w4 ⟨rfl, hb4⟩
    have HB4 : Hid (Below w.heap.size w w4) := Lib.hid (HB1.out.trans (hb4.mono HB1.out.size))
    clear hb4
    go_wp2_with fail
    go_ret
    exact ⟨rfl, HB4.out⟩
  · have HB1 := Lib.hid hb1
    obtain ⟨hok, hlg, hcn, hkn, hen⟩ := once_ok hgd hmm hxs
    have hnz : Nz g (k - ix1 s k) := fun i hi e => absurd e (hmm i hi).2.2.2
    clear hgd
    generalize k - ix1 s k = n1 at *
    generalize cntR s k = m1 at *
    have K8 := Lib.hid (c8 A1 B1 n1 c1 m1 d1 g x w1 hms his hnz (HG.out.below HB1.out) (by omega) (by omega) (by omega) (by omega))
    have HF : Hid (∀ k, k < n1 → ∀ j, j < (g k).n → (g k).f j < 256) := Lib.hid (fun k hk j hj => by
      obtain ⟨b, o, _, _, hc⟩ := hms (by omega)
      obtain ⟨_, _, h3, _⟩ := hc k hk
      obtain ⟨_, _, _, h4⟩ := h3 (by omega)
      exact (h4.2 j hj).1)
    have HMS := Lib.hid hms
    have HIS := Lib.hid his
    have HOK := Lib.hid hok
    have HLG := Lib.hid hlg
    have HEN := Lib.hid hen
    clear hb1 hms hmm his hxs hok hlg hen hnz K13
    go_wp2_with fail
    refine K8.out.mono ?_
    rintro e2 w2 (⟨h1, _⟩ | ⟨h1, h2, rfl, hb2⟩ | ⟨h1, h2, ⟨b, cc, rfl, hcc, hlb, hbs⟩, hb2⟩)
    · exact absurd HOK.out h1
    · have HB2 : Hid (Below w.heap.size w w2) := Lib.hid (HB1.out.trans (hb2.mono HB1.out.size))
      clear hb2 h1 h2
      go_wp2_with fail
      refine (K11.out _ HB2.out).mono ?_
      rintro _ w4 ⟨rfl, hb4⟩
      have HB4 : Hid (Below w.heap.size w w4) := Lib.hid (HB2.out.trans (hb4.mono HB2.out.size))
      clear hb4
      go_wp2_with fail
      go_ret
      exact ⟨rfl, HB4.out⟩
    · have HW2 := Lib.hid hb2
      have HB2 : Hid (Below w.heap.size w w2) := Lib.hid (HB1.out.trans (hb2.mono HB1.out.size))
      have hsz : (arB g x n1 m1).size ≤ 65536 := (ar_good g x n1 m1 h1 h2).1.1
      have K13 := Lib.hid (c13 (some ⟨b, 0, none⟩) (arB g x n1 m1).size cc (bb (arB g x n1 m1)) w2 (fun _ => ⟨b, 0, rfl, hbs⟩) (by omega) (HG.out.below HB2.out))
      rw [strN_bb] at K13
      have HRB : Hid (∀ e w', ReadOut (arB g x n1 m1) w2 e w' → ∃ A c B d G X, e = .returned (.tuple #[.slice A n1 c, .slice B m1 d, .int .i64 0]) ∧ Ms w' A n1 G ∧ SameM n1 g G ∧ Is w' B m1 X ∧ (∀ k, k < m1 → x k = X k) ∧ Below w2.heap.size w2 w') := Lib.hid (fun e w' h => read_back h h1 h2 HF.out)
      clear hb2 h1 h2 hbs
      generalize (arB g x n1 m1).size = N at *
      go_wp2_with fail
      refine K13.out.mono ?_
      intro e3 w3 h
      obtain ⟨A2, c2, B2, d2, G, X, rfl, hms, hsm, his, hxx, hb3⟩ := HRB.out e3 w3 h
      have HW3 : Hid (Below w1.heap.size w1 w3) := Lib.hid (HW2.out.trans (hb3.mono HW2.out.size))
      have HB3 : Hid (Below w.heap.size w w3) := Lib.hid (HB2.out.trans (hb3.mono HB2.out.size))
      have K15 := Lib.hid (c15 A1 A2 n1 c1 c2 g G w3 (by omega) (HMS.out.below HW3.out) hms hsm)
      have K16 := Lib.hid (c16 B1 B2 m1 d1 d2 x X)
      have HIS2 := Lib.hid his
      have HXX := Lib.hid hxx
      clear hb3 h hms hsm his hxx
      go_wp2_with fail
      refine K15.out.mono ?_
      rintro _ _ ⟨rfl, q, rfl⟩
      have HBQ : Hid (Below w3.heap.size w3 (w3.drewN q)) := Lib.hid (below_drewN (Below.refl _ _) q)
      have HBQ1 : Hid (Below w1.heap.size w1 (w3.drewN q)) := Lib.hid (below_drewN HW3.out q)
      have HB4 := Lib.hid (below_drewN HB3.out q)
      go_wp2_with fail
      refine (K16.out _ (by omega) (HIS.out.below HBQ1.out) (HIS2.out.below HBQ.out) HXX.out).mono ?_
      rintro _ w4 h16
      have HB5 : Hid (Below w.heap.size w w4) := Lib.hid (by obtain ⟨_, q4, rfl⟩ := h16; exact below_drewN HB4.out q4)
      obtain ⟨rfl, -⟩ := h16
      go_wp2_with fail
      refine (K11.out _ HB5.out).mono ?_
      rintro _ w5 ⟨rfl, hb5⟩
      have HB6 : Hid (Below w.heap.size w w5) := Lib.hid (HB5.out.trans (hb5.mono HB5.out.size))
      clear hb5
      go_wp2_with fail
      go_ret
      exact ⟨rfl, HB6.out⟩
end Go.Proofs.YtgmifaadlaigdaaGreatDoor
