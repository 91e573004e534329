import Derived.Test.YtgmifaadlaigdaaGreatDoorT
import Derived.Test.YtgmifaadlaigdaaGreatDoorOn
namespace Go.Proofs.YtgmifaadlaigdaaGreatDoor
open Go.ChangeShapes Go.WideShapes Go.ChangeAt Go.RowKit
set_option linter.unusedVariables false
set_option maxRecDepth 100000 in
set_option maxHeartbeats 8000000 in
/-- ArPuts -/
theorem walk3 (A B : Option Addr) (n c m d : Nat) (g : Nat → Mem) (x : Nat → Ix) (w : World) (hA : Ms w A n g) (hB : Is w B m x) (hz : Nz g n) (hg : Gl w) (hn : n ≤ 1073741824) (hm : m ≤ 1073741824)
    (hx : lgN x m ≤ 16777216) (hb : endN g (begN x m) n ≤ 1099511627776) : Calls Tryz.prog 3 #[.slice A n c, .slice B m d] w fun e w' => e = .returned (.bool true) ∧ Below w.heap.size w w' := by
  have K8 := Lib.hid (c8 A B n c m d g x w hA hB hz hg hn hm hx hb)
  have K9 : Hid (∀ w1, Below w.heap.size w w1 → Calls Tryz.prog 9 #[.slice A n c, .slice B m d] w1 (PutOut g x n m w1)) := Lib.hid (fun w1 h => c9 A B n c m d g x w1 (hA.below h) (hB.below h) hz hn hm hx hb)
  have K11 : Hid (∀ w1, Below w.heap.size w w1 → Calls Tryz.prog 11 #[] w1 fun e w' => e = .returned (.bool true) ∧ Below w1.heap.size w1 w') := Lib.hid (fun w1 h => c11 w1 (hg.below h))
  have K10n : Hid (∀ w1, Calls Tryz.prog 10 #[.slice none 0 0, .slice none 0 0] w1 fun e w' => e = .returned (.bool true) ∧ ∃ q, w' = w1.drewN q) := Lib.hid (fun w1 => c10 none none 0 0 0 (fun _ => 0) (fun _ => 0) w1 (by decide) (fun h => absurd h (by decide)) (fun h => absurd h (by decide)) (fun _ _ => rfl))
  have HXB := Lib.hid hx
  clear hA hB hz hg hx hb
  go_enter Tryz.func3, Tryz.ntmps3
  go_wp2_with fail
  refine K8.out.mono ?_
  rintro e1 w1 (⟨h1, rfl, hb1⟩ | ⟨h1, h2, rfl, hb1⟩ | ⟨h1, h2, ⟨b, cc, rfl, hcc, hlb, hbs⟩, hb1⟩)
  · have HB1 := Lib.hid hb1
    have H1 := Lib.hid h1
    clear hb1 h1
    go_wp2_with fail
    refine (K9.out _ HB1.out).mono ?_
    rintro e2 w2 (⟨k1, rfl, hb2⟩ | ⟨k1, _⟩ | ⟨k1, _⟩)
    · have HB2 : Hid (Below w.heap.size w w2) := Lib.hid (HB1.out.trans (hb2.mono HB1.out.size))
      clear hb2 k1
      go_wp2_with fail
      refine (K10n.out _).mono ?_
      rintro _ _ ⟨rfl, q, rfl⟩
      have HB3 := Lib.hid (below_drewN HB2.out q)
      go_wp2_with fail
      refine (K11.out _ HB3.out).mono ?_
      rintro _ w4 ⟨rfl, hb4⟩
      have HB4 : Hid (Below w.heap.size w w4) := Lib.hid (HB3.out.trans (hb4.mono HB3.out.size))
      clear hb4
      go_wp2_with fail
      go_ret
      exact ⟨rfl, HB4.out⟩
    · exact absurd k1 H1.out
    · exact absurd k1 H1.out
  · have HB1 := Lib.hid hb1
    have H1 := Lib.hid h1
    have H2 := Lib.hid h2
    clear hb1 h1 h2
    go_wp2_with fail
    refine (K9.out _ HB1.out).mono ?_
    rintro e2 w2 (⟨k1, _⟩ | ⟨k1, k2, rfl, hb2⟩ | ⟨k1, k2, _⟩)
    · exact absurd H1.out k1
    · have HB2 : Hid (Below w.heap.size w w2) := Lib.hid (HB1.out.trans (hb2.mono HB1.out.size))
      clear hb2 k1 k2
      go_wp2_with fail
      refine (K10n.out _).mono ?_
      rintro _ _ ⟨rfl, q, rfl⟩
      have HB3 := Lib.hid (below_drewN HB2.out q)
      go_wp2_with fail
      refine (K11.out _ HB3.out).mono ?_
      rintro _ w4 ⟨rfl, hb4⟩
      have HB4 : Hid (Below w.heap.size w w4) := Lib.hid (HB3.out.trans (hb4.mono HB3.out.size))
      clear hb4
      go_wp2_with fail
      go_ret
      exact ⟨rfl, HB4.out⟩
    · have := H2.out; omega
  · have HB1 := Lib.hid hb1
    have H1 := Lib.hid h1
    have H2 := Lib.hid h2
    have HBS := Lib.hid hbs
    clear hb1 h1 h2 hbs
    go_wp2_with fail
    refine (K9.out _ HB1.out).mono ?_
    rintro e2 w2 (⟨k1, _⟩ | ⟨k1, k2, _⟩ | ⟨k1, k2, ⟨b', c', rfl, hcc', hlb', hbs'⟩, hb2⟩)
    · exact absurd H1.out k1
    · have := H2.out; omega
    · have HB2 : Hid (Below w.heap.size w w2) := Lib.hid (HB1.out.trans (hb2.mono HB1.out.size))
      have hsz : (arB g x n m).size ≤ 9223372036854775807 := by
        have h15 : ∀ i, i < n → (g i).nm.size ≤ 15 ∧ (g i).n < 10000000000 := fun i hi => by
          have q1 := (H1.out.1 i hi).1
          unfold nmB at q1
          have q2 := endN_le g (begN x m) (show i + 1 ≤ n from hi)
          rw [endN] at q2
          have q3 := H2.out
          exact ⟨(of_decide_eq_true q1).1.2, by omega⟩
        have hix : ixS x m < 10000000000 := by have := HXB.out; unfold ixS; omega
        rw [arB_size g x n m hix h15]
        have := H2.out
        omega
      have K10 := Lib.hid (c10 (some ⟨b, 0, none⟩) (some ⟨b', 0, none⟩) (arB g x n m).size cc c' (bb (arB g x n m)) (bb (arB g x n m)) w2 hsz (fun _ => ⟨b, 0, rfl, HBS.out.below hb2⟩) (fun _ => ⟨b', 0, rfl, hbs'⟩) (fun _ _ => rfl))
      clear hb2 k1 k2 hbs' hsz
      generalize (arB g x n m).size = N at *
      go_wp2_with fail
      refine K10.out.mono ?_
      rintro _ _ ⟨rfl, q, rfl⟩
      have HB3 := Lib.hid (below_drewN HB2.out q)
      go_wp2_with fail
      refine (K11.out _ HB3.out).mono ?_
      rintro _ w4 ⟨rfl, hb4⟩
      have HB4 : Hid (Below w.heap.size w w4) := Lib.hid (HB3.out.trans (hb4.mono HB3.out.size))
      clear hb4
      go_wp2_with fail
      go_ret
      exact ⟨rfl, HB4.out⟩
end Go.Proofs.YtgmifaadlaigdaaGreatDoor
