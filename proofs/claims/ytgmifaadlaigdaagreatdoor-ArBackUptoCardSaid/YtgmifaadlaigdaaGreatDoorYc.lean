import Derived.Test.YtgmifaadlaigdaaGreatDoorYb
namespace Go.Proofs.YtgmifaadlaigdaaGreatDoor
open Go.ChangeShapes Go.WideShapes Go.ChangeAt Go.RowKit
set_option linter.unusedVariables false
/-- what is put is read -/
theorem read_back {g : Nat → Mem} {x : Nat → Ix} {n m : Nat} {w w' : World} {e : Ending} (h : ReadOut (arB g x n m) w e w') (hok : MemsOk g n ∧ IxsOk x n m) (hen : endN g (begN x m) n ≤ 65536) (hf : ∀ k, k < n → ∀ j, j < (g k).n → (g k).f j < 256) :
    ∃ A c B d G X, e = .returned (.tuple #[.slice A n c, .slice B m d, .int .i64 0]) ∧ Ms w' A n G ∧ SameM n g G ∧ Is w' B m X ∧ (∀ k, k < m → x k = X k) ∧ Below w.heap.size w w' := by
  obtain ⟨hgood, hi1, hcn, hpc, hix⟩ := ar_good g x n m hok hen
  rcases h with ⟨er, h1, _⟩ | ⟨k, h1, A, c, B, d, G, X, he, hms, hmm, his, hxs, hb⟩
  · exact absurd h1 (fun q => read_not hgood q)
  · obtain rfl := read_uniq h1 hgood
    have hk : n + hasI m - hasI m = n := by omega
    rw [hi1, hk] at hms hmm
    rw [hi1, hk, hcn] at he
    rw [hcn] at his
    refine ⟨A, c, B, d, G, X, he, hms, fun i hi => ?_, his, fun i hi => ?_, hb⟩
    · obtain ⟨q1, q2, q3, _⟩ := hmm i hi
      obtain ⟨p1, p2⟩ := hpc i hi
      have q1' : (G i).nm = nmS (pcS (arB g x n m) (i + hasI m)).nm := q1
      have q2' : (G i).n = (pcS (arB g x n m) (i + hasI m)).body.size := q2
      have q3' : ∀ j, j < (G i).n → (G i).f j = bb (pcS (arB g x n m) (i + hasI m)).body j := q3
      rw [p2, strN_size] at q2'
      refine ⟨by rw [q1', p1], q2'.symm, fun j hj => ?_⟩
      rw [q3' j (by omega), p2, bb_strN _ _ _ hj (hf i hi j hj)]
    · have h0 : 0 < m := by omega
      have hz : hasI m = 1 := by unfold hasI; rw [if_neg (by omega)]
      have hxx := hxs (by rw [hi1, hz])
      rw [hcn] at hxx
      obtain ⟨q1, j, q2, q3, q4⟩ := hxx i hi
      obtain ⟨p1, p2⟩ := hix h0 i hi
      have q4' : (pcS (arB g x n m) (j + 1)).at' = bigN (bb (pcS (arB g x n m) 0).body) (4 + 4 * i) := q4
      rw [p1] at q1
      rw [← p2] at q4'
      have hj : j = (x i).m.toNat := by
        rcases Nat.lt_trichotomy j (x i).m.toNat with q | q | q
        · have := pcs_at_lt (arB g x n m) (show j + 1 < (x i).m.toNat + 1 by omega); omega
        · exact q
        · have := pcs_at_lt (arB g x n m) (show (x i).m.toNat + 1 < j + 1 by omega); omega
      have hpos := (hok.2 i hi).1
      have hm2 : (X i).m = (x i).m := by rw [q2, hj]; omega
      cases hx1 : x i with
      | mk a b =>
        cases hx2 : X i with
        | mk a' b' =>
          rw [hx1, hx2] at q1 hm2
          simp only at q1 hm2
          rw [q1, hm2]
set_option maxRecDepth 100000 in
set_option maxHeartbeats 8000000 in
/-- ArBack -/
theorem walk5 (A B : Option Addr) (n c m d : Nat) (g : Nat → Mem) (x : Nat → Ix) (w : World) (hA : Ms w A n g) (hB : Is w B m x) (hz : Nz g n) (hg : Gl w) (hn : n ≤ 1073741824) (hm : m ≤ 1073741824)
    (hx : lgN x m ≤ 16777216) (hb : endN g (begN x m) n ≤ 1099511627776) : Calls Tryz.prog 5 #[.slice A n c, .slice B m d] w fun e w' => e = .returned (.bool true) ∧ Below w.heap.size w w' := by
  have K8 := Lib.hid (c8 A B n c m d g x w hA hB hz hg hn hm hx hb)
  have K11 : Hid (∀ w1, Below w.heap.size w w1 → Calls Tryz.prog 11 #[] w1 fun e w' => e = .returned (.bool true) ∧ Below w1.heap.size w1 w') := Lib.hid (fun w1 h => c11 w1 (hg.below h))
  have HG := Lib.hid hg
  have HF : Hid (∀ k, k < n → ∀ j, j < (g k).n → (g k).f j < 256) := Lib.hid (fun k hk j hj => by
    obtain ⟨b, o, _, _, hc⟩ := hA (by omega)
    obtain ⟨_, _, h3, _⟩ := hc k hk
    obtain ⟨_, _, _, h4⟩ := h3 (by omega)
    exact (h4.2 j hj).1)
  have HA := Lib.hid hA
  have HB := Lib.hid hB
  clear hA hB hz hg hx hb
  go_enter Tryz.func5, Tryz.ntmps5
  go_wp2_with fail
  refine K8.out.mono ?_
  rintro e1 w1 (⟨h1, rfl, hb1⟩ | ⟨h1, h2, rfl, hb1⟩ | ⟨h1, h2, ⟨b, cc, rfl, hcc, hlb, hbs⟩, hb1⟩)
  · have HB1 := Lib.hid hb1
    clear hb1 h1
    go_wp2_with fail
    refine (K11.out _ HB1.out).mono ?_
    rintro _ w4 ⟨rfl, hb4⟩
    have HB4 : Hid (Below w.heap.size w w4) := Lib.hid (HB1.out.trans (hb4.mono HB1.out.size))
    clear hb4
    go_wp2_with fail
    go_ret
    exact ⟨rfl, HB4.out⟩
  · have HB1 := Lib.hid hb1
    clear hb1 h1 h2
    go_wp2_with fail
    refine (K11.out _ HB1.out).mono ?_
    rintro _ w4 ⟨rfl, hb4⟩
    have HB4 : Hid (Below w.heap.size w w4) := Lib.hid (HB1.out.trans (hb4.mono HB1.out.size))
    clear hb4
    go_wp2_with fail
    go_ret
    exact ⟨rfl, HB4.out⟩
  · have HB1 := Lib.hid hb1
    have hsz : (arB g x n m).size ≤ 65536 := by
      have := (ar_good g x n m h1 h2).1.1
      exact this
    have K13 := Lib.hid (c13 (some ⟨b, 0, none⟩) (arB g x n m).size cc (bb (arB g x n m)) w1 (fun _ => ⟨b, 0, rfl, hbs⟩) (by omega) (HG.out.below HB1.out))
    rw [strN_bb] at K13
    have hn6 : n ≤ 65536 := Nat.le_trans (endN_n g (begN x m) n) h2
    have hm6 : m ≤ 65536 := by
      have h3 := endN_le g (begN x m) (Nat.zero_le n)
      rw [endN] at h3
      by_cases h0 : m = 0
      · omega
      · have hb2 : begN x m = 68 + ixS x m := by unfold begN; rw [if_neg h0]
        unfold ixS at hb2
        omega
    have HRB : Hid (∀ e w', ReadOut (arB g x n m) w1 e w' → ∃ A c B d G X, e = .returned (.tuple #[.slice A n c, .slice B m d, .int .i64 0]) ∧ Ms w' A n G ∧ SameM n g G ∧ Is w' B m X ∧ (∀ k, k < m → x k = X k) ∧ Below w1.heap.size w1 w') := Lib.hid (fun e w' h => read_back h h1 h2 HF.out)
    clear hb1 h1 h2 hbs
    generalize (arB g x n m).size = N at *
    go_wp2_with fail
    refine K13.out.mono ?_
    intro e2 w2 h
    obtain ⟨A2, c2, B2, d2, G, X, rfl, hms, hsm, his, hxx, hb2⟩ := HRB.out e2 w2 h
    have HB2 : Hid (Below w.heap.size w w2) := Lib.hid (HB1.out.trans (hb2.mono HB1.out.size))
    have K15 := Lib.hid (c15 A A2 n c c2 g G w2 (by omega) (HA.out.below HB2.out) hms hsm)
    have K16 := Lib.hid (c16 B B2 m d d2 x X)
    have HIS := Lib.hid his
    have HXX := Lib.hid hxx
    clear hb2 h hms hsm his hxx
    go_wp2_with fail
    refine K15.out.mono ?_
    rintro _ _ ⟨rfl, q, rfl⟩
    have HBQ : Hid (Below w2.heap.size w2 (w2.drewN q)) := Lib.hid (below_drewN (Below.refl _ _) q)
    have HB3 := Lib.hid (below_drewN HB2.out q)
    go_wp2_with fail
    refine (K16.out _ (by omega) (HB.out.below HB3.out) (HIS.out.below HBQ.out) HXX.out).mono ?_
    rintro _ w4 h16
    have HB4 : Hid (Below w.heap.size w w4) := Lib.hid (by obtain ⟨_, q4, rfl⟩ := h16; exact below_drewN HB3.out q4)
    obtain ⟨rfl, -⟩ := h16
    go_wp2_with fail
    refine (K11.out _ HB4.out).mono ?_
    rintro _ w5 ⟨rfl, hb5⟩
    have HB5 : Hid (Below w.heap.size w w5) := Lib.hid (HB4.out.trans (hb5.mono HB4.out.size))
    clear hb5
    go_wp2_with fail
    go_ret
    exact ⟨rfl, HB5.out⟩
end Go.Proofs.YtgmifaadlaigdaaGreatDoor
