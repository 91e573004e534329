import Derived.Test.YtgmifaadlaigdaaGreatDoorS
import Derived.Test.YtgmifaadlaigdaaGreatDoorQm
import Derived.Test.YtgmifaadlaigdaaGreatDoorOi
namespace Go.Proofs.YtgmifaadlaigdaaGreatDoor
open Go.ChangeShapes Go.WideShapes Go.ChangeAt Go.RowKit
set_option linter.unusedVariables false
theorem read_not {s : ByteArray} {k er : Nat} (hg : ReadGood s k) (he : ReadErr s er) : False := by
  obtain ⟨h1, h2, h3, h4, h5⟩ := hg
  rcases he with ⟨q, _⟩ | ⟨_, ⟨q, _⟩ | ⟨_, ⟨q, _⟩ | ⟨_, l, ⟨q, _⟩ | ⟨q, r, _⟩⟩⟩⟩
  · omega
  · omega
  · exact q h3
  · exact absurd (parts_uniq h4 q).2 (by decide)
  · obtain ⟨rfl, _⟩ := parts_uniq h4 q
    exact r h5
theorem read_uniq {s : ByteArray} {k l : Nat} (hg : ReadGood s k) (hl : ReadGood s l) : k = l := (parts_uniq hg.2.2.2.1 hl.2.2.2.1).1
theorem put_good {g : Nat → Mem} {x : Nat → Ix} {n m : Nat} {w w' : World} {e : Ending} (h : PutOut g x n m w e w') (hok : MemsOk g n ∧ IxsOk x n m) (hen : endN g (begN x m) n ≤ 65536) :
    (∃ b c, e = .returned (.tuple #[.slice (some ⟨b, 0, none⟩) (arB g x n m).size c, .int .i64 0]) ∧ (arB g x n m).size ≤ c ∧ w.heap.size ≤ b ∧ Bs w' b 0 (arB g x n m).size (bb (arB g x n m))) ∧ Below w.heap.size w w' := by
  rcases h with ⟨h1, _⟩ | ⟨_, h1, _⟩ | ⟨_, _, h1, h2⟩
  · exact absurd hok h1
  · omega
  · exact ⟨h1, h2⟩
theorem put_no {g : Nat → Mem} {x : Nat → Ix} {n m : Nat} {w w' : World} {e : Ending} (h : PutOut g x n m w e w') (hok : ¬ (MemsOk g n ∧ IxsOk x n m)) : e = .returned (.tuple #[.slice none 0 0, .int .i64 2]) ∧ Below w.heap.size w w' := by
  rcases h with ⟨_, h1, h2⟩ | ⟨h1, _⟩ | ⟨h1, _⟩
  · exact ⟨h1, h2⟩
  · exact absurd h1 hok
  · exact absurd h1 hok
/-- Put in lives -/
theorem k8a (w : World) (b1 b2 b3 : Nat) (hg : Gl w) (h1 : w.cell? ⟨b1, 0, none⟩ = some (.int .u8 7)) (hl1 : b1 < w.heap.size) (h2 : w.cell? ⟨b2, 0, none⟩ = some (.string ⟨#[97]⟩)) (h3 : w.cell? ⟨b2, 1, none⟩ = some (.slice (some ⟨b1, 0, none⟩) 1 1)) (hl2 : b2 < w.heap.size)
    (h4 : w.cell? ⟨b3, 0, none⟩ = some (.string ⟨#[102]⟩)) (h5 : w.cell? ⟨b3, 1, none⟩ = some (.int .i64 0)) (hl3 : b3 < w.heap.size) :
    Ms w (some ⟨b2, 0, none⟩) 1 (g0 b1) ∧ Calls Tryz.prog 8 #[.slice (some ⟨b2, 0, none⟩) 1 1, .slice (some ⟨b3, 0, none⟩) 1 1] w fun e w' => ∃ b c, e = .returned (.tuple #[.slice (some ⟨b, 0, none⟩) 139 c, .int .i64 0]) ∧ Bs w' b 0 139 (bb ar0) ∧ Below w.heap.size w w' := by
  have hA : Ms w (some ⟨b2, 0, none⟩) 1 (g0 b1) := fun _ => ⟨b2, 0, rfl, hl2, fun k hk => by
    obtain rfl : k = 0 := by omega
    exact ⟨h2, h3, fun _ => ⟨b1, 0, rfl, hl1, fun j hj => ⟨(show (7 : Nat) < 256 by decide), by
      have hj' : j < 1 := hj
      obtain rfl : j = 0 := by omega
      exact h1⟩⟩, (show (1 : Nat) ≤ 9223372036854775807 by decide), (show (1 : Nat) ≤ 1 by decide), (show (1 : Nat) ≤ 9223372036854775807 by decide)⟩⟩
  have hB : Is w (some ⟨b3, 0, none⟩) 1 x0 := fun _ => ⟨b3, 0, rfl, hl3, fun k hk => by
    obtain rfl : k = 0 := by omega
    exact ⟨h4, h5, (show (1 : Nat) ≤ 9223372036854775807 by decide), (show (-9223372036854775808 : Int) ≤ 0 by decide), (show (0 : Int) ≤ 9223372036854775807 by decide)⟩⟩
  refine ⟨hA, (c8 (some ⟨b2, 0, none⟩) (some ⟨b3, 0, none⟩) 1 1 1 1 (g0 b1) x0 w hA hB (fun k _ e => by cases e) hg (by decide) (by decide) (show (2 : Nat) ≤ 16777216 by decide) (by rw [end0]; decide)).mono fun e w' h => ?_⟩
  obtain ⟨⟨b, c, he, _, _, hbs⟩, hb⟩ := put_good h ⟨mems0 b1, ixs0⟩ (by rw [end0]; decide)
  rw [arB0, ar0_size] at he hbs
  exact ⟨b, c, he, hbs, hb⟩
theorem read0 {w w' : World} {e : Ending} (h : ReadOut ar0 w e w') (b1 : Nat) : ∃ A c B d g x, e = .returned (.tuple #[.slice A 1 c, .slice B 1 d, .int .i64 0]) ∧ Ms w' A 1 g ∧ SameM 1 g (g0 b1) ∧ Is w' B 1 x ∧ x 0 = ⟨⟨#[102]⟩, 0⟩ ∧ Below w.heap.size w w' := by
  rcases h with ⟨er, h1, _⟩ | ⟨k, h1, A, c, B, d, g, x, he, hm, hs, hi, hx, hb⟩
  · exact absurd h1 (fun q => read_not rgood0 q)
  · obtain rfl := read_uniq h1 rgood0
    rw [ix0, cnt0] at he
    rw [ix0] at hm hs
    rw [cnt0] at hi
    have hx := hx ix0
    rw [cnt0] at hx
    refine ⟨A, c, B, d, g, x, he, hm, fun i h0 => ?_, hi, ?_, hb⟩
    · obtain rfl : i = 0 := by omega
      obtain ⟨q1, q2, q3, _⟩ := hs 0 (by decide)
      have p1' : (pcS ar0 1).body = ⟨#[7]⟩ := body0
      have q2' : (g 0).n = (pcS ar0 1).body.size := q2
      have q3' : ∀ j, j < (g 0).n → (g 0).f j = bb (pcS ar0 1).body j := q3
      have q1' : (g 0).nm = nmS (pcS ar0 1).nm := q1
      rw [body0] at q2' q3'
      rw [nm0] at q1'
      refine ⟨q1', q2', fun j hj => ?_⟩
      rw [q3' j hj]
      have hj2 : j < 1 := by rw [q2'] at hj; exact hj
      obtain rfl : j = 0 := by omega
      rfl
    · obtain ⟨q1, j, q2, q3, _⟩ := hx 0 (by decide)
      have e2 : (pcS ar0 0).body.extract (np (bb (pcS ar0 0).body) (pcS ar0 0).body.size 0) (zN (bb (pcS ar0 0).body) (pcS ar0 0).body.size (np (bb (pcS ar0 0).body) (pcS ar0 0).body.size 0)) = ⟨#[102]⟩ := by
        rw [p0]
        kernel_rfl
      have q1' : (x 0).nm = ⟨#[102]⟩ := q1.trans e2
      have q3' : j < 1 := q3
      obtain rfl : j = 0 := by omega
      have q2' : (x 0).m = 0 := q2
      cases hxx : x 0 with
      | mk a b =>
        rw [hxx] at q1' q2'
        simp only at q1' q2'
        rw [q1', q2']
theorem read_nil {w w' : World} {e : Ending} (h : ReadOut ⟨#[]⟩ w e w') : e = .returned (.tuple #[.slice none 0 0, .slice none 0 0, .int .i64 4]) ∧ Below w.heap.size w w' := by
  rcases h with ⟨er, h1, h2, h3⟩ | ⟨k, h1, _⟩
  · rcases h1 with ⟨q, _⟩ | ⟨_, ⟨_, rfl⟩ | ⟨q, _⟩⟩
    · exact absurd q (by decide)
    · exact ⟨h2, h3⟩
    · exact absurd q (by decide)
  · exact absurd h1.2.1 (by decide)
theorem c_last (w : World) (cs : Array Value) (t : TypeId) (N j : Nat) (hN : N = w.heap.size) (v : Value) (h : cs[j]? = some v) : (w.alloc (.cells cs t)).cell? ⟨N, j, none⟩ = some v := by
  subst hN
  rw [World.cell?_alloc_new]; exact h
theorem c_old (w : World) (o : Obj) (b j : Nat) (v : Value) (h : w.cell? ⟨b, j, none⟩ = some v) : (w.alloc o).cell? ⟨b, j, none⟩ = some v := by
  rw [((Below.refl w.heap.size w).alloc (Nat.le_refl _) o).cell (p := ⟨b, j, none⟩) (World.block_lt_of_cell? w _ h)]; exact h
theorem ar_str : strN (bb ar0) 139 = ar0 := by
  have := strN_bb ar0
  rw [ar0_size] at this
  exact this
def g1 : Nat → Mem := fun _ => ⟨⟨#[97, 47]⟩, none, 0, 0, fun _ => 0⟩
theorem mems1 : ¬ MemsOk g1 1 := fun h => by
  have h1 : nmB ⟨#[97, 47]⟩ = true := (h 0 (by decide)).1
  unfold nmB at h1
  have h2 := (of_decide_eq_true h1).2 1 (by decide)
  exact absurd h2 (by decide)
theorem k8b (w : World) (b : Nat) (hg : Gl w) (h1 : w.cell? ⟨b, 0, none⟩ = some (.string ⟨#[97, 47]⟩)) (h2 : w.cell? ⟨b, 1, none⟩ = some (.slice none 0 0)) (hl : b < w.heap.size) :
    Calls Tryz.prog 8 #[.slice (some ⟨b, 0, none⟩) 1 1, .slice none 0 0] w fun e w' => e = .returned (.tuple #[.slice none 0 0, .int .i64 2]) ∧ Below w.heap.size w w' := by
  have hA : Ms w (some ⟨b, 0, none⟩) 1 g1 := fun _ => ⟨b, 0, rfl, hl, fun k hk => by
    obtain rfl : k = 0 := by omega
    exact ⟨h1, h2, fun h => absurd h (by decide), (show (0 : Nat) ≤ 9223372036854775807 by decide), (show (0 : Nat) ≤ 0 by decide), (show (2 : Nat) ≤ 9223372036854775807 by decide)⟩⟩
  exact (c8 (some ⟨b, 0, none⟩) none 1 1 0 0 g1 x0 w hA (fun h => absurd h (by decide)) (fun k _ _ => rfl) hg (by decide) (by decide) (show (0 : Nat) ≤ 16777216 by decide) (show (68 : Nat) ≤ 1099511627776 by decide)).mono fun e w' h => put_no h (fun q => mems1 q.1)
set_option maxRecDepth 100000 in
set_option maxHeartbeats 8000000 in
theorem c11 (w : World) (hg : Gl w) : Calls Tryz.prog 11 #[] w fun e w' => e = .returned (.bool true) ∧ Below w.heap.size w w' := by
  have HB1 : Hid (Below w.heap.size w (((w.alloc (.cells #[.int .u8 7] 5)).alloc (.cells #[.string ⟨#[97]⟩, .slice (some ⟨w.heap.size, 0, none⟩) 1 1] 39)).alloc (.cells #[.string ⟨#[102]⟩, .int .i64 0] 58))) := Lib.hid ((((Below.refl w.heap.size w).alloc (Nat.le_refl _) _).alloc (by simp) _).alloc (by simp; omega) _)
  obtain ⟨hA, k8⟩ := k8a (((w.alloc (.cells #[.int .u8 7] 5)).alloc (.cells #[.string ⟨#[97]⟩, .slice (some ⟨w.heap.size, 0, none⟩) 1 1] 39)).alloc (.cells #[.string ⟨#[102]⟩, .int .i64 0] 58)) w.heap.size (w.heap.size + 1) (w.heap.size + 1 + 1) (hg.below HB1.out)
    (c_old _ _ _ _ _ (c_old _ _ _ _ _ (c_last w _ _ _ 0 rfl _ rfl))) (by simp; omega) (c_old _ _ _ _ _ (c_last _ _ _ _ 0 (by simp) _ rfl)) (c_old _ _ _ _ _ (c_last _ _ _ _ 1 (by simp) _ rfl)) (by simp) (c_last _ _ _ _ 0 (by simp) _ rfl) (c_last _ _ _ _ 1 (by simp) _ rfl) (by simp)
  have HA := Lib.hid hA
  have K8 := Lib.hid k8
  have HG := Lib.hid hg
  clear hA k8 hg
  go_enter Tryz.func11, Tryz.ntmps11
  go_wp2_with fail
  refine K8.out.mono ?_
  rintro _ w2 ⟨b, c, rfl, hbs, hb2⟩
  have HB2 : Hid (Below w.heap.size w w2) := Lib.hid (HB1.out.trans (hb2.mono HB1.out.size))
  have HA2 := Lib.hid (HA.out.below hb2)
  have K13 := Lib.hid (c13 (some ⟨b, 0, none⟩) 139 c (bb ar0) w2 (fun _ => ⟨b, 0, rfl, hbs⟩) (by decide) (HG.out.below HB2.out))
  rw [ar_str] at K13
  clear hbs hb2 HA HB1 K8
  go_wp2_with fail
  refine K13.out.mono ?_
  rintro _ w3 h3
  obtain ⟨A3, c3, B3, d3, gg, xx, rfl, hms, hsm, his, hx0, hb3⟩ := read0 h3 w.heap.size
  have HB3 : Hid (Below w.heap.size w w3) := Lib.hid (HB2.out.trans (hb3.mono HB2.out.size))
  have HA3 := Lib.hid (HA2.out.below hb3)
  have HMS := Lib.hid hms
  have HSM := Lib.hid hsm
  have HIS := Lib.hid his
  have HX0 := Lib.hid hx0
  clear h3 hb3 hms hsm his hx0 K13
  have HW4 := Lib.hid ((Below.refl w3.heap.size w3).alloc (Nat.le_refl _) (.cells #[.string ⟨#[97, 47]⟩, .slice none 0 0] 39))
  have HB4 : Hid (Below w.heap.size w (w3.alloc (.cells #[.string ⟨#[97, 47]⟩, .slice none 0 0] 39))) := Lib.hid (HB3.out.alloc HB3.out.size _)
  have K8b := Lib.hid (k8b (w3.alloc (.cells #[.string ⟨#[97, 47]⟩, .slice none 0 0] 39)) w3.heap.size (HG.out.below HB4.out) (c_last _ _ _ _ 0 rfl _ rfl) (c_last _ _ _ _ 1 rfl _ rfl) (by simp))
  go_wp2_with fail
  refine K8b.out.mono ?_
  rintro _ w5 ⟨rfl, hb5⟩
  have HB5 : Hid (Below w.heap.size w w5) := Lib.hid (HB4.out.trans (hb5.mono HB4.out.size))
  have HW5 : Hid (Below w3.heap.size w3 w5) := Lib.hid (HW4.out.trans (hb5.mono HW4.out.size))
  have K13b := Lib.hid (c13 none 0 0 (fun _ => 0) w5 (fun h => absurd h (by decide)) (by decide) (HG.out.below HB5.out))
  clear hb5 K8b HW4
  go_wp2_with fail
  refine K13b.out.mono ?_
  rintro _ w6 h6
  obtain ⟨rfl, hb6⟩ := read_nil h6
  have HB6 : Hid (Below w.heap.size w w6) := Lib.hid (HB5.out.trans (hb6.mono HB5.out.size))
  have HW6 : Hid (Below w3.heap.size w3 w6) := Lib.hid (HW5.out.trans (hb6.mono HW5.out.size))
  have K15 := Lib.hid (c15 A3 (some ⟨w.heap.size + 1, 0, none⟩) 1 c3 1 gg (g0 w.heap.size) w6 (by decide) (HMS.out.below HW6.out) (HA3.out.below HW6.out) HSM.out)
  have HIS6 := Lib.hid (HIS.out.below HW6.out)
  clear h6 hb6 K13b
  go_wp2_with fail
  obtain ⟨bx, ox, rfl, hlx, hcx⟩ := HIS6.out (by decide)
  obtain ⟨q0, q1, -, -, -⟩ := hcx 0 (by decide)
  rw [HX0.out] at q0 q1
  simp only [Nat.zero_mul, Nat.add_zero] at q0 q1
  clear hcx hlx
  refine K15.out.mono ?_
  rintro _ _ ⟨rfl, qq, rfl⟩
  have r0 : (w6.drewN qq).cell? ⟨bx, ox, none⟩ = some (.string ⟨#[102]⟩) := q0
  have r1 : (w6.drewN qq).cell? ⟨bx, ox + 1, none⟩ = some (.int .i64 0) := q1
  go_wp2_with fail
  go_ret
  exact ⟨rfl, by first | exact below_drewN HB6.out qq | exact (below_drewN HB6.out qq).alloc (below_drewN HB6.out qq).size _⟩
end Go.Proofs.YtgmifaadlaigdaaGreatDoor
