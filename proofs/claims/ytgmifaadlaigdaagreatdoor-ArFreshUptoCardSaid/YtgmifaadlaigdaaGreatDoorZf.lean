import Derived.Test.YtgmifaadlaigdaaGreatDoorW
import Derived.Test.YtgmifaadlaigdaaGreatDoorYe
import Derived.Test.YtgmifaadlaigdaaGreatDoorVd
namespace Go.Proofs.YtgmifaadlaigdaaGreatDoor
open Go.ChangeShapes Go.WideShapes Go.ChangeAt Go.RowKit
set_option linter.unusedVariables false
theorem own_grow {w w1 w2 : World} {v : Value} {n : Nat} {xs : List Value} (hb : Below w.heap.size w w1) (hown : w1.ownsRow w.heap.size 5 1 v n xs) (hg : w1.grownBy w2 v.ownBlock) : Below w.heap.size w w2 :=
  hb.grown hg hb.size fun k hk => (hown.lt k hk).1
set_option maxHeartbeats 2000000 in
/-- Copy: a row of the call's own with the same bytes. -/
theorem c18 (A : Option Addr) (n c : Nat) (f : Nat → Nat) (w : World) (hc : n ≤ 140737488351300) (hn : n ≤ c) (hA : Bz w A n f) (hA0 : A = none → c = 0) :
    Calls Tryz.prog 18 #[.slice A n c] w fun e w' => ∃ v, e = .returned v ∧ Below w.heap.size w w' ∧ w'.ownsRow w.heap.size 5 1 v n (Lib.strCells (strN f n)) := by
  have hown0 : Hid (w.ownsRow w.heap.size 5 1 (.slice none 0 0) 0 []) := Lib.hid ⟨rfl, .inl ⟨rfl, rfl⟩⟩
  have HA := Lib.hid hA
  have HA0 := Lib.hid hA0
  have hm0 : A = none → n = 0 := fun e => by have := hA0 e; omega
  have HM0 := Lib.hid hm0
  clear hA hA0 hm0
  go_enter Tryz.func18, Tryz.ntmps18
  go_wp2_with (first
    | (refine app_any rfl (.tmp 4) (.tmp 5) rfl w.heap.size (.slice none 0 0) 0 [] rfl hown0.out A n c f rfl HA0.out HA.out HM0.out (by omega) (Nat.le_refl _) ?_
       intro v4 w4 hown4 hg4
       have B4 := Lib.hid (own_grow (Below.refl _ _) hown0.out hg4)
       have HO4 := Lib.hid hown4
       clear hown4 hg4)
    | fail)
  go_ret
  have h := HO4.out
  rw [Nat.zero_add, List.nil_append] at h
  exact ⟨_, rfl, B4.out, h⟩
def SpR (w : World) (B g C : Nat) (i : Value) (wr : World) : Prop := ∃ (k : Nat) (F : Nat → Nat), k ≤ C ∧ i = .int .i64 (k : Int) ∧ Below B w wr ∧ wr.rowIs g 5 C (bV F)
theorem SpR.step {w wr : World} {B g C k : Nat} {F : Nat → Nat} {z : Int} (hk : k < C) (hb : Below B w wr) (hg : B ≤ g) (hr : wr.rowIs g 5 C (bV F)) (hz : 0 ≤ z) : SpR w B g C (.int .i64 ((k + 1 : Nat) : Int)) (wr.setCell ⟨g, k, none⟩ (.int .u8 z)) := by
  refine ⟨k + 1, fun j => if j = k then z.toNat else F j, hk, rfl, hb.setCell hg _, (hr.set k _).congr fun j _ => ?_⟩
  show (if j = k then Value.int .u8 z else bV F j) = .int .u8 ((if j = k then z.toNat else F j : Nat) : Int)
  unfold bV
  by_cases h1 : j = k
  · rw [if_pos h1, if_pos h1, Int.toNat_of_nonneg hz]
  · rw [if_neg h1, if_neg h1]
/-- Spoil: only the row itself changes. -/
theorem c19 (A : Option Addr) (n C B : Nat) (f : Nat → Nat) (w : World) (hC : C ≤ 9223372036854775807) (hB : B ≤ w.heap.size) (h0 : 0 < C → ∃ g, A = some ⟨g, 0, none⟩ ∧ B ≤ g ∧ w.rowIs g 5 C (bV f)) :
    Calls Tryz.prog 19 #[.slice A n C, .int .u8 7] w fun e w' => e = .returned (.tuple #[]) ∧ Below B w w' := by
  rcases Nat.eq_zero_or_pos C with hz | hz
  · subst hz
    clear h0
    go_enter Tryz.func19, Tryz.ntmps19
    go_wp2_with fail
    go_loopw [5] (fun i wr => i = .int .i64 0 ∧ wr = w) (fun i _ => 0)
    case atStart => exact ⟨rfl, rfl⟩
    case round =>
      obtain ⟨rfl, rfl⟩ := hrel
      go_wp2
      go_end0
      exact ⟨rfl, Below.refl _ _⟩
  · obtain ⟨g, rfl, hg, hr⟩ := h0 hz
    have hst : SpR w B g C (.int .i64 0) w := ⟨0, f, Nat.zero_le _, rfl, Below.refl _ _, hr⟩
    have hst := Lib.hid hst
    clear hr h0
    go_enter Tryz.func19, Tryz.ntmps19
    go_wp2_with fail
    go_loopw [5] (SpR w B g C) (fun i _ => C - (intOf i).toNat)
    case atStart => exact hst.out
    case round =>
      obtain ⟨k, F, hk, rfl, hb, hr⟩ := hrel
      have HB := Lib.hid hb
      have HR := Lib.hid hr
      clear hb hr hst
      by_cases hlt : k < C
      · have hc := HR.out.cell hlt
        have hfz := HR.out.frozen k
        unfold bV at hc
        generalize F k = x at hc
        have hx : (0 : Int) ≤ IntKind.u8.wrap ((x : Int) + 7) := by rw [IntKind.wrap_u8]; omega
        go_wp2
        go_roundw
        case rel => exact SpR.step hlt HB.out hg HR.out hx
        case measure => simp [intOf]; omega
      · obtain rfl : k = C := by omega
        go_wp2
        go_end0
        exact ⟨rfl, HB.out⟩
end Go.Proofs.YtgmifaadlaigdaaGreatDoor
namespace Go.Proofs.YtgmifaadlaigdaaGreatDoor
open Go.ChangeShapes Go.WideShapes Go.ChangeAt Go.RowKit
set_option linter.unusedVariables false
/-- a block of bytes, whole -/
def Fb (w : World) (b C : Nat) : Prop := ∃ cs fr, w.heap[b]? = some (.cells cs 5 fr) ∧ cs.size = C ∧ C ≤ fr.1 ∧ ∀ j, j < C → ∃ x : Nat, cs[j]? = some (.int .u8 (x : Int))
theorem Fb.cell {w : World} {b C j : Nat} (h : Fb w b C) (hj : j < C) : ∃ x : Nat, w.cell? ⟨b, j, none⟩ = some (.int .u8 (x : Int)) ∧ w.frozen? ⟨b, j, none⟩ = false := by
  obtain ⟨cs, fr, h1, h2, h3, h4⟩ := h
  obtain ⟨x, hx⟩ := h4 j hj
  refine ⟨x, by rw [Lib.cell_of_heap h1]; exact hx, ?_⟩
  simp [World.frozen?, h1]
  omega
theorem Fb.set {w : World} {b C j : Nat} (h : Fb w b C) (z : Nat) : Fb (w.setCell ⟨b, j, none⟩ (.int .u8 (z : Int))) b C := by
  obtain ⟨cs, fr, h1, h2, h3, h4⟩ := h
  refine ⟨cs.setIfInBounds j (.int .u8 (z : Int)), fr, ?_, by simpa using h2, h3, fun k hk => ?_⟩
  · simp [World.setCell, Array.getElem?_modify, h1]
  · by_cases e : j = k
    · subst e
      refine ⟨z, ?_⟩
      rw [Array.getElem?_setIfInBounds_self, if_pos (by omega)]
    · obtain ⟨x, hx⟩ := h4 k hk
      exact ⟨x, by rw [Array.getElem?_setIfInBounds_ne e]; exact hx⟩
theorem grown_set {w w' : World} {b j : Nat} {v : Value} (h : w.grownBy w' (some b)) : w.grownBy (w'.setCell ⟨b, j, none⟩ v) (some b) := by
  refine ⟨h.os, h.tape, h.output, ?_, fun k hk hne => ?_⟩
  · have := h.size
    simpa [World.setCell] using this
  · have hb : ¬ b = k := fun e => hne (by rw [e])
    rw [← h.block k hk hne]
    simp [World.setCell, Array.getElem?_modify, hb]
def SpB (w : World) (g C : Nat) (i : Value) (wr : World) : Prop := ∃ k : Nat, k ≤ C ∧ i = .int .i64 (k : Int) ∧ Fb wr g C ∧ w.grownBy wr (some g)
set_option maxHeartbeats 2000000 in
/-- Spoil: only that block changes, and is a block of bytes still -/
theorem c19b (g n C : Nat) (w : World) (hC : C ≤ 9223372036854775807) (hB : Fb w g C) : Calls Tryz.prog 19 #[.slice (some ⟨g, 0, none⟩) n C, .int .u8 7] w fun e w' => e = .returned (.tuple #[]) ∧ Fb w' g C ∧ w.grownBy w' (some g) := by
  have hst : Hid (SpB w g C (.int .i64 0) w) := Lib.hid ⟨0, Nat.zero_le _, rfl, hB, rfl, rfl, rfl, Nat.le_refl _, fun _ _ _ => rfl⟩
  clear hB
  go_enter Tryz.func19, Tryz.ntmps19
  go_wp2_with fail
  go_loopw [5] (SpB w g C) (fun i _ => C - (intOf i).toNat)
  case atStart => exact hst.out
  case round =>
    obtain ⟨k, hk, rfl, hb, hr⟩ := hrel
    have HB := Lib.hid hb
    have HR := Lib.hid hr
    clear hb hr hst
    by_cases hlt : k < C
    · obtain ⟨x, hc, hfz⟩ := HB.out.cell hlt
      obtain ⟨z, hx⟩ : ∃ z : Nat, IntKind.u8.wrap ((x : Int) + 7) = (z : Int) := ⟨(IntKind.u8.wrap ((x : Int) + 7)).toNat, by rw [IntKind.wrap_u8]; omega⟩
      go_wp2
      go_roundw
      case rel => exact ⟨k + 1, hlt, rfl, HB.out.set z, grown_set HR.out⟩
      case measure => simp [intOf]; omega
    · obtain rfl : k = C := by omega
      go_wp2
      go_end0
      exact ⟨rfl, HB.out, HR.out⟩
theorem Fs.fb {w : World} {B C : Nat} {A : Option Addr} (h : Fs w B A C) : ∃ b, A = some ⟨b, 0, none⟩ ∧ B ≤ b ∧ C ≤ 9223372036854775807 ∧ Fb w b C := by
  obtain ⟨b, cs, fr, h1, h2, h3, h4⟩ := h
  exact ⟨b, h1, h2, by unfold maxLen at h3; omega, cs, fr, h4⟩
theorem Fs.after {w w' : World} {B C b D : Nat} {A : Option Addr} (h : Fs w B A C) (hb : Fb w b D) (hb' : Fb w' b D) (hg : w.grownBy w' (some b)) : Fs w' B A C := by
  obtain ⟨b2, cs, fr, h1, h2, h3, h4, h5, h6, h7⟩ := h
  by_cases e : b2 = b
  · subst e
    obtain ⟨cs1, fr1, q1, q2, q3, q4⟩ := hb
    obtain ⟨cs2, fr2, p1, p2, p3, p4⟩ := hb'
    rw [h4] at q1
    injection q1 with q1
    injection q1 with q1 _ _
    subst q1
    have e2 : C = D := by omega
    subst e2
    exact ⟨b2, cs2, fr2, h1, h2, h3, p1, p2, p3, p4⟩
  · exact ⟨b2, cs, fr, h1, h2, h3, by rw [hg.block b2 (lt_of h4) (fun q => e (Option.some.inj q))]; exact h4, h5, h6, h7⟩
theorem apart {w : World} {b b2 D j : Nat} {A : Option Addr} {n c : Nat} (hb : Fb w b D) (hc : w.cell? ⟨b2, j, none⟩ = some (.slice A n c)) : b2 ≠ b := fun e => by
  subst e
  obtain ⟨cs, fr, h1, h2, h3, h4⟩ := hb
  rw [Lib.cell_of_heap h1] at hc
  have hj : j < cs.size := (Array.getElem?_eq_some_iff.1 hc).1
  obtain ⟨x, hx⟩ := h4 j (by omega)
  rw [hx] at hc
  cases hc
def R7 (w1 : World) (b o n : Nat) (g : Nat → Mem) (i : Value) (wr : World) : Prop := ∃ k : Nat, k ≤ n ∧ i = .int .i64 (k : Int) ∧ Below w1.heap.size w1 wr ∧ b < wr.heap.size ∧ (∀ x, x < n → wr.cell? ⟨b, o + x * 2 + 1, none⟩ = some (.slice (g x).A (g x).n (g x).c)) ∧ ∀ x, x < n → Fs wr w1.heap.size (g x).A (g x).c
theorem R7.step {w1 wr w' : World} {b o n k b2 D : Nat} {g : Nat → Mem} (hk : k < n) (hb : Below w1.heap.size w1 wr) (hl : b < wr.heap.size) (hc : ∀ x, x < n → wr.cell? ⟨b, o + x * 2 + 1, none⟩ = some (.slice (g x).A (g x).n (g x).c)) (hf : ∀ x, x < n → Fs wr w1.heap.size (g x).A (g x).c)
    (hb2 : w1.heap.size ≤ b2) (h1 : Fb wr b2 D) (h2 : Fb w' b2 D) (hg : wr.grownBy w' (some b2)) : R7 w1 b o n g (.int .i64 ((k + 1 : Nat) : Int)) w' := by
  have hne : b ≠ b2 := apart h1 (hc k hk)
  have hbl : w'.heap[b]? = wr.heap[b]? := hg.block b hl (fun q => hne (Option.some.inj q))
  refine ⟨k + 1, hk, rfl, hb.grown hg hb.size (fun x hx => by cases hx; exact hb2), Nat.lt_of_lt_of_le hl hg.size, fun x hx => ?_, fun x hx => (hf x hx).after h1 h2 hg⟩
  rw [← hc x hx]
  exact World.cell?_of_block hbl
end Go.Proofs.YtgmifaadlaigdaaGreatDoor
namespace Go.Proofs.YtgmifaadlaigdaaGreatDoor
open Go.ChangeShapes Go.WideShapes Go.ChangeAt Go.RowKit
set_option linter.unusedVariables false
theorem slok_bz {w : World} {s : ByteArray} {v : Value} (h : SlOk w v s) : ∃ A c, v = .slice A s.size c ∧ s.size ≤ c ∧ c ≤ 9223372036854775807 ∧ Bz w A s.size (bb s) := by
  obtain ⟨A, c, h1, h2, h3, _, h4⟩ := h
  exact ⟨A, c, h1, h2, h3, fun h0 => by obtain ⟨g, e, hb⟩ := h4 h0; exact ⟨g, 0, e, hb_bs hb⟩⟩
set_option maxRecDepth 100000 in
set_option maxHeartbeats 4000000 in
/-- ArFresh -/
theorem walk7 (A : Option Addr) (n c : Nat) (f : Nat → Nat) (w : World) (hB : Bz w A n f) (hn : n ≤ c) (hc : n ≤ 1048576) (hA0 : A = none → c = 0) (hf : ∀ j, j < n → f j < 256) (hg : Gl w) : Calls Tryz.prog 7 #[.slice A n c] w fun e w' => e = .returned (.bool true) ∧ Below w.heap.size w w' := by
  have K18 := Lib.hid (c18 A n c f w (by omega) hn hB hA0)
  have K11 : Hid (∀ w1, Below w.heap.size w w1 → Calls Tryz.prog 11 #[] w1 fun e w' => e = .returned (.bool true) ∧ Below w1.heap.size w1 w') := Lib.hid (fun w1 h => c11 w1 (hg.below h))
  have K13F : Hid (∀ w1, Below w.heap.size w w1 → Calls Tryz.prog 13 #[.slice A n c] w1 (ReadOutF (strN f n) w1)) := Lib.hid (fun w1 h => c13f A n c f w1 (hB.below h) (by omega) (hg.below h))
  have K13 : Hid (∀ w1, Below w.heap.size w w1 → Calls Tryz.prog 13 #[.slice A n c] w1 (ReadOut (strN f n) w1)) := Lib.hid (fun w1 h => c13 A n c f w1 (hB.below h) (by omega) (hg.below h))
  have hsz := strN_size f n
  have K10 : Hid (∀ w1 A1 c1, Below w.heap.size w w1 → Bz w1 A1 n (bb (strN f n)) → Calls Tryz.prog 10 #[.slice A n c, .slice A1 n c1] w1 fun e w' => e = .returned (.bool true) ∧ ∃ q, w' = w1.drewN q) := Lib.hid (fun w1 A1 c1 h hb => c10 A A1 n c c1 f (bb (strN f n)) w1 (by omega) (hB.below h) hb (fun k hk => (bb_strN f n k hk (hf k hk)).symm))
  have K14 : Hid (∀ w1 A1 c1, n ≤ c1 → c1 ≤ 9223372036854775807 → Bz w1 A1 n (bb (strN f n)) → Calls Tryz.prog 14 #[.slice A1 n c1] w1 (RefOut (strN f n) w1)) := Lib.hid (fun w1 A1 c1 h1 h2 hb => by
    have := c14 A1 c1 (strN f n) w1 (by rw [hsz]; exact hb) (by rw [hsz]; exact h1) h2
    rw [hsz] at this
    exact this)
  have HSO : Hid (∀ w1 v, w1.ownsRow w.heap.size 5 1 v n (Lib.strCells (strN f n)) → SlOk w1 v (strN f n)) := Lib.hid (fun w1 v h => slok_own (by rw [hsz]; exact h))
  have HSB : Hid (∀ w1 v, SlOk w1 v (strN f n) → ∃ A1 c1, v = .slice A1 n c1 ∧ n ≤ c1 ∧ c1 ≤ 9223372036854775807 ∧ Bz w1 A1 n (bb (strN f n))) := Lib.hid (fun w1 v h => by
    have := slok_bz h
    rw [hsz] at this
    exact this)
  have HG := Lib.hid hg
  clear hB hf hg hA0 hsz
  generalize strN f n = s at *
  go_enter Tryz.func7, Tryz.ntmps7
  go_wp2_with fail
  refine K18.out.mono ?_
  rintro _ w1 ⟨v, rfl, hb1, ho1⟩
  obtain ⟨A1, c1, rfl, hn1, hc1, hz1⟩ := HSB.out w1 v (HSO.out w1 v ho1)
  have HB1 := Lib.hid hb1
  have HZ1 := Lib.hid hz1
  clear hb1 ho1 hz1 K18
  go_wp2_with fail
  refine (K13F.out _ HB1.out).mono ?_
  rintro e1 w2 (⟨er, her, rfl, hb2⟩ | ⟨k, hgd, A2, c2, B2, d2, g, x, rfl, hms, hmm, -, -, hb2, hfs⟩)
  · have HER := Lib.hid her
    have HB2 : Hid (Below w.heap.size w w2) := Lib.hid (HB1.out.trans (hb2.mono HB1.out.size))
    have HW2 := Lib.hid hb2
    clear hb2 her
    go_wp2_with fail
    go_loopw [7] (fun i wr => i = .int .i64 0 ∧ wr = w2) (fun i _ => 0)
    case atStart => exact ⟨rfl, rfl⟩
    case round =>
      obtain ⟨rfl, rfl⟩ := hrel
      go_wp2_with fail
      refine (K13.out _ HB2.out).mono ?_
      rintro e3 w3 (⟨er3, her3, rfl, hb3⟩ | ⟨k, hgd, _⟩)
      · obtain rfl := err_uniq HER.out her3
        have HW3 : Hid (Below w1.heap.size w1 w3) := Lib.hid (HW2.out.trans (hb3.mono HW2.out.size))
        have HB3 : Hid (Below w.heap.size w w3) := Lib.hid (HB2.out.trans (hb3.mono HB2.out.size))
        clear hb3 her3
        go_wp2_with fail
        refine (K14.out w3 A1 c1 hn1 hc1 (HZ1.out.below HW3.out)).mono ?_
        rintro e4 w4 (⟨er4, her4, rfl, hb4⟩ | ⟨k, hgd, _⟩)
        · obtain rfl := err_uniq HER.out her4
          have HW4 : Hid (Below w1.heap.size w1 w4) := Lib.hid (HW3.out.trans (hb4.mono HW3.out.size))
          have HB4 : Hid (Below w.heap.size w w4) := Lib.hid (HB3.out.trans (hb4.mono HB3.out.size))
          have K10' := Lib.hid (K10.out w4 A1 c1 HB4.out (HZ1.out.below HW4.out))
          have K15 : Hid (∀ W, Calls Tryz.prog 15 #[.slice none 0 0, .slice none 0 0] W fun e w' => e = .returned (.bool true) ∧ ∃ q, w' = W.drewN q) := Lib.hid (fun W => c15 none none 0 0 0 (fun _ => ⟨⟨#[]⟩, none, 0, 0, fun _ => 0⟩) (fun _ => ⟨⟨#[]⟩, none, 0, 0, fun _ => 0⟩) W (by decide) (fun h => absurd h (by decide)) (fun h => absurd h (by decide)) (fun k hk => absurd hk (by omega)))
          clear hb4 her4
          go_wp2_with fail
          refine K10'.out.mono ?_
          rintro _ _ ⟨rfl, q, rfl⟩
          go_wp2_with fail
          refine (K15.out _).mono ?_
          rintro _ w5 h15
          have HB5 : Hid (Below w.heap.size w w5) := Lib.hid (by obtain ⟨_, q4, rfl⟩ := h15; exact below_drewN (below_drewN HB4.out q) q4)
          obtain ⟨rfl, -⟩ := h15
          go_wp2_with fail
          refine (K11.out _ HB5.out).mono ?_
          rintro _ w6 ⟨rfl, hb6⟩
          have HB6 : Hid (Below w.heap.size w w6) := Lib.hid (HB5.out.trans (hb6.mono HB5.out.size))
          clear hb6
          go_wp2_with fail
          go_ret
          exact ⟨rfl, HB6.out⟩
        · exact absurd HER.out (fun q => read_not hgd q)
      · exact absurd HER.out (fun q => read_not hgd q)
  · have HGD := Lib.hid hgd
    have HB2 : Hid (Below w.heap.size w w2) := Lib.hid (HB1.out.trans (hb2.mono HB1.out.size))
    have HW2 := Lib.hid hb2
    have HMM := Lib.hid hmm
    have HMS := Lib.hid hms
    have HFS := Lib.hid hfs
    have hk6 : k - ix1 s k ≤ 65536 := by have := parts_k hgd.1 hgd.2.2.2.1; omega
    clear hb2 hgd hmm hms hfs
    obtain ⟨n2, hn2⟩ : ∃ n2, k - ix1 s k = n2 := ⟨_, rfl⟩
    rw [hn2] at HMM HMS HFS hk6
    have HN2 := Lib.hid hn2
    rw [hn2]
    clear hn2
    go_wp2_with fail
    go_loopw [7] (fun i wr => ∃ k : Nat, k ≤ n2 ∧ i = .int .i64 (k : Int) ∧ Below w1.heap.size w1 wr ∧ (0 < n2 → ∃ b o, A2 = some ⟨b, o, none⟩ ∧ R7 w1 b o n2 g (.int .i64 (k : Int)) wr)) (fun i _ => n2 - (intOf i).toNat)
    case atStart =>
      refine ⟨0, Nat.zero_le _, rfl, HW2.out, fun h0 => ?_⟩
      obtain ⟨b, o, e, hl, hc⟩ := HMS.out h0
      exact ⟨b, o, e, 0, Nat.zero_le _, rfl, HW2.out, hl, fun x hx => (hc x hx).2.1, fun x hx => HFS.out x hx⟩
    case round =>
      obtain ⟨j, hj, rfl, hbr, hr⟩ := hrel
      have HBR := Lib.hid hbr
      have HR := Lib.hid hr
      clear hbr hr
      by_cases hlt : j < n2
      · have HLT := Lib.hid hlt
        obtain ⟨b, o, rfl, j2, -, -, -, hl, hc, hfs⟩ := HR.out (by omega)
        have x1 := hc j hlt
        have HC := Lib.hid hc
        have HF := Lib.hid hfs
        obtain ⟨bj, hA, hbj, hC, hfb⟩ := (hfs j hlt).fb
        have HFB := Lib.hid hfb
        have HBJ := Lib.hid hbj
        have HL := Lib.hid hl
        have K19 := Lib.hid (c19b bj (g j).n (g j).c wr hC hfb)
        rw [hA] at x1
        obtain ⟨nj, hnj⟩ : ∃ nj, (g j).n = nj := ⟨_, rfl⟩
        obtain ⟨cj, hcj⟩ : ∃ cj, (g j).c = cj := ⟨_, rfl⟩
        rw [hnj, hcj] at x1 K19
        rw [hcj] at HFB
        clear hc hfs hA hbj hC hfb hnj hcj hl
        go_wp2_with fail
        refine K19.out.mono ?_
        rintro _ w3 ⟨rfl, hfb3, hg3⟩
        have HST := Lib.hid (R7.step hlt HBR.out HL.out HC.out HF.out HBJ.out HFB.out hfb3 hg3)
        clear hfb3 hg3
        go_wp2_with fail
        go_roundw
        case rel => exact ⟨j + 1, HLT.out, by go_num, HST.out.choose_spec.2.2.1, fun _ => ⟨b, o, rfl, HST.out⟩⟩
        case measure => simp [intOf]; have := HLT.out; omega
      · obtain rfl : j = n2 := by omega
        have HB3 : Hid (Below w.heap.size w wr) := Lib.hid (HB1.out.trans (HBR.out.mono HB1.out.size))
        go_wp2_with fail
        refine (K13.out _ HB3.out).mono ?_
        rintro e4 w4 (⟨er4, her4, _⟩ | ⟨k4, hgd4, A4, c4, B4, d4, g4, x4, rfl, hms4, hmm4, -, -, hb4⟩)
        · exact absurd her4 (fun q => read_not HGD.out q)
        · obtain rfl := read_uniq hgd4 HGD.out
          rw [HN2.out] at hms4 hmm4
          rw [HN2.out]
          have HMS4 := Lib.hid hms4
          have HMM4 := Lib.hid hmm4
          have HV4 := Lib.hid hb4
          have HW4 : Hid (Below w1.heap.size w1 w4) := Lib.hid (HBR.out.trans (hb4.mono HBR.out.size))
          have HB4 : Hid (Below w.heap.size w w4) := Lib.hid (HB3.out.trans (hb4.mono HB3.out.size))
          clear hms4 hmm4 hb4 hgd4
          go_wp2_with fail
          refine (K14.out w4 A1 c1 hn1 hc1 (HZ1.out.below HW4.out)).mono ?_
          rintro e5 w5 (⟨er5, her5, _⟩ | ⟨k5, hgd5, A5, c5, B5, d5, g5, x5, rfl, hms5, hmm5, -, -, hb5⟩)
          · exact absurd her5 (fun q => read_not HGD.out q)
          · obtain rfl := read_uniq hgd5 HGD.out
            rw [HN2.out] at hms5 hmm5
            rw [HN2.out]
            have HW5 : Hid (Below w1.heap.size w1 w5) := Lib.hid (HW4.out.trans (hb5.mono HW4.out.size))
            have HB5 : Hid (Below w.heap.size w w5) := Lib.hid (HB4.out.trans (hb5.mono HB4.out.size))
            have K10' := Lib.hid (K10.out w5 A1 c1 HB5.out (HZ1.out.below HW5.out))
            have HSM := Lib.hid (ms_same HMM4.out hmm5)
            have K15 : Hid (∀ q, Calls Tryz.prog 15 #[.slice A4 j c4, .slice A5 j c5] (w5.drewN q) fun e w' => e = .returned (.bool true) ∧ ∃ q', w' = (w5.drewN q).drewN q') := Lib.hid (fun q => c15 A4 A5 j c4 c5 g4 g5 (w5.drewN q) (by omega) ((HMS4.out.below hb5).below (below_drewN (Below.refl _ _) q)) (hms5.below (below_drewN (Below.refl _ _) q)) HSM.out)
            clear hms5 hmm5 hb5 hgd5
            go_wp2_with fail
            refine K10'.out.mono ?_
            rintro _ _ ⟨rfl, q, rfl⟩
            go_wp2_with fail
            refine (K15.out _).mono ?_
            rintro _ w6 h15
            have HB6 : Hid (Below w.heap.size w w6) := Lib.hid (by obtain ⟨_, q4, rfl⟩ := h15; exact below_drewN (below_drewN HB5.out q) q4)
            obtain ⟨rfl, -⟩ := h15
            go_wp2_with fail
            refine (K11.out _ HB6.out).mono ?_
            rintro _ w7 ⟨rfl, hb7⟩
            have HB7 : Hid (Below w.heap.size w w7) := Lib.hid (HB6.out.trans (hb7.mono HB6.out.size))
            clear hb7
            go_wp2_with fail
            go_ret
            exact ⟨rfl, HB7.out⟩
end Go.Proofs.YtgmifaadlaigdaaGreatDoor
namespace Go.Proofs.YtgmifaadlaigdaaGreatDoor
open Go.ChangeShapes Go.WideShapes Go.ChangeAt Go.RowKit Go.Deep Go.Joins
set_option linter.unusedVariables false
theorem fresh_walk (A : Option Addr) (n c : Nat) (f : Nat → Nat) {W : World} (ha : By W A n c f) (w : World) (hw : W = w) (hg : Gl w) : Calls Tryz.prog 7 #[.slice A n c] w fun e w' => e = .returned (.bool true) ∧ Below w.heap.size w w' := by
  subst hw
  obtain ⟨h1, h2, h3, h4, h5, h6⟩ := ha
  exact walk7 A n c f W h1 h2 h5 h3 h6 hg
end Go.Proofs.YtgmifaadlaigdaaGreatDoor
