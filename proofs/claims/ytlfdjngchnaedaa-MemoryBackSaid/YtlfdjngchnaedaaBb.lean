import Derived.Test.YtlfdjngchnaedaaBa

namespace Go.Proofs.Ytlfdjngchnaedaa
open Go.ChangeShapes Go.WideShapes Go.ChangeAt Go.RowKit
open Cp (cp arr mt num4)
set_option linter.unusedVariables false
theorem Below.drewN' {K : Nat} {a w : World} (h : Below K a w) : ∀ q, Below K a (w.drewN q)
  | 0 => h
  | q + 1 => by
    have := (Below.drewN' h q).drew
    exact ⟨h.os, h.tape, h.output, h.size, h.block⟩
/-- bytes put back, so many -/
def mix (B B' : Nat → Nat) (a k : Nat) (i : Nat) : Nat := if a ≤ i ∧ i < a + k then B i else B' i
theorem mix_step (B B' : Nat → Nat) (a k : Nat) : (fun i => if i = a + k then B (a + k) else mix B B' a k i) = mix B B' a (k + 1) := by
  funext i
  unfold mix
  by_cases e : i = a + k
  · rw [if_pos e, if_pos (by omega), e]
  · rw [if_neg e]
    by_cases c : a ≤ i ∧ i < a + k
    · rw [if_pos c, if_pos (by omega)]
    · rw [if_neg c, if_neg (by omega)]
theorem mix_all (B : Nat → Nat) (a s n i : Nat) : B i = mix B (stB B a s n) a s i := by
  unfold mix stB
  by_cases c : a ≤ i ∧ i < a + s
  · rw [if_pos c]
  · rw [if_neg c, if_neg c]
theorem mix_0 (B B' : Nat → Nat) (a : Nat) : mix B B' a 0 = B' := by
  funext i
  unfold mix
  rw [if_neg (by omega)]
theorem stB_at (B : Nat → Nat) (a s n j : Nat) (hj : j < s) : stB B a s n (a + j) = bt n j := by
  unfold stB
  rw [if_pos (by omega), Nat.add_sub_cancel_left]
theorem num1 (B : Nat → Nat) (a n : Nat) : numL (stB B a 1 n) a 1 = n % 256 := by
  show stB B a 1 n a = _
  have := stB_at B a 1 n 0 (by omega)
  rw [Nat.add_zero] at this
  rw [this]; unfold bt; simp
theorem num2 (B : Nat → Nat) (a n : Nat) : numL (stB B a 2 n) a 2 = n % 65536 := by
  show stB B a 2 n a + stB B a 2 n (a + 1) * 256 = _
  have h0 := stB_at B a 2 n 0 (by omega)
  rw [Nat.add_zero] at h0
  rw [h0, stB_at B a 2 n 1 (by omega)]; unfold bt; simp only [Nat.pow_zero, Nat.div_one, Nat.pow_one]; omega
theorem num4 (B : Nat → Nat) (a n : Nat) (hn : n < 4294967296) : numL (stB B a 4 n) a 4 = n := by
  show stB B a 4 n a + stB B a 4 n (a + 1) * 256 + stB B a 4 n (a + 2) * 65536 + stB B a 4 n (a + 3) * 16777216 = _
  have h0 := stB_at B a 4 n 0 (by omega)
  rw [Nat.add_zero] at h0
  rw [h0, stB_at B a 4 n 1 (by omega), stB_at B a 4 n 2 (by omega), stB_at B a 4 n 3 (by omega)]
  have h := num4_bt n hn
  unfold Cp.num4 at h
  omega
theorem andM (n k : Nat) (hn : n < 4294967296) (hk : k ≤ 32) (M : Int) (hM : M = ((2 ^ k - 1 : Nat) : Int)) : bits .and .u64 (n : Int) M = ((n % 2 ^ k : Nat) : Int) := by
  have h : (2 : Nat) ^ k ≤ 2 ^ 32 := Nat.pow_le_pow_right (by omega) hk
  rw [hM, u64_and_nat _ _ (by omega) (by omega), Nat.and_two_pow_sub_one_eq_mod]
def L2 (w : World) (g1 g2 : Nat) (B B' : Nat → Nat) (a s : Nat) (i : Value) (wr : World) : Prop := ∃ k : Nat, k ≤ s ∧ i = .int .i64 (k : Int) ∧ Below w.heap.size w wr ∧ Bk wr g1 B ∧ Bk wr g2 (mix B B' a k)
theorem L2.step {w wr : World} {g1 g2 a s k : Nat} {B B' : Nat → Nat} (hk : k < s) (hg : w.heap.size ≤ g2) (hne : g1 ≠ g2) (ha : a + s ≤ 65536) (ho : Below w.heap.size w wr) (h1 : Bk wr g1 B) (h2 : Bk wr g2 (mix B B' a k)) {i : Int} (hi : i = ((k + 1 : Nat) : Int)) {off : Nat} (hoff : off = a + k) :
    L2 w g1 g2 B B' a s (.int .i64 i) (wr.setCell ⟨g2, off, none⟩ (.int .u8 (B (a + k) : Int))) := by
  subst hi hoff
  refine ⟨k + 1, by omega, rfl, ho.setCell hg _, h1.farSet hne _ _, ?_⟩
  rw [← mix_step]
  exact h2.set_ (a + k) (by omega) _
set_option maxHeartbeats 8000000 in
set_option maxRecDepth 100000 in
theorem walk4 (A : Option Addr) (N c at_ n : Nat) (s : Int) (f : Nat → Ac) (w : World) (hA : Acs w A N f) (hN : N ≤ 9223372036854775807) (hat : at_ < 4294967296) (hn : n < 4294967296) :
    Calls Try.prog 4 #[.slice A N c, .int .u32 (at_ : Int), .int .i64 s, .int .u32 (n : Int)] w fun en w' => en = .returned (.bool true) ∧ Below w.heap.size w w' := by
  have HA := Lib.hid hA
  clear hA
  go_enter Try.func4, Try.ntmps4
  go_wp2_with fail
  refine (mNew _).mono ?_
  rintro _ w1 ⟨rfl, q1, s1, m1⟩
  have Q1 := Lib.hid q1; have M1 := Lib.hid m1
  clear q1 m1 s1
  go_wp2_with fail
  go_loopw [10] (fun i wr => LR w i N wr) (fun i _ => N - (intOf i).toNat)
  case atStart => exact ⟨0, by omega, rfl, Q1.out, _, _, M1.out⟩
  case round =>
    obtain ⟨k, hk, rfl, ho, B, T, hm⟩ := hrel
    have HM := Lib.hid hm; have HO := Lib.hid ho
    clear hm ho
    by_cases hlt : k < N ∧ k < 20
    · obtain ⟨hlt, h20⟩ := hlt
      · obtain ⟨b, o, rfl, hbl, hc⟩ := HA.out (by omega)
        obtain ⟨hok, c0, c1, c2, c3, c4, c5, c6, c7, c8, c9, c10⟩ := hc k hlt
        have z : ∀ j, wr.cell? ⟨b, j, none⟩ = w.cell? ⟨b, j, none⟩ := fun j => HO.out.cell (p := ⟨b, j, none⟩) hbl
        rw [← z] at c0 c1 c2 c3 c4 c5 c6 c7 c8 c9 c10
        have HZ := Lib.hid z; have HOK := Lib.hid hok; have HC := Lib.hid hc
        have d20 : decide ((k : Int) < 20) = true := by simp; omega
        clear z hok hc h20
        by_cases hd : (f k).d = 0
        · have hd2 : ((f k).d == 0) = true := by simpa using hd
          clear hd
          generalize f k = x at *
          go_wp2_with fail
          go_still_tail 16, (by kernel_rfl)
          change wpList _ _ _ _ _ (World.drew _)
          go_wp2_with fail
          refine (didStore w.heap.size x.at_ x.n x.s B T _ HM.out.drew HOK.out.2.1).mono ?_
          rintro _ w2 hdid
          have hN := LR.next hlt HO.out HM.out.lt hdid
          obtain ⟨xe, hx, rfl, -, -⟩ := hdid
          have HN := Lib.hid hN
          clear hN hx
          go_wp2_with fail
          go_roundw
          case rel => exact ⟨k + 1, by omega, by go_num, HN.out.1, HN.out.2.2⟩
          case measure => simp [intOf]; omega
        · have hd2 : ((f k).d == 0) = false := by simpa using hd
          clear hd
          generalize f k = x at *
          go_wp2_with fail
          go_still_tail 11, (by kernel_rfl)
          change wpList _ _ _ _ _ (World.drew _)
          go_wp2_with fail
          refine (didCap w.heap.size x.at_ x.g x.a x.p x.y x.e x.b x.t B T _ HM.out.drew HOK.out.2.2.1 HOK.out.2.2.2.1 HOK.out.2.2.2.2.1 HOK.out.2.2.2.2.2.1 HOK.out.2.2.2.2.2.2.1 HOK.out.2.2.2.2.2.2.2).mono ?_
          rintro _ w2 hdid
          have hN := LR.next hlt HO.out HM.out.lt hdid
          obtain ⟨xe, hx, rfl, -, -⟩ := hdid
          have HN := Lib.hid hN
          clear hN hx
          go_wp2_with fail
          go_roundw
          case rel => exact ⟨k + 1, by omega, by go_num, HN.out.1, HN.out.2.2⟩
          case measure => simp [intOf]; omega
    · have hx : (decide (k < N) = false) ∨ (decide (k < N) = true ∧ decide ((k : Int) < 20) = false) := by
        by_cases h1 : k < N
        · right; exact ⟨by simp; omega, by simp; omega⟩
        · left; simp; omega
      clear hlt
      rcases hx with d1 | ⟨d1, d2⟩
      all_goals
        have zz := HM.out.lt
        clear HA
        go_wp2_with fail
        refine (bytesAll _ B T _ HM.out).mono ?_
        rintro _ w2 ⟨g1, c1, rfl, q1, hg1, k1, hc1, hc1'⟩
        have z2 := q1.size
        have m2 := HM.out.below q1 zz
        have o2 := HO.out.trans (q1.mono (Nat.le_of_lt zz))
        have HM2 := Lib.hid m2; have HO2 := Lib.hid o2; have HK1 := Lib.hid k1
        clear q1 m2 o2 k1 HM HO
        go_wp2_with fail
        refine (tagsAll _ B T _ HM2.out).mono ?_
        rintro _ _ ⟨rfl, rfl⟩
        have htl := cntT_le T 0 8192
        generalize htc : cntT T 0 8192 = tc at *
        have HTC := Lib.hid htc; have HTL0 := Lib.hid htl
        clear htc htl
        go_wp2_with fail
        rcases Bool.eq_false_or_eq_true (wordB at_ s) with hw | hw
        · have htc := HTC.out
          have htl := HTL0.out
          have hw2 := hw
          unfold wordB at hw2
          rw [decide_eq_true_eq] at hw2
          obtain ⟨hs, h1, h2⟩ := hw2
          refine (mStore _ at_ n s B T _ HM2.out hn hw).mono ?_
          rintro _ w3 ⟨rfl, ho3, hm3⟩
          rcases hs with rfl | rfl | rfl
          · have hm3 : Mem w3 w.heap.size (stB B at_ 1 n) (stT T at_ false) := hm3
            have hX := num1 B at_ n
            have hA : bits .and .u64 (n : Int) 255 = ((n % 256 : Nat) : Int) := andM n 8 hn (by omega) 255 rfl
            have hXl : n % 256 < 4294967296 := by omega
            have kL := mLoad w.heap.size at_ 1 (stB B at_ 1 n) (stT T at_ false) _ hm3 hw
            rw [show (1 : Int).toNat = 1 from rfl, hX] at kL
            have kT := mTags w.heap.size at_ 1 (stB B at_ 1 n) (stT T at_ false) _ hm3 (by omega)
            rw [tag_here T at_ 1 (by omega) (by omega)] at kT
            have hc := cnt_st T at_ h1
            have hcl := cntT_le (stT T at_ false) 0 8192
            rw [htc] at hc
            have kA := tagsAll w.heap.size (stB B at_ 1 n) (stT T at_ false) _ hm3
            generalize cntT (stT T at_ false) 0 8192 = tc' at *
            generalize n % 256 = X at *
            have k13 : Bk w3 g1 B := HK1.out.far ho3 (by omega)
            have o3 : Below w.heap.size w w3 := HO2.out.trans (ho3.1 _ (Nat.le_refl _) HO2.out.size)
            have KL := Lib.hid kL; have KT := Lib.hid kT; have KA := Lib.hid kA
            have HM3 := Lib.hid hm3; have HK13 := Lib.hid k13; have HO3 := Lib.hid o3; have HC := Lib.hid hc
            have HA2 := Lib.hid hA
            have HT := Lib.hid htc; have HTL := Lib.hid htl
            clear kL kT kA hm3 k13 o3 hc hX hA ho3 htc htl hcl
            have ba : at_ < 65536 := h1
            go_wp2_with fail
            refine KL.out.mono ?_
            rintro _ _ ⟨rfl, rfl⟩
            go_wp2_with fail
            refine (show Calls _ _ _ _ _ from KT.out).mono ?_
            rintro _ _ ⟨rfl, rfl⟩
            go_wp2_with fail
            refine KA.out.mono ?_
            rintro _ _ ⟨rfl, rfl⟩
            go_wp2_with fail
            refine (bytesAll _ _ _ _ HM3.out).mono ?_
            rintro _ w4 ⟨g2, c2, rfl, q4, hg2, k2, hc2, hc2'⟩
            have k14 := HK13.out.below q4 HK13.out.lt
            have o4 := HO3.out.trans (q4.mono HO3.out.size)
            have hne : g1 ≠ g2 := by have := HK13.out.lt; omega
            have hgw : w.heap.size ≤ g2 := by have := HO3.out.size; omega
            rw [← mix_0 B (stB B at_ 1 n) at_] at k2
            have HO4 := Lib.hid o4; have HK14 := Lib.hid k14; have HK2 := Lib.hid k2
            clear q4 o4 k14 k2 hg2
            go_wp2_with fail
            go_loopw [26] (fun i wr => L2 w g1 g2 B (stB B at_ 1 n) at_ 1 i wr) (fun i _ => 1 - (intOf i).toNat)
            case atStart => exact ⟨0, by omega, rfl, HO4.out, HK14.out, HK2.out⟩
            case round =>
              obtain ⟨j, hj, rfl, ho5, k15, k25⟩ := hrel
              have HO5 := Lib.hid ho5; have HK15 := Lib.hid k15; have HK25 := Lib.hid k25
              clear ho5 k15 k25
              have hj2 : j = 0 ∨ j = 1 := by omega
              clear hj
              rcases hj2 with rfl | rfl
              · have hb1 := HK15.out.cell (at_ + 0) (by omega)
                have hb2 := HK25.out.cell (at_ + 0) (by omega)
                have r1 : wr.cell? ⟨g1, at_, none⟩ = some (.int .u8 (B (at_ + 0) : Int)) := hb1.1
                have r2 := hb2.1
                have r2 : wr.cell? ⟨g2, at_, none⟩ = some (.int .u8 (mix B (stB B at_ 1 n) at_ 0 (at_ + 0) : Int)) := r2
                have r3 : wr.frozen? ⟨g2, at_, none⟩ = false := hb2.2
                generalize mix B (stB B at_ 1 n) at_ 0 (at_ + 0) = mx at *
                have i1 : (at_ : Int) + 0 < 65536 := by omega
                have HS : Hid (∀ i : Int, i = ((0 + 1 : Nat) : Int) → ∀ off : Nat, off = at_ + 0 → L2 w g1 g2 B (stB B at_ 1 n) at_ 1 (.int .i64 i) (wr.setCell ⟨g2, off, none⟩ (.int .u8 (B (at_ + 0) : Int)))) := Lib.hid fun i hi off hoff => L2.step (k := 0) (by omega) hgw hne (by omega) HO5.out HK15.out HK25.out hi hoff
                clear hb1 hb2
                generalize hbb : B (at_ + 0) = bb at *
                go_wp2_with fail
                go_roundw
                case rel => exact HS.out _ rfl _ rfl
                case measure => simp [intOf]
              · have hA := HA2.out
                rcases HC.out with h | h
                · have e1 : ((tc' : Int) == (tc : Int)) = true := by simp; omega
                  clear h
                  go_wp2_with fail
                  refine (Pt.c11 _ _ 65536 _ 65536 _ _ _ _ (by omega) (by omega) HK15.out.rd HK25.out.rd).mono ?_
                  rintro _ w6 ⟨x, rfl, hx, q, rfl⟩
                  obtain rfl : x = true := hx.2 ⟨rfl, fun i _ => mix_all B at_ 1 n i⟩
                  clear hx
                  go_wp2_with fail
                  refine (lives _).mono ?_
                  rintro _ w7 ⟨rfl, q7⟩
                  go_wp2_with fail
                  go_ret
                  exact ⟨rfl, (Below.drewN' HO5.out q).trans (q7.mono (Below.drewN' HO5.out q).size)⟩
                · have e1 : ((tc' : Int) == (tc : Int)) = false := by simp; omega
                  have e2 : ((tc' : Int) == (tc : Int) - 1) = true := by simp; omega
                  have tl := HTL.out
                  clear h
                  go_wp2_with fail
                  refine (Pt.c11 _ _ 65536 _ 65536 _ _ _ _ (by omega) (by omega) HK15.out.rd HK25.out.rd).mono ?_
                  rintro _ w6 ⟨x, rfl, hx, q, rfl⟩
                  obtain rfl : x = true := hx.2 ⟨rfl, fun i _ => mix_all B at_ 1 n i⟩
                  clear hx
                  go_wp2_with fail
                  refine (lives _).mono ?_
                  rintro _ w7 ⟨rfl, q7⟩
                  go_wp2_with fail
                  go_ret
                  exact ⟨rfl, (Below.drewN' HO5.out q).trans (q7.mono (Below.drewN' HO5.out q).size)⟩
          · have hm3 : Mem w3 w.heap.size (stB B at_ 2 n) (stT T at_ false) := hm3
            have hX := num2 B at_ n
            have hA : bits .and .u64 (n : Int) 65535 = ((n % 65536 : Nat) : Int) := andM n 16 hn (by omega) 65535 rfl
            have hXl : n % 65536 < 4294967296 := by omega
            have kL := mLoad w.heap.size at_ 2 (stB B at_ 2 n) (stT T at_ false) _ hm3 hw
            rw [show (2 : Int).toNat = 2 from rfl, hX] at kL
            have kT := mTags w.heap.size at_ 2 (stB B at_ 2 n) (stT T at_ false) _ hm3 (by omega)
            rw [tag_here T at_ 2 (by omega) (by omega)] at kT
            have hc := cnt_st T at_ h1
            have hcl := cntT_le (stT T at_ false) 0 8192
            rw [htc] at hc
            have kA := tagsAll w.heap.size (stB B at_ 2 n) (stT T at_ false) _ hm3
            generalize cntT (stT T at_ false) 0 8192 = tc' at *
            generalize n % 65536 = X at *
            have k13 : Bk w3 g1 B := HK1.out.far ho3 (by omega)
            have o3 : Below w.heap.size w w3 := HO2.out.trans (ho3.1 _ (Nat.le_refl _) HO2.out.size)
            have KL := Lib.hid kL; have KT := Lib.hid kT; have KA := Lib.hid kA
            have HM3 := Lib.hid hm3; have HK13 := Lib.hid k13; have HO3 := Lib.hid o3; have HC := Lib.hid hc
            have HA2 := Lib.hid hA
            have HT := Lib.hid htc; have HTL := Lib.hid htl
            clear kL kT kA hm3 k13 o3 hc hX hA ho3 htc htl hcl
            have ba : at_ < 65536 := h1
            go_wp2_with fail
            refine KL.out.mono ?_
            rintro _ _ ⟨rfl, rfl⟩
            go_wp2_with fail
            refine (show Calls _ _ _ _ _ from KT.out).mono ?_
            rintro _ _ ⟨rfl, rfl⟩
            go_wp2_with fail
            refine KA.out.mono ?_
            rintro _ _ ⟨rfl, rfl⟩
            go_wp2_with fail
            refine (bytesAll _ _ _ _ HM3.out).mono ?_
            rintro _ w4 ⟨g2, c2, rfl, q4, hg2, k2, hc2, hc2'⟩
            have k14 := HK13.out.below q4 HK13.out.lt
            have o4 := HO3.out.trans (q4.mono HO3.out.size)
            have hne : g1 ≠ g2 := by have := HK13.out.lt; omega
            have hgw : w.heap.size ≤ g2 := by have := HO3.out.size; omega
            rw [← mix_0 B (stB B at_ 2 n) at_] at k2
            have HO4 := Lib.hid o4; have HK14 := Lib.hid k14; have HK2 := Lib.hid k2
            clear q4 o4 k14 k2 hg2
            go_wp2_with fail
            go_loopw [26] (fun i wr => L2 w g1 g2 B (stB B at_ 2 n) at_ 2 i wr) (fun i _ => 2 - (intOf i).toNat)
            case atStart => exact ⟨0, by omega, rfl, HO4.out, HK14.out, HK2.out⟩
            case round =>
              obtain ⟨j, hj, rfl, ho5, k15, k25⟩ := hrel
              have HO5 := Lib.hid ho5; have HK15 := Lib.hid k15; have HK25 := Lib.hid k25
              clear ho5 k15 k25
              have hj2 : j = 0 ∨ j = 1 ∨ j = 2 := by omega
              clear hj
              rcases hj2 with rfl | rfl | rfl
              · have hb1 := HK15.out.cell (at_ + 0) (by omega)
                have hb2 := HK25.out.cell (at_ + 0) (by omega)
                have r1 : wr.cell? ⟨g1, at_, none⟩ = some (.int .u8 (B (at_ + 0) : Int)) := hb1.1
                have r2 := hb2.1
                have r2 : wr.cell? ⟨g2, at_, none⟩ = some (.int .u8 (mix B (stB B at_ 2 n) at_ 0 (at_ + 0) : Int)) := r2
                have r3 : wr.frozen? ⟨g2, at_, none⟩ = false := hb2.2
                generalize mix B (stB B at_ 2 n) at_ 0 (at_ + 0) = mx at *
                have i1 : (at_ : Int) + 0 < 65536 := by omega
                have HS : Hid (∀ i : Int, i = ((0 + 1 : Nat) : Int) → ∀ off : Nat, off = at_ + 0 → L2 w g1 g2 B (stB B at_ 2 n) at_ 2 (.int .i64 i) (wr.setCell ⟨g2, off, none⟩ (.int .u8 (B (at_ + 0) : Int)))) := Lib.hid fun i hi off hoff => L2.step (k := 0) (by omega) hgw hne (by omega) HO5.out HK15.out HK25.out hi hoff
                clear hb1 hb2
                generalize hbb : B (at_ + 0) = bb at *
                go_wp2_with fail
                go_roundw
                case rel => exact HS.out _ rfl _ rfl
                case measure => simp [intOf]
              · have hb1 := HK15.out.cell (at_ + 1) (by omega)
                have hb2 := HK25.out.cell (at_ + 1) (by omega)
                have r1 : wr.cell? ⟨g1, at_ + 1, none⟩ = some (.int .u8 (B (at_ + 1) : Int)) := hb1.1
                have r2 := hb2.1
                have r2 : wr.cell? ⟨g2, at_ + 1, none⟩ = some (.int .u8 (mix B (stB B at_ 2 n) at_ 1 (at_ + 1) : Int)) := r2
                have r3 : wr.frozen? ⟨g2, at_ + 1, none⟩ = false := hb2.2
                generalize mix B (stB B at_ 2 n) at_ 1 (at_ + 1) = mx at *
                have i1 : (at_ : Int) + 1 < 65536 := by omega
                have HS : Hid (∀ i : Int, i = ((1 + 1 : Nat) : Int) → ∀ off : Nat, off = at_ + 1 → L2 w g1 g2 B (stB B at_ 2 n) at_ 2 (.int .i64 i) (wr.setCell ⟨g2, off, none⟩ (.int .u8 (B (at_ + 1) : Int)))) := Lib.hid fun i hi off hoff => L2.step (k := 1) (by omega) hgw hne (by omega) HO5.out HK15.out HK25.out hi hoff
                clear hb1 hb2
                generalize hbb : B (at_ + 1) = bb at *
                go_wp2_with fail
                go_roundw
                case rel => exact HS.out _ rfl _ rfl
                case measure => simp [intOf]
              · have hA := HA2.out
                rcases HC.out with h | h
                · have e1 : ((tc' : Int) == (tc : Int)) = true := by simp; omega
                  clear h
                  go_wp2_with fail
                  refine (Pt.c11 _ _ 65536 _ 65536 _ _ _ _ (by omega) (by omega) HK15.out.rd HK25.out.rd).mono ?_
                  rintro _ w6 ⟨x, rfl, hx, q, rfl⟩
                  obtain rfl : x = true := hx.2 ⟨rfl, fun i _ => mix_all B at_ 2 n i⟩
                  clear hx
                  go_wp2_with fail
                  refine (lives _).mono ?_
                  rintro _ w7 ⟨rfl, q7⟩
                  go_wp2_with fail
                  go_ret
                  exact ⟨rfl, (Below.drewN' HO5.out q).trans (q7.mono (Below.drewN' HO5.out q).size)⟩
                · have e1 : ((tc' : Int) == (tc : Int)) = false := by simp; omega
                  have e2 : ((tc' : Int) == (tc : Int) - 1) = true := by simp; omega
                  have tl := HTL.out
                  clear h
                  go_wp2_with fail
                  refine (Pt.c11 _ _ 65536 _ 65536 _ _ _ _ (by omega) (by omega) HK15.out.rd HK25.out.rd).mono ?_
                  rintro _ w6 ⟨x, rfl, hx, q, rfl⟩
                  obtain rfl : x = true := hx.2 ⟨rfl, fun i _ => mix_all B at_ 2 n i⟩
                  clear hx
                  go_wp2_with fail
                  refine (lives _).mono ?_
                  rintro _ w7 ⟨rfl, q7⟩
                  go_wp2_with fail
                  go_ret
                  exact ⟨rfl, (Below.drewN' HO5.out q).trans (q7.mono (Below.drewN' HO5.out q).size)⟩
          · have hm3 : Mem w3 w.heap.size (stB B at_ 4 n) (stT T at_ false) := hm3
            have hX := num4 B at_ n hn
            have hA : bits .and .u64 (n : Int) 4294967295 = ((n : Nat) : Int) := (andM n 32 hn (by omega) 4294967295 rfl).trans (by rw [Nat.mod_eq_of_lt (by omega : n < 2 ^ 32)])
            have hXl : n < 4294967296 := by omega
            have kL := mLoad w.heap.size at_ 4 (stB B at_ 4 n) (stT T at_ false) _ hm3 hw
            rw [show (4 : Int).toNat = 4 from rfl, hX] at kL
            have kT := mTags w.heap.size at_ 4 (stB B at_ 4 n) (stT T at_ false) _ hm3 (by omega)
            rw [tag_here T at_ 4 (by omega) (by omega)] at kT
            have hc := cnt_st T at_ h1
            have hcl := cntT_le (stT T at_ false) 0 8192
            rw [htc] at hc
            have kA := tagsAll w.heap.size (stB B at_ 4 n) (stT T at_ false) _ hm3
            generalize cntT (stT T at_ false) 0 8192 = tc' at *
            have k13 : Bk w3 g1 B := HK1.out.far ho3 (by omega)
            have o3 : Below w.heap.size w w3 := HO2.out.trans (ho3.1 _ (Nat.le_refl _) HO2.out.size)
            have KL := Lib.hid kL; have KT := Lib.hid kT; have KA := Lib.hid kA
            have HM3 := Lib.hid hm3; have HK13 := Lib.hid k13; have HO3 := Lib.hid o3; have HC := Lib.hid hc
            have HA2 := Lib.hid hA
            have HT := Lib.hid htc; have HTL := Lib.hid htl
            clear kL kT kA hm3 k13 o3 hc hX hA ho3 htc htl hcl
            have ba : at_ < 65536 := h1
            go_wp2_with fail
            refine KL.out.mono ?_
            rintro _ _ ⟨rfl, rfl⟩
            go_wp2_with fail
            refine (show Calls _ _ _ _ _ from KT.out).mono ?_
            rintro _ _ ⟨rfl, rfl⟩
            go_wp2_with fail
            refine KA.out.mono ?_
            rintro _ _ ⟨rfl, rfl⟩
            go_wp2_with fail
            refine (bytesAll _ _ _ _ HM3.out).mono ?_
            rintro _ w4 ⟨g2, c2, rfl, q4, hg2, k2, hc2, hc2'⟩
            have k14 := HK13.out.below q4 HK13.out.lt
            have o4 := HO3.out.trans (q4.mono HO3.out.size)
            have hne : g1 ≠ g2 := by have := HK13.out.lt; omega
            have hgw : w.heap.size ≤ g2 := by have := HO3.out.size; omega
            rw [← mix_0 B (stB B at_ 4 n) at_] at k2
            have HO4 := Lib.hid o4; have HK14 := Lib.hid k14; have HK2 := Lib.hid k2
            clear q4 o4 k14 k2 hg2
            go_wp2_with fail
            go_loopw [26] (fun i wr => L2 w g1 g2 B (stB B at_ 4 n) at_ 4 i wr) (fun i _ => 4 - (intOf i).toNat)
            case atStart => exact ⟨0, by omega, rfl, HO4.out, HK14.out, HK2.out⟩
            case round =>
              obtain ⟨j, hj, rfl, ho5, k15, k25⟩ := hrel
              have HO5 := Lib.hid ho5; have HK15 := Lib.hid k15; have HK25 := Lib.hid k25
              clear ho5 k15 k25
              have hj2 : j = 0 ∨ j = 1 ∨ j = 2 ∨ j = 3 ∨ j = 4 := by omega
              clear hj
              rcases hj2 with rfl | rfl | rfl | rfl | rfl
              · have hb1 := HK15.out.cell (at_ + 0) (by omega)
                have hb2 := HK25.out.cell (at_ + 0) (by omega)
                have r1 : wr.cell? ⟨g1, at_, none⟩ = some (.int .u8 (B (at_ + 0) : Int)) := hb1.1
                have r2 := hb2.1
                have r2 : wr.cell? ⟨g2, at_, none⟩ = some (.int .u8 (mix B (stB B at_ 4 n) at_ 0 (at_ + 0) : Int)) := r2
                have r3 : wr.frozen? ⟨g2, at_, none⟩ = false := hb2.2
                generalize mix B (stB B at_ 4 n) at_ 0 (at_ + 0) = mx at *
                have i1 : (at_ : Int) + 0 < 65536 := by omega
                have HS : Hid (∀ i : Int, i = ((0 + 1 : Nat) : Int) → ∀ off : Nat, off = at_ + 0 → L2 w g1 g2 B (stB B at_ 4 n) at_ 4 (.int .i64 i) (wr.setCell ⟨g2, off, none⟩ (.int .u8 (B (at_ + 0) : Int)))) := Lib.hid fun i hi off hoff => L2.step (k := 0) (by omega) hgw hne (by omega) HO5.out HK15.out HK25.out hi hoff
                clear hb1 hb2
                generalize hbb : B (at_ + 0) = bb at *
                go_wp2_with fail
                go_roundw
                case rel => exact HS.out _ rfl _ rfl
                case measure => simp [intOf]
              · have hb1 := HK15.out.cell (at_ + 1) (by omega)
                have hb2 := HK25.out.cell (at_ + 1) (by omega)
                have r1 : wr.cell? ⟨g1, at_ + 1, none⟩ = some (.int .u8 (B (at_ + 1) : Int)) := hb1.1
                have r2 := hb2.1
                have r2 : wr.cell? ⟨g2, at_ + 1, none⟩ = some (.int .u8 (mix B (stB B at_ 4 n) at_ 1 (at_ + 1) : Int)) := r2
                have r3 : wr.frozen? ⟨g2, at_ + 1, none⟩ = false := hb2.2
                generalize mix B (stB B at_ 4 n) at_ 1 (at_ + 1) = mx at *
                have i1 : (at_ : Int) + 1 < 65536 := by omega
                have HS : Hid (∀ i : Int, i = ((1 + 1 : Nat) : Int) → ∀ off : Nat, off = at_ + 1 → L2 w g1 g2 B (stB B at_ 4 n) at_ 4 (.int .i64 i) (wr.setCell ⟨g2, off, none⟩ (.int .u8 (B (at_ + 1) : Int)))) := Lib.hid fun i hi off hoff => L2.step (k := 1) (by omega) hgw hne (by omega) HO5.out HK15.out HK25.out hi hoff
                clear hb1 hb2
                generalize hbb : B (at_ + 1) = bb at *
                go_wp2_with fail
                go_roundw
                case rel => exact HS.out _ rfl _ rfl
                case measure => simp [intOf]
              · have hb1 := HK15.out.cell (at_ + 2) (by omega)
                have hb2 := HK25.out.cell (at_ + 2) (by omega)
                have r1 : wr.cell? ⟨g1, at_ + 2, none⟩ = some (.int .u8 (B (at_ + 2) : Int)) := hb1.1
                have r2 := hb2.1
                have r2 : wr.cell? ⟨g2, at_ + 2, none⟩ = some (.int .u8 (mix B (stB B at_ 4 n) at_ 2 (at_ + 2) : Int)) := r2
                have r3 : wr.frozen? ⟨g2, at_ + 2, none⟩ = false := hb2.2
                generalize mix B (stB B at_ 4 n) at_ 2 (at_ + 2) = mx at *
                have i1 : (at_ : Int) + 2 < 65536 := by omega
                have HS : Hid (∀ i : Int, i = ((2 + 1 : Nat) : Int) → ∀ off : Nat, off = at_ + 2 → L2 w g1 g2 B (stB B at_ 4 n) at_ 4 (.int .i64 i) (wr.setCell ⟨g2, off, none⟩ (.int .u8 (B (at_ + 2) : Int)))) := Lib.hid fun i hi off hoff => L2.step (k := 2) (by omega) hgw hne (by omega) HO5.out HK15.out HK25.out hi hoff
                clear hb1 hb2
                generalize hbb : B (at_ + 2) = bb at *
                go_wp2_with fail
                go_roundw
                case rel => exact HS.out _ rfl _ rfl
                case measure => simp [intOf]
              · have hb1 := HK15.out.cell (at_ + 3) (by omega)
                have hb2 := HK25.out.cell (at_ + 3) (by omega)
                have r1 : wr.cell? ⟨g1, at_ + 3, none⟩ = some (.int .u8 (B (at_ + 3) : Int)) := hb1.1
                have r2 := hb2.1
                have r2 : wr.cell? ⟨g2, at_ + 3, none⟩ = some (.int .u8 (mix B (stB B at_ 4 n) at_ 3 (at_ + 3) : Int)) := r2
                have r3 : wr.frozen? ⟨g2, at_ + 3, none⟩ = false := hb2.2
                generalize mix B (stB B at_ 4 n) at_ 3 (at_ + 3) = mx at *
                have i1 : (at_ : Int) + 3 < 65536 := by omega
                have HS : Hid (∀ i : Int, i = ((3 + 1 : Nat) : Int) → ∀ off : Nat, off = at_ + 3 → L2 w g1 g2 B (stB B at_ 4 n) at_ 4 (.int .i64 i) (wr.setCell ⟨g2, off, none⟩ (.int .u8 (B (at_ + 3) : Int)))) := Lib.hid fun i hi off hoff => L2.step (k := 3) (by omega) hgw hne (by omega) HO5.out HK15.out HK25.out hi hoff
                clear hb1 hb2
                generalize hbb : B (at_ + 3) = bb at *
                go_wp2_with fail
                go_roundw
                case rel => exact HS.out _ rfl _ rfl
                case measure => simp [intOf]
              · have hA := HA2.out
                rcases HC.out with h | h
                · have e1 : ((tc' : Int) == (tc : Int)) = true := by simp; omega
                  clear h
                  go_wp2_with fail
                  refine (Pt.c11 _ _ 65536 _ 65536 _ _ _ _ (by omega) (by omega) HK15.out.rd HK25.out.rd).mono ?_
                  rintro _ w6 ⟨x, rfl, hx, q, rfl⟩
                  obtain rfl : x = true := hx.2 ⟨rfl, fun i _ => mix_all B at_ 4 n i⟩
                  clear hx
                  go_wp2_with fail
                  refine (lives _).mono ?_
                  rintro _ w7 ⟨rfl, q7⟩
                  go_wp2_with fail
                  go_ret
                  exact ⟨rfl, (Below.drewN' HO5.out q).trans (q7.mono (Below.drewN' HO5.out q).size)⟩
                · have e1 : ((tc' : Int) == (tc : Int)) = false := by simp; omega
                  have e2 : ((tc' : Int) == (tc : Int) - 1) = true := by simp; omega
                  have tl := HTL.out
                  clear h
                  go_wp2_with fail
                  refine (Pt.c11 _ _ 65536 _ 65536 _ _ _ _ (by omega) (by omega) HK15.out.rd HK25.out.rd).mono ?_
                  rintro _ w6 ⟨x, rfl, hx, q, rfl⟩
                  obtain rfl : x = true := hx.2 ⟨rfl, fun i _ => mix_all B at_ 4 n i⟩
                  clear hx
                  go_wp2_with fail
                  refine (lives _).mono ?_
                  rintro _ w7 ⟨rfl, q7⟩
                  go_wp2_with fail
                  go_ret
                  exact ⟨rfl, (Below.drewN' HO5.out q).trans (q7.mono (Below.drewN' HO5.out q).size)⟩
        · refine (mStoreNo _ at_ n s B T _ HM2.out hw).mono ?_
          rintro _ _ ⟨rfl, rfl⟩
          go_wp2_with fail
          refine (bytesAll _ B T _ HM2.out).mono ?_
          rintro _ w3 ⟨g2, c2, rfl, q3, hg2, k2, hc2, hc2'⟩
          have k13 := HK1.out.below q3 HK1.out.lt
          have o3 := HO2.out.trans (q3.mono HO2.out.size)
          have HO3 := Lib.hid o3; have HK13 := Lib.hid k13; have HK2 := Lib.hid k2
          clear q3 k13 o3 k2
          go_wp2_with fail
          refine (Pt.c11 _ _ 65536 _ 65536 _ _ _ _ (by omega) (by omega) HK13.out.rd HK2.out.rd).mono ?_
          rintro _ w4 ⟨x, rfl, hx, q, rfl⟩
          obtain rfl : x = true := hx.2 ⟨rfl, fun _ _ => rfl⟩
          clear hx
          go_wp2_with fail
          refine (lives _).mono ?_
          rintro _ w5 ⟨rfl, q5⟩
          go_wp2_with fail
          go_ret
          exact ⟨rfl, (Below.drewN' HO3.out q).trans (q5.mono (Below.drewN' HO3.out q).size)⟩
end Go.Proofs.Ytlfdjngchnaedaa
