import Derived.Test.YtleabbhoedddlaaBq
import Derived.Test.YtleabbhoedddlaaBc
import Derived.Test.YtleabbhoedddlaaR
namespace Go.Proofs.Ytleabbhoedddlaa
open Go.ChangeShapes Go.WideShapes Go.ChangeAt Go.RowKit
open Pt (info5)
open Cp (cp arr mt num4)
set_option linter.unusedVariables false
/-- so many numbers stand there -/
def Is (w : World) (A : Option Addr) (n : Nat) (f : Nat → Int) : Prop :=
  0 < n → ∃ b o, A = some ⟨b, o, none⟩ ∧ b < w.heap.size ∧ ∀ k, k < n → w.cell? ⟨b, o + k, none⟩ = some (.int .i64 (f k)) ∧ -9223372036854775808 ≤ f k ∧ f k ≤ 9223372036854775807
def L1 (w : World) (r x y N : Nat) (i m : Value) (wr : World) : Prop := ∃ k b : Nat, k ≤ N ∧ i = .int .i64 (k : Int) ∧ m = .pointer (some ⟨b, 0, none⟩) ∧ End w b r x y wr
def L2r (w : World) (b r x y N : Nat) (i : Value) (wr : World) : Prop := ∃ k : Nat, k ≤ N ∧ i = .int .i64 (k : Int) ∧ End w b r x y wr
theorem End.below {w0 w w' : World} {b r x y : Nat} (h : End w0 b r x y w) (hb : Below w.heap.size w w') : End w0 b r x y w' := by
  obtain ⟨B, T, hJ⟩ := h
  exact ⟨B, T, hJ.below hb⟩
theorem End.bel {w0 w : World} {b r x y : Nat} (h : End w0 b r x y w) : Below w0.heap.size w0 w := by
  obtain ⟨B, T, hJ⟩ := h
  exact hJ.bel
theorem End.alike {w0 w : World} {b r x y : Nat} (h : End w0 b r x y w) (at_ n s : Int) (ha : -9223372036854775808 ≤ at_ ∧ at_ ≤ 9223372036854775807) (hn : -9223372036854775808 ≤ n ∧ n ≤ 9223372036854775807) :
    Calls Try.prog 10 #[.pointer (some ⟨b, 0, none⟩), .pointer (some ⟨r, 0, none⟩), .int .i64 at_, .int .i64 n, .int .i64 s] w fun en w' => en = .returned (.bool true) ∧ Below w.heap.size w w' := by
  obtain ⟨B, T, hJ⟩ := h
  exact alike_ w0 b r x y B T at_ n s w hJ ha hn
theorem End.did {w0 w : World} {b r x y : Nat} (h : End w0 b r x y w) (z : Ac) (hz : z.ok) :
    Calls Try.prog 9 #[.pointer (some ⟨b, 0, none⟩), .pointer (some ⟨r, 0, none⟩), z.v] w fun en w' => ∃ b', en = .returned (.tuple #[.pointer (some ⟨b', 0, none⟩), .bool true]) ∧ End w0 b' r x y w' := by
  obtain ⟨B, T, hJ⟩ := h
  exact did_ w0 b r x y B T z hz w hJ
set_option maxHeartbeats 4000000 in
theorem rNew2 (w : World) : Calls Try.prog 8 #[] w fun en w' => ∃ r x y, en = .returned (.pointer (some ⟨r, 0, none⟩)) ∧ Below w.heap.size w w' ∧ RM w' r x y 65536 8192 (fun _ => 0) (fun _ => false) ∧ w.heap.size ≤ r ∧ w.heap.size ≤ x ∧ w.heap.size ≤ y := by
  obtain ⟨i0, hi, hz0, hz1, hz2⟩ := info_parts info5
  obtain ⟨j0, ki, kz0, kz1, kz2⟩ := info_parts info4
  have hmk := fun W => run_make_row (P := Try.prog) 44 5 i0 (.int .u8 0) Try.underlying44 hi hz0 hz1 rfl .i64 .i64 65536 (by rw [hz2]; omega) (by omega) W
  have kmk := fun W => run_make_row (P := Try.prog) 66 4 j0 (.bool false) Try.underlying66 ki kz0 kz1 rfl .i64 .i64 8192 (by rw [kz2]; omega) (by omega) W
  have m1 : ∀ j, j < 65536 → (madeCells #[(.int .u8 0 : Value)] 65536)[j]? = some (.int .u8 0) := fun j hj => made_at _ _ j hj
  have m2 : ∀ j, j < 8192 → (madeCells #[(.bool false : Value)] 8192)[j]? = some (.bool false) := fun j hj => made_at _ _ j hj
  have s1 : (madeCells #[(.int .u8 0 : Value)] 65536).size = 65536 := size_madeCells _ _
  have s2 : (madeCells #[(.bool false : Value)] 8192).size = 8192 := size_madeCells _ _
  generalize madeCells #[(.int .u8 0 : Value)] 65536 = M1 at *
  generalize madeCells #[(.bool false : Value)] 8192 = M2 at *
  have hmk' : ∀ W, (Instr.makeSlice 44 (.int .i64 65536) (.int .i64 65536)).run Try.prog W = .ok (.slice (some ⟨W.heap.size, 0, none⟩) 65536 65536) (W.alloc (.cells M1 5)) := hmk
  have kmk' : ∀ W, (Instr.makeSlice 66 (.int .i64 8192) (.int .i64 8192)).run Try.prog W = .ok (.slice (some ⟨W.heap.size, 0, none⟩) 8192 8192) (W.alloc (.cells M2 4)) := kmk
  clear hmk kmk
  go_enter Try.func8, Try.ntmps8
  go_wp2_with fail
  go_region
  all_goals
    go_wp2_with fail
    go_ret
  · exact ⟨_, _, _, rfl, (((((Below.refl _ _).alloc (Nat.le_refl _) _).alloc (by simp) _).alloc (by simp; omega) _).drew), ⟨Blk.drew (n3 _ _ _ _ _), ⟨M1, (n1 w M1 5 _ _).drew, by omega, m1⟩, ⟨M2, (n2 w _ M2 4 _).drew, by omega, m2⟩, fun _ => by omega, by omega, by omega, by omega⟩, by omega, by omega, by omega⟩
  · exact ⟨_, _, _, rfl, (((((Below.refl _ _).alloc (Nat.le_refl _) _).alloc (by simp) _).alloc (by simp; omega) _).drew), ⟨Blk.drew (n3 _ _ _ _ _), ⟨M1, (n2 w _ M1 5 _).drew, by omega, m1⟩, ⟨M2, (n1 w M2 4 _ _).drew, by omega, m2⟩, fun _ => by omega, by omega, by omega, by omega⟩, by omega, by omega, by omega⟩
set_option maxRecDepth 100000 in
set_option maxHeartbeats 16000000 in
theorem law3 (A : Option Addr) (N c : Nat) (f : Nat → Ac) (A1 : Option Addr) (n1 c1 : Nat) (f1 : Nat → Int) (A2 : Option Addr) (n2 c2 : Nat) (f2 : Nat → Int) (A3 : Option Addr) (n3 c3 : Nat) (f3 : Nat → Int) (w : World)
    (hA : Acs w A N f) (h1 : Is w A1 n1 f1) (h2 : Is w A2 n2 f2) (h3 : Is w A3 n3 f3) :
    Calls Try.prog 3 #[.slice A N c, .slice A1 n1 c1, .slice A2 n2 c2, .slice A3 n3 c3] w fun en w' => en = .returned (.bool true) ∧ Below w.heap.size w w' := by
  have HA := Lib.hid hA
  have HI := Lib.hid (And.intro h1 (And.intro h2 h3))
  clear hA h1 h2 h3
  go_enter Try.func3, Try.ntmps3
  go_wp2_with fail
  refine (mNew _).mono ?_
  rintro _ w1 ⟨rfl, q1, s1, m1⟩
  go_wp2_with fail
  refine (rNew2 _).mono ?_
  rintro _ w2 ⟨r, x, y, rfl, q2, rm2, l1, l2, l3⟩
  have START : Hid (L1 w r x y N (.int .i64 0) (.pointer (some ⟨w.heap.size, 0, none⟩)) w2) := Lib.hid ⟨0, w.heap.size, by omega, rfl, rfl, _, _, m1.below q2 (by omega), rm2, by omega, by omega, by omega, Nat.le_refl _, by omega, by omega, by omega, q1.trans (q2.mono (by omega))⟩
  clear q1 s1 m1 q2 rm2 l1 l2 l3
  go_wp2_with fail
  go_loopw [11, 9] (fun i m wr => L1 w r x y N i m wr) (fun i _ _ => N - (intOf i).toNat)
  case atStart => exact START.out
  case round =>
    obtain ⟨k, b, hk, rfl, rfl, hE⟩ := hrel
    have HE := Lib.hid hE
    clear hE START
    by_cases hlt : k < N ∧ k < 40
    · obtain ⟨hlt, h40⟩ := hlt
      obtain ⟨ba, o, rfl, hbl, hc⟩ := HA.out (by omega)
      obtain ⟨hok, c0, c1, c2, c3, c4, c5, c6, c7, c8, c9, c10⟩ := hc k hlt
      have z : ∀ j, wr.cell? ⟨ba, j, none⟩ = w.cell? ⟨ba, j, none⟩ := fun j => HE.out.bel.cell (p := ⟨ba, j, none⟩) hbl
      rw [← z] at c0 c1 c2 c3 c4 c5 c6 c7 c8 c9 c10
      have HZ := Lib.hid z; have HOK := Lib.hid hok; have HC := Lib.hid hc
      have d40 : decide ((k : Int) < 40) = true := by simp; omega
      have HK : Hid (k + 1 ≤ N) := Lib.hid hlt
      have bk : k ≤ 39 := by omega
      clear z hok hc h40 hk
      generalize f k = x_ at *
      go_wp2_with fail
      refine (HE.out.did x_ HOK.out).mono ?_
      rintro _ w3 ⟨b', rfl, hE3⟩
      have HE3 := Lib.hid hE3
      clear hE3
      go_wp2_with fail
      go_roundw
      case rel => exact ⟨k + 1, b', HK.out, by go_num, rfl, HE3.out⟩
      case measure => simp [intOf]; have := HK.out; omega
    · have hex : (k < N ∧ decide ((k : Int) < 40) = false) ∨ ¬ k < N := by
        by_cases h : k < N
        · exact Or.inl ⟨h, by simp; omega⟩
        · exact Or.inr h
      clear hlt hk
      rcases hex with ⟨hx, d40⟩ | hx
      all_goals
        go_wp2_with fail
        clear hx
        have START2 : Hid (L2r w b r x y n1 (.int .i64 0) wr) := Lib.hid ⟨0, by omega, rfl, HE.out⟩
        clear HE
        go_loopw [13] (fun i wr => L2r w b r x y n1 i wr) (fun i _ => n1 - (intOf i).toNat)
        case atStart => exact START2.out
        case round =>
          obtain ⟨j, hj, rfl, hE⟩ := hrel
          have HE := Lib.hid hE
          clear hE START2
          by_cases hlt : j < n1 ∧ j < n2 ∧ j < n3 ∧ j < 40
          · obtain ⟨j1, j2, j3, j40⟩ := hlt
            obtain ⟨ba1, o1, rfl, g1, t1⟩ := HI.out.1 (by omega)
            obtain ⟨ba2, o2, rfl, g2, t2⟩ := HI.out.2.1 (by omega)
            obtain ⟨ba3, o3, rfl, g3, t3⟩ := HI.out.2.2 (by omega)
            obtain ⟨v1, lo1, up1⟩ := t1 j j1
            obtain ⟨v2, lo2, up2⟩ := t2 j j2
            obtain ⟨v3, lo3, up3⟩ := t3 j j3
            have z1 := fun i => HE.out.bel.cell (p := ⟨ba1, i, none⟩) g1
            have z2 := fun i => HE.out.bel.cell (p := ⟨ba2, i, none⟩) g2
            have z3 := fun i => HE.out.bel.cell (p := ⟨ba3, i, none⟩) g3
            rw [← z1] at v1
            rw [← z2] at v2
            rw [← z3] at v3
            have HT := Lib.hid (And.intro t1 (And.intro t2 t3))
            have e40 : decide ((j : Int) < 40) = true := by simp; omega
            have HJ : Hid (j + 1 ≤ n1) := Lib.hid j1
            have bj : j ≤ 39 := by omega
            have HL := Lib.hid (And.intro (And.intro lo1 up1) (And.intro lo2 up2))
            clear z1 z2 z3 t1 t2 t3 j40 hj lo1 up1 lo2 up2 lo3 up3
            generalize f1 j = a1 at *
            generalize f2 j = a2 at *
            generalize f3 j = a3 at *
            go_wp2_with fail
            go_still_tail 14, (by kernel_rfl)
            change wpList _ _ _ _ _ (World.drew _)
            go_wp2_with fail
            refine ((HE.out.below ((Below.refl _ _).drew)).alike a1 a2 a3 HL.out.1 HL.out.2).mono ?_
            rintro _ w4 ⟨rfl, b4⟩
            have HE4 := Lib.hid ((HE.out.below ((Below.refl _ _).drew)).below b4)
            clear b4
            go_wp2_with fail
            go_roundw
            case rel => exact ⟨j + 1, HJ.out, by go_num, HE4.out⟩
            case measure => simp [intOf]; have := HJ.out; omega
          · have hex2 : (j < n1 ∧ j < n2 ∧ j < n3 ∧ decide ((j : Int) < 40) = false) ∨ (j < n1 ∧ j < n2 ∧ ¬ j < n3) ∨ (j < n1 ∧ ¬ j < n2) ∨ ¬ j < n1 := by
              by_cases h1 : j < n1
              · by_cases h2 : j < n2
                · by_cases h3 : j < n3
                  · exact Or.inl ⟨h1, h2, h3, by simp; omega⟩
                  · exact Or.inr (Or.inl ⟨h1, h2, h3⟩)
                · exact Or.inr (Or.inr (Or.inl ⟨h1, h2⟩))
              · exact Or.inr (Or.inr (Or.inr h1))
            clear hlt hj
            rcases hex2 with ⟨y1, y2, y3, e40⟩ | ⟨y1, y2, y3⟩ | ⟨y1, y2⟩ | y1
            all_goals
              go_wp2_with fail
              refine (HE.out.alike 0 65536 4 (by omega) (by omega)).mono ?_
              rintro _ w4 ⟨rfl, b4⟩
              have HE4 := Lib.hid (HE.out.bel.trans (b4.mono HE.out.bel.size))
              go_wp2_with fail
              refine (lives _).mono ?_
              rintro _ w5 ⟨rfl, b5⟩
              have HE5 := Lib.hid (HE4.out.trans (b5.mono HE4.out.size))
              go_wp2_with fail
              go_ret
              exact ⟨rfl, HE5.out⟩
end Go.Proofs.Ytleabbhoedddlaa
