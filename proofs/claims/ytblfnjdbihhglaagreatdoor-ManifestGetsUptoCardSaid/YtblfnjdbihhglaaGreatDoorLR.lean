import Derived.Test.YtblfnjdbihhglaaGreatDoorLQ
namespace Go.Proofs.YtblfnjdbihhglaaGreatDoor.Li
open Go.ChangeShapes Go.WideShapes Go.ChangeAt Go.RowKit
set_option linter.unusedVariables false
theorem noN_eq : noN = .tuple #[.int .u32 0, .bool false] := rfl
set_option maxRecDepth 100000 in
set_option maxHeartbeats 4000000 in
theorem c10_hex (s t : ByteArray) (ht : s.extract 2 s.size = t) (hp : px s = true) (htz : t.size ≤ 9223372036854775807) (hs : s.size ≤ 9223372036854775807) (w : World) :
    Calls Tryz.prog 94 #[.string s] w fun e w' => e = .returned (refV s) ∧ Below w.heap.size w w' := by
  have K21 := Lib.hid (c21 s hs w)
  rw [hp, if_pos rfl, ht] at K21
  have HA : Hid (8 < t.size ∨ dA 16 t = false → refV s = noN) := Lib.hid (by rw [← ht]; exact ref_a s hp)
  have HB : Hid (¬ 8 < t.size → dA 16 t = true → refV s = .tuple #[.int .u32 (numN 16 t t.size : Int), .bool true]) := Lib.hid (by rw [← ht]; exact ref_b s hp)
  have K22 := Lib.hid (c22_16 t htz)
  clear hp ht
  by_cases h8 : 8 < t.size
  · have HW := Lib.hid (HA.out (Or.inl h8))
    go_enter Tryz.func94, Tryz.ntmps94
    go_wp2_with fail
    refine (K21.out).mono ?_
    rintro _ _ ⟨rfl, rfl⟩
    go_wp2_with fail
    go_ret2
    exact ⟨by rw [HW.out, noN_eq]; rfl, Below.refl _ _⟩
  · obtain ⟨q, hq⟩ : ∃ q, dA 16 t = q := ⟨_, rfl⟩
    rw [hq] at HA HB K22
    have h8i : decide ((8 : Int) < (t.size : Int)) = false := by simp; omega
    cases q
    · have HW := Lib.hid (HA.out (Or.inr rfl))
      clear hq
      go_enter Tryz.func94, Tryz.ntmps94
      go_wp2_with fail
      refine (K21.out).mono ?_
      rintro _ _ ⟨rfl, rfl⟩
      go_wp2_with fail
      refine (K22.out _).mono ?_
      rintro _ w1 ⟨rfl, b1⟩
      have B1 := Lib.hid b1
      clear b1
      go_wp2_with fail
      go_ret2
      exact ⟨by rw [HW.out, noN_eq]; rfl, B1.out⟩
    · have HW := Lib.hid (HB.out h8 rfl)
      obtain ⟨h6, h7⟩ := dA_true 16 t hq
      have K23 := Lib.hid (c23_16 t (by omega) (by omega) h7)
      have hn := numN_16 t t.size (by omega) h7
      have BW := Lib.hid (fun w => bytesW_below w 5 t)
      clear hq h7
      generalize numN 16 t t.size = n at *
      have hni : (n : Int) ≤ 4294967295 := by omega
      clear hn
      go_enter Tryz.func94, Tryz.ntmps94
      go_wp2_with fail
      refine (K21.out).mono ?_
      rintro _ _ ⟨rfl, rfl⟩
      go_wp2_with fail
      refine (K22.out _).mono ?_
      rintro _ w1 ⟨rfl, b1⟩
      have B1 := Lib.hid b1
      clear b1
      go_wp2_with fail
      refine (K23.out _).mono ?_
      rintro _ w2 ⟨rfl, q2⟩
      have B2 : Hid (Below w1.heap.size w1 w2) := Lib.hid (by rw [q2]; exact BW.out w1)
      clear q2
      go_wp2_with fail
      go_ret2
      exact ⟨by rw [HW.out]; rfl, B1.out.trans (B2.out.mono B1.out.size)⟩
set_option maxRecDepth 100000 in
set_option maxHeartbeats 4000000 in
theorem c10_dec (s : ByteArray) (hp : px s = false) (hs : s.size ≤ 281474976710656) (w : World) (hG : Gl w) :
    Calls Tryz.prog 94 #[.string s] w fun e w' => e = .returned (refV s) ∧ Below w.heap.size w w' := by
  have K21 := Lib.hid (c21 s (by omega) w)
  rw [hp, if_neg (by decide)] at K21
  have HA := Lib.hid (ref_c s hp)
  have HB := Lib.hid (ref_d s hp)
  have HC := Lib.hid (ref_e s hp)
  have HG := Lib.hid hG
  have K22 := Lib.hid (c22_10 s (by omega))
  clear hp hG
  obtain ⟨q, hq⟩ : ∃ q, dA 10 s = q := ⟨_, rfl⟩
  rw [hq] at HA HB HC K22
  have hext : (ByteArray.extract ⟨#[48, 49, 50, 51, 52, 53, 54, 55, 56, 57, 97, 98, 99, 100, 101, 102]⟩ 0 10) = ⟨#[48, 49, 50, 51, 52, 53, 54, 55, 56, 57]⟩ := rfl
  cases q
  · have HW := Lib.hid (HA.out (Or.inl rfl))
    clear hq
    go_enter Tryz.func94, Tryz.ntmps94
    go_wp2_with fail
    refine (K21.out).mono ?_
    rintro _ _ ⟨rfl, rfl⟩
    go_wp2_with fail
    refine (K22.out _).mono ?_
    rintro _ w1 ⟨rfl, b1⟩
    have B1 := Lib.hid b1
    clear b1
    go_wp2_with fail
    go_ret2
    exact ⟨by rw [HW.out, noN_eq]; rfl, B1.out⟩
  · obtain ⟨h6, h7⟩ := dA_true 10 s hq
    have hpb := parseB s h6 h7
    have H7 := Lib.hid h7
    clear hq h7
    have he : ((s[0]'h6).toNat : Int) = (bb s 0 : Int) := by rw [bb_eq s 0 h6]
    by_cases hz : 1 < s.size ∧ bb s 0 = 48
    · have HW := Lib.hid (HA.out (Or.inr hz))
      obtain ⟨hz1, hz2⟩ := hz
      have hb0 : ((bb s 0 : Int) == 48) = true := by rw [hz2]; rfl
      clear hz2 hpb
      generalize bb s 0 = v at *
      go_enter Tryz.func94, Tryz.ntmps94
      go_wp2_with fail
      refine (K21.out).mono ?_
      rintro _ _ ⟨rfl, rfl⟩
      go_wp2_with fail
      refine (K22.out _).mono ?_
      rintro _ w1 ⟨rfl, b1⟩
      have B1 := Lib.hid b1
      clear b1
      go_wp2_with fail
      go_ret2
      exact ⟨by rw [HW.out, noN_eq]; rfl, B1.out⟩
    · have hzz : (bb s 0 ≠ 48) ∨ (bb s 0 = 48 ∧ s.size ≤ 1) := by omega
      have HO : Hid (∀ w, Gl w → ∃ v w2e, True) := Lib.hid fun w _ => ⟨0, w, trivial⟩
      have KF : Hid (∀ w1 : World, Gl w1 → Calls Tryz.prog 106 #[.string s, .int .i64 10, .int .i64 32] w1 fun e w2 => ∃ (n : Nat) (er : Value), e = .returned (.tuple #[.int .u64 (n : Int), er]) ∧ n ≤ 4294967295 ∧ Below w1.heap.size w1 w2 ∧ ((er = .nilIface ∧ refV s = .tuple #[.int .u32 (n : Int), .bool true]) ∨ ((∃ N, er = .iface 153 (.pointer (some ⟨N, 0, none⟩))) ∧ refV s = noN))) := Lib.hid (by
        intro w1 hg1
        by_cases hb : numN 10 s s.size ≤ 4294967295
        · rw [if_pos hb] at hpb
          refine (Tryz.strconv_ParseUint_10_at32_ok s (by omega) _ hpb w1).mono ?_
          rintro e w2 ⟨he, hw⟩
          refine ⟨_, _, he, hb, ?_, Or.inl ⟨rfl, HB.out rfl hz hb⟩⟩
          rcases hw with rfl | rfl
          · exact Below.refl _ _
          · exact bytesW_below _ _ _
        · rw [if_neg hb] at hpb
          obtain ⟨ev, m, g1, g2, g3, g4⟩ := hg1
          refine (Tryz.strconv_ParseUint_10_at32_range s hs hpb ev w1 g1 g2).mono ?_
          rintro e w2 ⟨N, he, h1, h2, h3⟩
          exact ⟨4294967295, _, he, by omega, h3, Or.inr ⟨⟨N, rfl⟩, HC.out rfl hb⟩⟩)
      clear hpb HO hz
      rcases hzz with hz | ⟨hz1, hz2⟩
      · have hb0 : ((bb s 0 : Int) == 48) = false := by simpa using (fun h3 => hz (by omega))
        generalize bb s 0 = v at *
        clear hz
        go_enter Tryz.func94, Tryz.ntmps94
        go_wp2_with fail
        refine (K21.out).mono ?_
        rintro _ _ ⟨rfl, rfl⟩
        go_wp2_with fail
        refine (K22.out _).mono ?_
        rintro _ w1 ⟨rfl, b1⟩
        have B1 := Lib.hid b1
        clear b1
        go_wp2_with fail
        refine (KF.out _ (HG.out.below B1.out)).mono ?_
        rintro _ w2 ⟨n, er, rfl, hn, b2, hor⟩
        have B2 := Lib.hid b2
        have hni : (n : Int) ≤ 4294967295 := by omega
        clear b2 hn
        rcases hor with ⟨rfl, hr⟩ | ⟨⟨N, rfl⟩, hr⟩
        · have HR := Lib.hid hr
          clear hr
          go_wp2_with fail
          go_ret2
          exact ⟨by rw [HR.out]; rfl, B1.out.trans (B2.out.mono B1.out.size)⟩
        · have HR := Lib.hid hr
          clear hr
          go_wp2_with fail
          go_ret2
          exact ⟨by rw [HR.out, noN_eq]; rfl, B1.out.trans (B2.out.mono B1.out.size)⟩
      · have hb0 : ((bb s 0 : Int) == 48) = true := by rw [hz1]; rfl
        have hsz : decide ((1 : Int) < (s.size : Int)) = false := by simp; omega
        generalize bb s 0 = v at *
        clear hz1
        go_enter Tryz.func94, Tryz.ntmps94
        go_wp2_with fail
        refine (K21.out).mono ?_
        rintro _ _ ⟨rfl, rfl⟩
        go_wp2_with fail
        refine (K22.out _).mono ?_
        rintro _ w1 ⟨rfl, b1⟩
        have B1 := Lib.hid b1
        clear b1
        go_wp2_with fail
        refine (KF.out _ (HG.out.below B1.out)).mono ?_
        rintro _ w2 ⟨n, er, rfl, hn, b2, hor⟩
        have B2 := Lib.hid b2
        have hni : (n : Int) ≤ 4294967295 := by omega
        clear b2 hn
        rcases hor with ⟨rfl, hr⟩ | ⟨⟨N, rfl⟩, hr⟩
        · have HR := Lib.hid hr
          clear hr
          go_wp2_with fail
          go_ret2
          exact ⟨by rw [HR.out]; rfl, B1.out.trans (B2.out.mono B1.out.size)⟩
        · have HR := Lib.hid hr
          clear hr
          go_wp2_with fail
          go_ret2
          exact ⟨by rw [HR.out, noN_eq]; rfl, B1.out.trans (B2.out.mono B1.out.size)⟩
/-- lines.Number -/
theorem c10 (s : ByteArray) (hs : s.size ≤ 281474976710656) (w : World) (hG : Gl w) :
    Calls Tryz.prog 94 #[.string s] w fun e w' => e = .returned (refV s) ∧ Below w.heap.size w w' := by
  obtain ⟨q, hq⟩ : ∃ q, px s = q := ⟨_, rfl⟩
  cases q
  · exact c10_dec s hq hs w hG
  · exact c10_hex s _ rfl hq (by have : (s.extract 2 s.size).size = s.size - 2 := by simp
                                 omega) (by omega) w
end Go.Proofs.YtblfnjdbihhglaaGreatDoor.Li
