import Derived.Test.YtjcoidpajcichaaH
namespace Go.Proofs.Ytjcoidpajcichaa
open Go.ChangeShapes Go.WideShapes Go.ChangeAt Go.RowKit
set_option linter.unusedVariables false
/-- What stands after a call: as below, the wide bytes, the bytes. -/
def St (w w' : World) (A : Option Addr) (n : Nat) (f : Nat → Nat) : Prop := Below w.heap.size w w' ∧ w'.rowIs w.heap.size 5 (n + 3) (bV (wideF n f)) ∧ Rd w' A n f
theorem St.below {w w1 w2 : World} {A : Option Addr} {n : Nat} {f : Nat → Nat} (h : St w w1 A n f) (hb : Below w1.heap.size w1 w2) : St w w2 A n f :=
  ⟨h.1.trans (hb.mono h.1.size), rowIs_below h.2.1 hb h.2.1.lt, h.2.2.below hb⟩
def POut (w : World) (E : Int) (M : Nat) (h : Nat → Nat) (e : Ending) (w' : World) : Prop := ∃ A c, e = .returned (.tuple #[.slice A M c, .int .i64 E]) ∧ Below w.heap.size w w' ∧ Rd w' A M h
set_option maxHeartbeats 4000000 in
theorem walk4 (A : Option Addr) (n c : Nat) (f : Nat → Nat) (at' s k : Int) (X : Nat) (E E2 : Int) (M : Nat) (h : Nat → Nat) (Z : Bool) (w : World) (hn : n ≤ c) (hc : c ≤ 140737488351232) (hM : M ≤ 9223372036854775807) (hA : Rd w A n f)
    (K13 : Calls Try.prog 13 #[.slice A n c] w (WideOut w n f))
    (K14 : ∀ (w' : World) (g : Nat), w'.rowIs g 5 (n + 3) (bV (wideF n f)) → Calls Try.prog 14 #[.slice (some ⟨g, 0, none⟩) n (n + 3), .int .i64 at', .int .i64 s] w' fun e w'' => e = .returned (.tuple #[.int .u64 (X : Int), .int .i64 E]) ∧ w' = w'')
    (K15 : ∀ w' : World, Rd w' A n f → Calls Try.prog 15 #[.slice A n c, .int .i64 at', .int .i64 s] w' fun e w'' => e = .returned (.tuple #[.int .u64 (X : Int), .int .i64 E]) ∧ w' = w'')
    (K16 : ∀ (w' : World) (g : Nat), w'.rowIs g 5 (n + 3) (bV (wideF n f)) → Calls Try.prog 16 #[.slice (some ⟨g, 0, none⟩) n (n + 3), .int .i64 at', .int .i64 k] w' (POut w' E2 M h))
    (K17 : ∀ w' : World, Rd w' A n f → Calls Try.prog 17 #[.slice A n c, .int .i64 at', .int .i64 k] w' (POut w' E2 M h))
    (K18 : ∀ (w' : World) (g : Nat), w'.rowIs g 5 (n + 3) (bV (wideF n f)) → Calls Try.prog 18 #[.slice (some ⟨g, 0, none⟩) n (n + 3)] w' (PadOut w' (padN n) (padF n (wideF n f))))
    (K19 : ∀ w' : World, Rd w' A n f → Calls Try.prog 19 #[.slice A n c] w' (PadOut w' (padN n) (padF n f)))
    (K20 : ∀ (w' : World) (g : Nat), w'.rowIs g 5 (n + 3) (bV (wideF n f)) → Calls Try.prog 20 #[.slice (some ⟨g, 0, none⟩) n (n + 3), .int .i64 at', .int .i64 k] w' fun e w'' => e = .returned (.bool Z) ∧ w' = w'')
    (K21 : ∀ w' : World, Rd w' A n f → Calls Try.prog 21 #[.slice A n c, .int .i64 at', .int .i64 k] w' fun e w'' => e = .returned (.bool Z) ∧ Below w'.heap.size w' w'') :
    Calls Try.prog 4 #[.slice A n c, .int .i64 at', .int .i64 s, .int .i64 k] w fun e w' => e = .returned (.bool true) ∧ Below w.heap.size w w' := by
  have b1 : ((X : Int) == (X : Int)) = true := by simp
  have b2 : (E == E) = true := by simp
  have b3 : (E2 == E2) = true := by simp
  have b4 : (Z == Z) = true := by simp
  have hpn : padN n ≤ 9223372036854775807 := by unfold padN; omega
  have HPF : Hid (alike (padN n) (padF n (wideF n f)) (padF n f)) := Lib.hid (fun j _ => by
    unfold padF
    by_cases hj : j < n
    · rw [if_pos hj, if_pos hj]; unfold wideF; rw [if_pos hj]
    · rw [if_neg hj, if_neg hj])
  have HK13 := Lib.hid K13
  have HK14 := Lib.hid K14
  have HK15 := Lib.hid K15
  have HK16 := Lib.hid K16
  have HK17 := Lib.hid K17
  have HK18 := Lib.hid K18
  have HK19 := Lib.hid K19
  have HK20 := Lib.hid K20
  have HK21 := Lib.hid K21
  have HA := Lib.hid hA
  clear K13 K14 K15 K16 K17 K18 K19 K20 K21 hA
  go_enter Try.func4, Try.ntmps4
  go_wp2_with fail
  refine HK13.out.mono ?_
  rintro _ w1 ⟨rfl, hb1, hr1⟩
  have S1 : Hid (St w w1 A n f) := Lib.hid ⟨hb1, hr1, HA.out.below hb1⟩
  clear hb1 hr1 HA HK13
  go_wp2_with fail
  refine (HK14.out _ _ S1.out.2.1).mono ?_
  rintro _ _ ⟨rfl, rfl⟩
  go_wp2_with fail
  refine (HK15.out _ S1.out.2.2).mono ?_
  rintro _ _ ⟨rfl, rfl⟩
  go_wp2_with fail
  refine (HK16.out _ _ S1.out.2.1).mono ?_
  rintro _ w2 ⟨A2, c2, rfl, hb2, hr2⟩
  have S2 := Lib.hid (S1.out.below hb2)
  have R2 := Lib.hid hr2
  clear hb2 hr2 S1
  go_wp2_with fail
  refine (HK17.out _ S2.out.2.2).mono ?_
  rintro _ w3 ⟨A3, c3, rfl, hb3, hr3⟩
  have S3 := Lib.hid (S2.out.below hb3)
  have R2' := Lib.hid (R2.out.below hb3)
  have R3 := Lib.hid hr3
  clear hb3 hr3 S2 R2
  go_wp2_with fail
  refine (s11 A2 A3 M c2 c3 h h _ hM R2'.out R3.out (fun _ _ => rfl)).mono ?_
  rintro _ w4 ⟨rfl, hb4⟩
  have S4 := Lib.hid (S3.out.below hb4)
  clear hb4 S3 R2' R3
  go_wp2_with fail
  refine (HK18.out _ _ S4.out.2.1).mono ?_
  rintro _ w5 ⟨v5, rfl, hb5, hown5⟩
  obtain ⟨A5, c5, rfl, hr5, _, _, _⟩ := own_rd hown5
  have S5 := Lib.hid (S4.out.below hb5)
  have R5 := Lib.hid hr5
  clear hb5 hr5 hown5 S4
  go_wp2_with fail
  refine (HK19.out _ S5.out.2.2).mono ?_
  rintro _ w6 ⟨v6, rfl, hb6, hown6⟩
  obtain ⟨A6, c6, rfl, hr6, _, _, _⟩ := own_rd hown6
  have S6 := Lib.hid (S5.out.below hb6)
  have R5' := Lib.hid (R5.out.below hb6)
  have R6 := Lib.hid hr6
  clear hb6 hr6 hown6 S5 R5
  go_wp2_with fail
  refine (s11 A5 A6 (padN n) c5 c6 _ _ _ hpn R5'.out R6.out HPF.out).mono ?_
  rintro _ w7 ⟨rfl, hb7⟩
  have S7 := Lib.hid (S6.out.below hb7)
  clear hb7 S6 R5' R6
  go_wp2_with fail
  refine (HK20.out _ _ S7.out.2.1).mono ?_
  rintro _ _ ⟨rfl, rfl⟩
  go_wp2_with fail
  refine (HK21.out _ S7.out.2.2).mono ?_
  rintro _ w8 ⟨rfl, hb8⟩
  have S8 := Lib.hid (S7.out.below hb8)
  clear hb8 S7
  go_wp2_with fail
  refine (c22 A w.heap.size n c f _ hn hc S8.out.2.2 S8.out.2.1).mono ?_
  rintro _ w9 ⟨rfl, hb9⟩
  have S9 := Lib.hid (S8.out.below hb9)
  clear hb9 S8
  go_wp2_with fail
  refine (lives _).mono ?_
  rintro _ w10 ⟨rfl, hb10⟩
  have S10 := Lib.hid (S9.out.below hb10)
  clear hb10 S9
  go_wp2_with fail
  go_ret
  exact ⟨rfl, S10.out.1⟩
theorem nm_congr {f g : Nat → Nat} : ∀ k, (∀ j, j < k → f j = g j) → nm f k = nm g k
  | 0, _ => rfl
  | k + 1, h => by
    show nm f k + f k * 256 ^ k = nm g k + g k * 256 ^ k
    rw [nm_congr k (fun j hj => h j (by omega)), h k (by omega)]
theorem wideF_lt {f : Nat → Nat} (hf : ∀ j, f j < 256) (n j : Nat) : wideF n f j < 256 := by
  unfold wideF
  split
  · exact hf j
  · omega
theorem part_out {w w' : World} {n : Nat} {f h : Nat → Nat} {e : Ending} (hh : ∀ j, j < n → f j = h j) (hp : PartOut w n f e w') : POut w 0 n h e w' := by
  obtain ⟨v, h1, h2, h3⟩ := hp
  obtain ⟨A, c, rfl, h4, _⟩ := own_rd h3
  exact ⟨A, c, h1, h2, fun h0 => by
    obtain ⟨b, o, e1, e2, e3⟩ := h4 h0
    exact ⟨b, o, e1, e2, fun j hj => by rw [e3 j hj, hh j hj]⟩⟩
theorem part_err {w w' : World} {h : Nat → Nat} {E : Int} {e : Ending} (hp : e = .returned (.tuple #[.slice none 0 0, .int .i64 E]) ∧ w = w') : POut w E 0 h e w' :=
  ⟨none, 0, hp.1, by rw [← hp.2]; exact Below.refl _ _, fun h0 => absurd h0 (by omega)⟩
theorem law4 (A : Option Addr) (len cap : Nat) (zs : List Int) (at' s k : Int) {w : World} (h : IsRow .u8 w A len cap zs) (hc : cap * 1 ≤ 140737488351232)
    (hat : -9223372036854775808 ≤ at' ∧ at' ≤ 9223372036854775807) (hs : -9223372036854775808 ≤ s ∧ s ≤ 9223372036854775807) (hk : -9223372036854775808 ≤ k ∧ k ≤ 9223372036854775807) (_W : World) :
    Calls Try.prog 4 #[.slice A len cap, .int .i64 at', .int .i64 s, .int .i64 k] w fun e w' => e = .returned (.bool true) ∧ Below w.heap.size w w' := by
  obtain ⟨f, hf, hR, h1, h2, h3⟩ := h.rd
  have hw := fun p j (hj : p + j < len) => (show wideF len f (p + j) = f (p + j) by unfold wideF; rw [if_pos hj])
  have hRow := fun (w' : World) (g : Nat) (hr : w'.rowIs g 5 (len + 3) (bV (wideF len f))) => row_rd (n := len) hr (by omega)
  obtain ⟨X, E, K14, K15⟩ : ∃ (X : Nat) (E : Int), (∀ (w' : World) (g : Nat), w'.rowIs g 5 (len + 3) (bV (wideF len f)) → Calls Try.prog 14 #[.slice (some ⟨g, 0, none⟩) len (len + 3), .int .i64 at', .int .i64 s] w' fun e w'' => e = .returned (.tuple #[.int .u64 (X : Int), .int .i64 E]) ∧ w' = w'') ∧
      (∀ w' : World, Rd w' A len f → Calls Try.prog 15 #[.slice A len cap, .int .i64 at', .int .i64 s] w' fun e w'' => e = .returned (.tuple #[.int .u64 (X : Int), .int .i64 E]) ∧ w' = w'') := by
    by_cases hp : isSz s = true ∧ 0 ≤ at' ∧ at' + s ≤ len
    · obtain ⟨hs1, ha, hb⟩ := hp
      obtain ⟨m, rfl, hm⟩ := sz_of hs1
      obtain ⟨p, rfl⟩ := Int.eq_ofNat_of_zero_le ha
      refine ⟨nm (fun j => f (p + j)) m, 0, fun w' g hr => ?_, fun w' hr => c15 A len cap p m f w' hf h1 h2 hr hm (by omega)⟩
      have := c14 (some ⟨g, 0, none⟩) len (len + 3) p m (wideF len f) w' (wideF_lt hf len) (by omega) (by omega) (hRow w' g hr) (fun h => by cases h) hm (by omega)
      rw [nm_congr (f := fun j => wideF len f (p + j)) (g := fun j => f (p + j)) m (fun j hj => hw p j (by omega))] at this
      exact this
    · exact ⟨0, getE len at' s, fun w' g hr => c14x _ len (len + 3) at' s w' (by omega) (by omega) hp, fun w' hr => c15x A len cap at' s w' h1 h2 hp⟩
  obtain ⟨E2, M, hh, Z, hM, K16, K17, K20, K21⟩ : ∃ (E2 : Int) (M : Nat) (hh : Nat → Nat) (Z : Bool), M ≤ 9223372036854775807 ∧
      (∀ (w' : World) (g : Nat), w'.rowIs g 5 (len + 3) (bV (wideF len f)) → Calls Try.prog 16 #[.slice (some ⟨g, 0, none⟩) len (len + 3), .int .i64 at', .int .i64 k] w' (POut w' E2 M hh)) ∧
      (∀ w' : World, Rd w' A len f → Calls Try.prog 17 #[.slice A len cap, .int .i64 at', .int .i64 k] w' (POut w' E2 M hh)) ∧
      (∀ (w' : World) (g : Nat), w'.rowIs g 5 (len + 3) (bV (wideF len f)) → Calls Try.prog 20 #[.slice (some ⟨g, 0, none⟩) len (len + 3), .int .i64 at', .int .i64 k] w' fun e w'' => e = .returned (.bool Z) ∧ w' = w'') ∧
      (∀ w' : World, Rd w' A len f → Calls Try.prog 21 #[.slice A len cap, .int .i64 at', .int .i64 k] w' fun e w'' => e = .returned (.bool Z) ∧ Below w'.heap.size w' w'') := by
    by_cases hp : 0 ≤ at' ∧ 0 ≤ k ∧ at' + k ≤ len
    · obtain ⟨ha, hb, hl⟩ := hp
      obtain ⟨p, rfl⟩ := Int.eq_ofNat_of_zero_le ha
      obtain ⟨m, rfl⟩ := Int.eq_ofNat_of_zero_le hb
      have hpm : p + m ≤ len := by omega
      have hzz : allz m (fun j => wideF len f (p + j)) ↔ allz m (fun j => f (p + j)) := by
        constructor <;> intro hz j hj <;> have := hz j hj <;> have hwj := hw p j (by omega) <;> simp only at this ⊢ <;> omega
      obtain ⟨Z, hZ⟩ : ∃ Z : Bool, Z = true ↔ allz m (fun j => f (p + j)) := by
        rcases Classical.em (allz m (fun j => f (p + j))) with hz | hz
        · exact ⟨true, by simp [hz]⟩
        · exact ⟨false, by simp [hz]⟩
      refine ⟨0, m, fun j => f (p + j), Z, by omega, fun w' g hr => ?_, fun w' hr => ?_, fun w' g hr => ?_, fun w' hr => ?_⟩
      · exact (c16 _ len (len + 3) p m (wideF len f) w' (by omega) (by omega) (hRow w' g hr) (fun h => by cases h) hpm).mono fun e w'' hp => part_out (fun j hj => hw p j (by omega)) hp
      · exact (c17 A len cap p m f w' h1 (by omega) hr h3 hpm).mono fun e w'' hp => part_out (fun _ _ => rfl) hp
      · refine (c20 _ len (len + 3) p m (wideF len f) w' (by omega) (by omega) (hRow w' g hr) (fun h => by cases h) hpm).mono fun e w'' ⟨x, q1, q2, q3⟩ => ?_
        have : x = Z := by rw [Bool.eq_iff_iff, q2, hZ]; exact hzz
        rw [this] at q1
        exact ⟨q1, q3⟩
      · refine (c21 A len cap p m f w' h1 (by omega) hr h3 hpm).mono fun e w'' ⟨x, q1, q2, q3⟩ => ?_
        have : x = Z := by rw [Bool.eq_iff_iff, q2, hZ]
        rw [this] at q1
        exact ⟨q1, q3⟩
    · refine ⟨cutE len at' k, 0, fun _ => 0, false, by omega, fun w' g hr => ?_, fun w' hr => ?_, fun w' g hr => ?_, fun w' hr => ?_⟩
      · exact (c16x _ len (len + 3) at' k w' (by omega) (by omega) hp).mono fun e w'' hp => part_err hp
      · exact (c17x A len cap at' k w' h1 h2 hp).mono fun e w'' hp => part_err hp
      · exact c20x _ len (len + 3) at' k w' (by omega) (by omega) hp
      · exact (c21x A len cap at' k w' h1 h2 hp).mono fun e w'' hp => ⟨hp.1, by rw [← hp.2]; exact Below.refl _ _⟩
  exact walk4 A len cap f at' s k X E E2 M hh Z w h1 (by omega) hM hR (c13 A len cap f w h1 (by omega) hR) K14 K15 K16 K17
    (fun w' g hr => c18 _ len (len + 3) (wideF len f) w' (by omega) (by omega) (hRow w' g hr)) (fun w' hr => c19 A len cap f w' h1 (by omega) hr h3) K20 K21
end Go.Proofs.Ytjcoidpajcichaa
