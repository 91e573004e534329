import Derived.Test.YtblfnjdbihhglaaGreatDoorK
import Derived.Test.YtblfnjdbihhglaaGreatDoorLR
import Derived.Test.YtblfnjdbihhglaaGreatDoorLL
import Derived.Test.YtblfnjdbihhglaaGreatDoorE
import Derived.Test.YtblfnjdbihhglaaGreatDoorGn
namespace Go.Proofs.YtblfnjdbihhglaaGreatDoor
open Go.ChangeShapes Go.WideShapes Go.ChangeAt Go.RowKit
open Li (bb bb_eq dg dg10 numN px refV noN finV badN hexP Gl)
set_option linter.unusedVariables false
set_option linter.unusedSimpArgs false
/-- a numeral in tens -/
def decP (s : ByteArray) : Prop := s.size ≤ 10 ∧ 0 < s.size ∧ ¬ (1 < s.size ∧ bb s 0 = 48) ∧ (∀ i, i < s.size → dg (bb s i) < 10) ∧ numN 10 s s.size < 4294967296
open Classical in
noncomputable def decB (s : ByteArray) : Bool := decide (decP s)
def decN (s : ByteArray) : Nat := numN 10 s s.size
theorem decB_yes {s : ByteArray} (h : decP s) : decB s = true := by classical exact decide_eq_true h
theorem decB_no {s : ByteArray} (h : ¬ decP s) : decB s = false := by classical exact decide_eq_false h
theorem decB_true {s : ByteArray} (h : decB s = true) : decP s := by classical exact of_decide_eq_true h
theorem px_dec {s : ByteArray} (h : px s = true) : ¬ decP s := fun hd => by
  obtain ⟨h1, h2, h3⟩ := (Li.px_iff s).mp h
  exact hd.2.2.1 ⟨by omega, h2⟩
theorem refV_dec (s : ByteArray) (hp : px s = false) : refV s = .tuple #[.int .u32 ((if decB s = true then decN s else 0 : Nat) : Int), .bool (decB s)] := by
  classical
  by_cases hd : decP s
  · rw [decB_yes hd, if_pos rfl]
    obtain ⟨h1, h2, h3, h4, h5⟩ := hd
    unfold refV
    rw [if_neg (Li.not_hex s hp), if_neg (by rintro (h | h); exact h3 h; omega)]
    refine Li.fin_yes 10 s ?_
    rintro (h | ⟨i, hi, h⟩ | h)
    · omega
    · have := h4 i hi; omega
    · omega
  · rw [decB_no hd, if_neg (by decide)]
    show _ = noN
    unfold refV
    rw [if_neg (Li.not_hex s hp)]
    split
    · rfl
    · rename_i hn
      refine Li.fin_no 10 s ?_
      apply Decidable.byContradiction
      intro hb
      unfold badN at hb
      refine hd ⟨by omega, by omega, fun h => hn (Or.inl h), fun i hi => ?_, by omega⟩
      apply Decidable.byContradiction
      intro hh
      exact hb (Or.inr (Or.inl ⟨i, hi, by omega⟩))
/-- digits of a number of digits -/
theorem dec_take (s : ByteArray) (hd : ∀ i, i < s.size → dg (bb s i) < 10) (hz : 1 < s.size → bb s 0 ≠ 48) : ∀ k, k + 1 ≤ s.size → Lib.decDigits (numN 10 s (k + 1)) = s.data.toList.take (k + 1) ∧ (1 < s.size → 1 ≤ numN 10 s (k + 1))
  | 0, hk => by
    obtain ⟨a, b, c⟩ := dg10 (bb s 0) (hd 0 (by omega))
    have hn : numN 10 s 1 = dg (bb s 0) := by rw [numN, numN]; omega
    rw [hn]
    refine ⟨?_, fun h => by have := hz h; omega⟩
    rw [Lib.decDigits_one (by omega), List.take_succ_eq_append_getElem (by simp; omega)]
    simp only [List.take_zero, List.nil_append]
    congr 1
    apply UInt8.toNat_inj.1
    rw [Li.bb_list s 0 (by omega), c]
    simp
    omega
  | k + 1, hk => by
    obtain ⟨ih, i2⟩ := dec_take s hd hz k (by omega)
    obtain ⟨a, b, c⟩ := dg10 (bb s (k + 1)) (hd (k + 1) (by omega))
    have h1 := i2 (by omega)
    have hn : numN 10 s (k + 1 + 1) = 10 * numN 10 s (k + 1) + dg (bb s (k + 1)) := rfl
    refine ⟨?_, fun _ => by rw [hn]; omega⟩
    rw [Lib.decDigits, dif_neg (by rw [hn]; omega), show numN 10 s (k + 1 + 1) / 10 = numN 10 s (k + 1) from by rw [hn]; omega, ih, List.take_succ_eq_append_getElem (i := k + 1) (by simp; omega)]
    congr 2
    apply UInt8.toNat_inj.1
    rw [Li.bb_list s (k + 1) (by omega), show numN 10 s (k + 1 + 1) % 10 = dg (bb s (k + 1)) from by rw [hn]; omega, c]
    simp
    omega
theorem tn_dec {s : ByteArray} (h : decP s) : tn (decN s) = s := by
  obtain ⟨h1, h2, h3, h4, h5⟩ := h
  obtain ⟨k, hk⟩ : ∃ k, s.size = k + 1 := ⟨s.size - 1, by omega⟩
  have := (dec_take s h4 (fun h hh => h3 ⟨h, hh⟩) k (by omega)).1
  unfold tn decN
  rw [hk, this, ← hk]
  have : s.data.toList.take s.size = s.data.toList := List.take_of_length_le (by simp)
  rw [this]
theorem digits_are : ∀ (u : Nat), ∀ c ∈ Lib.decDigits u, 48 ≤ c.toNat ∧ c.toNat ≤ 57 := by
  intro u
  induction u using Nat.strongRecOn with
  | _ u ih =>
    intro c hc
    rw [Lib.decDigits] at hc
    split at hc
    · simp only [List.mem_cons, List.not_mem_nil, or_false] at hc
      subst hc
      simp
      omega
    · rcases List.mem_append.1 hc with h | h
      · exact ih (u / 10) (by omega) c h
      · simp only [List.mem_cons, List.not_mem_nil, or_false] at h
        subst h
        simp
        omega
theorem tn_px (n : Nat) : px (tn n) = false := by
  cases hq : px (tn n)
  · rfl
  · obtain ⟨h1, h2, h3⟩ := (Li.px_iff _).mp hq
    have hm := digits_are n ((tn n).data.toList[1]'(by simp; omega)) (by
      show _ ∈ Lib.decDigits n
      have : (tn n).data.toList = Lib.decDigits n := by unfold tn; simp
      rw [← this]
      exact List.getElem_mem _)
    rw [Li.bb_list (tn n) 1 (by omega)] at hm
    omega
/-- the reference's numeral -/
theorem tens_ok (s : ByteArray) (n : Nat) (h : refV s = .tuple #[.int .u32 (n : Int), .bool true]) : (tn n = s ↔ decB s = true) ∧ (decB s = true → n = decN s) := by
  cases hp : px s
  · rw [refV_dec s hp] at h
    simp only [Value.tuple.injEq] at h
    have h0 := congrArg (fun a : Array Value => a[0]?) h
    have h1 := congrArg (fun a : Array Value => a[1]?) h
    simp at h0 h1
    have hn : n = decN s := by rw [if_pos h1] at h0; omega
    exact ⟨⟨fun _ => h1, fun _ => by rw [hn, tn_dec (decB_true h1)]⟩, fun _ => hn⟩
  · have : decB s = false := decB_no (px_dec hp)
    rw [this]
    exact ⟨⟨fun he => absurd ((tn_px n).symm.trans ((congrArg px he).trans hp)) (by decide), fun h => absurd h (by decide)⟩, fun h => absurd h (by decide)⟩
theorem refV_two (s : ByteArray) : ∃ n b, n < 4294967296 ∧ refV s = .tuple #[.int .u32 (n : Nat), .bool b] ∧ (b = false → decB s = false) := by
  classical
  cases hp : px s
  · refine ⟨_, _, ?_, refV_dec s hp, fun h => h⟩
    split
    · rename_i h; exact (decB_true h).2.2.2.2
    · omega
  · have h0 : decB s = false := decB_no (px_dec hp)
    unfold refV
    split
    · split
      · exact ⟨0, false, by omega, rfl, fun _ => h0⟩
      · unfold finV
        split
        · exact ⟨0, false, by omega, rfl, fun _ => h0⟩
        · rename_i hb
          refine ⟨_, true, ?_, rfl, fun h => by cases h⟩
          unfold badN at hb
          omega
    · split
      · exact ⟨0, false, by omega, rfl, fun _ => h0⟩
      · unfold finV
        split
        · exact ⟨0, false, by omega, rfl, fun _ => h0⟩
        · rename_i hb
          refine ⟨_, true, ?_, rfl, fun h => by cases h⟩
          unfold badN at hb
          omega
set_option maxHeartbeats 1000000 in
theorem c67x (s : ByteArray) (hs : s.size ≤ 9223372036854775807) (w : World) : Calls Tryz.prog 67 #[.string s, .string ⟨#[48, 120]⟩] w fun e w' => e = .returned (.bool (px s)) ∧ w = w' := by
  have K := Lib.hid (Li.cX44 s hs)
  generalize px s = q at *
  go_enter Tryz.func67, Tryz.ntmps67
  go_wp2_with fail
  refine (K.out _).mono ?_
  rintro _ _ ⟨rfl, rfl⟩
  go_wp2_with fail
  go_ret
  exact ⟨rfl, rfl⟩
/-- numeral -/
theorem c84 (s : ByteArray) (hs : s.size ≤ 281474976710656) (w : World) (hG : Gl w) : Calls Tryz.prog 84 #[.string s] w fun e w' => e = .returned (.tuple #[.int .u32 ((if decB s = true then decN s else 0 : Nat) : Int), .bool (decB s)]) ∧ Below w.heap.size w w' := by
  have K1 := Lib.hid (c67x s (by omega))
  have K2 := Lib.hid (Li.c10 s hs w hG)
  cases hp : px s
  · rw [hp] at K1
    rw [refV_dec s hp] at K2
    clear hp
    generalize (if decB s = true then decN s else 0) = v at *
    generalize decB s = q at *
    go_enter Tryz.func84, Tryz.ntmps84
    go_wp2_with fail
    refine (K1.out _).mono ?_
    rintro _ _ ⟨rfl, rfl⟩
    go_wp2_with fail
    refine K2.out.mono ?_
    rintro _ w9 ⟨rfl, hb9⟩
    go_wp2_with fail
    go_ret2
    exact ⟨rfl, hb9⟩
  · rw [hp] at K1
    rw [decB_no (px_dec hp), if_neg (by decide)]
    clear hp K2
    go_enter Tryz.func84, Tryz.ntmps84
    go_wp2_with fail
    refine (K1.out _).mono ?_
    rintro _ _ ⟨rfl, rfl⟩
    go_wp2_with fail
    go_ret2
    exact ⟨rfl, Below.refl _ _⟩
end Go.Proofs.YtblfnjdbihhglaaGreatDoor
namespace Go.Proofs.YtblfnjdbihhglaaGreatDoor
open Go.ChangeShapes Go.WideShapes Go.ChangeAt Go.RowKit
open Li (bb bb_eq dg dg10 numN px refV noN finV badN hexP Gl)
set_option linter.unusedVariables false
set_option linter.unusedSimpArgs false
set_option maxRecDepth 100000 in
set_option maxHeartbeats 2000000 in
/-- the reference's tens -/
theorem c48 (s : ByteArray) (most : Nat) (hs : s.size ≤ 9223372036854775807) (w : World) (hg : Gt w) : Calls Tryz.prog 48 #[.string s, .int .u32 (most : Int)] w fun e w' => ∃ n : Nat, n < 4294967296 ∧ e = .returned (.tuple #[.int .u32 (n : Int), .bool (decB s && decide (decN s ≤ most))]) ∧ (decB s = true → n = decN s) ∧ Below w.heap.size w w' := by
  obtain ⟨n, b, hn, hv, hb⟩ := refV_two s
  have K1 := Lib.hid (Li.c11 s hs w)
  rw [hv] at K1
  have HN := Lib.hid hn
  cases b
  · rw [hb rfl, Bool.false_and]
    go_enter Tryz.func48, Tryz.ntmps48
    go_wp2_with fail
    refine K1.out.mono ?_
    rintro _ _ ⟨rfl, rfl⟩
    go_wp2_with fail
    go_ret2
    exact ⟨n, HN.out, rfl, fun h => (by cases h), Below.refl _ _⟩
  · obtain ⟨h1, h2⟩ := tens_ok s n hv
    have K2 : Hid (∀ W, Below w.heap.size w W → Calls Tryz.prog 37 #[.int .i64 (n : Int)] W fun e w' => e = .returned (.string (tn n)) ∧ Below W.heap.size W w') := Lib.hid (fun W hW => c37 n (by omega) W (hg.below hW))
    have hniw : IntKind.i64.wrap (n : Int) = (n : Int) := by rw [IntKind.wrap_i64]; omega
    have HF : Hid (¬ (decB s = true ∧ n ≤ most) → (decB s && decide (decN s ≤ most)) = false) := Lib.hid (fun h => by
      cases hd : decB s
      · rfl
      · rw [Bool.true_and, ← h2 hd]
        exact decide_eq_false (fun hh => h ⟨hd, hh⟩))
    have HT : Hid (decB s = true → n ≤ most → (decB s && decide (decN s ≤ most)) = true) := Lib.hid (fun hd hh => by
      rw [hd, Bool.true_and, ← h2 hd]
      exact decide_eq_true hh)
    have H2 := Lib.hid h2
    generalize (decB s && decide (decN s ≤ most)) = q at *
    clear hv hb h2
    by_cases hm : n ≤ most
    · have hmi : (n : Int) ≤ (most : Int) := by omega
      by_cases hd : decB s = true
      · have he : tn n = s := h1.2 hd
        have HQ := HT.out hd hm
        rw [he] at K2
        clear he h1 HF HT
        go_enter Tryz.func48, Tryz.ntmps48
        go_wp2_with fail
        refine K1.out.mono ?_
        rintro _ _ ⟨rfl, rfl⟩
        go_wp2_with fail
        refine (K2.out _ (Below.refl _ _)).mono ?_
        rintro _ w9 ⟨rfl, hb9⟩
        go_wp2_with fail
        go_ret2
        exact ⟨n, HN.out, by rw [HQ]; rfl, H2.out, hb9⟩
      · have HQ := HF.out (fun h => hd h.1)
        have he : ¬ tn n = s := fun h => hd (h1.1 h)
        generalize tn n = t at *
        have he2 : (t.toList == s.toList) = false := by rw [neq_str]; exact decide_eq_false he
        clear h1 HF HT
        go_enter Tryz.func48, Tryz.ntmps48
        go_wp2_with fail
        refine K1.out.mono ?_
        rintro _ _ ⟨rfl, rfl⟩
        go_wp2_with fail
        refine (K2.out _ (Below.refl _ _)).mono ?_
        rintro _ w9 ⟨rfl, hb9⟩
        go_wp2_with fail
        go_ret2
        exact ⟨n, HN.out, by rw [HQ]; rfl, H2.out, hb9⟩
    · have HQ := HF.out (fun h => hm h.2)
      have hmi : ¬ (n : Int) ≤ (most : Int) := by omega
      have hmi2 : decide ((n : Int) ≤ (most : Int)) = false := decide_eq_false hmi
      clear h1 HF HT K2
      go_enter Tryz.func48, Tryz.ntmps48
      go_wp2_with fail
      refine K1.out.mono ?_
      rintro _ _ ⟨rfl, rfl⟩
      go_wp2_with fail
      go_ret2
      exact ⟨n, HN.out, by rw [HQ]; rfl, H2.out, Below.refl _ _⟩
def twoB (M L : Nat) (a b : ByteArray) : Prop := decB a = true ∧ decB b = true ∧ decN a < M ∧ decN b ≤ L
open Classical in
noncomputable def twoV (M L : Nat) (a b : ByteArray) : Value := if twoB M L a b then .tuple #[.int .u32 ((decN a + M * decN b : Nat) : Int), .bool true] else .tuple #[.int .u32 0, .bool false]
theorem or_add (k x y : Nat) (h : x < 2 ^ k) : x ||| y * 2 ^ k = x + y * 2 ^ k := by
  rw [Nat.or_comm, Nat.mul_comm, ← Nat.two_pow_add_eq_or_of_lt h]
  omega
set_option maxRecDepth 100000 in
set_option maxHeartbeats 2000000 in
theorem c69e (a b : ByteArray) (ha : a.size ≤ 281474976710656) (hb : b.size ≤ 281474976710656) (w : World) (hG : Gl w) : Calls Tryz.prog 69 #[.string a, .string b, .int .u64 8, .int .u32 4088] w fun e w' => e = .returned (twoV 256 4088 a b) ∧ Below w.heap.size w w' := by
  have K1 := Lib.hid (c84 a ha w hG)
  have K2 : Hid (∀ W, Below w.heap.size w W → Calls Tryz.prog 84 #[.string b] W fun e w' => e = .returned (.tuple #[.int .u32 ((if decB b = true then decN b else 0 : Nat) : Int), .bool (decB b)]) ∧ Below W.heap.size W w') := Lib.hid (fun W hW => c84 b hb W (hG.below hW))
  have HF : Hid (¬ twoB 256 4088 a b → twoV 256 4088 a b = .tuple #[.int .u32 0, .bool false]) := Lib.hid (fun h => by unfold twoV; rw [if_neg h])
  have HT : Hid (twoB 256 4088 a b → twoV 256 4088 a b = .tuple #[.int .u32 ((decN a + 256 * decN b : Nat) : Int), .bool true]) := Lib.hid (fun h => by unfold twoV; rw [if_pos h])
  generalize twoV 256 4088 a b = rv at *
  obtain ⟨x, hxe⟩ : ∃ x, (if decB a = true then decN a else 0) = x := ⟨_, rfl⟩
  obtain ⟨y, hye⟩ : ∃ y, (if decB b = true then decN b else 0) = y := ⟨_, rfl⟩
  have hx : x < 4294967296 := by
    rw [← hxe]; split
    · rename_i h; exact (decB_true h).2.2.2.2
    · omega
  have hy : y < 4294967296 := by
    rw [← hye]; split
    · rename_i h; exact (decB_true h).2.2.2.2
    · omega
  rw [hxe] at K1
  rw [hye] at K2
  have HF2 : Hid (decB a = false ∨ decB b = false ∨ 256 ≤ x ∨ 4088 < y → rv = .tuple #[.int .u32 0, .bool false]) := Lib.hid (fun h => HF.out (fun h2 => by
    obtain ⟨h3, h4, h5, h6⟩ := h2
    rw [if_pos h3] at hxe
    rw [if_pos h4] at hye
    rcases h with h | h | h | h
    · rw [h3] at h; cases h
    · rw [h4] at h; cases h
    · omega
    · omega))
  have HT2 : Hid (decB a = true → decB b = true → x < 256 → y ≤ 4088 → rv = .tuple #[.int .u32 ((x + 256 * y : Nat) : Int), .bool true]) := Lib.hid (fun h1 h2 h3 h4 => by
    rw [if_pos h1] at hxe
    rw [if_pos h2] at hye
    subst hxe hye
    exact HT.out ⟨h1, h2, h3, h4⟩)
  clear hxe hye HF HT
  generalize decB a = qa at *
  generalize decB b = qb at *
  cases qa
  · have HQ := Lib.hid (HF2.out (Or.inl rfl))
    clear HF2 HT2
    go_enter Tryz.func69, Tryz.ntmps69
    go_wp2_with fail
    refine K1.out.mono ?_
    rintro _ w1 ⟨rfl, hb1⟩
    go_wp2_with fail
    refine (K2.out w1 hb1).mono ?_
    rintro _ w2 ⟨rfl, hb2⟩
    have HB : Hid (Below w.heap.size w w2) := Lib.hid (hb1.trans (hb2.mono hb1.size))
    clear hb1 hb2 K1 K2
    go_wp2_with fail
    go_ret2
    exact ⟨by rw [HQ.out]; rfl, HB.out⟩
  cases qb
  · have HQ := Lib.hid (HF2.out (Or.inr (Or.inl rfl)))
    clear HF2 HT2
    go_enter Tryz.func69, Tryz.ntmps69
    go_wp2_with fail
    refine K1.out.mono ?_
    rintro _ w1 ⟨rfl, hb1⟩
    go_wp2_with fail
    refine (K2.out w1 hb1).mono ?_
    rintro _ w2 ⟨rfl, hb2⟩
    have HB : Hid (Below w.heap.size w w2) := Lib.hid (hb1.trans (hb2.mono hb1.size))
    clear hb1 hb2 K1 K2
    go_wp2_with fail
    go_ret2
    exact ⟨by rw [HQ.out]; rfl, HB.out⟩
  by_cases h1 : x < 256
  · have d1 : decide ((256 : Int) ≤ (x : Int)) = false := by simp; omega
    by_cases h2 : y ≤ 4088
    · have d2 : decide ((4088 : Int) < (y : Int)) = false := by simp; omega
      have HQ := Lib.hid (HT2.out rfl rfl h1 h2)
      have hor : bits .or .u32 (x : Int) ((y : Int) * 256) = ((x + 256 * y : Nat) : Int) := by
        have e : ((y : Int) * 256) = ((y * 256 : Nat) : Int) := by omega
        rw [e, u32_or_nat x _ (by omega) (by omega)]
        have := or_add 8 x y (by omega)
        rw [show (2 : Nat) ^ 8 = 256 from rfl] at this
        omega
      clear HF2 HT2
      go_enter Tryz.func69, Tryz.ntmps69
      go_wp2_with fail
      refine K1.out.mono ?_
      rintro _ w1 ⟨rfl, hb1⟩
      go_wp2_with fail
      refine (K2.out w1 hb1).mono ?_
      rintro _ w2 ⟨rfl, hb2⟩
      have HB : Hid (Below w.heap.size w w2) := Lib.hid (hb1.trans (hb2.mono hb1.size))
      clear hb1 hb2 K1 K2
      go_wp2_with fail
      go_ret2
      exact ⟨by rw [HQ.out]; rfl, HB.out⟩
    · have d2 : decide ((4088 : Int) < (y : Int)) = true := by simp; omega
      have HQ := Lib.hid (HF2.out (Or.inr (Or.inr (Or.inr (by omega)))))
      clear HF2 HT2
      go_enter Tryz.func69, Tryz.ntmps69
      go_wp2_with fail
      refine K1.out.mono ?_
      rintro _ w1 ⟨rfl, hb1⟩
      go_wp2_with fail
      refine (K2.out w1 hb1).mono ?_
      rintro _ w2 ⟨rfl, hb2⟩
      have HB : Hid (Below w.heap.size w w2) := Lib.hid (hb1.trans (hb2.mono hb1.size))
      clear hb1 hb2 K1 K2
      go_wp2_with fail
      go_ret2
      exact ⟨by rw [HQ.out]; rfl, HB.out⟩
  · have d1 : decide ((256 : Int) ≤ (x : Int)) = true := by simp; omega
    have HQ := Lib.hid (HF2.out (Or.inr (Or.inr (Or.inl (by omega)))))
    clear HF2 HT2
    go_enter Tryz.func69, Tryz.ntmps69
    go_wp2_with fail
    refine K1.out.mono ?_
    rintro _ w1 ⟨rfl, hb1⟩
    go_wp2_with fail
    refine (K2.out w1 hb1).mono ?_
    rintro _ w2 ⟨rfl, hb2⟩
    have HB : Hid (Below w.heap.size w w2) := Lib.hid (hb1.trans (hb2.mono hb1.size))
    clear hb1 hb2 K1 K2
    go_wp2_with fail
    go_ret2
    exact ⟨by rw [HQ.out]; rfl, HB.out⟩
set_option maxRecDepth 100000 in
set_option maxHeartbeats 2000000 in
theorem c69d (a b : ByteArray) (ha : a.size ≤ 281474976710656) (hb : b.size ≤ 281474976710656) (w : World) (hG : Gl w) : Calls Tryz.prog 69 #[.string a, .string b, .int .u64 16, .int .u32 256] w fun e w' => e = .returned (twoV 65536 256 a b) ∧ Below w.heap.size w w' := by
  have K1 := Lib.hid (c84 a ha w hG)
  have K2 : Hid (∀ W, Below w.heap.size w W → Calls Tryz.prog 84 #[.string b] W fun e w' => e = .returned (.tuple #[.int .u32 ((if decB b = true then decN b else 0 : Nat) : Int), .bool (decB b)]) ∧ Below W.heap.size W w') := Lib.hid (fun W hW => c84 b hb W (hG.below hW))
  have HF : Hid (¬ twoB 65536 256 a b → twoV 65536 256 a b = .tuple #[.int .u32 0, .bool false]) := Lib.hid (fun h => by unfold twoV; rw [if_neg h])
  have HT : Hid (twoB 65536 256 a b → twoV 65536 256 a b = .tuple #[.int .u32 ((decN a + 65536 * decN b : Nat) : Int), .bool true]) := Lib.hid (fun h => by unfold twoV; rw [if_pos h])
  generalize twoV 65536 256 a b = rv at *
  obtain ⟨x, hxe⟩ : ∃ x, (if decB a = true then decN a else 0) = x := ⟨_, rfl⟩
  obtain ⟨y, hye⟩ : ∃ y, (if decB b = true then decN b else 0) = y := ⟨_, rfl⟩
  have hx : x < 4294967296 := by
    rw [← hxe]; split
    · rename_i h; exact (decB_true h).2.2.2.2
    · omega
  have hy : y < 4294967296 := by
    rw [← hye]; split
    · rename_i h; exact (decB_true h).2.2.2.2
    · omega
  rw [hxe] at K1
  rw [hye] at K2
  have HF2 : Hid (decB a = false ∨ decB b = false ∨ 65536 ≤ x ∨ 256 < y → rv = .tuple #[.int .u32 0, .bool false]) := Lib.hid (fun h => HF.out (fun h2 => by
    obtain ⟨h3, h4, h5, h6⟩ := h2
    rw [if_pos h3] at hxe
    rw [if_pos h4] at hye
    rcases h with h | h | h | h
    · rw [h3] at h; cases h
    · rw [h4] at h; cases h
    · omega
    · omega))
  have HT2 : Hid (decB a = true → decB b = true → x < 65536 → y ≤ 256 → rv = .tuple #[.int .u32 ((x + 65536 * y : Nat) : Int), .bool true]) := Lib.hid (fun h1 h2 h3 h4 => by
    rw [if_pos h1] at hxe
    rw [if_pos h2] at hye
    subst hxe hye
    exact HT.out ⟨h1, h2, h3, h4⟩)
  clear hxe hye HF HT
  generalize decB a = qa at *
  generalize decB b = qb at *
  cases qa
  · have HQ := Lib.hid (HF2.out (Or.inl rfl))
    clear HF2 HT2
    go_enter Tryz.func69, Tryz.ntmps69
    go_wp2_with fail
    refine K1.out.mono ?_
    rintro _ w1 ⟨rfl, hb1⟩
    go_wp2_with fail
    refine (K2.out w1 hb1).mono ?_
    rintro _ w2 ⟨rfl, hb2⟩
    have HB : Hid (Below w.heap.size w w2) := Lib.hid (hb1.trans (hb2.mono hb1.size))
    clear hb1 hb2 K1 K2
    go_wp2_with fail
    go_ret2
    exact ⟨by rw [HQ.out]; rfl, HB.out⟩
  cases qb
  · have HQ := Lib.hid (HF2.out (Or.inr (Or.inl rfl)))
    clear HF2 HT2
    go_enter Tryz.func69, Tryz.ntmps69
    go_wp2_with fail
    refine K1.out.mono ?_
    rintro _ w1 ⟨rfl, hb1⟩
    go_wp2_with fail
    refine (K2.out w1 hb1).mono ?_
    rintro _ w2 ⟨rfl, hb2⟩
    have HB : Hid (Below w.heap.size w w2) := Lib.hid (hb1.trans (hb2.mono hb1.size))
    clear hb1 hb2 K1 K2
    go_wp2_with fail
    go_ret2
    exact ⟨by rw [HQ.out]; rfl, HB.out⟩
  by_cases h1 : x < 65536
  · have d1 : decide ((65536 : Int) ≤ (x : Int)) = false := by simp; omega
    by_cases h2 : y ≤ 256
    · have d2 : decide ((256 : Int) < (y : Int)) = false := by simp; omega
      have HQ := Lib.hid (HT2.out rfl rfl h1 h2)
      have hor : bits .or .u32 (x : Int) ((y : Int) * 65536) = ((x + 65536 * y : Nat) : Int) := by
        have e : ((y : Int) * 65536) = ((y * 65536 : Nat) : Int) := by omega
        rw [e, u32_or_nat x _ (by omega) (by omega)]
        have := or_add 16 x y (by omega)
        rw [show (2 : Nat) ^ 16 = 65536 from rfl] at this
        omega
      clear HF2 HT2
      go_enter Tryz.func69, Tryz.ntmps69
      go_wp2_with fail
      refine K1.out.mono ?_
      rintro _ w1 ⟨rfl, hb1⟩
      go_wp2_with fail
      refine (K2.out w1 hb1).mono ?_
      rintro _ w2 ⟨rfl, hb2⟩
      have HB : Hid (Below w.heap.size w w2) := Lib.hid (hb1.trans (hb2.mono hb1.size))
      clear hb1 hb2 K1 K2
      go_wp2_with fail
      go_ret2
      exact ⟨by rw [HQ.out]; rfl, HB.out⟩
    · have d2 : decide ((256 : Int) < (y : Int)) = true := by simp; omega
      have HQ := Lib.hid (HF2.out (Or.inr (Or.inr (Or.inr (by omega)))))
      clear HF2 HT2
      go_enter Tryz.func69, Tryz.ntmps69
      go_wp2_with fail
      refine K1.out.mono ?_
      rintro _ w1 ⟨rfl, hb1⟩
      go_wp2_with fail
      refine (K2.out w1 hb1).mono ?_
      rintro _ w2 ⟨rfl, hb2⟩
      have HB : Hid (Below w.heap.size w w2) := Lib.hid (hb1.trans (hb2.mono hb1.size))
      clear hb1 hb2 K1 K2
      go_wp2_with fail
      go_ret2
      exact ⟨by rw [HQ.out]; rfl, HB.out⟩
  · have d1 : decide ((65536 : Int) ≤ (x : Int)) = true := by simp; omega
    have HQ := Lib.hid (HF2.out (Or.inr (Or.inr (Or.inl (by omega)))))
    clear HF2 HT2
    go_enter Tryz.func69, Tryz.ntmps69
    go_wp2_with fail
    refine K1.out.mono ?_
    rintro _ w1 ⟨rfl, hb1⟩
    go_wp2_with fail
    refine (K2.out w1 hb1).mono ?_
    rintro _ w2 ⟨rfl, hb2⟩
    have HB : Hid (Below w.heap.size w w2) := Lib.hid (hb1.trans (hb2.mono hb1.size))
    clear hb1 hb2 K1 K2
    go_wp2_with fail
    go_ret2
    exact ⟨by rw [HQ.out]; rfl, HB.out⟩
end Go.Proofs.YtblfnjdbihhglaaGreatDoor
