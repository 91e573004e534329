import Derived.Test.YtjcoidpajcichaaL4
namespace Go.Proofs.Ytjcoidpajcichaa
open Go.ChangeShapes Go.WideShapes Go.ChangeAt Go.RowKit
set_option linter.unusedVariables false
/-- append of bytes onto a row of the call's own, whatever the source. -/
theorem app_any {w : World} {ops : Array Oper} {rest : List Oper} {o : Oper} {a : Act} {Q : Exit → Act → World → Prop} (hgd : o.guard = none) (s x : Operand)
    (ho : o.op = .call { callee := .builtin .append, args := #[s, x], argTypes := #[23, 23] })
    (B : Nat) (v : Value) (n : Nat) (xs : List Value) (hs : a.eval s = v) (hown : w.ownsRow B 5 1 v n xs)
    (A : Option Addr) (m c : Nat) (g : Nat → Nat) (hx : a.eval x = .slice A m c) (hA0 : A = none → c = 0) (hR : Rd w A m g) (hb : n + m ≤ 140737488355328) (hB : B ≤ w.heap.size)
    (h : ∀ v' w', w'.ownsRow B 5 1 v' (n + m) (xs ++ rowL g m) → w.grownBy w' v.ownBlock → wpList Try.prog ops Q rest (a.put o.dst v') w') : wpList Try.prog ops Q (o :: rest) a w := by
  obtain ⟨i0, hi, hz0, hz1, hz2⟩ := info_parts info5
  rcases A with _ | ad
  · obtain rfl : c = 0 := hA0 rfl
    obtain rfl : m = 0 := hR.none_
    refine wpList_append_own_none hgd s x 23 ho B 5 i0 1 Try.underlying23 hi v n xs hs hown hx ?_
    exact h v w (by simpa [rowL] using hown) (World.grownBy.refl w _)
  · exact wpList_append_own w hgd s x 23 ho B 5 i0 (.int .u8 0) 1 1 Try.underlying23 hi hz0 hz1 hz2 rfl (by decide) v n xs hs hown ad m c (rowL g m) hx (by rw [rowL_len]; omega) hR.news (rowL_one g m) (by unfold maxLen; omega) (by omega) hB fun v' w' h1 h2 _ => h v' w' h1 h2
theorem own_below {w w1 w2 : World} {v : Value} {n : Nat} {xs : List Value} (hb : Below w.heap.size w w1) (hown : w1.ownsRow w.heap.size 5 1 v n xs) (hg : w1.grownBy w2 v.ownBlock) : Below w.heap.size w w2 :=
  hb.grown hg hb.size fun k hk => (hown.lt k hk).1
theorem below_none {w w' : World} (hg : w.grownBy w' none) : Below w.heap.size w w' := ⟨hg.os, hg.tape, hg.output, hg.size, fun k hk => hg.block k hk (by simp)⟩
theorem nm_bt (n : Nat) : ∀ s, nm (bt n) s = n % 256 ^ s
  | 0 => by simp [nm, Nat.mod_one]
  | s + 1 => by
    show nm (bt n) s + n / 256 ^ s % 256 * 256 ^ s = _
    rw [nm_bt n s, Nat.pow_succ, Nat.mod_mul, Nat.mul_comm (256 ^ s)]
theorem rowL_app (f g : Nat → Nat) (n m : Nat) : rowL f n ++ rowL g m = rowL (fun j => if j < n then f j else g (j - n)) (n + m) := by
  apply List.ext_getElem?
  intro j
  by_cases hj : j < n
  · rw [List.getElem?_append_left (by rw [rowL_len]; exact hj), rowL_get f n j hj, rowL_get _ (n + m) j (by omega), if_pos hj]
  · rw [List.getElem?_append_right (by rw [rowL_len]; omega), rowL_len]
    by_cases hm : j < n + m
    · rw [rowL_get g m (j - n) (by omega), rowL_get _ (n + m) j hm, if_neg hj]
    · rw [List.getElem?_eq_none (by rw [rowL_len]; omega), List.getElem?_eq_none (by rw [rowL_len]; omega)]
theorem walk5e (n : Nat) (s : Int) (v1 v2 : Value) (w : World) (K9 : ∀ w : World, Calls Try.prog 9 #[.int .u64 (n : Int), .int .i64 s] w fun e w' => e = .returned (.tuple #[.slice none 0 0, .int .i64 2]) ∧ w = w') :
    Calls Try.prog 5 #[.int .u64 (n : Int), .int .i64 s, v1, v2] w fun e w' => e = .returned (.bool true) ∧ Below w.heap.size w w' := by
  go_enter Try.func5, Try.ntmps5
  go_wp2_with fail
  refine (K9 _).mono ?_
  rintro _ _ ⟨rfl, rfl⟩
  go_wp2_with fail
  refine (lives _).mono ?_
  rintro _ w3 ⟨rfl, hb3⟩
  have HB3 := Lib.hid hb3
  clear hb3
  go_wp2_with fail
  go_ret
  exact ⟨rfl, HB3.out⟩
set_option maxHeartbeats 4000000 in
theorem walk5 (n s : Nat) (hs : s = 1 ∨ s = 2 ∨ s = 4 ∨ s = 8) (hn : n < 256 ^ s) (A1 A2 : Option Addr) (n1 c1 n2 c2 : Nat) (f1 f2 : Nat → Nat) (hf1 : ∀ j, f1 j < 256) (hf2 : ∀ j, f2 j < 256) (w : World)
    (h1 : Rd w A1 n1 f1) (h2 : Rd w A2 n2 f2) (a1 : n1 ≤ c1) (a2 : n2 ≤ c2) (b1 : c1 ≤ 1048576) (b2 : c2 ≤ 1048576) (z1 : A1 = none → c1 = 0) (z2 : A2 = none → c2 = 0)
    (K9 : ∀ w : World, Calls Try.prog 9 #[.int .u64 (n : Int), .int .i64 (s : Int)] w (PutOut w n s)) :
    Calls Try.prog 5 #[.int .u64 (n : Int), .int .i64 (s : Int), .slice A1 n1 c1, .slice A2 n2 c2] w fun e w' => e = .returned (.bool true) ∧ Below w.heap.size w w' := by
  have hs8 : s ≤ 8 ∧ 0 < s := by omega
  have t1 : ((s : Int) == (s : Int)) = true := by simp
  have t2 : ((n : Int) == (n : Int)) = true := by simp
  have HS := Lib.hid hs
  have HN := Lib.hid hn
  have H1 := Lib.hid h1
  have H2 := Lib.hid h2
  have Z1 := Lib.hid z1
  have Z2 := Lib.hid z2
  have F1 := Lib.hid hf1
  have F2 := Lib.hid hf2
  clear hs hn h1 h2 z1 z2 hf1 hf2
  go_enter Try.func5, Try.ntmps5
  go_wp2_with fail
  refine (K9 _).mono ?_
  rintro _ w1 ⟨v1, rfl, hb1, A3, c3, rfl, hR3⟩
  have R3 := Lib.hid (Made.rd (c := 0) hR3)
  have B1 := Lib.hid hb1
  have H1' := Lib.hid (H1.out.below hb1)
  have hc3 : Hid (A3 = none → c3 = 0) := Lib.hid fun h => by
    obtain ⟨b, e, _⟩ := hR3 hs8.2
    rw [e] at h; cases h
  clear hb1 hR3 K9 H1
  have hown0 : Hid (w1.ownsRow w.heap.size 5 1 (.slice none 0 0) 0 []) := Lib.hid ⟨rfl, .inl ⟨rfl, rfl⟩⟩
  go_wp2_with (first
    | (refine app_any rfl (.tmp 28) (.tmp 29) rfl w.heap.size (.slice none 0 0) 0 [] rfl hown0.out A1 n1 c1 f1 rfl Z1.out H1'.out (by omega) B1.out.size ?_
       intro v4 w4 hown4 hg4
       have B4 := Lib.hid (own_below B1.out hown0.out hg4)
       have HO4 := Lib.hid hown4
       have R3' := Lib.hid (R3.out.below (below_none hg4))
       clear hown4 hg4)
    | (refine app_any rfl (.tmp 31) (.tmp 32) rfl w.heap.size v4 (0 + n1) ([] ++ rowL f1 n1) rfl HO4.out A3 s c3 (bt n) rfl hc3.out R3'.out (by omega) B4.out.size ?_
       intro v5 w5 hown5 hg5
       have B5 := Lib.hid (own_below B4.out HO4.out hg5)
       have HO5 := Lib.hid hown5
       clear hown5 hg5)
    | (refine app_any rfl (.tmp 34) (.tmp 35) rfl w.heap.size v5 (0 + n1 + s) ([] ++ rowL f1 n1 ++ rowL (bt n) s) rfl HO5.out A2 n2 c2 f2 rfl Z2.out (H2.out.below B5.out) (by omega) B5.out.size ?_
       intro v6 w6 hown6 hg6
       have B6 := Lib.hid (own_below B5.out HO5.out hg6)
       have HO6 := Lib.hid hown6
       clear hown6 hg6)
    | fail)
  have hown := HO6.out
  rw [List.nil_append, rowL_app, rowL_app, Nat.zero_add] at hown
  obtain ⟨A6, c6, rfl, hR6, hc6, hc6', hz6⟩ := own_rd hown
  have hl : ∀ j, bt n j < 256 := fun j => by unfold bt; omega
  have k14 := c14 A6 (n1 + s + n2) c6 n1 s _ w6 (fun j => by
    show (if j < n1 + s then (if j < n1 then f1 j else bt n (j - n1)) else f2 (j - (n1 + s))) < 256
    split
    · split
      · exact F1.out j
      · exact hl _
    · exact F2.out _) hc6 hc6' hR6 hz6 HS.out (by omega)
  rw [nm_congr (g := bt n) s (fun j hj => by
    show (if n1 + j < n1 + s then (if n1 + j < n1 then f1 (n1 + j) else bt n (n1 + j - n1)) else f2 (n1 + j - (n1 + s))) = bt n j
    rw [if_pos (by omega), if_neg (by omega), show n1 + j - n1 = j from by omega]), nm_bt, Nat.mod_eq_of_lt HN.out] at k14
  have K14 := Lib.hid k14
  clear k14 hown HO4 HO5 HO6 hR6 hc6 hc6' hz6 hl R3 R3' H1' H2 hc3 hown0
  refine K14.out.mono ?_
  rintro _ _ ⟨rfl, rfl⟩
  go_wp2_with fail
  refine (lives _).mono ?_
  rintro _ w7 ⟨rfl, hb7⟩
  have B7 := Lib.hid (B6.out.trans (hb7.mono B6.out.size))
  clear hb7
  go_wp2_with fail
  go_ret
  exact ⟨rfl, B7.out⟩
theorem law5 (n : Nat) (s : Int) (A1 : Option Addr) (n1 c1 : Nat) (z1 : List Int) (A2 : Option Addr) (n2 c2 : Nat) (z2 : List Int) {w : World} (hn : n < 18446744073709551616) (hs : -9223372036854775808 ≤ s ∧ s ≤ 9223372036854775807)
    (h1 : IsRow .u8 w A1 n1 c1 z1) (b1 : c1 ≤ 1048576) (h2 : IsRow .u8 w A2 n2 c2 z2) (b2 : c2 ≤ 1048576) (_W : World) :
    Calls Try.prog 5 #[.int .u64 (n : Int), .int .i64 s, .slice A1 n1 c1, .slice A2 n2 c2] w fun e w' => e = .returned (.bool true) ∧ Below w.heap.size w w' := by
  obtain ⟨f1, hf1, hR1, a1, _, e1⟩ := h1.rd
  obtain ⟨f2, hf2, hR2, a2, _, e2⟩ := h2.rd
  cases h : isSz s with
  | false => exact walk5e n s _ _ w (fun w => c9x n s h w)
  | true =>
    obtain ⟨k, rfl, hk⟩ := sz_of h
    by_cases hf : n < 256 ^ k
    · exact walk5 n k hk hf A1 A2 n1 c1 n2 c2 f1 f2 hf1 hf2 w hR1 hR2 a1 a2 b1 b2 e1 e2 (fun w => c9 n k hn hk hf w)
    · exact walk5e n k _ _ w (fun w => c9y n k hn hk hf w)
end Go.Proofs.Ytjcoidpajcichaa
