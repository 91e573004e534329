import Derived.Test.YtjcoidpajcichaaE
import Derived.Laws.AppendOwnNone
import Derived.Laws.CopyOwn
namespace Go.Proofs.Ytjcoidpajcichaa
open Go.ChangeShapes Go.WideShapes Go.ChangeAt Go.RowKit
set_option linter.unusedVariables false
theorem rowL_len (f : Nat → Nat) (n : Nat) : (rowL f n).length = n := by simp [rowL]
theorem Rd.news {w : World} {ad : Addr} {n : Nat} {f : Nat → Nat} (h : Rd w (some ad) n f) : ∀ j u, (rowL f n)[j]? = some u → w.cell? (ad.add j) = some u := by
  intro j u hu
  have hj : j < n := by
    rcases Nat.lt_or_ge j n with hj | hj
    · exact hj
    · rw [List.getElem?_eq_none (by rw [rowL_len]; exact hj)] at hu; cases hu
  obtain ⟨b, o, e, hb, hc⟩ := h (by omega)
  injection e with e
  subst e
  rw [rowL_get f n j hj] at hu
  have e2 : (⟨b, o, none⟩ : Addr).add j = ⟨b, o + j, none⟩ := by
    unfold Addr.add
    by_cases h0 : j = 0
    · subst h0; rfl
    · rw [if_neg h0]
  rw [e2, hc j hj]
  exact hu
theorem Rd.none_ {w : World} {n : Nat} {f : Nat → Nat} (h : Rd w none n f) : n = 0 := by
  rcases Nat.eq_zero_or_pos n with h0 | h0
  · exact h0
  · obtain ⟨b, o, e, _⟩ := h h0
    cases e
/-- A part: new bytes f, owned by whoever called. -/
def PartOut (w : World) (n : Nat) (f : Nat → Nat) (e : Ending) (w' : World) : Prop := ∃ v, e = .returned (.tuple #[v, .int .i64 0]) ∧ Below w.heap.size w w' ∧ w'.ownsRow w.heap.size 5 1 v n (rowL f n)
theorem own_empty (w : World) (cs : Array Value) (h : cs.size = 0) : (w.alloc (.cells cs 5)).ownsRow w.heap.size 5 1 (.slice (some ⟨w.heap.size, 0, none⟩) 0 0) 0 [] :=
  ⟨rfl, .inr ⟨w.heap.size, 0, cs, rfl, Nat.le_refl _, heap_alloc_new w _, Nat.le_refl _, by unfold maxLen; omega, by omega, by simp⟩⟩
set_option maxHeartbeats 2000000 in
theorem c16 (A : Option Addr) (n c p s : Nat) (f : Nat → Nat) (w : World) (hn : n ≤ c) (hc : c ≤ 140737488351300) (hA : Rd w A n f) (hA0 : A = none → c = 0) (hp : p + s ≤ n) :
    Calls Try.prog 16 #[.slice A n c, .int .i64 (p : Int), .int .i64 (s : Int)] w (PartOut w s (fun j => f (p + j))) := by
  have k28 := c28 A n c p s f w hn (by omega) hA hA0 hp
  have K28 := Lib.hid k28
  obtain ⟨g, hg⟩ : ∃ g, g = fun j => f (p + j) := ⟨_, rfl⟩
  rw [← hg]
  have HG := Lib.hid hg
  obtain ⟨i0, hi, hz0, hz1, hz2⟩ := info_parts info5
  have hs : s ≤ 140737488351300 := by omega
  clear hg k28 hA hA0 hp hn hc
  go_enter Try.func16, Try.ntmps16
  go_wp2_with fail
  refine K28.out.mono ?_
  rintro _ _ ⟨A', rfl, rfl, hR⟩
  rw [← HG.out] at hR
  clear HG K28
  have hown := own_empty w #[] rfl
  rcases A' with _ | ad
  · obtain rfl : s = 0 := hR.none_
    go_wp2_with (at_builtin; refine wpList_append_own_none rfl (.tmp 20) (.tmp 21) 23 rfl w.heap.size 5 i0 1 Try.underlying23 hi _ 0 [] rfl hown rfl ?_)
    go_ret2
    exact ⟨_, rfl, (Below.refl _ _).alloc (Nat.le_refl _) _, hown⟩
  · have hR' := (hR.below ((Below.refl _ _).alloc (Nat.le_refl _) (.cells #[] 5))).news
    have HR := Lib.hid hR'
    clear hR hR'
    go_wp2_with (at_builtin; refine wpList_append_own _ rfl (.tmp 20) (.tmp 21) 23 rfl w.heap.size 5 i0 (.int .u8 0) 1 1 Try.underlying23 hi hz0 hz1 hz2 rfl (by decide) _ 0 [] rfl hown ad s s (rowL g s) rfl (by rw [rowL_len]; omega) HR.out (rowL_one g s) (by unfold maxLen; omega) (by omega) (by simp) ?_; intro v2 w2 hown2 hg2 _)
    go_ret2
    refine ⟨_, rfl, ((Below.refl _ _).alloc (Nat.le_refl _) _).grown hg2 (by simp) (fun k hk => ?_), by simpa using hown2⟩
    have hk2 : some w.heap.size = some k := hk
    injection hk2 with hk2
    omega
theorem c16x (A : Option Addr) (n c : Nat) (at' s : Int) (w : World) (hn : n ≤ c) (hc : c ≤ 9223372036854775807) (hp : ¬ (0 ≤ at' ∧ 0 ≤ s ∧ at' + s ≤ n)) :
    Calls Try.prog 16 #[.slice A n c, .int .i64 at', .int .i64 s] w fun e w' => e = .returned (.tuple #[.slice none 0 0, .int .i64 (cutE n at' s)]) ∧ w = w' := by
  have k28 := c28x A n c at' s w hn hc hp
  have e2 : cutE n at' s = 2 ∨ cutE n at' s = 4 := by unfold cutE; split <;> simp
  rcases e2 with e2 | e2
  all_goals
    rw [e2] at k28 ⊢
    have K28 := Lib.hid k28
    clear k28 e2 hp
    go_enter Try.func16, Try.ntmps16
    go_wp2_with (go_at_call 28; refine K28.out.mono ?_; rintro _ _ ⟨rfl, rfl⟩)
    go_ret2
    exact ⟨rfl, rfl⟩
set_option maxHeartbeats 2000000 in
theorem c17 (A : Option Addr) (n c p s : Nat) (f : Nat → Nat) (w : World) (hn : n ≤ c) (hc : c ≤ 140737488351300) (hA : Rd w A n f) (hA0 : A = none → c = 0) (hp : p + s ≤ n) :
    Calls Try.prog 17 #[.slice A n c, .int .i64 (p : Int), .int .i64 (s : Int)] w (PartOut w s (fun j => f (p + j))) := by
  have q1 : decide ((p : Int) < 0) = false := by simp
  have q2 : decide ((s : Int) < 0) = false := by simp
  have q3 : decide (n < p) = false := by simp; omega
  have q4 : decide ((n : Int) - (p : Int) < (s : Int)) = false := by simp; omega
  have f1 : (p : Int) + (s : Int) ≤ (c : Int) := by omega
  have f2 : (0 : Int) ≤ (p : Int) + (s : Int) := by omega
  have f3 : (p : Int) ≤ (p : Int) + (s : Int) := by omega
  have f4 : (p : Int) + (s : Int) ≤ (n : Int) := by omega
  have f5 : ((p : Int) + (s : Int)).toNat = p + s := by omega
  obtain ⟨i0, hi, hz0, hz1, hz2⟩ := info_parts info5
  have hown : w.ownsRow w.heap.size 5 1 (.slice none 0 0) 0 [] := ⟨rfl, .inl ⟨rfl, rfl⟩⟩
  have hR := hA.cut hp
  obtain ⟨g, hg⟩ : ∃ g, g = fun j => f (p + j) := ⟨_, rfl⟩
  rw [← hg] at hR ⊢
  clear hg
  rcases A with _ | ad
  · obtain rfl : c = 0 := hA0 rfl
    obtain rfl : s = 0 := by omega
    obtain rfl : p = 0 := by omega
    obtain rfl : n = 0 := by omega
    go_enter Try.func17, Try.ntmps17
    go_wp2_with (at_builtin; refine wpList_append_own_none rfl (.tmp 27) (.tmp 33) 23 rfl w.heap.size 5 i0 1 Try.underlying23 hi _ 0 [] rfl hown rfl ?_)
    go_ret2
    exact ⟨_, rfl, Below.refl _ _, hown⟩
  · by_cases hcp : c = p
    · obtain rfl : s = 0 := by omega
      clear hR hA
      go_enter Try.func17, Try.ntmps17
      go_wp2_with (at_builtin; refine wpList_append_own _ rfl (.tmp 27) (.tmp 33) 23 rfl w.heap.size 5 i0 (.int .u8 0) 1 1 Try.underlying23 hi hz0 hz1 hz2 rfl (by decide) _ 0 [] rfl hown ad 0 0 [] rfl rfl (fun j u h => by simp at h) (fun u h => by cases h) (by unfold maxLen; omega) (by omega) (Nat.le_refl _) ?_; intro v2 w2 hown2 hg2 _)
      go_ret2
      exact ⟨_, rfl, (Below.refl _ _).grown hg2 (Nat.le_refl _) (fun k hk => by cases hk), by simpa [rowL] using hown2⟩
    · have HR := Lib.hid (Rd.news hR)
      clear hR hA
      go_enter Try.func17, Try.ntmps17
      go_wp2_with (at_builtin; refine wpList_append_own _ rfl (.tmp 27) (.tmp 33) 23 rfl w.heap.size 5 i0 (.int .u8 0) 1 1 Try.underlying23 hi hz0 hz1 hz2 rfl (by decide) _ 0 [] rfl hown (ad.add p) s (c - p) (rowL g s) rfl (by rw [rowL_len]; omega) HR.out (rowL_one g s) (by unfold maxLen; omega) (by omega) (Nat.le_refl _) ?_; intro v2 w2 hown2 hg2 _)
      go_ret2
      exact ⟨_, rfl, (Below.refl _ _).grown hg2 (Nat.le_refl _) (fun k hk => by cases hk), by simpa using hown2⟩
theorem c17x (A : Option Addr) (n c : Nat) (at' s : Int) (w : World) (hn : n ≤ c) (hc : c ≤ 9223372036854775807) (hp : ¬ (0 ≤ at' ∧ 0 ≤ s ∧ at' + s ≤ n)) :
    Calls Try.prog 17 #[.slice A n c, .int .i64 at', .int .i64 s] w fun e w' => e = .returned (.tuple #[.slice none 0 0, .int .i64 (cutE n at' s)]) ∧ w = w' := by
  by_cases h1 : at' < 0
  · have e : cutE n at' s = 2 := by unfold cutE; rw [if_pos (.inl h1)]
    have q1 : decide (at' < 0) = true := by simpa using h1
    rw [e]
    clear e hp
    go_enter Try.func17, Try.ntmps17
    go_wp2
    go_ret2
    exact ⟨rfl, rfl⟩
  obtain ⟨p, rfl⟩ := Int.eq_ofNat_of_zero_le (Int.not_lt.1 h1)
  have q1 : decide ((p : Int) < 0) = false := by simp
  by_cases h2 : n < p
  · have e : cutE n p s = 2 := by unfold cutE; rw [if_pos (.inr (.inl (by omega)))]
    have q2 : decide (n < p) = true := by simpa using h2
    rw [e]
    clear e hp h1
    go_enter Try.func17, Try.ntmps17
    go_wp2
    go_ret2
    exact ⟨rfl, rfl⟩
  have q2 : decide (n < p) = false := by simpa using h2
  by_cases h3 : s < 0
  · have e : cutE n p s = 2 := by unfold cutE; rw [if_pos (.inr (.inr h3))]
    have q3 : decide (s < 0) = true := by simpa using h3
    rw [e]
    clear e hp h1
    go_enter Try.func17, Try.ntmps17
    go_wp2
    go_ret2
    exact ⟨rfl, rfl⟩
  have q3 : decide (s < 0) = false := by simpa using h3
  have e : cutE n p s = 4 := by unfold cutE; rw [if_neg (by omega)]
  have q4 : decide ((n : Int) - (p : Int) < s) = true := by simp; omega
  have q6 : p ≤ n := by omega
  have q7 : (p : Int) ≤ (n : Int) := by omega
  rw [e]
  clear e hp h1 h2 h3
  go_enter Try.func17, Try.ntmps17
  go_wp2
  go_ret2
  exact ⟨rfl, rfl⟩
def padN (n : Nat) : Nat := n + (8 - n % 8) % 8
def padF (n : Nat) (f : Nat → Nat) (j : Nat) : Nat := if j < n then f j else 0
def PadOut (w : World) (n : Nat) (f : Nat → Nat) (e : Ending) (w' : World) : Prop := ∃ v, e = .returned v ∧ Below w.heap.size w w' ∧ w'.ownsRow w.heap.size 5 1 v n (rowL f n)
theorem splice_row (f : Nat → Nat) (n N : Nat) (h : n ≤ N) : splice (madeCells #[.int .u8 0] N).toList 0 (rowL f n) = rowL (padF n f) N := by
  apply List.ext_getElem?
  intro j
  unfold splice
  simp only [List.take_zero, List.nil_append, Nat.zero_add, rowL_len]
  by_cases hj : j < n
  · rw [List.getElem?_append_left (by rw [rowL_len]; exact hj), rowL_get f n j hj, rowL_get _ N j (by omega)]
    unfold padF; rw [if_pos hj]
  · rw [List.getElem?_append_right (by rw [rowL_len]; omega), rowL_len, List.getElem?_drop, show n + (j - n) = j from by omega]
    by_cases hN : j < N
    · rw [rowL_get _ N j hN]
      unfold padF; rw [if_neg hj]
      simp [madeCells, hN, Nat.mod_one]
    · rw [List.getElem?_eq_none (by simp [size_madeCells]; omega), List.getElem?_eq_none (by rw [rowL_len]; omega)]
theorem size5 : (Try.prog.info? 5).map (·.size) = some 1 := by kernel_rfl
set_option maxHeartbeats 2000000 in
theorem c18 (A : Option Addr) (n c : Nat) (f : Nat → Nat) (w : World) (hn : n ≤ c) (hc : c ≤ 140737488351300) (hA : Rd w A n f) :
    Calls Try.prog 18 #[.slice A n c] w (PadOut w (padN n) (padF n f)) := by
  obtain ⟨i0, hi, hz0, hz1, hz2⟩ := info_parts info5
  obtain ⟨q, hq⟩ : ∃ q, q = (8 - n % 8) % 8 := ⟨_, rfl⟩
  obtain ⟨r, hr⟩ : ∃ r, r = n % 8 := ⟨_, rfl⟩
  have hqr : q = (8 - r) % 8 := by omega
  have hN : padN n = n + q := by unfold padN; omega
  have e1 : (n : Int) % 8 = (r : Int) := by omega
  have e1' : (n : Int).tmod 8 = (r : Int) := by rw [Int.tmod_eq_emod_of_nonneg (by omega)]; omega
  have e2 : (8 - (r : Int)) % 8 = (q : Int) := by omega
  have e2' : (8 - (r : Int)).tmod 8 = (q : Int) := by rw [Int.tmod_eq_emod_of_nonneg (by omega)]; omega
  have hmk := fun W => run_make_row (P := Try.prog) 23 5 i0 (.int .u8 0) Try.underlying23 hi hz0 hz1 rfl .i64 .i64 (n + q) (by rw [hz2]; omega) (by omega) W
  simp only [Int.natCast_add] at hmk
  have hb : r ≤ 7 ∧ q ≤ 7 := by omega
  obtain ⟨hb1, hb2⟩ := hb
  rw [hN]
  clear hq hr hqr hN
  have hsrc : 0 < (rowL f n).length → ∃ ad, A = some ad ∧ ∀ j v, (rowL f n)[j]? = some v → (w.alloc (.cells (madeCells #[.int .u8 0] (n + q)) 5)).cell? (ad.add j) = some v := fun h0 => by
    rw [rowL_len] at h0
    obtain ⟨b, o, e, _⟩ := hA h0
    subst e
    exact ⟨_, rfl, (hA.below ((Below.refl _ _).alloc (Nat.le_refl _) _)).news⟩
  have HC := Lib.hid hsrc
  clear hA hsrc
  go_enter Try.func18, Try.ntmps18
  go_wp2_with (refine wpList_copy_splice rfl (.tmp 13) (.tmp 14) 23 23 rfl 5 Try.underlying23 size5 (some ⟨w.heap.size, 0, none⟩) A (n + q) (n + q) n c rfl rfl w.heap.size 0 (madeCells #[.int .u8 0] (n + q)).toList 5 (by simpa using heap_alloc_new w _) (rowL f n) (by rw [rowL_len]; exact (Nat.min_eq_left (by omega)).symm) (fun h0 => ⟨rfl, HC.out h0⟩) (by rw [rowL_len]; simp [size_madeCells]) (rowL_one f n) w.heap.size w ((Below.refl _ _).alloc (Nat.le_refl _) _) (Nat.le_refl _) ?_; intro w2 hg2 hb2)
  go_ret
  exact ⟨_, rfl, hb2, by simp [rowL_len], .inr ⟨w.heap.size, n + q, _, rfl, Nat.le_refl _, hg2.out, Nat.le_refl _, by unfold maxLen; omega, by simp [length_splice, rowL_len, size_madeCells], by simp [splice_row f n (n + q) (by omega), List.take_of_length_le, rowL_len]⟩⟩
theorem rowL_succ (f : Nat → Nat) (n : Nat) : rowL f (n + 1) = rowL f n ++ [.int .u8 (f n : Int)] := by
  unfold rowL; rw [List.range_succ, List.map_append]; rfl
theorem rowL_congr {f g : Nat → Nat} {n : Nat} (h : ∀ j, j < n → f j = g j) : rowL f n = rowL g n := by
  unfold rowL
  apply List.map_congr_left
  intro j hj
  rw [h j (List.mem_range.1 hj)]
def PadR (w : World) (n q : Nat) (f : Nat → Nat) (v : Value) (wr : World) : Prop := ∃ m : Nat, n ≤ m ∧ m ≤ n + q ∧ Below w.heap.size w wr ∧ wr.ownsRow w.heap.size 5 1 v m (rowL (padF n f) m)
def lenOf : Value → Nat
  | .slice _ n _ => n
  | _ => 0
theorem lenOf_own {w : World} {base n : Nat} {v : Value} {xs : List Value} (h : w.ownsRow base 5 1 v n xs) : lenOf v = n := by
  rcases h.2 with ⟨rfl, rfl⟩ | ⟨g, cap, cur, rfl, _⟩ <;> rfl
theorem PadR.step {w wr w2 : World} {n q m : Nat} {f : Nat → Nat} {v v2 : Value} {o : Obj} (h1 : n ≤ m) (h2 : m < n + q) (hb : Below w.heap.size w wr) (hown0 : wr.ownsRow w.heap.size 5 1 v m (rowL (padF n f) m))
    (hown : w2.ownsRow w.heap.size 5 1 v2 (m + 1) (rowL (padF n f) m ++ [.int .u8 0])) (hg : (wr.alloc o).grownBy w2 v.ownBlock) : PadR w n q f v2 w2 := by
  refine ⟨m + 1, by omega, by omega, (hb.alloc hb.size o).grown hg (by have := hb.size; simp; omega) (fun g hg' => (hown0.lt g hg').1), ?_⟩
  rw [rowL_succ]
  have e : padF n f m = 0 := by unfold padF; rw [if_neg (by omega)]
  rw [e]
  exact hown
set_option maxHeartbeats 2000000 in
theorem c19 (A : Option Addr) (n c : Nat) (f : Nat → Nat) (w : World) (hn : n ≤ c) (hc : c ≤ 140737488351300) (hA : Rd w A n f) (hA0 : A = none → c = 0) :
    Calls Try.prog 19 #[.slice A n c] w (PadOut w (padN n) (padF n f)) := by
  obtain ⟨i0, hi, hz0, hz1, hz2⟩ := info_parts info5
  obtain ⟨q, hq⟩ : ∃ q, q = (8 - n % 8) % 8 := ⟨_, rfl⟩
  have hN : padN n = n + q := by unfold padN; omega
  have hq8 : q ≤ 7 ∧ (n + q) % 8 = 0 := by omega
  have hlt : ∀ m, n ≤ m → m < n + q → m % 8 ≠ 0 := fun m h1 h2 => by omega
  rw [hN]
  have HLT := Lib.hid hlt
  have HQ := Lib.hid hq8.2
  have hq7 := hq8.1
  clear hq hN hlt hq8
  have hown : w.ownsRow w.heap.size 5 1 (.slice none 0 0) 0 [] := ⟨rfl, .inl ⟨rfl, rfl⟩⟩
  have start : ∀ v w2, w2.ownsRow w.heap.size 5 1 v n (rowL f n) → Below w.heap.size w w2 → PadR w n q f v w2 := fun v w2 h1 h2 =>
    ⟨n, Nat.le_refl _, by omega, h2, by rw [rowL_congr (f := padF n f) (g := f) (fun j hj => by unfold padF; rw [if_pos hj])]; exact h1⟩
  have ST := Lib.hid start
  clear start
  rcases A with _ | ad
  · obtain rfl : c = 0 := hA0 rfl
    obtain rfl : n = 0 := by omega
    go_enter Try.func19, Try.ntmps19
    go_wp2_with (at_builtin; refine wpList_append_own_none rfl (.tmp 4) (.tmp 5) 23 rfl w.heap.size 5 i0 1 Try.underlying23 hi _ 0 [] rfl hown rfl ?_)
    have h0 := ST.out _ _ hown (Below.refl _ _)
    go_loopw [3] (PadR w 0 q f) (fun v _ => 0 + q - lenOf v)
    case atStart => exact h0
    case round =>
      obtain ⟨m, h1, h2, hb, hown'⟩ := hrel
      clear h0 ST
      have hlen := lenOf_own hown'
      have HL := Lib.hid hlen
      clear hlen
      rcases hown'.2 with ⟨rfl, rfl⟩ | ⟨g, cap, cur, rfl, _⟩
      · have hz : 0 + q = 0 := by
          rcases Nat.eq_zero_or_pos (0 + q) with h | h
          · exact h
          · exact absurd rfl (HLT.out 0 (by omega) h)
        have HZ := Lib.hid hz
        clear hz
        go_wp2
        go_ret
        exact ⟨_, rfl, hb, by rw [HZ.out]; exact hown'⟩
      · by_cases hlt : m < 0 + q
        · have t1 : ((m : Int) % 8 != 0) = true := by
            have := HLT.out m h1 hlt
            simp; omega
          have t2 : ((m : Int).tmod 8 != 0) = true := by rw [Int.tmod_eq_emod_of_nonneg (by omega)]; exact t1
          go_wp2_with (at_builtin; refine wpList_append_own _ rfl (.tmp 11) (.tmp 12) 23 rfl w.heap.size 5 i0 (.int .u8 0) 1 1 Try.underlying23 hi hz0 hz1 hz2 rfl (by decide) _ m (rowL (padF 0 f) m) rfl (hown'.alloc _) ⟨wr.heap.size, 0, none⟩ 1 1 [.int .u8 0] rfl rfl (app1 wr _) (one1 rfl) (by unfold maxLen; omega) (by omega) (by have := hb.size; simp; omega) ?_; intro v3 w3 hown3 hg3 _)
          go_roundw
          case rel => exact PadR.step h1 hlt hb hown' hown3 hg3
          case measure =>
            have := lenOf_own hown3
            have := HL.out
            simp [lenOf] at *
            omega
        · obtain rfl : m = 0 + q := by omega
          have t1 : (((0 + q : Nat) : Int) % 8 != 0) = false := by
            have := HQ.out
            simp; omega
          have t2 : (((0 + q : Nat) : Int).tmod 8 != 0) = false := by rw [Int.tmod_eq_emod_of_nonneg (by omega)]; exact t1
          generalize hM : 0 + q = M at *
          go_wp2
          go_ret
          exact ⟨_, rfl, hb, hown'⟩
  · have HR := Lib.hid (Rd.news hA)
    clear hA hA0
    go_enter Try.func19, Try.ntmps19
    go_wp2_with (at_builtin; refine wpList_append_own _ rfl (.tmp 4) (.tmp 5) 23 rfl w.heap.size 5 i0 (.int .u8 0) 1 1 Try.underlying23 hi hz0 hz1 hz2 rfl (by decide) _ 0 [] rfl hown ad n c (rowL f n) rfl (by rw [rowL_len]; omega) HR.out (rowL_one f n) (by unfold maxLen; omega) (by omega) (Nat.le_refl _) ?_; intro v2 w2 hown2 hg2 _)
    have h0 := ST.out _ _ (by simpa using hown2) ((Below.refl _ _).grown hg2 (Nat.le_refl _) (fun k hk => by cases hk))
    go_loopw [3] (PadR w n q f) (fun v _ => n + q - lenOf v)
    case atStart => exact h0
    case round =>
      obtain ⟨m, h1, h2, hb, hown'⟩ := hrel
      clear h0 ST
      have hlen := lenOf_own hown'
      have HL := Lib.hid hlen
      clear hlen
      rcases hown'.2 with ⟨rfl, rfl⟩ | ⟨g, cap, cur, rfl, _⟩
      · have hz : n + q = 0 := by
          rcases Nat.eq_zero_or_pos (n + q) with h | h
          · exact h
          · exact absurd rfl (HLT.out 0 (by omega) h)
        have HZ := Lib.hid hz
        clear hz
        go_wp2
        go_ret
        exact ⟨_, rfl, hb, by rw [HZ.out]; exact hown'⟩
      · by_cases hlt : m < n + q
        · have t1 : ((m : Int) % 8 != 0) = true := by
            have := HLT.out m h1 hlt
            simp; omega
          have t2 : ((m : Int).tmod 8 != 0) = true := by rw [Int.tmod_eq_emod_of_nonneg (by omega)]; exact t1
          go_wp2_with (at_builtin; refine wpList_append_own _ rfl (.tmp 11) (.tmp 12) 23 rfl w.heap.size 5 i0 (.int .u8 0) 1 1 Try.underlying23 hi hz0 hz1 hz2 rfl (by decide) _ m (rowL (padF n f) m) rfl (hown'.alloc _) ⟨wr.heap.size, 0, none⟩ 1 1 [.int .u8 0] rfl rfl (app1 wr _) (one1 rfl) (by unfold maxLen; omega) (by omega) (by have := hb.size; simp; omega) ?_; intro v3 w3 hown3 hg3 _)
          go_roundw
          case rel => exact PadR.step h1 hlt hb hown' hown3 hg3
          case measure =>
            have := lenOf_own hown3
            have := HL.out
            simp [lenOf] at *
            omega
        · obtain rfl : m = n + q := by omega
          have t1 : (((n + q : Nat) : Int) % 8 != 0) = false := by
            have := HQ.out
            simp; omega
          have t2 : (((n + q : Nat) : Int).tmod 8 != 0) = false := by rw [Int.tmod_eq_emod_of_nonneg (by omega)]; exact t1
          generalize hM : n + q = M at *
          go_wp2
          go_ret
          exact ⟨_, rfl, hb, hown'⟩
end Go.Proofs.Ytjcoidpajcichaa
