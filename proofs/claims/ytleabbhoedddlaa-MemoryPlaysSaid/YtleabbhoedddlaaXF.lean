import Derived.Test.YtleabbhoedddlaaXE
import Derived.Laws.AppendOwnNone
import Derived.Laws.CopyOwn
namespace Go.Proofs.Ytleabbhoedddlaa.Pt
open Go.ChangeShapes Go.WideShapes Go.ChangeAt Go.RowKit
set_option linter.unusedVariables false
theorem rowL_len (f : Nat → Nat) (n : Nat) : (rowL f n).length = n := by simp [rowL]
theorem Rd.news {w : World} {ad : Addr} {n : Nat} {f : Nat → Nat} (h : Rd w (some ad) n f) : ∀ j u, (rowL f n)[j]? = some u → w.cell? (ad.add j) = some u := by
  intro j u hu
  have hj : j < n := by
    rcases Nat.lt_or_ge j n with hj | hj
    · exact hj
    · rw [List.getElem?_eq_none (by rw [rowL_len]; exact hj)] at hu; cases hu
  obtain ⟨b, o, e, hb, hc⟩ := h (by omega)
  injection e with e
  subst e
  rw [rowL_get f n j hj] at hu
  have e2 : (⟨b, o, none⟩ : Addr).add j = ⟨b, o + j, none⟩ := by
    unfold Addr.add
    by_cases h0 : j = 0
    · subst h0; rfl
    · rw [if_neg h0]
  rw [e2, hc j hj]
  exact hu
theorem Rd.none_ {w : World} {n : Nat} {f : Nat → Nat} (h : Rd w none n f) : n = 0 := by
  rcases Nat.eq_zero_or_pos n with h0 | h0
  · exact h0
  · obtain ⟨b, o, e, _⟩ := h h0
    cases e
/-- A part: new bytes f, owned by whoever called. -/
def PartOut (w : World) (n : Nat) (f : Nat → Nat) (e : Ending) (w' : World) : Prop := ∃ v, e = .returned (.tuple #[v, .int .i64 0]) ∧ Below w.heap.size w w' ∧ w'.ownsRow w.heap.size 5 1 v n (rowL f n)
theorem own_empty (w : World) (cs : Array Value) (h : cs.size = 0) : (w.alloc (.cells cs 5)).ownsRow w.heap.size 5 1 (.slice (some ⟨w.heap.size, 0, none⟩) 0 0) 0 [] :=
  ⟨rfl, .inr ⟨w.heap.size, 0, cs, rfl, Nat.le_refl _, heap_alloc_new w _, Nat.le_refl _, by unfold maxLen; omega, by omega, by simp⟩⟩
set_option maxHeartbeats 2000000 in
theorem c16 (A : Option Addr) (n c p s : Nat) (f : Nat → Nat) (w : World) (hn : n ≤ c) (hc : c ≤ 140737488351300) (hA : Rd w A n f) (hA0 : A = none → c = 0) (hp : p + s ≤ n) :
    Calls Try.prog 33 #[.slice A n c, .int .i64 (p : Int), .int .i64 (s : Int)] w (PartOut w s (fun j => f (p + j))) := by
  have k28 := c28 A n c p s f w hn (by omega) hA hA0 hp
  have K28 := Lib.hid k28
  obtain ⟨g, hg⟩ : ∃ g, g = fun j => f (p + j) := ⟨_, rfl⟩
  rw [← hg]
  have HG := Lib.hid hg
  obtain ⟨i0, hi, hz0, hz1, hz2⟩ := info_parts info5
  have hs : s ≤ 140737488351300 := by omega
  clear hg k28 hA hA0 hp hn hc
  go_enter Try.func33, Try.ntmps33
  go_wp2_with fail
  refine K28.out.mono ?_
  rintro _ _ ⟨A', rfl, rfl, hR⟩
  rw [← HG.out] at hR
  clear HG K28
  have hown := own_empty w #[] rfl
  rcases A' with _ | ad
  · obtain rfl : s = 0 := hR.none_
    go_wp2_with (at_builtin; refine wpList_append_own_none rfl (.tmp 20) (.tmp 21) 44 rfl w.heap.size 5 i0 1 Try.underlying44 hi _ 0 [] rfl hown rfl ?_)
    go_ret2
    exact ⟨_, rfl, (Below.refl _ _).alloc (Nat.le_refl _) _, hown⟩
  · have hR' := (hR.below ((Below.refl _ _).alloc (Nat.le_refl _) (.cells #[] 5))).news
    have HR := Lib.hid hR'
    clear hR hR'
    go_wp2_with (at_builtin; refine wpList_append_own _ rfl (.tmp 20) (.tmp 21) 44 rfl w.heap.size 5 i0 (.int .u8 0) 1 1 Try.underlying44 hi hz0 hz1 hz2 rfl (by decide) _ 0 [] rfl hown ad s s (rowL g s) rfl (by rw [rowL_len]; omega) HR.out (rowL_one g s) (by unfold maxLen; omega) (by omega) (by simp) ?_; intro v2 w2 hown2 hg2 _)
    go_ret2
    refine ⟨_, rfl, ((Below.refl _ _).alloc (Nat.le_refl _) _).grown hg2 (by simp) (fun k hk => ?_), by simpa using hown2⟩
    have hk2 : some w.heap.size = some k := hk
    injection hk2 with hk2
    omega
theorem c16x (A : Option Addr) (n c : Nat) (at' s : Int) (w : World) (hn : n ≤ c) (hc : c ≤ 9223372036854775807) (hp : ¬ (0 ≤ at' ∧ 0 ≤ s ∧ at' + s ≤ n)) :
    Calls Try.prog 33 #[.slice A n c, .int .i64 at', .int .i64 s] w fun e w' => e = .returned (.tuple #[.slice none 0 0, .int .i64 (cutE n at' s)]) ∧ w = w' := by
  have k28 := c28x A n c at' s w hn hc hp
  have e2 : cutE n at' s = 2 ∨ cutE n at' s = 4 := by unfold cutE; split <;> simp
  rcases e2 with e2 | e2
  all_goals
    rw [e2] at k28 ⊢
    have K28 := Lib.hid k28
    clear k28 e2 hp
    go_enter Try.func33, Try.ntmps33
    go_wp2_with (go_at_call 38; refine K28.out.mono ?_; rintro _ _ ⟨rfl, rfl⟩)
    go_ret2
    exact ⟨rfl, rfl⟩
theorem size5 : (Try.prog.info? 5).map (·.size) = some 1 := by kernel_rfl
theorem rowL_succ (f : Nat → Nat) (n : Nat) : rowL f (n + 1) = rowL f n ++ [.int .u8 (f n : Int)] := by
  unfold rowL; rw [List.range_succ, List.map_append]; rfl
theorem rowL_congr {f g : Nat → Nat} {n : Nat} (h : ∀ j, j < n → f j = g j) : rowL f n = rowL g n := by
  unfold rowL
  apply List.map_congr_left
  intro j hj
  rw [h j (List.mem_range.1 hj)]
end Go.Proofs.Ytleabbhoedddlaa.Pt
