import Derived.Test.YtleabbhoedddlaaProg
import Derived.WalkKit
import Derived.ProofKit
import Derived.OpenShut
import Derived.Below
import Derived.WalkSmall
import Derived.BigQuiet
import Derived.Deep.QuietTactic
import Derived.LoopTactic
import Derived.Lib.Hide
import Derived.Deep.OwnRows
import Derived.Laws.MakeOwn
import Derived.Laws.AppendOwn
import Derived.IntWalk
import Derived.Laws.OwnMore
import Derived.OwnWalk
import Derived.WalkLawsBesides
import Derived.WalkSpells
import Derived.Laws.BitsAllLaws
namespace Go.Proofs.Ytleabbhoedddlaa.Pt
open Go.ChangeShapes Go.WideShapes Go.ChangeAt Go.RowKit
set_option linter.unusedVariables false
def isSz (s : Int) : Bool := decide (s = 1 ∨ s = 2 ∨ s = 4 ∨ s = 8)
theorem retb {a b : Bool} (h : a = b) : Ending.returned (.bool a) = .returned (.bool b) := by rw [h]
theorem c25 (s : Int) (w : World) : Calls Try.prog 41 #[.int .i64 s] w fun e w' => e = .returned (.bool (isSz s)) ∧ w = w' := by
  by_cases h1 : s = 1
  · subst h1; go_enter Try.func41, Try.ntmps41; go_wp2; go_ret; exact ⟨rfl, rfl⟩
  by_cases h2 : s = 2
  · subst h2; go_enter Try.func41, Try.ntmps41; go_wp2; go_ret; exact ⟨rfl, rfl⟩
  by_cases h4 : s = 4
  · subst h4; go_enter Try.func41, Try.ntmps41; go_wp2; go_ret; exact ⟨rfl, rfl⟩
  by_cases h8 : s = 8
  · subst h8; go_enter Try.func41, Try.ntmps41; go_wp2; go_ret; exact ⟨rfl, rfl⟩
  have e : isSz s = false := by unfold isSz; simp; omega
  have b1 : (s == 1) = false := by simpa using h1
  have b2 : (s == 2) = false := by simpa using h2
  have b4 : (s == 4) = false := by simpa using h4
  have b8 : (s == 8) = false := by simpa using h8
  rw [e]
  go_enter Try.func41, Try.ntmps41
  go_wp2
  go_ret
  exact ⟨rfl, rfl⟩
theorem bdiv (n d : Nat) (hd : 0 < d) : ((n : Int) / (d : Int) == 0) = decide (n < d) := by
  have e : (n : Int) / (d : Int) = ((n / d : Nat) : Int) := by simp
  rw [e, Bool.eq_iff_iff]
  simp only [beq_iff_eq, decide_eq_true_eq]
  have := Nat.div_eq_zero_iff (a := n) (b := d)
  omega
theorem c26 (n s : Nat) (hn : n < 18446744073709551616) (hs : s = 1 ∨ s = 2 ∨ s = 4 ∨ s = 8) (w : World) : Calls Try.prog 42 #[.int .u64 (n : Int), .int .i64 (s : Int)] w fun e w' => e = .returned (.bool (decide (n < 256 ^ s))) ∧ w = w' := by
  have q1 : decide (n < 256 ^ 1) = ((n : Int) / 256 == 0) := (bdiv n 256 (by omega)).symm
  have q2 : decide (n < 256 ^ 2) = ((n : Int) / 65536 == 0) := (bdiv n 65536 (by omega)).symm
  have q4 : decide (n < 256 ^ 4) = ((n : Int) / 4294967296 == 0) := (bdiv n 4294967296 (by omega)).symm
  have q8 : decide (n < 256 ^ 8) = true := decide_eq_true (by simpa using hn)
  have Q1 := Lib.hid q1
  have Q2 := Lib.hid q2
  have Q4 := Lib.hid q4
  have Q8 := Lib.hid q8
  clear q1 q2 q4 q8
  rcases hs with rfl | rfl | rfl | rfl
  · go_enter Try.func42, Try.ntmps42
    go_wp2
    go_ret
    exact ⟨retb Q1.out.symm, rfl⟩
  · go_enter Try.func42, Try.ntmps42
    go_wp2
    go_ret
    exact ⟨retb Q2.out.symm, rfl⟩
  · go_enter Try.func42, Try.ntmps42
    go_wp2
    go_ret
    exact ⟨retb Q4.out.symm, rfl⟩
  · go_enter Try.func42, Try.ntmps42
    go_wp2
    go_ret
    exact ⟨retb Q8.out.symm, rfl⟩
theorem info5 : (Try.prog.info? 5).map (fun i => (i.zero, i.size, i.bytes)) = some (some (.int .u8 0), 1, 1) := by kernel_rfl
def bt (n i : Nat) : Nat := n / 256 ^ i % 256
def btV (n i : Nat) : Value := .int .u8 (bt n i : Int)
/-- What a call makes: a new slice of n bytes f, the world else as it was. -/
def Made (w w' : World) (v : Value) (n : Nat) (f : Nat → Nat) : Prop :=
  Below w.heap.size w w' ∧ ∃ A c, v = .slice A n c ∧ (0 < n → ∃ b, A = some ⟨b, 0, none⟩ ∧ w.heap.size ≤ b ∧ b < w'.heap.size ∧ ∀ j, j < n → w'.cell? ⟨b, j, none⟩ = some (.int .u8 (f j : Int)))
def PutOut (w : World) (n s : Nat) (e : Ending) (w' : World) : Prop := ∃ v, e = .returned (.tuple #[v, .int .i64 0]) ∧ Made w w' v s (bt n)
def PutR (w : World) (n s : Nat) (i : Value) (wr : World) : Prop := ∃ k : Nat, k ≤ s ∧ i = .int .i64 (k : Int) ∧ Below w.heap.size w wr ∧ wr.rowIs w.heap.size 5 s (fun j => if j < k then .int .u8 (bt n j : Int) else .int .u8 0)
theorem PutR.step {w wr : World} {n s k : Nat} {v : Value} (hk : k < s) (hb : Below w.heap.size w wr) (hr : wr.rowIs w.heap.size 5 s (fun j => if j < k then .int .u8 (bt n j : Int) else .int .u8 0)) (hv : v = .int .u8 (bt n k : Int)) :
    PutR w n s (.int .i64 ((k + 1 : Nat) : Int)) (wr.setCell ⟨w.heap.size, k, none⟩ v) := by
  subst hv
  refine ⟨k + 1, hk, rfl, hb.setCell (Nat.le_refl _) _, (hr.set k _).congr fun j _ => ?_⟩
  by_cases h1 : j = k
  · subst h1; rw [if_pos rfl, if_pos (by omega)]
  · rw [if_neg h1]
    by_cases h2 : j < k
    · rw [if_pos h2, if_pos (by omega)]
    · rw [if_neg h2, if_neg (by omega)]
theorem PutR.done {w wr : World} {n s c : Nat} (hb : Below w.heap.size w wr) (hr : wr.rowIs w.heap.size 5 s (fun j => if j < s then .int .u8 (bt n j : Int) else .int .u8 0)) : PutOut w n s (.returned (.tuple #[.slice (some ⟨w.heap.size, 0, none⟩) s c, .int .i64 0])) wr :=
  ⟨_, rfl, hb, _, _, rfl, fun _ => ⟨_, rfl, Nat.le_refl _, hr.lt, fun j hj => by rw [hr.cell hj, if_pos hj]⟩⟩
set_option maxHeartbeats 2000000 in
theorem c9 (n s : Nat) (hn : n < 18446744073709551616) (hs : s = 1 ∨ s = 2 ∨ s = 4 ∨ s = 8) (hf : n < 256 ^ s) (w : World) : Calls Try.prog 36 #[.int .u64 (n : Int), .int .i64 (s : Int)] w (PutOut w n s) := by
  have k25 := c25 s
  have k26 := c26 n s hn hs
  rw [show isSz (s : Int) = true from by unfold isSz; rcases hs with rfl | rfl | rfl | rfl <;> rfl] at k25
  rw [decide_eq_true hf] at k26
  have K25 := Lib.hid k25
  have K26 := Lib.hid k26
  obtain ⟨i0, hi, hz0, hz1, hz2⟩ := info_parts info5
  have hmk := fun W => run_make_row (P := Try.prog) 44 5 i0 (.int .u8 0) Try.underlying44 hi hz0 hz1 rfl .i64 .i64 s (by rw [hz2]; omega) (by omega) W
  have hs8 : s ≤ 8 := by omega
  clear hs hf k25 k26
  go_enter Try.func36, Try.ntmps36
  go_wp2_with (first | (go_at_call 41; refine (K25.out _).mono ?_; rintro _ _ ⟨rfl, rfl⟩) | (go_at_call 42; refine (K26.out _).mono ?_; rintro _ _ ⟨rfl, rfl⟩))
  have h0 : PutR w n s (.int .i64 0) (w.alloc (.cells (madeCells #[.int .u8 0] s) 5)) := ⟨0, Nat.zero_le _, rfl, (Below.refl _ _).alloc (Nat.le_refl _) _, (World.rowIs_made w _ s 5).congr fun j _ => by rw [if_neg (by omega)]⟩
  go_loopw [21] (PutR w n s) (fun i _ => s - (intOf i).toNat)
  case atStart => exact h0
  case round =>
    obtain ⟨k, hk, rfl, hb, hr⟩ := hrel
    clear h0 hmk K25 K26
    by_cases hlt : k < s
    · have hc := hr.cell hlt
      rw [if_neg (by omega)] at hc
      have hfz := hr.frozen k
      have HR := Lib.hid hr
      clear hr
      have h8 : k = 0 ∨ k = 1 ∨ k = 2 ∨ k = 3 ∨ k = 4 ∨ k = 5 ∨ k = 6 ∨ k = 7 := by omega
      rcases h8 with rfl | rfl | rfl | rfl | rfl | rfl | rfl | rfl
      all_goals
        go_wp2
        go_roundw
        case rel => exact PutR.step hlt hb HR.out (congrArg (Value.int .u8) (by unfold bt; simp only [Nat.reducePow]; omega))
        case measure => simp [intOf]; omega
    · obtain rfl : k = s := by omega
      go_wp2
      go_ret2
      exact PutR.done hb hr
theorem c9x (n : Nat) (s : Int) (h : isSz s = false) (w : World) : Calls Try.prog 36 #[.int .u64 (n : Int), .int .i64 s] w fun e w' => e = .returned (.tuple #[.slice none 0 0, .int .i64 2]) ∧ w = w' := by
  have k25 := c25 s
  rw [h] at k25
  have K25 := Lib.hid k25
  clear k25 h
  go_enter Try.func36, Try.ntmps36
  go_wp2_with (go_at_call 41; refine (K25.out _).mono ?_; rintro _ _ ⟨rfl, rfl⟩)
  go_ret2
  exact ⟨rfl, rfl⟩
theorem c9y (n s : Nat) (hn : n < 18446744073709551616) (hs : s = 1 ∨ s = 2 ∨ s = 4 ∨ s = 8) (hf : ¬ n < 256 ^ s) (w : World) : Calls Try.prog 36 #[.int .u64 (n : Int), .int .i64 (s : Int)] w fun e w' => e = .returned (.tuple #[.slice none 0 0, .int .i64 2]) ∧ w = w' := by
  have k25 := c25 s
  have k26 := c26 n s hn hs
  rw [show isSz (s : Int) = true from by unfold isSz; rcases hs with rfl | rfl | rfl | rfl <;> rfl] at k25
  rw [decide_eq_false hf] at k26
  have K25 := Lib.hid k25
  have K26 := Lib.hid k26
  clear k25 k26 hf hs
  go_enter Try.func36, Try.ntmps36
  go_wp2_with (first | (go_at_call 41; refine (K25.out _).mono ?_; rintro _ _ ⟨rfl, rfl⟩) | (go_at_call 42; refine (K26.out _).mono ?_; rintro _ _ ⟨rfl, rfl⟩))
  go_ret2
  exact ⟨rfl, rfl⟩
def btL (n k : Nat) : List Value := (List.range k).map (fun i => .int .u8 (bt n i : Int))
theorem btL_succ (n k m : Nat) (hm : m = n / 256 ^ k) : btL n (k + 1) = btL n k ++ [.int .u8 ((m % 256 : Nat) : Int)] := by
  subst hm; unfold btL; rw [List.range_succ, List.map_append]; rfl
def RPutR (w : World) (n s : Nat) (i v q : Value) (wr : World) : Prop := ∃ k m : Nat, k ≤ s ∧ i = .int .i64 (k : Int) ∧ q = .int .u64 (m : Int) ∧ m < 18446744073709551616 ∧ m = n / 256 ^ k ∧ Below w.heap.size w wr ∧ wr.ownsRow w.heap.size 5 1 v k (btL n k)
theorem RPutR.step {w wr w2 : World} {n s k m : Nat} {v v2 : Value} {o : Obj} {x : Value} (hk : k < s) (hm : m < 18446744073709551616) (he : m = n / 256 ^ k) (hb : Below w.heap.size w wr) (hown0 : wr.ownsRow w.heap.size 5 1 v k (btL n k)) (hx : x = .int .u8 ((m % 256 : Nat) : Int))
    (hown : w2.ownsRow w.heap.size 5 1 v2 (k + 1) (btL n k ++ [x])) (hg : (wr.alloc o).grownBy w2 v.ownBlock) : RPutR w n s (.int .i64 ((k + 1 : Nat) : Int)) v2 (.int .u64 ((m / 256 : Nat) : Int)) w2 := by
  subst hx
  refine ⟨k + 1, m / 256, hk, rfl, rfl, by omega, by rw [he, Nat.pow_succ, Nat.div_div_eq_div_mul], ?_, by rw [btL_succ n k m he]; exact hown⟩
  refine (hb.alloc hb.size o).grown hg (by have := hb.size; simp; omega) (fun g hg' => ?_)
  exact (hown0.lt g hg').1
def rowL (f : Nat → Nat) (n : Nat) : List Value := (List.range n).map (fun i => .int .u8 (f i : Int))
theorem rowL_get (f : Nat → Nat) (n j : Nat) (h : j < n) : (rowL f n)[j]? = some (.int .u8 (f j : Int)) := by
  unfold rowL
  rw [List.getElem?_map, List.getElem?_range h]; rfl
theorem rowL_one (f : Nat → Nat) (n : Nat) : ∀ u ∈ rowL f n, u.oneCell' = true := by
  intro u hu
  obtain ⟨i, _, rfl⟩ := List.mem_map.1 hu
  rfl
theorem Made.of_own {w w' : World} {v : Value} {n : Nat} {f : Nat → Nat} (hb : Below w.heap.size w w') (h : w'.ownsRow w.heap.size 5 1 v n (rowL f n)) : Made w w' v n f := by
  refine ⟨hb, ?_⟩
  rcases h.2 with ⟨rfl, rfl⟩ | ⟨g, cap, cur, rfl, hg, hh, h1, h2, h3, h4⟩
  · exact ⟨none, 0, rfl, fun h => absurd h (by omega)⟩
  · refine ⟨_, cap, rfl, fun h0 => ⟨g, rfl, hg, (h.lt g rfl).2, fun j hj => ?_⟩⟩
    have := h.cellAt j (by omega)
    rw [this, rowL_get f n j hj]
theorem app1 (w : World) (x : Value) : ∀ j u, [x][j]? = some u → (w.alloc (.cells #[x] 5)).cell? ((⟨w.heap.size, 0, none⟩ : Addr).add j) = some u := by
  intro j u h
  have hj : j = 0 := by
    rcases j with _ | j
    · rfl
    · simp at h
  subst hj
  simp [Addr.add] at h ⊢
  exact h
theorem one1 {x : Value} (h : x.oneCell' = true) : ∀ u ∈ [x], u.oneCell' = true := fun u hu => by
  rw [List.mem_singleton] at hu; rw [hu]; exact h
end Go.Proofs.Ytleabbhoedddlaa.Pt
