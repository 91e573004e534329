import Derived.Test.YtmanoheofloimaaGreatDoorMKA
import Derived.Test.YtmanoheofloimaaGreatDoorProg
import Derived.WalkKit
import Derived.ProofKit
import Derived.OpenShut
import Derived.Below
import Derived.WalkSmall
import Derived.BigQuiet
import Derived.Deep.QuietTactic
import Derived.LoopTactic
import Derived.Lib.Hide
import Derived.Deep.OwnRows
import Derived.Laws.MakeOwn
import Derived.Laws.AppendOwn
import Derived.IntWalk
import Derived.Laws.OwnMore
import Derived.OwnWalk
import Derived.WalkLawsBesides
import Derived.WalkSpells
import Derived.Laws.BitsAllLaws
import Derived.Deep.Draws
import Derived.Laws.StructEq
import Derived.Deep.DeepCutAuto
import Derived.Deep.CutBlock
import Derived.Laws.Rows
import Derived.Laws.CopyOwn
import Derived.Deep.AppendLies
import Derived.ChangeKeysEq
namespace Go.Proofs.YtmanoheofloimaaGreatDoor.Cp.En
open Go.ChangeShapes Go.WideShapes Go.ChangeAt Go.RowKit
set_option linter.unusedVariables false
set_option maxRecDepth 100000
def isSz (s : Int) : Bool := decide (s = 1 ∨ s = 2 ∨ s = 4 ∨ s = 8)
theorem retb {a b : Bool} (h : a = b) : Ending.returned (.bool a) = .returned (.bool b) := by rw [h]
theorem c25 (s : Int) (w : World) : Calls Tryz.prog 104 #[.int .i64 s] w fun e w' => e = .returned (.bool (isSz s)) ∧ w = w' := by
  by_cases h1 : s = 1
  · subst h1; go_enter Tryz.func104, Tryz.ntmps104; go_wp2; go_ret; exact ⟨rfl, rfl⟩
  by_cases h2 : s = 2
  · subst h2; go_enter Tryz.func104, Tryz.ntmps104; go_wp2; go_ret; exact ⟨rfl, rfl⟩
  by_cases h4 : s = 4
  · subst h4; go_enter Tryz.func104, Tryz.ntmps104; go_wp2; go_ret; exact ⟨rfl, rfl⟩
  by_cases h8 : s = 8
  · subst h8; go_enter Tryz.func104, Tryz.ntmps104; go_wp2; go_ret; exact ⟨rfl, rfl⟩
  have e : isSz s = false := by unfold isSz; simp; omega
  have b1 : (s == 1) = false := by simpa using h1
  have b2 : (s == 2) = false := by simpa using h2
  have b4 : (s == 4) = false := by simpa using h4
  have b8 : (s == 8) = false := by simpa using h8
  rw [e]
  go_enter Tryz.func104, Tryz.ntmps104
  go_wp2
  go_ret
  exact ⟨rfl, rfl⟩
theorem bdiv (n d : Nat) (hd : 0 < d) : ((n : Int) / (d : Int) == 0) = decide (n < d) := by
  have e : (n : Int) / (d : Int) = ((n / d : Nat) : Int) := by simp
  rw [e, Bool.eq_iff_iff]
  simp only [beq_iff_eq, decide_eq_true_eq]
  have := Nat.div_eq_zero_iff (a := n) (b := d)
  omega
theorem c26 (n s : Nat) (hn : n < 18446744073709551616) (hs : s = 1 ∨ s = 2 ∨ s = 4 ∨ s = 8) (w : World) : Calls Tryz.prog 106 #[.int .u64 (n : Int), .int .i64 (s : Int)] w fun e w' => e = .returned (.bool (decide (n < 256 ^ s))) ∧ w = w' := by
  have q1 : decide (n < 256 ^ 1) = ((n : Int) / 256 == 0) := (bdiv n 256 (by omega)).symm
  have q2 : decide (n < 256 ^ 2) = ((n : Int) / 65536 == 0) := (bdiv n 65536 (by omega)).symm
  have q4 : decide (n < 256 ^ 4) = ((n : Int) / 4294967296 == 0) := (bdiv n 4294967296 (by omega)).symm
  have q8 : decide (n < 256 ^ 8) = true := decide_eq_true (by simpa using hn)
  have Q1 := Lib.hid q1
  have Q2 := Lib.hid q2
  have Q4 := Lib.hid q4
  have Q8 := Lib.hid q8
  clear q1 q2 q4 q8
  rcases hs with rfl | rfl | rfl | rfl
  · go_enter Tryz.func106, Tryz.ntmps106
    go_wp2
    go_ret
    exact ⟨retb Q1.out.symm, rfl⟩
  · go_enter Tryz.func106, Tryz.ntmps106
    go_wp2
    go_ret
    exact ⟨retb Q2.out.symm, rfl⟩
  · go_enter Tryz.func106, Tryz.ntmps106
    go_wp2
    go_ret
    exact ⟨retb Q4.out.symm, rfl⟩
  · go_enter Tryz.func106, Tryz.ntmps106
    go_wp2
    go_ret
    exact ⟨retb Q8.out.symm, rfl⟩
theorem info5 : (Tryz.prog.info? 5).map (fun i => (i.zero, i.size, i.bytes)) = some (some (.int .u8 0), 1, 1) := by kernel_rfl
def bt (n i : Nat) : Nat := n / 256 ^ i % 256
/-- What a call makes: a new slice of n bytes f, the world else as it was. -/
def Made (w w' : World) (v : Value) (n : Nat) (f : Nat → Nat) : Prop :=
  Below w.heap.size w w' ∧ ∃ A c, v = .slice A n c ∧ (0 < n → ∃ b, A = some ⟨b, 0, none⟩ ∧ w.heap.size ≤ b ∧ b < w'.heap.size ∧ ∀ j, j < n → w'.cell? ⟨b, j, none⟩ = some (.int .u8 (f j : Int)))
def PutOut (w : World) (n s : Nat) (e : Ending) (w' : World) : Prop := ∃ v, e = .returned (.tuple #[v, .int .i64 0]) ∧ Made w w' v s (bt n)
def PutR (w : World) (n s : Nat) (i : Value) (wr : World) : Prop := ∃ k : Nat, k ≤ s ∧ i = .int .i64 (k : Int) ∧ Below w.heap.size w wr ∧ wr.rowIs w.heap.size 5 s (fun j => if j < k then .int .u8 (bt n j : Int) else .int .u8 0)
theorem PutR.step {w wr : World} {n s k : Nat} {v : Value} (hk : k < s) (hb : Below w.heap.size w wr) (hr : wr.rowIs w.heap.size 5 s (fun j => if j < k then .int .u8 (bt n j : Int) else .int .u8 0)) (hv : v = .int .u8 (bt n k : Int)) :
    PutR w n s (.int .i64 ((k + 1 : Nat) : Int)) (wr.setCell ⟨w.heap.size, k, none⟩ v) := by
  subst hv
  refine ⟨k + 1, hk, rfl, hb.setCell (Nat.le_refl _) _, (hr.set k _).congr fun j _ => ?_⟩
  by_cases h1 : j = k
  · subst h1; rw [if_pos rfl, if_pos (by omega)]
  · rw [if_neg h1]
    by_cases h2 : j < k
    · rw [if_pos h2, if_pos (by omega)]
    · rw [if_neg h2, if_neg (by omega)]
theorem PutR.done {w wr : World} {n s c : Nat} (hb : Below w.heap.size w wr) (hr : wr.rowIs w.heap.size 5 s (fun j => if j < s then .int .u8 (bt n j : Int) else .int .u8 0)) : PutOut w n s (.returned (.tuple #[.slice (some ⟨w.heap.size, 0, none⟩) s c, .int .i64 0])) wr :=
  ⟨_, rfl, hb, _, _, rfl, fun _ => ⟨_, rfl, Nat.le_refl _, hr.lt, fun j hj => by rw [hr.cell hj, if_pos hj]⟩⟩
set_option maxHeartbeats 2000000 in
theorem c9 (n s : Nat) (hn : n < 18446744073709551616) (hs : s = 1 ∨ s = 2 ∨ s = 4 ∨ s = 8) (hf : n < 256 ^ s) (w : World) : Calls Tryz.prog 80 #[.int .u64 (n : Int), .int .i64 (s : Int)] w (PutOut w n s) := by
  have k25 := c25 s
  have k26 := c26 n s hn hs
  rw [show isSz (s : Int) = true from by unfold isSz; rcases hs with rfl | rfl | rfl | rfl <;> rfl] at k25
  rw [decide_eq_true hf] at k26
  have K25 := Lib.hid k25
  have K26 := Lib.hid k26
  obtain ⟨i0, hi, hz0, hz1, hz2⟩ := info_parts info5
  have hmk := fun W => run_make_row (P := Tryz.prog) 62 5 i0 (.int .u8 0) Tryz.underlying62 hi hz0 hz1 rfl .i64 .i64 s (by rw [hz2]; omega) (by omega) W
  have hs8 : s ≤ 8 := by omega
  clear hs hf k25 k26
  go_enter Tryz.func80, Tryz.ntmps80
  go_wp2_with (first | (go_at_call 104; refine (K25.out _).mono ?_; rintro _ _ ⟨rfl, rfl⟩) | (go_at_call 106; refine (K26.out _).mono ?_; rintro _ _ ⟨rfl, rfl⟩))
  have h0 : PutR w n s (.int .i64 0) (w.alloc (.cells (madeCells #[.int .u8 0] s) 5)) := ⟨0, Nat.zero_le _, rfl, (Below.refl _ _).alloc (Nat.le_refl _) _, (World.rowIs_made w _ s 5).congr fun j _ => by rw [if_neg (by omega)]⟩
  go_loopw [21] (PutR w n s) (fun i _ => s - (intOf i).toNat)
  case atStart => exact h0
  case round =>
    obtain ⟨k, hk, rfl, hb, hr⟩ := hrel
    clear h0 hmk K25 K26
    by_cases hlt : k < s
    · have hc := hr.cell hlt
      rw [if_neg (by omega)] at hc
      have hfz := hr.frozen k
      have HR := Lib.hid hr
      clear hr
      have h8 : k = 0 ∨ k = 1 ∨ k = 2 ∨ k = 3 ∨ k = 4 ∨ k = 5 ∨ k = 6 ∨ k = 7 := by omega
      rcases h8 with rfl | rfl | rfl | rfl | rfl | rfl | rfl | rfl
      all_goals
        go_wp2
        go_roundw
        case rel => exact PutR.step hlt hb HR.out (congrArg (Value.int .u8) (by unfold bt; simp only [Nat.reducePow]; omega))
        case measure => simp [intOf]; omega
    · obtain rfl : k = s := by omega
      go_wp2
      go_ret2
      exact PutR.done hb hr
/-- A slice of n bytes f. -/
def Rd (w : World) (A : Option Addr) (n : Nat) (f : Nat → Nat) : Prop :=
  0 < n → ∃ b o, A = some ⟨b, o, none⟩ ∧ b < w.heap.size ∧ ∀ j, j < n → w.cell? ⟨b, o + j, none⟩ = some (.int .u8 (f j : Int))
theorem Rd.below {w w' : World} {A : Option Addr} {n : Nat} {f : Nat → Nat} (h : Rd w A n f) (hb : Below w.heap.size w w') : Rd w' A n f := fun h0 => by
  obtain ⟨b, o, e, hlt, hc⟩ := h h0
  exact ⟨b, o, e, Nat.lt_of_lt_of_le hlt hb.size, fun j hj => (hb.cell hlt).trans (hc j hj)⟩
theorem Rd.drewN {w : World} {A : Option Addr} {n : Nat} {f : Nat → Nat} (h : Rd w A n f) (q : Nat) : Rd (w.drewN q) A n f := h
end Go.Proofs.YtmanoheofloimaaGreatDoor.Cp.En
namespace Go.Proofs.YtmanoheofloimaaGreatDoor.Cp
open Go.ChangeShapes Go.WideShapes Go.ChangeAt Go.RowKit
set_option linter.unusedVariables false
theorem bcell {W w1 : World} (hb : Below W.heap.size W w1) : (∀ b o, b < W.heap.size → w1.cell? ⟨b, o, none⟩ = W.cell? ⟨b, o, none⟩) ∧ (∀ b o, b < W.heap.size → w1.frozen? ⟨b, o, none⟩ = W.frozen? ⟨b, o, none⟩) :=
  ⟨fun b o h => hb.cell (p := ⟨b, o, none⟩) h, fun b o h => hb.frozen (p := ⟨b, o, none⟩) h⟩
theorem retb {a b : Bool} (h : a = b) : Ending.returned (.bool a) = .returned (.bool b) := by rw [h]
theorem keep3 {w0 wp w1 : World} {k : Nat} {v0 v1 v2 : Value} (h : Below w0.heap.size w0 wp ∧ k < wp.heap.size ∧ wp.cell? ⟨k, 0, none⟩ = some v0 ∧ wp.cell? ⟨k, 1, none⟩ = some v1 ∧ wp.cell? ⟨k, 2, none⟩ = some v2) (hb : Below wp.heap.size wp w1) :
    Below w0.heap.size w0 w1 ∧ k < w1.heap.size ∧ w1.cell? ⟨k, 0, none⟩ = some v0 ∧ w1.cell? ⟨k, 1, none⟩ = some v1 ∧ w1.cell? ⟨k, 2, none⟩ = some v2 := by
  obtain ⟨h1, h2, h3, h4, h5⟩ := h
  refine ⟨h1.trans (hb.mono h1.size), Nat.lt_of_lt_of_le h2 hb.size, ?_, ?_, ?_⟩
  · rw [hb.cell (p := ⟨k, 0, none⟩) h2]; exact h3
  · rw [hb.cell (p := ⟨k, 1, none⟩) h2]; exact h4
  · rw [hb.cell (p := ⟨k, 2, none⟩) h2]; exact h5
theorem init3 {w w1 : World} {v0 v1 v2 : Value} {T : TypeId} (hb : Below (w.alloc (.cells #[v0, v1, v2] T)).heap.size (w.alloc (.cells #[v0, v1, v2] T)) w1) :
    Below w.heap.size w w1 ∧ w.heap.size < w1.heap.size ∧ w1.cell? ⟨w.heap.size, 0, none⟩ = some v0 ∧ w1.cell? ⟨w.heap.size, 1, none⟩ = some v1 ∧ w1.cell? ⟨w.heap.size, 2, none⟩ = some v2 :=
  keep3 ⟨(Below.refl _ _).alloc (Nat.le_refl _) _, by simp, by simp, by simp, by simp⟩ hb
theorem wi_no1 {x y z a at' n : Nat} (h : 1099511627776 < at') : wi x y z a at' n = false := by unfold wi; simp; omega
theorem wi_no2 {x y z a at' n : Nat} (h : 1099511627776 < n) : wi x y z a at' n = false := by unfold wi; simp; omega
end Go.Proofs.YtmanoheofloimaaGreatDoor.Cp
namespace Go.Proofs.YtmanoheofloimaaGreatDoor.Cp
open Go.ChangeShapes Go.WideShapes Go.ChangeAt Go.RowKit
set_option linter.unusedVariables false
def ok (b t e : Nat) : Bool := decide (b % 2 ^ e = 0 ∧ t % 2 ^ e = 0 ∧ t - b ≤ 511 * 2 ^ e)
end Go.Proofs.YtmanoheofloimaaGreatDoor.Cp
namespace Go.Proofs.YtmanoheofloimaaGreatDoor.Cp
open Go.ChangeShapes Go.WideShapes Go.ChangeAt Go.RowKit
set_option linter.unusedVariables false
abbrev cp (g : Bool) (a p y e b t : Nat) : Value := .agg #[.bool g, .int .u32 (a : Int), .int .u8 (p : Int), .int .u8 (y : Int), .int .u8 (e : Int), .int .u16 (b : Int), .int .u16 (t : Int)]
end Go.Proofs.YtmanoheofloimaaGreatDoor.Cp
namespace Go.Proofs.YtmanoheofloimaaGreatDoor.Cp
open Go.ChangeShapes Go.WideShapes Go.ChangeAt Go.RowKit
set_option linter.unusedVariables false
theorem and8 (p : Nat) (hp : p < 256) : bits .and .u8 (p : Int) 8 = ((p / 8 % 2 * 8 : Nat) : Int) := by
  have h := u8_and_nat p 8 hp (by omega)
  rw [nat_bit3] at h; exact h
theorem and7 (t : Nat) (ht : t < 4294967296) : bits .and .u32 (t : Int) 7 = ((t % 8 : Nat) : Int) := by
  have h := u32_and_nat t 7 ht (by omega)
  rw [nat_mask3] at h; exact h
end Go.Proofs.YtmanoheofloimaaGreatDoor.Cp
namespace Go.Proofs.YtmanoheofloimaaGreatDoor.Cp
open Go.ChangeShapes Go.WideShapes Go.ChangeAt Go.RowKit
set_option linter.unusedVariables false
theorem keep7 {w0 wp w1 : World} {k : Nat} {v0 v1 v2 v3 v4 v5 v6 : Value} (h : Below w0.heap.size w0 wp ∧ k < wp.heap.size ∧ wp.cell? ⟨k, 0, none⟩ = some v0 ∧ wp.cell? ⟨k, 1, none⟩ = some v1 ∧ wp.cell? ⟨k, 2, none⟩ = some v2 ∧ wp.cell? ⟨k, 3, none⟩ = some v3 ∧ wp.cell? ⟨k, 4, none⟩ = some v4 ∧ wp.cell? ⟨k, 5, none⟩ = some v5 ∧ wp.cell? ⟨k, 6, none⟩ = some v6) (hb : Below wp.heap.size wp w1) :
    Below w0.heap.size w0 w1 ∧ k < w1.heap.size ∧ w1.cell? ⟨k, 0, none⟩ = some v0 ∧ w1.cell? ⟨k, 1, none⟩ = some v1 ∧ w1.cell? ⟨k, 2, none⟩ = some v2 ∧ w1.cell? ⟨k, 3, none⟩ = some v3 ∧ w1.cell? ⟨k, 4, none⟩ = some v4 ∧ w1.cell? ⟨k, 5, none⟩ = some v5 ∧ w1.cell? ⟨k, 6, none⟩ = some v6 := by
  obtain ⟨h1, h2, q0, q1, q2, q3, q4, q5, q6⟩ := h
  have hc : ∀ o, w1.cell? ⟨k, o, none⟩ = wp.cell? ⟨k, o, none⟩ := fun o => hb.cell (p := ⟨k, o, none⟩) h2
  exact ⟨h1.trans (hb.mono h1.size), Nat.lt_of_lt_of_le h2 hb.size, by rw [hc]; exact q0, by rw [hc]; exact q1, by rw [hc]; exact q2, by rw [hc]; exact q3, by rw [hc]; exact q4, by rw [hc]; exact q5, by rw [hc]; exact q6⟩
theorem start7 (w : World) (v0 v1 v2 v3 v4 v5 v6 : Value) (T : TypeId) :
    Below w.heap.size w (w.alloc (.cells #[v0, v1, v2, v3, v4, v5, v6] T)) ∧ w.heap.size < (w.alloc (.cells #[v0, v1, v2, v3, v4, v5, v6] T)).heap.size ∧ (w.alloc (.cells #[v0, v1, v2, v3, v4, v5, v6] T)).cell? ⟨w.heap.size, 0, none⟩ = some v0 ∧ (w.alloc (.cells #[v0, v1, v2, v3, v4, v5, v6] T)).cell? ⟨w.heap.size, 1, none⟩ = some v1 ∧ (w.alloc (.cells #[v0, v1, v2, v3, v4, v5, v6] T)).cell? ⟨w.heap.size, 2, none⟩ = some v2 ∧ (w.alloc (.cells #[v0, v1, v2, v3, v4, v5, v6] T)).cell? ⟨w.heap.size, 3, none⟩ = some v3 ∧ (w.alloc (.cells #[v0, v1, v2, v3, v4, v5, v6] T)).cell? ⟨w.heap.size, 4, none⟩ = some v4 ∧ (w.alloc (.cells #[v0, v1, v2, v3, v4, v5, v6] T)).cell? ⟨w.heap.size, 5, none⟩ = some v5 ∧ (w.alloc (.cells #[v0, v1, v2, v3, v4, v5, v6] T)).cell? ⟨w.heap.size, 6, none⟩ = some v6 := by
  refine ⟨(Below.refl _ _).alloc (Nat.le_refl _) _, by simp, by simp, by simp, by simp, by simp, by simp, by simp, by simp⟩
end Go.Proofs.YtmanoheofloimaaGreatDoor.Cp
namespace Go.Proofs.YtmanoheofloimaaGreatDoor.Cp
open Go.ChangeShapes Go.WideShapes Go.ChangeAt Go.RowKit
set_option linter.unusedVariables false
def Blk (w : World) (g : Nat) (t : TypeId) (cs : Array Value) : Prop := w.heap[g]? = some (.cells cs t (0, 0))
section
variable {w w' : World} {g : Nat} {t : TypeId} {cs : Array Value}
theorem Blk.lt (h : Blk w g t cs) : g < w.heap.size := by
  rcases Nat.lt_or_ge g w.heap.size with hlt | hge
  · exact hlt
  · unfold Blk at h; rw [Array.getElem?_eq_none hge] at h; cases h
theorem Blk.cell (h : Blk w g t cs) (i : Nat) : w.cell? ⟨g, i, none⟩ = cs[i]? := cell_of_row w g i cs t (0, 0) h
theorem Blk.frozen (h : Blk w g t cs) (i : Nat) : w.frozen? ⟨g, i, none⟩ = false := by
  unfold Blk at h
  simp [World.frozen?, h]
theorem Blk.new (w : World) (t : TypeId) (cs : Array Value) : Blk (w.alloc (.cells cs t)) w.heap.size t cs := heap_alloc_new w _
theorem Blk.drew (h : Blk w g t cs) : Blk w.drew g t cs := h
theorem Blk.alloc (h : Blk w g t cs) (o : Obj) : Blk (w.alloc o) g t cs := (Below.heap_alloc w o g h.lt).trans h
theorem Blk.set_ (h : Blk w g t cs) (i : Nat) (u : Value) : Blk (w.setCell ⟨g, i, none⟩ u) g t (cs.setIfInBounds i u) := by
  unfold Blk at h ⊢
  simp [World.setCell, Array.getElem?_modify, h]
theorem Blk.far (h : Blk w g t cs) {p : Addr} (hp : g ≠ p.block) (u : Value) : Blk (w.setCell p u) g t cs := (Below.heap_setCell w p u g hp).trans h
theorem Blk.below {B : Nat} (h : Blk w g t cs) (hb : Below B w w') (hg : g < B) : Blk w' g t cs := (hb.block g hg).trans h
end
end Go.Proofs.YtmanoheofloimaaGreatDoor.Cp
namespace Go.Proofs.YtmanoheofloimaaGreatDoor.Cp
open Go.ChangeShapes Go.WideShapes Go.ChangeAt Go.RowKit
set_option linter.unusedVariables false
set_option maxRecDepth 100000
theorem or32 (m x k : Nat) (hm : m < 2 ^ k) (h : m + x * 2 ^ k < 4294967296) (P : Int) (hP : P = ((2 ^ k : Nat) : Int)) : bits .or .u32 (m : Int) ((x : Int) * P) = ((m + x * 2 ^ k : Nat) : Int) := by
  subst hP
  have h2 : (x : Int) * ((2 ^ k : Nat) : Int) = ((x * 2 ^ k : Nat) : Int) := (Int.natCast_mul ..).symm
  rw [h2, u32_or_nat m (x * 2 ^ k) (by omega) (by omega)]
  congr 1
  have := Nat.two_pow_add_eq_or_of_lt hm x
  rw [Nat.or_comm, Nat.mul_comm x, ← this, Nat.add_comm]
def mt (p y e b t : Nat) : Nat := p % 128 + y % 8 * 128 + e % 16 * 1024 + b % 512 * 16384 + t % 512 * 8388608
abbrev arr (x0 x1 x2 x3 x4 x5 x6 x7 : Nat) : Value := .agg #[.int .u8 (x0 : Int), .int .u8 (x1 : Int), .int .u8 (x2 : Int), .int .u8 (x3 : Int), .int .u8 (x4 : Int), .int .u8 (x5 : Int), .int .u8 (x6 : Int), .int .u8 (x7 : Int)]
def B3 (w w' : World) (C X Y : Array Value) : Prop := Below w.heap.size w w' ∧ Blk w' w.heap.size 31 C ∧ Blk w' (w.heap.size + 1) 112 X ∧ Blk w' (w.heap.size + 2) 112 Y
theorem B3.below {w wa wb : World} {C X Y : Array Value} (h : B3 w wa C X Y) (hb : Below wa.heap.size wa wb) : B3 w wb C X Y :=
  ⟨h.1.trans (hb.mono h.1.size), h.2.1.below hb h.2.1.lt, h.2.2.1.below hb h.2.2.1.lt, h.2.2.2.below hb h.2.2.2.lt⟩
theorem B3.set {w wa wb : World} {C X Y Y' : Array Value} (h : B3 w wa C X Y) (hn : Blk wb (w.heap.size + 2) 112 Y') (hg : wa.grownBy wb (some (w.heap.size + 2))) : B3 w wb C X Y' :=
  ⟨h.1.grown hg h.1.size (fun k hk => by injection hk with hk; omega), (hg.block _ h.2.1.lt (by simp)).trans h.2.1, (hg.block _ h.2.2.1.lt (by simp)).trans h.2.2.1, hn⟩
/-- Four bytes of a new slice. -/
def F4 (w' : World) (A : Option Addr) (B n : Nat) : Prop := ∃ b, A = some ⟨b, 0, none⟩ ∧ B ≤ b ∧ b < w'.heap.size ∧ w'.cell? ⟨b, 0, none⟩ = some (.int .u8 (En.bt n 0 : Int)) ∧ w'.cell? ⟨b, 1, none⟩ = some (.int .u8 (En.bt n 1 : Int)) ∧ w'.cell? ⟨b, 2, none⟩ = some (.int .u8 (En.bt n 2 : Int)) ∧ w'.cell? ⟨b, 3, none⟩ = some (.int .u8 (En.bt n 3 : Int))
theorem F4.far {wa wb : World} {A : Option Addr} {B n k : Nat} (h : F4 wa A B n) (hg : wa.grownBy wb (some k)) (hk : k < B) : F4 wb A B n := by
  obtain ⟨b, e, h1, h2, c0, c1, c2, c3⟩ := h
  have hc : ∀ j, wb.cell? ⟨b, j, none⟩ = wa.cell? ⟨b, j, none⟩ := fun j => hg.cell_far ⟨b, j, none⟩ h2 (by simp; omega)
  exact ⟨b, e, h1, Nat.lt_of_lt_of_le h2 hg.size, by rw [hc]; exact c0, by rw [hc]; exact c1, by rw [hc]; exact c2, by rw [hc]; exact c3⟩
end Go.Proofs.YtmanoheofloimaaGreatDoor.Cp
namespace Go.Proofs.YtmanoheofloimaaGreatDoor.Cp
open Go.ChangeShapes Go.WideShapes Go.ChangeAt Go.RowKit
set_option linter.unusedVariables false
set_option maxRecDepth 100000
def yc (n i k : Nat) : Value := if i < k then .int .u8 (En.bt n i : Int) else .int .u8 0
def Yk (a M k : Nat) : Array Value := #[yc a 0 k, yc a 1 k, yc a 2 k, yc a 3 k, yc M 0 k, yc M 1 k, yc M 2 k, yc M 3 k]
def RB (w : World) (C X : Array Value) (a M : Nat) (i q r : Value) (wr : World) : Prop := ∃ k : Nat, k ≤ 4 ∧ i = .int .i64 (k : Int) ∧ q = .int .u64 ((a / 256 ^ k : Nat) : Int) ∧ r = .int .u64 ((M / 256 ^ k : Nat) : Int) ∧ B3 w wr C X (Yk a M k)
theorem B3.set2 {w wa : World} {C X Y : Array Value} (h : B3 w wa C X Y) (i j : Nat) (u v : Value) : B3 w ((wa.setCell ⟨w.heap.size + 2, i, none⟩ u).setCell ⟨w.heap.size + 2, j, none⟩ v) C X ((Y.setIfInBounds i u).setIfInBounds j v) :=
  ⟨(h.1.setCell (by simp) u).setCell (by simp) v, (h.2.1.far (by simp) u).far (by simp) v, (h.2.2.1.far (by simp) u).far (by simp) v, (h.2.2.2.set_ i u).set_ j v⟩
theorem RB.step {w wr : World} {C X : Array Value} {a M k q r : Nat} (hk : k < 4) (h : B3 w wr C X (Yk a M k)) (hq : q = a / 256 ^ k) (hr : r = M / 256 ^ k) (j : Nat) (hj : j = 4 + k) :
    RB w C X a M (.int .i64 ((k + 1 : Nat) : Int)) (.int .u64 ((q / 256 : Nat) : Int)) (.int .u64 ((r / 256 : Nat) : Int)) ((wr.setCell ⟨w.heap.size + 2, k, none⟩ (.int .u8 ((q % 256 : Nat) : Int))).setCell ⟨w.heap.size + 2, j, none⟩ (.int .u8 ((r % 256 : Nat) : Int))) := by
  subst hq hr hj
  refine ⟨k + 1, hk, rfl, by rw [Nat.pow_succ, Nat.div_div_eq_div_mul], by rw [Nat.pow_succ, Nat.div_div_eq_div_mul], ?_⟩
  have h2 := h.set2 k (4 + k) (.int .u8 ((a / 256 ^ k % 256 : Nat) : Int)) (.int .u8 ((M / 256 ^ k % 256 : Nat) : Int))
  have e : ((Yk a M k).setIfInBounds k (.int .u8 ((a / 256 ^ k % 256 : Nat) : Int))).setIfInBounds (4 + k) (.int .u8 ((M / 256 ^ k % 256 : Nat) : Int)) = Yk a M (k + 1) := by
    have hk4 : k = 0 ∨ k = 1 ∨ k = 2 ∨ k = 3 := by omega
    rcases hk4 with rfl | rfl | rfl | rfl <;> simp [Yk, yc, En.bt]
  rw [e] at h2
  exact h2
theorem Yk.at_ {w : World} {g a M k : Nat} (h : Blk w g 112 (Yk a M k)) (hk : k < 4) : w.cell? ⟨g, k, none⟩ = some (.int .u8 0) ∧ w.cell? ⟨g, 4 + k, none⟩ = some (.int .u8 0) ∧ w.frozen? ⟨g, k, none⟩ = false ∧ w.frozen? ⟨g, 4 + k, none⟩ = false := by
  have h1 := h.cell k
  have h2 := h.cell (4 + k)
  have hk4 : k = 0 ∨ k = 1 ∨ k = 2 ∨ k = 3 := by omega
  refine ⟨?_, ?_, h.frozen k, h.frozen (4 + k)⟩
  · rw [h1]; rcases hk4 with rfl | rfl | rfl | rfl <;> simp [Yk, yc]
  · rw [h2]; rcases hk4 with rfl | rfl | rfl | rfl <;> simp [Yk, yc]
end Go.Proofs.YtmanoheofloimaaGreatDoor.Cp
namespace Go.Proofs.YtmanoheofloimaaGreatDoor.Cp
open Go.ChangeShapes Go.WideShapes Go.ChangeAt Go.RowKit
set_option linter.unusedVariables false
set_option maxRecDepth 100000
def num4 (a b c d : Nat) : Nat := a + 256 * (b + 256 * (c + 256 * d))
end Go.Proofs.YtmanoheofloimaaGreatDoor.Cp
