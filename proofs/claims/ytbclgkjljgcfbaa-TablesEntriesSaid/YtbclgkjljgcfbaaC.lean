import Derived.Test.YtbclgkjljgcfbaaB
import Derived.LoopTactic
namespace Go.Proofs.Ytbclgkjljgcfbaa
open Go.ChangeShapes Go.WideShapes Go.ChangeAt Go.RowKit
open Cp (Blk cp bs ln ex ex_err rootV set7 set7a bcell cellAlloc)
set_option linter.unusedVariables false
structure Rg where
  k : Nat
  o : Int
  a : Nat
  n : Nat
def Rg.ok (x : Rg) : Prop := x.k < 256 ∧ x.a < 4294967296 ∧ x.n < 4294967296
abbrev Rg.v (x : Rg) : Value := rg x.k x.o x.a x.n
/-- so many regions stand there -/
def Rgs (w : World) (A : Option Addr) (n : Nat) (f : Nat → Rg) : Prop :=
  0 < n → ∃ b o, A = some ⟨b, o, none⟩ ∧ b < w.heap.size ∧ ∀ k, k < n → (f k).ok ∧ w.cell? ⟨b, o + k * 4, none⟩ = some (.int .u8 ((f k).k : Int)) ∧ w.cell? ⟨b, o + k * 4 + 1, none⟩ = some (.int .i64 (f k).o) ∧ w.cell? ⟨b, o + k * 4 + 2, none⟩ = some (.int .u32 ((f k).a : Int)) ∧ w.cell? ⟨b, o + k * 4 + 3, none⟩ = some (.int .u32 ((f k).n : Int))
theorem Rgs.below {w w' : World} {A : Option Addr} {n : Nat} {f : Nat → Rg} (h : Rgs w A n f) (hb : Below w.heap.size w w') : Rgs w' A n f := fun h0 => by
  obtain ⟨b, o, e, hl, hc⟩ := h h0
  refine ⟨b, o, e, Nat.lt_of_lt_of_le hl hb.size, fun k hk => ?_⟩
  obtain ⟨h1, h2, h3, h4, h5⟩ := hc k hk
  have z : ∀ j, w'.cell? ⟨b, j, none⟩ = w.cell? ⟨b, j, none⟩ := fun j => hb.cell (p := ⟨b, j, none⟩) hl
  exact ⟨h1, by rw [z]; exact h2, by rw [z]; exact h3, by rw [z]; exact h4, by rw [z]; exact h5⟩
def hit (k : Nat) (o : Int) (x : Rg) : Bool := (decide (x.k = k)) && (x.o == o)
/-- the first one -/
def fst (f : Nat → Rg) (k : Nat) (o : Int) : Nat → Option Nat
  | 0 => none
  | n + 1 => match fst f k o n with
    | some j => some j
    | none => if hit k o (f n) = true then some n else none
theorem fst_some (f : Nat → Rg) (k : Nat) (o : Int) (i j : Nat) (h : fst f k o i = some j) : ∀ m, i ≤ m → fst f k o m = some j := by
  intro m hm
  induction m with
  | zero => rw [show i = 0 by omega] at h; exact h
  | succ m ih =>
    by_cases e : i = m + 1
    · rw [← e]; exact h
    · rw [fst, ih (by omega)]
theorem fst_hit (f : Nat → Rg) (k : Nat) (o : Int) (i n : Nat) (h : fst f k o i = none) (hh : hit k o (f i) = true) (hi : i < n) : fst f k o n = some i :=
  fst_some f k o (i + 1) i (by rw [fst, h]; simp [hh]) n (by omega)
theorem fst_miss (f : Nat → Rg) (k : Nat) (o : Int) (i : Nat) (h : fst f k o i = none) (hh : hit k o (f i) = false) : fst f k o (i + 1) = none := by rw [fst, h]; simp [hh]
theorem fst_lt (f : Nat → Rg) (k : Nat) (o : Int) (n j : Nat) (h : fst f k o n = some j) : j < n := by
  induction n with
  | zero => cases h
  | succ n ih =>
    rw [fst] at h
    cases e : fst f k o n with
    | some i => rw [e] at h; have := ih (e.trans h); omega
    | none =>
      rw [e] at h
      simp only at h
      split at h
      · have := Option.some.inj h; omega
      · cases h
set_option maxHeartbeats 4000000 in
theorem c16 (x k : Nat) (y o : Int) (a n b1 b2 : Nat) (w : World) (h1 : w.cell? ⟨b1, 0, none⟩ = some (.int .u8 (k : Int))) (h2 : w.cell? ⟨b2, 0, none⟩ = some (.int .i64 o)) (l1 : b1 < w.heap.size) (l2 : b2 < w.heap.size) :
    Calls Try.prog 16 #[rg x y a n, .pointer (some ⟨b1, 0, none⟩), .pointer (some ⟨b2, 0, none⟩)] w fun en w' => en = .returned (.bool (hit k o ⟨x, y, a, n⟩)) ∧ Below w.heap.size w w' := by
  unfold hit
  by_cases hx : x = k
  · subst hx
    simp only [decide_true, Bool.true_and]
    go_enter Try.func16, Try.ntmps16
    go_wp2
    go_ret
    exact ⟨rfl, (Below.refl _ _).alloc (Nat.le_refl _) _⟩
  · have hx2 : ((x : Int) == (k : Int)) = false := by simp; omega
    rw [decide_eq_false hx, Bool.false_and]
    clear hx
    go_enter Try.func16, Try.ntmps16
    go_wp2
    go_ret
    exact ⟨rfl, (Below.refl _ _).alloc (Nat.le_refl _) _⟩
def ixV (r : Option Nat) : Value := match r with
  | some j => .int .i64 (j : Int)
  | none => .int .i64 (-1)
def LI (w : World) (f : Nat → Rg) (k : Nat) (o : Int) (n : Nat) (i : Value) (wr : World) : Prop := ∃ j : Nat, j ≤ n ∧ i = .int .i64 (j : Int) ∧ Below w.heap.size w wr ∧ fst f k o j = none
set_option maxHeartbeats 4000000 in
theorem c15 (A : Option Addr) (n c k : Nat) (o : Int) (f : Nat → Rg) (b1 b2 : Nat) (w : World) (hA : Rgs w A n f) (hn : n ≤ 9223372036854775807) (h1 : w.cell? ⟨b1, 0, none⟩ = some (.int .u8 (k : Int))) (h2 : w.cell? ⟨b2, 0, none⟩ = some (.int .i64 o)) (l1 : b1 < w.heap.size) (l2 : b2 < w.heap.size) :
    Calls Try.prog 15 #[.slice A n c, .func (.func 16) #[] #[.pointer (some ⟨b1, 0, none⟩), .pointer (some ⟨b2, 0, none⟩)]] w fun en w' => en = .returned (ixV (fst f k o n)) ∧ Below w.heap.size w w' := by
  have HA := Lib.hid hA
  have HL := Lib.hid (And.intro h1 h2)
  clear hA h1 h2
  go_enter Try.func15, Try.ntmps15
  go_wp2_with fail
  go_loopw [8] (fun i wr => LI w f k o n i wr) (fun i _ => n - (intOf i).toNat)
  case atStart => exact ⟨0, by omega, rfl, Below.refl _ _, rfl⟩
  case round =>
    obtain ⟨j, hj, rfl, hb, hf⟩ := hrel
    have HB := Lib.hid hb
    have HF := Lib.hid hf
    clear hb hf
    by_cases hlt : j < n
    · obtain ⟨b, off, rfl, hbl, hc⟩ := HA.out (by omega)
      obtain ⟨hok, q0, q1, q2, q3⟩ := hc j hlt
      have z : ∀ j, wr.cell? ⟨b, j, none⟩ = w.cell? ⟨b, j, none⟩ := fun j => HB.out.cell (p := ⟨b, j, none⟩) hbl
      rw [← z] at q0 q1 q2 q3
      have HC := Lib.hid hc
      clear z hc
      have K := Lib.hid (c16 (f j).k k (f j).o o (f j).a (f j).n b1 b2 wr ((HB.out.cell (p := ⟨b1, 0, none⟩) l1).trans HL.out.1) ((HB.out.cell (p := ⟨b2, 0, none⟩) l2).trans HL.out.2) (Nat.lt_of_lt_of_le l1 HB.out.size) (Nat.lt_of_lt_of_le l2 HB.out.size))
      have hm := fst_miss f k o j HF.out
      have hh := fun hh => fst_hit f k o j n HF.out hh hlt
      have HM := Lib.hid hm
      have HH := Lib.hid hh
      clear hm hh
      generalize f j = x at *
      obtain ⟨h, hh⟩ : ∃ h : Bool, h = hit k o x := ⟨_, rfl⟩
      have K2 : Hid (Calls Try.prog 16 #[rg x.k x.o x.a x.n, .pointer (some ⟨b1, 0, none⟩), .pointer (some ⟨b2, 0, none⟩)] wr fun en w' => en = .returned (.bool h) ∧ Below wr.heap.size wr w') := Lib.hid (by rw [hh]; exact K.out)
      have HM2 : Hid (h = false → fst f k o (j + 1) = none) := Lib.hid fun e => HM.out (hh.symm.trans e)
      have HH2 : Hid (h = true → fst f k o n = some j) := Lib.hid fun e => HH.out (hh.symm.trans e)
      clear hh K HM HH
      go_wp2_with fail
      refine K2.out.mono ?_
      rintro en w1 ⟨rfl, hb1⟩
      have HB1 := Lib.hid (HB.out.trans (hb1.mono HB.out.size))
      clear hb1
      cases h
      · have e1 := HM2.out rfl
        have E1 := Lib.hid e1
        clear e1
        go_wp2_with fail
        go_roundw
        case rel => exact ⟨j + 1, by omega, by go_num, HB1.out, E1.out⟩
        case measure => simp [intOf]; omega
      · have e1 := HH2.out rfl
        have E1 := Lib.hid e1
        clear e1
        go_wp2_with fail
        go_ret
        exact ⟨by rw [E1.out]; rfl, HB1.out⟩
    · have : j = n := by omega
      subst this
      go_wp2_with fail
      go_ret
      exact ⟨by rw [HF.out]; rfl, HB.out⟩
theorem set4 {w w1 : World} {k : Nat} (h : Below w.heap.size w w1) (hk : w.heap.size ≤ k) (v0 v1 v2 v3 : Value) :
    Below w.heap.size w ((((w1.setCell ⟨k, 0, none⟩ v0).setCell ⟨k, 1, none⟩ v1).setCell ⟨k, 2, none⟩ v2).setCell ⟨k, 3, none⟩ v3) :=
  (((h.setCell (p := ⟨k, 0, none⟩) hk _).setCell (p := ⟨k, 1, none⟩) hk _).setCell (p := ⟨k, 2, none⟩) hk _).setCell (p := ⟨k, 3, none⟩) hk _
/-- what is answered of the first one -/
def rgV (f : Nat → Rg) (r : Option Nat) : Value := match r with
  | some j => .tuple #[(f j).v, .bool true]
  | none => .tuple #[rg 0 0 0 0, .bool false]
set_option maxHeartbeats 4000000 in
theorem c5 (A : Option Addr) (n c k : Nat) (o : Int) (f : Nat → Rg) (w : World) (hA : Rgs w A n f) (hn : n ≤ 9223372036854775807) (hnc : n ≤ c) :
    Calls Try.prog 5 #[.slice A n c, .int .u8 (k : Int), .int .i64 o] w fun en w' => en = .returned (rgV f (fst f k o n)) ∧ Below w.heap.size w w' := by
  have K := Lib.hid (fun (b1 b2 : Nat) (w' : World) (hb : Below w.heap.size w w') => c15 A n c k o f b1 b2 w' (hA.below hb) hn)
  have HA := Lib.hid hA
  have hl := fst_lt f k o n
  clear hA
  obtain ⟨r, hr⟩ : ∃ r, fst f k o n = r := ⟨_, rfl⟩
  rw [hr] at K hl ⊢
  clear hr
  go_enter Try.func5, Try.ntmps5
  go_wp2_with fail
  refine (K.out _ _ _ ((((Below.refl _ _).alloc (Nat.le_refl _) _).alloc (by simp) _).alloc (by simp; omega) _) (by go_simp) (by go_simp) (by simp; omega) (by simp)).mono ?_
  rintro en w1 ⟨rfl, hb1⟩
  have hz1 : w.heap.size + 2 < w1.heap.size := by have := hb1.size; simp at this; omega
  have hB1 : Below w.heap.size w w1 := ((((Below.refl _ _).alloc (Nat.le_refl _) _).alloc (by simp) _).alloc (by simp; omega) _).trans (hb1.mono (by simp; omega))
  obtain ⟨hc, hf⟩ := bcell hb1
  have z0 : w1.cell? ⟨w.heap.size + 2, 0, none⟩ = some (.int .u8 0) := by rw [hc _ _ (by simp)]; go_simp
  have z1 : w1.cell? ⟨w.heap.size + 2, 1, none⟩ = some (.int .i64 0) := by rw [hc _ _ (by simp)]; go_simp
  have z2 : w1.cell? ⟨w.heap.size + 2, 2, none⟩ = some (.int .u32 0) := by rw [hc _ _ (by simp)]; go_simp
  have z3 : w1.cell? ⟨w.heap.size + 2, 3, none⟩ = some (.int .u32 0) := by rw [hc _ _ (by simp)]; go_simp
  have y0 : w1.frozen? ⟨w.heap.size + 2, 0, none⟩ = false := by rw [hf _ _ (by simp)]; go_simp
  have y1 : w1.frozen? ⟨w.heap.size + 2, 1, none⟩ = false := by rw [hf _ _ (by simp)]; go_simp
  have y2 : w1.frozen? ⟨w.heap.size + 2, 2, none⟩ = false := by rw [hf _ _ (by simp)]; go_simp
  have y3 : w1.frozen? ⟨w.heap.size + 2, 3, none⟩ = false := by rw [hf _ _ (by simp)]; go_simp
  cases r with
  | none =>
    unfold ixV
    go_wp2_with fail
    exact bodyPost_ret (v := .tuple #[rg 0 0 0 0, .bool false]) (by simp [results, Try.results5, go_sem, z0, z1, z2, z3]) rfl ⟨rfl, set4 hB1 (by omega) _ _ _ _⟩
  | some j =>
    have hj := hl j rfl
    obtain ⟨b, off, rfl, hbl, hc0⟩ := HA.out (by omega)
    obtain ⟨hok, q0, q1, q2, q3⟩ := hc0 j hj
    have z : ∀ j, w1.cell? ⟨b, j, none⟩ = w.cell? ⟨b, j, none⟩ := fun j => hB1.cell (p := ⟨b, j, none⟩) hbl
    rw [← z] at q0 q1 q2 q3
    have HC := Lib.hid hc0
    have hne : ¬ b = w.heap.size + 2 := by omega
    clear z hc0
    unfold ixV
    generalize hx : f j = x at *
    have HX := Lib.hid hx
    clear hx
    go_wp2_with fail
    exact bodyPost_ret (v := .tuple #[x.v, .bool true]) (by simp [results, Try.results5, go_sem, z0, z1, z2, z3]) rfl ⟨by rw [← HX.out]; rfl, set4 hB1 (by omega) _ _ _ _⟩
theorem hit_no (k : Nat) (o : Int) (x : Rg) (h : ((x.k : Int) == (k : Int)) = false) : hit k o x = false := by
  unfold hit
  rw [decide_eq_false (by simp at h; omega), Bool.false_and]
theorem hit_yes (k : Nat) (o : Int) (x : Rg) (h : ((x.k : Int) == (k : Int)) = true) : hit k o x = (x.o == o) := by
  unfold hit
  rw [decide_eq_true (by simp at h; omega), Bool.true_and]
set_option maxHeartbeats 4000000 in
theorem c6 (A : Option Addr) (n c k : Nat) (o : Int) (f : Nat → Rg) (w : World) (hA : Rgs w A n f) (hn : n ≤ 9223372036854775807) (hnc : n ≤ c) :
    Calls Try.prog 6 #[.slice A n c, .int .u8 (k : Int), .int .i64 o] w fun en w' => en = .returned (rgV f (fst f k o n)) ∧ Below w.heap.size w w' := by
  have HA := Lib.hid hA
  clear hA
  go_enter Try.func6, Try.ntmps6
  go_wp2_with fail
  go_loopw [8] (fun i wr => LI w f k o n i wr ∧ wr = w.alloc (.cells #[.int .u8 0, .int .i64 0, .int .u32 0, .int .u32 0] 25)) (fun i _ => n - (intOf i).toNat)
  case atStart => exact ⟨⟨0, by omega, rfl, (Below.refl _ _).alloc (Nat.le_refl _) _, rfl⟩, rfl⟩
  case round =>
    obtain ⟨⟨j, hj, rfl, hb, hf⟩, rfl⟩ := hrel
    have HB := Lib.hid hb
    have HF := Lib.hid hf
    clear hb hf
    by_cases hlt : j < n
    · obtain ⟨b, off, rfl, hbl, hc⟩ := HA.out (by omega)
      obtain ⟨hok, q0, q1, q2, q3⟩ := hc j hlt
      have hne : ¬ b = w.heap.size := by omega
      have HC := Lib.hid hc
      clear hc
      have hm := fst_miss f k o j HF.out
      have hh := fun hh => fst_hit f k o j n HF.out hh hlt
      have h1 := hit_no k o (f j)
      have h2 := hit_yes k o (f j)
      have HX : Hid (∀ v, v = (f j).v → rgV f (some j) = .tuple #[v, .bool true]) := Lib.hid fun v hv => by rw [hv]; rfl
      generalize hx : f j = x at *
      clear hx
      obtain ⟨p, hp⟩ : ∃ p : Bool, ((x.k : Int) == (k : Int)) = p := ⟨_, rfl⟩
      obtain ⟨q, hq⟩ : ∃ q : Bool, (x.o == o) = q := ⟨_, rfl⟩
      rw [hp] at h1 h2
      rw [hq] at h2
      cases p
      · have E1 := Lib.hid (hm (h1 rfl))
        clear hm hh h1 h2 hq
        go_wp2_with fail
        go_roundw
        case rel => exact ⟨⟨j + 1, by omega, by go_num, HB.out, E1.out⟩, trivial⟩
        case measure => simp [intOf]; omega
      · cases q
        · have E1 := Lib.hid (hm (h2 rfl))
          clear hm hh h1 h2
          go_wp2_with fail
          go_roundw
          case rel => exact ⟨⟨j + 1, by omega, by go_num, HB.out, E1.out⟩, trivial⟩
          case measure => simp [intOf]; omega
        · have E1 := Lib.hid (hh (h2 rfl))
          clear hm hh h1 h2
          go_wp2_with fail
          exact bodyPost_ret (v := .tuple #[x.v, .bool true]) (by simp [results, Try.results6, go_sem]) rfl ⟨by rw [E1.out, HX.out _ rfl], (Below.refl _ _).alloc (Nat.le_refl _) _⟩
    · have : j = n := by omega
      subst this
      go_wp2_with fail
      exact bodyPost_ret (v := .tuple #[rg 0 0 0 0, .bool false]) (by simp [results, Try.results6, go_sem]) rfl ⟨by rw [HF.out]; rfl, (Below.refl _ _).alloc (Nat.le_refl _) _⟩
end Go.Proofs.Ytbclgkjljgcfbaa
