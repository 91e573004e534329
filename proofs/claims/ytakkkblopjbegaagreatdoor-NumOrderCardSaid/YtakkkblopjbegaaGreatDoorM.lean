import Derived.Test.YtakkkblopjbegaaGreatDoorA
namespace Go.Proofs.YtakkkblopjbegaaGreatDoor
open Go.ChangeShapes Go.WideShapes Go.ChangeAt Go.RowKit
open Ieee (Datum)
set_option linter.unusedVariables false
set_option linter.unusedSimpArgs false
def ord (x y : Nat) : Option Ordering := FloatKind.f64.format.order x y
def nanB (x : Nat) : Bool := FloatKind.f64.format.order x x != some Ordering.eq
theorem f64_eq : FloatKind.f64.format = Ieee.double := rfl
theorem cmpN (a : Nat) : compare a a = Ordering.eq := by simp
theorem order_self (d : Datum) : d.order d = if d.isNaN then none else some Ordering.eq := by
  cases d with
  | number s m i => simp [Datum.order, Datum.isNaN]
  | infinity s => simp [Datum.order, Datum.isNaN]
  | nan s t => simp [Datum.order, Datum.isNaN]
theorem nanB_eq (x : Nat) : nanB x = (Ieee.double.read x).isNaN := by
  unfold nanB
  rw [f64_eq]
  unfold Ieee.Format.order
  rw [order_self]
  split <;> rename_i h
  · rw [h]; rfl
  · simp at h; rw [h]; rfl
theorem order_swap (d e : Datum) : e.order d = (d.order e).map Ordering.swap := by
  cases d with
  | nan s t => cases e <;> rfl
  | infinity s =>
    cases e with
    | nan s' t => rfl
    | infinity t => cases s <;> cases t <;> rfl
    | number t n j => cases s <;> rfl
  | number s m i =>
    cases e with
    | nan s' t => rfl
    | infinity t => cases t <;> rfl
    | number t n j =>
      simp only [Datum.order, Option.map_some, Option.some.injEq]
      rw [Int.min_comm j i]
      exact (Int.compare_swap _ _).symm
theorem ord_swap (x y : Nat) : ord y x = (ord x y).map Ordering.swap := by
  unfold ord
  rw [f64_eq]
  exact order_swap _ _
theorem order_some (d e : Datum) (h1 : d.isNaN = false) (h2 : e.isNaN = false) : ∃ o, d.order e = some o := by
  cases d with
  | nan s t => simp [Datum.isNaN] at h1
  | infinity s =>
    cases e with
    | nan s' t => simp [Datum.isNaN] at h2
    | infinity t => exact ⟨_, rfl⟩
    | number t n j => exact ⟨_, rfl⟩
  | number s m i =>
    cases e with
    | nan s' t => simp [Datum.isNaN] at h2
    | infinity t => exact ⟨_, rfl⟩
    | number t n j => exact ⟨_, rfl⟩
theorem order_none (d e : Datum) (h : d.isNaN = true ∨ e.isNaN = true) : d.order e = none := by
  cases d with
  | nan s t => rfl
  | infinity s =>
    cases e with
    | nan s' t => rfl
    | infinity t => simp [Datum.isNaN] at h
    | number t n j => simp [Datum.isNaN] at h
  | number s m i =>
    cases e with
    | nan s' t => rfl
    | infinity t => simp [Datum.isNaN] at h
    | number t n j => simp [Datum.isNaN] at h
theorem ord_some (x y : Nat) (h1 : nanB x = false) (h2 : nanB y = false) : ∃ o, ord x y = some o := by
  rw [nanB_eq] at h1 h2
  exact order_some _ _ h1 h2
theorem ord_none (x y : Nat) (h : nanB x = true ∨ nanB y = true) : ord x y = none := by
  rw [nanB_eq, nanB_eq] at h
  exact order_none _ _ h
theorem nan_cut (t : Nat) (x y : Nat) : nanB ((Question.nanBits .f64 x y).cut t) = true := by
  rw [nanB_eq]
  have h1 : (t / 2) % (2 ^ 52 - 1) < 2 ^ 52 - 1 := Nat.mod_lt _ (by decide)
  have h2 : t % 2 < 2 := Nat.mod_lt _ (by decide)
  have e : (Question.nanBits .f64 x y).cut t = (t % 2) * 9223372036854775808 + (9218868437227405313 + (t / 2) % (2 ^ 52 - 1)) := by
    show (t % 2) * 2 ^ 63 + 0x7ff0000000000000 + 1 + (t / 2) % (2 ^ 52 - 1) = _
    omega
  rw [e]
  generalize (t / 2) % (2 ^ 52 - 1) = k at h1
  generalize t % 2 = s at h2
  have hk : k < 4503599627370495 := h1
  have hr : (s * 9223372036854775808 + (9218868437227405313 + k)) % 9223372036854775808 = 9218868437227405313 + k := by omega
  unfold Ieee.Format.read
  have hw : Ieee.double.signWeight = 9223372036854775808 := by decide +kernel
  have hb : Ieee.double.binade = 4503599627370496 := by decide +kernel
  have hi : Ieee.double.infRung = 9218868437227405312 := by decide +kernel
  simp only [hw, hb, hi, hr]
  rw [if_neg (by omega), if_neg (by omega), if_neg (by omega)]
  rfl
theorem sum_comm (d e : Datum) : d.sum e = e.sum d := by
  cases d with
  | nan s t => cases e <;> rfl
  | infinity s =>
    cases e with
    | nan s' t => rfl
    | infinity t => cases s <;> cases t <;> rfl
    | number t n j => rfl
  | number s m i =>
    cases e with
    | nan s' t => rfl
    | infinity t => rfl
    | number t n j =>
      simp only [Datum.sum]
      rw [Int.min_comm j i, Int.add_comm, Bool.and_comm]
theorem product_comm (d e : Datum) : d.product e = e.product d := by
  cases d with
  | nan s t => cases e <;> rfl
  | infinity s =>
    cases e with
    | nan s' t => rfl
    | infinity t => cases s <;> cases t <;> rfl
    | number t n j => cases s <;> cases t <;> rfl
  | number s m i =>
    cases e with
    | nan s' t => rfl
    | infinity t => cases s <;> cases t <;> rfl
    | number t n j =>
      simp only [Datum.product]
      rw [Nat.mul_comm m n, Int.add_comm i j, Bool.xor_comm]
theorem add_comm' (x y : Nat) : FloatKind.f64.format.add x y = FloatKind.f64.format.add y x := by
  unfold Ieee.Format.add
  rw [sum_comm]
theorem mul_comm' (x y : Nat) : FloatKind.f64.format.mul x y = FloatKind.f64.format.mul y x := by
  unfold Ieee.Format.mul
  rw [product_comm]
/-- what a sum and the like may be -/
def ArP (a : Option Nat) (r : Nat) : Prop := (∀ s, a = some s → r = s) ∧ (a = none → nanB r = true)
def bel (x y : Nat) : Bool := (ord x y == some Ordering.lt) || ((ord x y == some Ordering.eq) && decide (9223372036854775808 ≤ x))
def mm (mn : Bool) (x y : Nat) : Nat := if nanB x || nanB y then 9221120237041090561 else if bel x y == mn then x else y
def DoP (o x y r c : Nat) : Prop := (o = 1 → c = 0 ∧ ArP (FloatKind.f64.format.add x y) r) ∧ (o = 2 → c = 0 ∧ ArP (FloatKind.f64.format.sub x y) r) ∧ (o = 3 → c = 0 ∧ ArP (FloatKind.f64.format.mul x y) r) ∧ (o = 4 → c = 0 ∧ ArP (FloatKind.f64.format.div x y) r) ∧ (o = 5 → c = 0 ∧ r = mm true x y) ∧ (o = 6 → c = 0 ∧ r = mm false x y) ∧ (o = 0 ∨ 6 < o → c = 2 ∧ r = 0)
/-- the same number -/
def smB (x y : Nat) : Bool := if nanB x || nanB y then nanB x && nanB y else x == y
theorem smB_refl (x : Nat) : smB x x = true := by
  unfold smB
  cases nanB x <;> simp
theorem smB_nan {x y : Nat} (h1 : nanB x = true) (h2 : nanB y = true) : smB x y = true := by
  unfold smB
  rw [h1, h2]; rfl
theorem ArP.same {a : Option Nat} {r s : Nat} (h1 : ArP a r) (h2 : ArP a s) : smB r s = true := by
  cases a with
  | none => exact smB_nan (h1.2 rfl) (h2.2 rfl)
  | some v => rw [h1.1 v rfl, h2.1 v rfl]; exact smB_refl v
theorem DoP.same {o x y r c r' c' : Nat} (h1 : DoP o x y r c) (h2 : DoP o x y r' c') : smB r r' = true ∧ c = c' := by
  obtain ⟨a1, a2, a3, a4, a5, a6, a7⟩ := h1
  obtain ⟨b1, b2, b3, b4, b5, b6, b7⟩ := h2
  rcases Nat.lt_or_ge 6 o with h | h
  · obtain ⟨h1, h2⟩ := a7 (Or.inr h)
    obtain ⟨h3, h4⟩ := b7 (Or.inr h)
    subst h1 h2 h3 h4
    exact ⟨smB_refl _, rfl⟩
  · match o, h with
    | 0, _ =>
      obtain ⟨h1, h2⟩ := a7 (Or.inl rfl)
      obtain ⟨h3, h4⟩ := b7 (Or.inl rfl)
      subst h1 h2 h3 h4
      exact ⟨smB_refl _, rfl⟩
    | 1, _ => exact ⟨(a1 rfl).2.same (b1 rfl).2, (a1 rfl).1.trans (b1 rfl).1.symm⟩
    | 2, _ => exact ⟨(a2 rfl).2.same (b2 rfl).2, (a2 rfl).1.trans (b2 rfl).1.symm⟩
    | 3, _ => exact ⟨(a3 rfl).2.same (b3 rfl).2, (a3 rfl).1.trans (b3 rfl).1.symm⟩
    | 4, _ => exact ⟨(a4 rfl).2.same (b4 rfl).2, (a4 rfl).1.trans (b4 rfl).1.symm⟩
    | 5, _ => exact ⟨by rw [(a5 rfl).2, (b5 rfl).2]; exact smB_refl _, (a5 rfl).1.trans (b5 rfl).1.symm⟩
    | 6, _ => exact ⟨by rw [(a6 rfl).2, (b6 rfl).2]; exact smB_refl _, (a6 rfl).1.trans (b6 rfl).1.symm⟩
    | n + 7, h => omega
theorem run_add (t : TypeId) (x y : Nat) (w : World) : ∃ r w', (binOp .add t (.float .f64 x) (.float .f64 y)).run Tryz.prog w = .ok (.float .f64 r) w' ∧ ArP (FloatKind.f64.format.add x y) r ∧ Below w.heap.size w w' := by
  cases h : FloatKind.f64.format.add x y with
  | some s => exact ⟨s, w, run_float_arith w .add t .f64 x y s h, ⟨fun _ e => by cases e; rfl, fun e => by cases e⟩, Below.refl _ _⟩
  | none =>
    refine ⟨_, w.drew, ?_, ⟨fun _ e => (by cases e), fun _ => nan_cut (w.tape w.drawn (Question.nanBits .f64 x y)) x y⟩, (Below.refl _ _).drew⟩
    simp [binOp, Op.floatArith, h, choose, Sem.run]
    intro hf
    simp [Question.forced] at hf
theorem run_sub (t : TypeId) (x y : Nat) (w : World) : ∃ r w', (binOp .sub t (.float .f64 x) (.float .f64 y)).run Tryz.prog w = .ok (.float .f64 r) w' ∧ ArP (FloatKind.f64.format.sub x y) r ∧ Below w.heap.size w w' := by
  cases h : FloatKind.f64.format.sub x y with
  | some s => exact ⟨s, w, run_float_arith w .sub t .f64 x y s h, ⟨fun _ e => by cases e; rfl, fun e => by cases e⟩, Below.refl _ _⟩
  | none =>
    refine ⟨_, w.drew, ?_, ⟨fun _ e => (by cases e), fun _ => nan_cut (w.tape w.drawn (Question.nanBits .f64 x y)) x y⟩, (Below.refl _ _).drew⟩
    simp [binOp, Op.floatArith, h, choose, Sem.run]
    intro hf
    simp [Question.forced] at hf
theorem run_mul (t : TypeId) (x y : Nat) (w : World) : ∃ r w', (binOp .mul t (.float .f64 x) (.float .f64 y)).run Tryz.prog w = .ok (.float .f64 r) w' ∧ ArP (FloatKind.f64.format.mul x y) r ∧ Below w.heap.size w w' := by
  cases h : FloatKind.f64.format.mul x y with
  | some s => exact ⟨s, w, run_float_arith w .mul t .f64 x y s h, ⟨fun _ e => by cases e; rfl, fun e => by cases e⟩, Below.refl _ _⟩
  | none =>
    refine ⟨_, w.drew, ?_, ⟨fun _ e => (by cases e), fun _ => nan_cut (w.tape w.drawn (Question.nanBits .f64 x y)) x y⟩, (Below.refl _ _).drew⟩
    simp [binOp, Op.floatArith, h, choose, Sem.run]
    intro hf
    simp [Question.forced] at hf
theorem run_quo (t : TypeId) (x y : Nat) (w : World) : ∃ r w', (binOp .quo t (.float .f64 x) (.float .f64 y)).run Tryz.prog w = .ok (.float .f64 r) w' ∧ ArP (FloatKind.f64.format.div x y) r ∧ Below w.heap.size w w' := by
  cases h : FloatKind.f64.format.div x y with
  | some s => exact ⟨s, w, run_float_arith w .quo t .f64 x y s h, ⟨fun _ e => by cases e; rfl, fun e => by cases e⟩, Below.refl _ _⟩
  | none =>
    refine ⟨_, w.drew, ?_, ⟨fun _ e => (by cases e), fun _ => nan_cut (w.tape w.drawn (Question.nanBits .f64 x y)) x y⟩, (Below.refl _ _).drew⟩
    simp [binOp, Op.floatArith, h, choose, Sem.run]
    intro hf
    simp [Question.forced] at hf
end Go.Proofs.YtakkkblopjbegaaGreatDoor
