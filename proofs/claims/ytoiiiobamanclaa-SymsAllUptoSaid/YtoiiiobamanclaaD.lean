import Derived.Laws.Cover1
import Derived.Test.YtoiiiobamanclaaSh
import Derived.Test.YtoiiiobamanclaaC
namespace Go.Proofs.Ytoiiiobamanclaa
open Go.ChangeShapes Go.WideShapes Go.ChangeAt Go.RowKit Go.Shelf
set_option linter.unusedVariables false
def cmpS (s t : ByteArray) : Int := if Op.bytesLess s.toList t.toList = true then -1 else if (s.toList == t.toList) = true then 0 else 1
theorem nan38 (a : ByteArray) (w : World) : Calls Try.prog 38 #[.string a] w fun e w' => e = .returned (.bool false) ∧ w = w' := by
  go_enter Try.func38, Try.ntmps38
  go_wp2_with fail
  go_ret
  exact ⟨by simp, rfl⟩
theorem cmp32 (a b : ByteArray) (w : World) : Calls Try.prog 32 #[.string a, .string b] w fun e w' => e = .returned (.int .i64 (cmpS a b)) ∧ w = w' := by
  have K := Lib.hid nan38
  go_enter Try.func32, Try.ntmps32
  go_wp2_with (refine (K.out _ _).mono ?_; rintro _ _ ⟨rfl, rfl⟩)
  all_goals
    go_ret
    refine ⟨congrArg Ending.returned (congrArg (Value.int .i64) ?_), rfl⟩
    simp_all [cmpS]
theorem toList_inj {s t : ByteArray} (h : s.toList = t.toList) : s = t := by
  rw [ByteArray.toList_eq, ByteArray.toList_eq] at h
  obtain ⟨⟨a⟩⟩ := s
  obtain ⟨⟨b⟩⟩ := t
  simp at h
  rw [h]
theorem neq_str (s t : ByteArray) : (s.toList == t.toList) = decide (s = t) := by
  rw [Bool.eq_iff_iff]
  simp
  exact ⟨toList_inj, fun h => by rw [h]⟩
theorem bl_irr : ∀ x : List UInt8, Op.bytesLess x x = false
  | [] => rfl
  | a :: x => by rw [Op.bytesLess, bl_irr x]; simp
theorem bl_asym : ∀ x y : List UInt8, Op.bytesLess x y = true → Op.bytesLess y x = false
  | [], [], h => by cases h
  | [], _ :: _, _ => rfl
  | _ :: _, [], h => by cases h
  | a :: x, b :: y, h => by
    rw [Op.bytesLess] at h ⊢
    have ih := bl_asym x y
    simp only [Bool.or_eq_true, Bool.and_eq_true, decide_eq_true_eq, beq_iff_eq] at h
    rcases h with h | ⟨rfl, h⟩
    · have h1 : ¬ b < a := by rw [UInt8.lt_iff_toNat_lt] at *; omega
      have h2 : b ≠ a := fun e => by rw [e, UInt8.lt_iff_toNat_lt] at h; omega
      simp [h1, h2]
    · have h1 : ¬ a < a := by rw [UInt8.lt_iff_toNat_lt]; omega
      simp [h1, ih h]
theorem bl_tri : ∀ x y : List UInt8, Op.bytesLess x y = false → Op.bytesLess y x = false → x = y
  | [], [], _, _ => rfl
  | [], _ :: _, h, _ => by cases h
  | _ :: _, [], _, h => by cases h
  | a :: x, b :: y, h, h' => by
    rw [Op.bytesLess] at h h'
    simp only [Bool.or_eq_false_iff, Bool.and_eq_false_iff, decide_eq_false_iff_not, beq_eq_false_iff_ne] at h h'
    have e : a = b := by
      have h1 := h.1
      have h2 := h'.1
      rw [UInt8.lt_iff_toNat_lt] at h1 h2
      exact UInt8.toNat_inj.1 (by omega)
    subst e
    have h1 : Op.bytesLess x y = false := by rcases h.2 with h | h; exact absurd rfl h; exact h
    have h2 : Op.bytesLess y x = false := by rcases h'.2 with h | h; exact absurd rfl h; exact h
    rw [bl_tri x y h1 h2]
theorem bl_trans : ∀ x y z : List UInt8, Op.bytesLess x y = true → Op.bytesLess y z = true → Op.bytesLess x z = true
  | [], [], _, h, _ => by cases h
  | [], _ :: _, [], _, h => by cases h
  | [], _ :: _, _ :: _, _, _ => rfl
  | _ :: _, [], _, h, _ => by cases h
  | _ :: _, _ :: _, [], _, h => by cases h
  | a :: x, b :: y, c :: z, h, h' => by
    rw [Op.bytesLess] at h h' ⊢
    have ih := bl_trans x y z
    simp only [Bool.or_eq_true, Bool.and_eq_true, decide_eq_true_eq, beq_iff_eq] at h h' ⊢
    rw [UInt8.lt_iff_toNat_lt] at *
    rcases h with h | ⟨rfl, h⟩
    · rcases h' with h' | ⟨rfl, h'⟩
      · left; omega
      · left; exact h
    · rcases h' with h' | ⟨rfl, h'⟩
      · left; exact h'
      · right; exact ⟨rfl, ih h h'⟩
/-- less by its text -/
def ltN (x y : ByteArray) : Bool := Op.bytesLess x.toList y.toList
theorem ltN_of (x y : Nm) : ltOf (fun x y : Nm => cmpS x.tx y.tx) x y = ltN x.tx y.tx := by
  unfold ltOf
  show decide (cmpS x.tx y.tx < 0) = _
  unfold cmpS ltN
  cases h : Op.bytesLess x.tx.toList y.tx.toList with
  | true => rw [if_pos rfl]; rfl
  | false =>
    rw [if_neg (by decide)]
    split <;> rfl
theorem swoN : Go.Sort.SWO (ltOf (fun x y : Nm => cmpS x.tx y.tx)) where
  irrefl x := by rw [ltN_of]; exact bl_irr _
  trans x y z h1 h2 := by rw [ltN_of] at *; exact bl_trans _ _ _ h1 h2
  ntrans x y z h1 h2 := by
    rw [ltN_of] at *
    unfold ltN at *
    cases h3 : Op.bytesLess x.tx.toList z.tx.toList with
    | false => rfl
    | true =>
      cases h4 : Op.bytesLess z.tx.toList y.tx.toList with
      | true => rw [bl_trans _ _ _ h3 h4] at h1; cases h1
      | false =>
        rw [bl_tri _ _ h2 h4] at h1
        rw [h1] at h3
        cases h3
instance : Inhabited Nm := ⟨⟨⟨#[]⟩, tn, tn, tn, false, false⟩⟩
open Go.Sort in
theorem less31 (x y : Nm) (W : World) : Calls Try.prog 31 #[.agg x.c.toArray, .agg y.c.toArray] W fun e w' => e = .returned (.int .i64 (cmpS x.tx y.tx)) ∧ ∃ q os', w' = grow (W.drewN q) os' := by
  have hcon := cmp32 x.tx y.tx
  generalize cmpS x.tx y.tx = r at hcon ⊢
  have HC := Lib.hid hcon
  clear hcon
  go_enter Try.func31, Try.ntmps31
  go_wp2_with (go_at_call 32; refine (HC.out _).mono ?_; rintro _ _ ⟨rfl, rfl⟩)
  go_ret
  exact ⟨rfl, 0, _, by rw [alloc_eq_grow, alloc_eq_grow, grow_grow]; rfl⟩
end Go.Proofs.Ytoiiiobamanclaa
