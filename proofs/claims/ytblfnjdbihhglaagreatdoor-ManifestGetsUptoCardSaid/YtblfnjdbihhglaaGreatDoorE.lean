import Derived.Test.YtblfnjdbihhglaaGreatDoorD
import Derived.Deep.Cut
import Derived.Deep.CutRange
import Derived.Deep.RegionHeld3
import Derived.StillTailTactics
namespace Go.Proofs.YtblfnjdbihhglaaGreatDoor
open Go.ChangeShapes Go.WideShapes Go.ChangeAt Go.RowKit
set_option linter.unusedVariables false
set_option linter.unusedSimpArgs false
def cmpE (x y : Ed) : Int := orI (cmpI x.k y.k) (cmpI x.fr y.fr) (cmpI x.dt y.dt) (cmpS x.nm y.nm) (cmpI x.wh y.wh)
def S10 (b : Nat) (k k' fr fr' dt dt' : Int) (nm nm' : ByteArray) (wh wh' : Int) (W : World) : Prop :=
  W.cell? ⟨b, 0, none⟩ = some (.int .u8 k) ∧ W.cell? ⟨b, 1, none⟩ = some (.int .i64 fr) ∧ W.cell? ⟨b, 2, none⟩ = some (.int .i64 dt) ∧ W.cell? ⟨b, 3, none⟩ = some (.string nm) ∧ W.cell? ⟨b, 4, none⟩ = some (.int .u32 wh) ∧
  W.cell? ⟨b + 1, 0, none⟩ = some (.int .u8 k') ∧ W.cell? ⟨b + 1, 1, none⟩ = some (.int .i64 fr') ∧ W.cell? ⟨b + 1, 2, none⟩ = some (.int .i64 dt') ∧ W.cell? ⟨b + 1, 3, none⟩ = some (.string nm') ∧ W.cell? ⟨b + 1, 4, none⟩ = some (.int .u32 wh')
theorem S10.below {b : Nat} {k k' fr fr' dt dt' : Int} {nm nm' : ByteArray} {wh wh' : Int} {W W' : World} {B : Nat} (h : S10 b k k' fr fr' dt dt' nm nm' wh wh' W) (hb : Below B W W') (hl : b + 1 < B) : S10 b k k' fr fr' dt dt' nm nm' wh wh' W' := by
  have z0 : ∀ j, W'.cell? ⟨b, j, none⟩ = W.cell? ⟨b, j, none⟩ := fun j => hb.cell (p := ⟨b, j, none⟩) (by show b < _; omega)
  have z1 : ∀ j, W'.cell? ⟨b + 1, j, none⟩ = W.cell? ⟨b + 1, j, none⟩ := fun j => hb.cell (p := ⟨b + 1, j, none⟩) hl
  unfold S10 at h ⊢
  simp only [z0, z1]
  exact h
set_option maxHeartbeats 4000000 in
theorem c30 (x y : Ed) (hx : x.ok) (hy : y.ok) (w : World) : Calls Tryz.prog 30 #[x.v, y.v] w fun e w' => e = .returned (.int .i64 (cmpE x y)) ∧ Below w.heap.size w w' := by
  obtain ⟨k, fr, dt, nm, wh⟩ := x
  obtain ⟨k', fr', dt', nm', wh'⟩ := y
  unfold Ed.v cmpE
  simp only
  have K1 := Lib.hid (c55 (k : Int) (k' : Int))
  have K2 := Lib.hid (c56 fr fr')
  have K3 := Lib.hid (c56 dt dt')
  have K4 := Lib.hid (c57 nm nm')
  have K5 := Lib.hid (c58 (wh : Int) (wh' : Int))
  have KO := Lib.hid (fun B => c54 B (cmpI k k') (cmpI fr fr') (cmpI dt dt') (cmpS nm nm') (cmpI wh wh'))
  generalize orI (cmpI k k') (cmpI fr fr') (cmpI dt dt') (cmpS nm nm') (cmpI wh wh') = o at *
  have H5 : ∃ f, five (cmpI k k') (cmpI fr fr') (cmpI dt dt') (cmpS nm nm') (cmpI wh wh') = f ∧ f 0 = cmpI k k' ∧ f 1 = cmpI fr fr' ∧ f 2 = cmpI dt dt' ∧ f 3 = cmpS nm nm' ∧ f 4 = cmpI wh wh' := ⟨_, rfl, rfl, rfl, rfl, rfl, rfl⟩
  obtain ⟨f, hf, f0, f1, f2, f3, f4⟩ := H5
  rw [hf] at KO
  have HF := Lib.hid (And.intro f0 (And.intro f1 (And.intro f2 (And.intro f3 f4))))
  clear hf f0 f1 f2 f3 f4 hx hy
  generalize cmpI (k : Int) k' = r1 at *
  generalize cmpI fr fr' = r2 at *
  generalize cmpI dt dt' = r3 at *
  generalize cmpS nm nm' = r4 at *
  generalize cmpI (wh : Int) wh' = r5 at *
  generalize (k : Int) = k at *
  generalize (k' : Int) = k' at *
  generalize (wh : Int) = wh at *
  generalize (wh' : Int) = wh' at *
  go_enter Tryz.func30, Tryz.ntmps30
  go_upto_region 1 with fail
  generalize hW : (w.alloc (.cells #[.int .u8 k, .int .i64 fr, .int .i64 dt, .string nm, .int .u32 wh] 42)).alloc (.cells #[.int .u8 k', .int .i64 fr', .int .i64 dt', .string nm', .int .u32 wh'] 42) = W1
  have hS : S10 w.heap.size k k' fr fr' dt dt' nm nm' wh wh' W1 := by
    subst hW
    refine ⟨?_, ?_, ?_, ?_, ?_, ?_, ?_, ?_, ?_, ?_⟩ <;> simp [World.cell?_alloc_new, World.cell?_alloc_at]
  have hl : w.heap.size + 1 < W1.heap.size := by subst hW; simp
  have hb : Below w.heap.size w W1 := by subst hW; exact ((Below.refl _ _).alloc (Nat.le_refl _) _).alloc (by simp) _
  obtain ⟨b, hbe⟩ : ∃ b, w.heap.size = b := ⟨_, rfl⟩
  rw [hbe] at hS hl hb ⊢
  have HB := Lib.hid hb
  have HK : Hid (∀ W, Below W1.heap.size W1 W → S10 b k k' fr fr' dt dt' nm nm' wh wh' W) := Lib.hid (fun W hw => hS.below hw hl)
  unfold S10 at hS
  obtain ⟨g0, g1, g2, g3, g4, e0, e1, e2, e3, e4⟩ := hS
  have hD := HK.out _ ((Below.refl _ _).drew)
  unfold S10 at hD
  obtain ⟨d0, d1, d2, d3, d4, f0, f1, f2, f3, f4⟩ := hD
  have hE := HK.out ((W1.alloc (.cells #[.int .i64 r1, .int .i64 r2, .int .i64 r3, .int .i64 r4, .int .i64 r5] 3)).drew) (((Below.refl _ _).alloc (Nat.le_refl _) _).drew)
  unfold S10 at hE
  obtain ⟨i0, i1, i2, i3, i4, j0, j1, j2, j3, j4⟩ := hE
  obtain ⟨q0, q1, q2, q3, q4⟩ := HF.out
  have KO2 := Lib.hid (KO.out W1.heap.size ((W1.alloc (.cells #[.int .i64 r1, .int .i64 r2, .int .i64 r3, .int .i64 r4, .int .i64 r5] 3)).drew) (by simp) (fun k hk => by
    rw [show ((W1.alloc (.cells #[.int .i64 r1, .int .i64 r2, .int .i64 r3, .int .i64 r4, .int .i64 r5] 3)).drew).cell? ⟨W1.heap.size, k, none⟩ = (W1.alloc (.cells #[.int .i64 r1, .int .i64 r2, .int .i64 r3, .int .i64 r4, .int .i64 r5] 3)).cell? ⟨W1.heap.size, k, none⟩ from rfl, World.cell?_alloc_new]
    rcases (by omega : k = 0 ∨ k = 1 ∨ k = 2 ∨ k = 3 ∨ k = 4) with rfl | rfl | rfl | rfl | rfl
    · rw [q0]; rfl
    · rw [q1]; rfl
    · rw [q2]; rfl
    · rw [q3]; rfl
    · rw [q4]; rfl))
  have HBF : Hid (Below b w ((W1.alloc (.cells #[.int .i64 r1, .int .i64 r2, .int .i64 r3, .int .i64 r4, .int .i64 r5] 3)).drew)) := Lib.hid ((HB.out.alloc (by omega) _).drew)
  clear q0 q1 q2 q3 q4 hW hb
  go_region_held3 (fun w' => w'.cell? ⟨b, 0, none⟩ = some (.int .u8 k) ∧ w'.cell? ⟨b, 1, none⟩ = some (.int .i64 fr) ∧ w'.cell? ⟨b, 2, none⟩ = some (.int .i64 dt) ∧ w'.cell? ⟨b, 3, none⟩ = some (.string nm) ∧ w'.cell? ⟨b, 4, none⟩ = some (.int .u32 wh) ∧
    w'.cell? ⟨b + 1, 0, none⟩ = some (.int .u8 k') ∧ w'.cell? ⟨b + 1, 1, none⟩ = some (.int .i64 fr') ∧ w'.cell? ⟨b + 1, 2, none⟩ = some (.int .i64 dt') ∧ w'.cell? ⟨b + 1, 3, none⟩ = some (.string nm') ∧ w'.cell? ⟨b + 1, 4, none⟩ = some (.int .u32 wh')  ∧ True)
    (first | assumption | trivial)
    (first | (go_at_call 55; (with_reducible refine (K1.out _).mono ?_); rintro _ _ ⟨rfl, rfl⟩) | (go_at_call 56; (with_reducible refine (K2.out _).mono ?_); rintro _ _ ⟨rfl, rfl⟩) | (go_at_call 56; (with_reducible refine (K3.out _).mono ?_); rintro _ _ ⟨rfl, rfl⟩) | (go_at_call 57; (with_reducible refine (K4.out _).mono ?_); rintro _ _ ⟨rfl, rfl⟩) | (go_at_call 58; (with_reducible refine (K5.out _).mono ?_); rintro _ _ ⟨rfl, rfl⟩) | (go_at_call 54; (with_reducible refine KO2.out.mono ?_); rintro _ _ ⟨rfl, rfl⟩))
  all_goals
    go_wp2_with fail
    first | go_ret | go_ret2 | go_end0
    exact ⟨rfl, by rw [hbe]; exact HBF.out⟩
/-- does an edge stand ahead? -/
def ltE (x y : Ed) : Bool :=
  if x.k ≠ y.k then decide (x.k < y.k) else if x.fr ≠ y.fr then decide (x.fr < y.fr) else if x.dt ≠ y.dt then decide (x.dt < y.dt) else if x.nm ≠ y.nm then Op.bytesLess x.nm.toList y.nm.toList else decide (x.wh < y.wh)
theorem toList_inj {s t : ByteArray} (h : s.toList = t.toList) : s = t := by
  rw [ByteArray.toList_eq, ByteArray.toList_eq] at h
  obtain ⟨⟨a⟩⟩ := s
  obtain ⟨⟨b⟩⟩ := t
  simp at h
  rw [h]
theorem neq_str (s t : ByteArray) : (s.toList == t.toList) = decide (s = t) := by
  rw [Bool.eq_iff_iff]
  simp
  exact ⟨toList_inj, fun h => by rw [h]⟩
theorem bl_irr : ∀ x : List UInt8, Op.bytesLess x x = false
  | [] => rfl
  | a :: x => by rw [Op.bytesLess, bl_irr x]; simp
theorem bl_asym : ∀ x y : List UInt8, Op.bytesLess x y = true → Op.bytesLess y x = false
  | [], [], h => by cases h
  | [], _ :: _, _ => rfl
  | _ :: _, [], h => by cases h
  | a :: x, b :: y, h => by
    rw [Op.bytesLess] at h ⊢
    have ih := bl_asym x y
    simp only [Bool.or_eq_true, Bool.and_eq_true, decide_eq_true_eq, beq_iff_eq] at h
    rcases h with h | ⟨rfl, h⟩
    · have h1 : ¬ b < a := by rw [UInt8.lt_iff_toNat_lt] at *; omega
      have h2 : b ≠ a := fun e => by rw [e, UInt8.lt_iff_toNat_lt] at h; omega
      simp [h1, h2]
    · have h1 : ¬ a < a := by rw [UInt8.lt_iff_toNat_lt]; omega
      simp [h1, ih h]
theorem bl_tri : ∀ x y : List UInt8, Op.bytesLess x y = false → Op.bytesLess y x = false → x = y
  | [], [], _, _ => rfl
  | [], _ :: _, h, _ => by cases h
  | _ :: _, [], _, h => by cases h
  | a :: x, b :: y, h, h' => by
    rw [Op.bytesLess] at h h'
    simp only [Bool.or_eq_false_iff, Bool.and_eq_false_iff, decide_eq_false_iff_not, beq_eq_false_iff_ne] at h h'
    have e : a = b := by
      have h1 := h.1
      have h2 := h'.1
      rw [UInt8.lt_iff_toNat_lt] at h1 h2
      exact UInt8.toNat_inj.1 (by omega)
    subst e
    have h1 : Op.bytesLess x y = false := by rcases h.2 with h | h; exact absurd rfl h; exact h
    have h2 : Op.bytesLess y x = false := by rcases h'.2 with h | h; exact absurd rfl h; exact h
    rw [bl_tri x y h1 h2]
theorem cmpI_cases (a b : Int) : (a < b ∧ cmpI a b = -1) ∨ (a = b ∧ cmpI a b = 0) ∨ (b < a ∧ cmpI a b = 1) := by
  unfold cmpI
  by_cases h : a < b
  · left; exact ⟨h, if_pos h⟩
  · by_cases h2 : b < a
    · right; right; exact ⟨h2, by rw [if_neg h, if_pos h2]⟩
    · right; left; exact ⟨by omega, by rw [if_neg h, if_neg h2]⟩
theorem cmpS_cases (s t : ByteArray) : (Op.bytesLess s.toList t.toList = true ∧ s ≠ t ∧ cmpS s t = -1) ∨ (s = t ∧ cmpS s t = 0) ∨ (Op.bytesLess t.toList s.toList = true ∧ s ≠ t ∧ cmpS s t = 1) := by
  unfold cmpS
  by_cases h : Op.bytesLess s.toList t.toList = true
  · left
    exact ⟨h, (fun e => by rw [e, bl_irr] at h; cases h), if_pos h⟩
  · by_cases h2 : s = t
    · right; left; exact ⟨h2, by rw [if_neg h, neq_str, decide_eq_true h2]; rfl⟩
    · right; right
      refine ⟨?_, h2, by rw [if_neg h, neq_str, decide_eq_false h2]; rfl⟩
      cases h3 : Op.bytesLess t.toList s.toList
      · exact absurd (toList_inj (bl_tri _ _ (by simpa using h) h3)) h2
      · rfl
theorem bl_ne {s t : ByteArray} (h : Op.bytesLess s.toList t.toList = true) : Op.bytesLess t.toList s.toList = false := bl_asym _ _ h
/-- what compare tells -/
theorem cmpE_cases (x y : Ed) : (cmpE x y < 0 ∧ ltE x y = true ∧ ltE y x = false ∧ x ≠ y) ∨ (cmpE x y = 0 ∧ ltE x y = false ∧ ltE y x = false ∧ x = y) ∨ (0 < cmpE x y ∧ ltE x y = false ∧ ltE y x = true ∧ x ≠ y) := by
  obtain ⟨k, fr, dt, nm, wh⟩ := x
  obtain ⟨k', fr', dt', nm', wh'⟩ := y
  unfold cmpE ltE orI
  simp only
  rcases cmpI_cases (k : Int) k' with ⟨a, e⟩ | ⟨a, e⟩ | ⟨a, e⟩
  · have h1 : k ≠ k' := by omega
    have h2 : k < k' := by omega
    have h3 : ¬ k' < k := by omega
    left; simp [e, h1, h1.symm, h2, h3]
  · obtain rfl : k = k' := by omega
    rcases cmpI_cases fr fr' with ⟨a, e1⟩ | ⟨rfl, e1⟩ | ⟨a, e1⟩
    · have h1 : fr ≠ fr' := by omega
      have h3 : ¬ fr' < fr := by omega
      left; simp [e, e1, h1, h1.symm, a, h3]
    · rcases cmpI_cases dt dt' with ⟨a, e2⟩ | ⟨rfl, e2⟩ | ⟨a, e2⟩
      · have h1 : dt ≠ dt' := by omega
        have h3 : ¬ dt' < dt := by omega
        left; simp [e, e1, e2, h1, h1.symm, a, h3]
      · rcases cmpS_cases nm nm' with ⟨a, h1, e3⟩ | ⟨rfl, e3⟩ | ⟨a, h1, e3⟩
        · left; simp [e, e1, e2, e3, h1, Ne.symm h1, a, bl_ne a]
        · rcases cmpI_cases (wh : Int) wh' with ⟨a, e4⟩ | ⟨a, e4⟩ | ⟨a, e4⟩
          · have h1 : wh ≠ wh' := by omega
            have h2 : wh < wh' := by omega
            have h3 : ¬ wh' < wh := by omega
            left; simp [e, e1, e2, e3, e4, h1, h2, h3]
            try omega
          · obtain rfl : wh = wh' := by omega
            right; left; simp [e, e1, e2, e3, e4]
          · have h1 : wh ≠ wh' := by omega
            have h2 : wh' < wh := by omega
            have h3 : ¬ wh < wh' := by omega
            right; right; simp [e, e1, e2, e3, e4, h1, h2, h3]
            try omega
        · right; right; simp [e, e1, e2, e3, h1, Ne.symm h1, a, bl_ne a]
      · have h1 : dt ≠ dt' := by omega
        have h3 : ¬ dt < dt' := by omega
        right; right; simp [e, e1, e2, h1, h1.symm, a, h3]
    · have h1 : fr ≠ fr' := by omega
      have h3 : ¬ fr < fr' := by omega
      right; right; simp [e, e1, h1, h1.symm, a, h3]
  · have h1 : k ≠ k' := by omega
    have h2 : k' < k := by omega
    have h3 : ¬ k < k' := by omega
    right; right; simp [e, h1, h1.symm, h2, h3]
set_option maxHeartbeats 4000000 in
theorem c26 (x y : Ed) (hx : x.ok) (hy : y.ok) (w : World) : Calls Tryz.prog 26 #[x.v, y.v] w fun e w' => e = .returned (.bool (ltE x y)) ∧ Below w.heap.size w w' := by
  have hq : ltE x y = if ((x.k : Int) != y.k) = true then decide ((x.k : Int) < y.k) else if (x.fr != y.fr) = true then decide (x.fr < y.fr) else if (x.dt != y.dt) = true then decide (x.dt < y.dt) else if (!(x.nm.toList == y.nm.toList)) = true then Op.bytesLess x.nm.toList y.nm.toList else decide ((x.wh : Int) < y.wh) := by
    unfold ltE
    rw [neq_str]
    simp
    by_cases h1 : x.k = y.k <;> by_cases h2 : x.fr = y.fr <;> by_cases h3 : x.dt = y.dt <;> by_cases h4 : x.nm = y.nm <;> simp [h1, h2, h3, h4] <;> omega
  obtain ⟨k, fr, dt, nm, wh⟩ := x
  obtain ⟨k', fr', dt', nm', wh'⟩ := y
  unfold Ed.v
  rw [hq]
  simp only
  clear hq hx hy
  generalize (k : Int) = k at *
  generalize (k' : Int) = k' at *
  generalize (wh : Int) = wh at *
  generalize (wh' : Int) = wh' at *
  obtain ⟨t1, f1⟩ : ∃ t, (k != k') = t := ⟨_, rfl⟩
  obtain ⟨t2, f2⟩ : ∃ t, (fr != fr') = t := ⟨_, rfl⟩
  obtain ⟨t3, f3⟩ : ∃ t, (dt != dt') = t := ⟨_, rfl⟩
  obtain ⟨t4, f4⟩ : ∃ t, (nm.toList == nm'.toList) = t := ⟨_, rfl⟩
  rw [f1, f2, f3, f4]
  cases t1
  · cases t2
    · cases t3
      · cases t4
        all_goals
          go_enter Tryz.func26, Tryz.ntmps26
          go_wp2_with fail
          go_ret
          exact ⟨rfl, ((Below.refl _ _).alloc (Nat.le_refl _) _).alloc (by simp) _⟩
      · go_enter Tryz.func26, Tryz.ntmps26
        go_wp2_with fail
        go_ret
        exact ⟨rfl, ((Below.refl _ _).alloc (Nat.le_refl _) _).alloc (by simp) _⟩
    · go_enter Tryz.func26, Tryz.ntmps26
      go_wp2_with fail
      go_ret
      exact ⟨rfl, ((Below.refl _ _).alloc (Nat.le_refl _) _).alloc (by simp) _⟩
  · go_enter Tryz.func26, Tryz.ntmps26
    go_wp2_with fail
    go_ret
    exact ⟨rfl, ((Below.refl _ _).alloc (Nat.le_refl _) _).alloc (by simp) _⟩
end Go.Proofs.YtblfnjdbihhglaaGreatDoor
