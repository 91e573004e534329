import Derived.Test.YtblfnjdbihhglaaGreatDoorE
import Derived.Test.YtblfnjdbihhglaaGreatDoorGl
namespace Go.Proofs.YtblfnjdbihhglaaGreatDoor
open Go.ChangeShapes Go.WideShapes Go.ChangeAt Go.RowKit
set_option linter.unusedVariables false
set_option linter.unusedSimpArgs false
def toB (x : Ed) (n : Nat) : Bool := if x.k = 2 then decide (0 ≤ x.dt ∧ x.dt < n) else decide (x.dt = -1)
/-- may an edge be, of so many compartments? -/
noncomputable def edB (x : Ed) (n : Nat) : Bool := decide (1 ≤ x.k ∧ x.k ≤ 5 ∧ 0 ≤ x.fr ∧ x.fr < n) && (toB x n && (nmB x.k x.nm && whatB x.k x.wh))
theorem c52s (k : Nat) (s : ByteArray) (hk : k < 256) (hs : s.size ≤ 9223372036854775807) (w : World) : Calls Tryz.prog 52 #[.int .u8 (k : Int), .string s] w fun e w' => e = .returned (.bool (nmB k s)) ∧ w = w' :=
  c52 k s hk hs (Lib.hid (c28 s hs)) (Lib.hid (c72 s hs)) w
set_option maxHeartbeats 4000000 in
theorem c29 (x : Ed) (hx : x.ok) (n : Nat) (w : World) : Calls Tryz.prog 29 #[x.v, .int .i64 (n : Int)] w fun e w' => e = .returned (.bool (edB x n)) ∧ Below w.heap.size w w' := by
  obtain ⟨k, fr, dt, nm, wh⟩ := x
  have K52 := Lib.hid (c52s k nm hx.1 hx.2.2)
  have K53 := Lib.hid (c53 k wh hx.1 hx.2.1)
  unfold Ed.v edB toB
  simp only
  generalize nmB k nm = y at *
  generalize whatB k wh = z at *
  have hk := hx.1
  clear hx
  by_cases h2 : k = 2
  · subst h2
    rw [if_pos rfl]
    cases y <;> cases z
    all_goals
      go_enter Tryz.func29, Tryz.ntmps29
      go_wp2_with (first | (go_at_call 52; refine (K52.out _).mono ?_; rintro _ _ ⟨rfl, rfl⟩) | (go_at_call 53; refine (K53.out _).mono ?_; rintro _ _ ⟨rfl, rfl⟩))
      all_goals
        go_ret
        refine ⟨congrArg Ending.returned (congrArg Value.bool ?_), (Below.refl _ _).alloc (Nat.le_refl _) _⟩
        first | rfl | (rw [Bool.eq_iff_iff]; simp; try omega)
  · rw [if_neg h2]
    have t2 : ((k : Int) == 2) = false := by simp; omega
    cases y <;> cases z
    all_goals
      go_enter Tryz.func29, Tryz.ntmps29
      go_wp2_with (first | (go_at_call 52; refine (K52.out _).mono ?_; rintro _ _ ⟨rfl, rfl⟩) | (go_at_call 53; refine (K53.out _).mono ?_; rintro _ _ ⟨rfl, rfl⟩))
      all_goals
        go_ret
        refine ⟨congrArg Ending.returned (congrArg Value.bool ?_), (Below.refl _ _).alloc (Nat.le_refl _) _⟩
        first | rfl | (rw [Bool.eq_iff_iff]; simp; try omega)
theorem w1_eq (a q : Nat) : w1 a q = (decide ((a : Int) ≤ 6) && (decide ((q : Int) ≤ 4088) && decide ((q : Int) % 8 = 0))) := by
  unfold w1; rw [Bool.eq_iff_iff]; simp; omega
theorem w3_eq (a q : Nat) : w3 a q = (decide (65280 ≤ (a : Int)) && (decide ((a : Int) % 4 = 0) && (decide (4 ≤ (q : Int)) && (decide ((q : Int) % 4 = 0) && decide (((a + q : Nat) : Int) ≤ 65536))))) := by
  unfold w3; rw [Bool.eq_iff_iff]; simp; omega
theorem edB_fr (x : Ed) (n : Nat) (h : ¬ (1 ≤ x.k ∧ x.k ≤ 5 ∧ 0 ≤ x.fr ∧ x.fr < n)) : edB x n = false := by
  unfold edB; rw [decide_eq_false h]; rfl
theorem edB_to (x : Ed) (n : Nat) (h : toB x n = false) : edB x n = false := by
  unfold edB; rw [h]; simp
theorem edB_in (x : Ed) (n : Nat) (h : 1 ≤ x.k ∧ x.k ≤ 5 ∧ 0 ≤ x.fr ∧ x.fr < n) (ht : toB x n = true) : edB x n = (nmB x.k x.nm && whatB x.k x.wh) := by
  unfold edB; rw [decide_eq_true h, ht]; rfl
set_option maxHeartbeats 8000000 in
theorem c25 (x : Ed) (hx : x.ok) (n : Nat) (w : World) : Calls Tryz.prog 25 #[x.v, .int .i64 (n : Int)] w fun e w' => e = .returned (.bool (edB x n)) ∧ Below w.heap.size w w' := by
  have H0 := Lib.hid (edB_fr x n)
  have H1 := Lib.hid (edB_to x n)
  have H2 := Lib.hid (edB_in x n)
  have HT : Hid (toB x n = if x.k = 2 then decide (0 ≤ x.dt ∧ x.dt < n) else decide (x.dt = -1)) := Lib.hid rfl
  have HN : Hid (nmB x.k x.nm = if x.k = 3 ∨ x.k = 4 then nameB x.nm else symB x.nm) := Lib.hid rfl
  generalize edB x n = z at *
  generalize toB x n = y at *
  obtain ⟨k, fr, dt, nm, wh⟩ := x
  have K49 := Lib.hid (c49 nm hx.2.2)
  have K22 := Lib.hid (c22 nm hx.2.2)
  have hk := hx.1
  have hwh : wh < 4294967296 := hx.2.1
  clear hx
  unfold Ed.v
  simp only at *
  by_cases hf0 : fr < 0
  · have HZ := Lib.hid (H0.out (fun h => by omega))
    have t0 : decide (fr < 0) = true := by simp [hf0]
    clear hf0
    go_enter Tryz.func25, Tryz.ntmps25
    go_wp2_with fail
    go_ret
    exact ⟨by rw [HZ.out]; rfl, (Below.refl _ _).alloc (Nat.le_refl _) _⟩
  have t0 : decide (fr < 0) = false := by simp; omega
  by_cases hf1 : (n : Int) ≤ fr
  · have HZ := Lib.hid (H0.out (fun h => by omega))
    have t1 : decide ((n : Int) ≤ fr) = true := by simp [hf1]
    clear hf0 hf1
    go_enter Tryz.func25, Tryz.ntmps25
    go_wp2_with fail
    go_ret
    exact ⟨by rw [HZ.out]; rfl, (Below.refl _ _).alloc (Nat.le_refl _) _⟩
  have t1 : decide ((n : Int) ≤ fr) = false := by simp; omega
  have HF : Hid (0 ≤ fr ∧ fr < n) := Lib.hid ⟨by omega, by omega⟩
  clear hf0 hf1
  by_cases h2 : k = 2
  · subst h2
    have hq : whatB 2 wh = decide (wh = 0) := rfl
    have HN2 : nmB 2 nm = symB nm := rfl
    rw [hq, HN2] at H2
    have HT2 : y = decide (0 ≤ dt ∧ dt < n) := HT.out
    subst HT2
    have HZ : Hid (z = (decide (0 ≤ dt ∧ dt < n) && (symB nm && decide (wh = 0)))) := Lib.hid (by
      by_cases h : 0 ≤ dt ∧ dt < n
      · rw [H2.out ⟨by omega, by omega, HF.out.1, HF.out.2⟩ (decide_eq_true h), decide_eq_true h]; rfl
      · rw [H1.out (decide_eq_false h), decide_eq_false h]; rfl)
    rw [HZ.out]
    clear hq HN2 HZ
    generalize symB nm = s at *
    cases s
    all_goals
      go_enter Tryz.func25, Tryz.ntmps25
      go_wp2_with (first | (go_at_call 49; refine (K49.out _).mono ?_; rintro _ _ ⟨rfl, rfl⟩) | (go_at_call 22; refine (K22.out _).mono ?_; rintro _ _ ⟨rfl, rfl⟩))
      all_goals
        go_ret
        refine ⟨congrArg Ending.returned (congrArg Value.bool ?_), (Below.refl _ _).alloc (Nat.le_refl _) _⟩
        first | rfl | (rw [Bool.eq_iff_iff]; simp; try omega)
  have t2 : ((k : Int) == 2) = false := by simp; omega
  have HT2 : y = decide (dt = -1) := by rw [HT.out, if_neg h2]
  subst HT2
  by_cases hd : ¬ dt = -1
  · have HZ := Lib.hid (H1.out (decide_eq_false hd))
    have t3 : (dt != -1) = true := by simp [hd]
    clear hd HT H1 H2
    go_enter Tryz.func25, Tryz.ntmps25
    go_wp2_with fail
    go_ret
    exact ⟨by rw [HZ.out]; rfl, (Below.refl _ _).alloc (Nat.le_refl _) _⟩
  have hd : dt = -1 := by omega
  have t3 : (dt != -1) = false := by simp [hd]
  have H3 : Hid (1 ≤ k → k ≤ 5 → z = (nmB k nm && whatB k wh)) := Lib.hid (fun h1 h5 => H2.out ⟨h1, h5, HF.out.1, HF.out.2⟩ (decide_eq_true hd))
  clear hd HT H1 H2
  by_cases h1 : k = 1
  · subst h1
    have hq : whatB 1 wh = w1 (wh % 256) (wh / 256) := rfl
    have HZ : Hid (z = (symB nm && w1 (wh % 256) (wh / 256))) := H3.out (by omega) (by omega)
    rw [w1_eq] at HZ
    rw [HZ.out]
    have ha : (wh : Int) % 256 = ((wh % 256 : Nat) : Int) := by omega
    have hb : (wh : Int) / 256 = ((wh / 256 : Nat) : Int) := by omega
    clear hq HZ
    generalize wh % 256 = a at *
    generalize wh / 256 = q at *
    generalize symB nm = s at *
    cases s
    all_goals
      go_enter Tryz.func25, Tryz.ntmps25
      go_wp2_with (first | (go_at_call 49; refine (K49.out _).mono ?_; rintro _ _ ⟨rfl, rfl⟩) | (go_at_call 22; refine (K22.out _).mono ?_; rintro _ _ ⟨rfl, rfl⟩))
      all_goals
        go_ret
        refine ⟨congrArg Ending.returned (congrArg Value.bool ?_), (Below.refl _ _).alloc (Nat.le_refl _) _⟩
        first | rfl | (rw [Bool.eq_iff_iff]; simp; try omega)
  have t4 : ((k : Int) == 1) = false := by simp; omega
  by_cases h3 : k = 3
  · subst h3
    have HZ : Hid (z = (nameB nm && w3 (wh % 65536) (wh / 65536))) := H3.out (by omega) (by omega)
    rw [w3_eq] at HZ
    rw [HZ.out]
    have ha : (wh : Int) % 65536 = ((wh % 65536 : Nat) : Int) := by omega
    have hb : (wh : Int) / 65536 = ((wh / 65536 : Nat) : Int) := by omega
    have hql : wh / 65536 < 65536 := by omega
    have hal : wh % 65536 < 65536 := by omega
    generalize wh % 65536 = a at *
    generalize wh / 65536 = q at *
    have hsum : IntKind.u32.wrap ((a : Int) + (q : Int)) = ((a + q : Nat) : Int) := by rw [IntKind.wrap_u32]; omega
    clear HZ
    generalize a + q = sm at *
    generalize nameB nm = s at *
    cases s
    all_goals
      go_enter Tryz.func25, Tryz.ntmps25
      go_upto_region 11 with fail
      generalize hW : (w.alloc (.cells #[.int .u8 (3 : Nat), .int .i64 fr, .int .i64 dt, .string nm, .int .u32 (wh : Int)] 42)) = W1
      have d3 : W1.drew.cell? ⟨w.heap.size, 3, none⟩ = some (.string nm) := by subst hW; exact World.cell?_alloc_new _ _ _ _
      have d4 : W1.drew.cell? ⟨w.heap.size, 4, none⟩ = some (.int .u32 (wh : Int)) := by subst hW; exact World.cell?_alloc_new _ _ _ _
      have HBF : Hid (Below w.heap.size w W1.drew) := Lib.hid (by subst hW; exact ((Below.refl _ _).alloc (Nat.le_refl _) _).drew)
      clear hW
      go_region_held3 (fun w' => w'.cell? ⟨w.heap.size, 3, none⟩ = some (.string nm) ∧ w'.cell? ⟨w.heap.size, 4, none⟩ = some (.int .u32 (wh : Int)))
        (first | assumption | trivial)
        (fail)
      go_wp2_with (first | (go_at_call 49; refine (K49.out _).mono ?_; rintro _ _ ⟨rfl, rfl⟩) | (go_at_call 22; refine (K22.out _).mono ?_; rintro _ _ ⟨rfl, rfl⟩))
      all_goals
        go_ret
        refine ⟨congrArg Ending.returned (congrArg Value.bool ?_), HBF.out⟩
        first | rfl | (rw [Bool.eq_iff_iff]; simp; try omega)
  have t5 : ((k : Int) == 3) = false := by simp; omega
  by_cases h4 : k = 4
  · subst h4
    have HZ : Hid (z = (nameB nm && decide (wh = 1 ∨ wh = 3))) := H3.out (by omega) (by omega)
    rw [HZ.out]
    clear HZ
    generalize nameB nm = s at *
    cases s
    all_goals
      go_enter Tryz.func25, Tryz.ntmps25
      go_wp2_with (first | (go_at_call 49; refine (K49.out _).mono ?_; rintro _ _ ⟨rfl, rfl⟩) | (go_at_call 22; refine (K22.out _).mono ?_; rintro _ _ ⟨rfl, rfl⟩))
      all_goals
        go_ret
        refine ⟨congrArg Ending.returned (congrArg Value.bool ?_), (Below.refl _ _).alloc (Nat.le_refl _) _⟩
        first | rfl | (rw [Bool.eq_iff_iff]; simp; try omega)
  have t6 : ((k : Int) == 4) = false := by simp; omega
  by_cases h5 : k = 5
  · subst h5
    have HZ : Hid (z = (symB nm && decide (wh = 0))) := H3.out (by omega) (by omega)
    rw [HZ.out]
    clear HZ
    generalize symB nm = s at *
    cases s
    all_goals
      go_enter Tryz.func25, Tryz.ntmps25
      go_wp2_with (first | (go_at_call 49; refine (K49.out _).mono ?_; rintro _ _ ⟨rfl, rfl⟩) | (go_at_call 22; refine (K22.out _).mono ?_; rintro _ _ ⟨rfl, rfl⟩))
      all_goals
        go_ret
        refine ⟨congrArg Ending.returned (congrArg Value.bool ?_), (Below.refl _ _).alloc (Nat.le_refl _) _⟩
        first | rfl | (rw [Bool.eq_iff_iff]; simp; try omega)
  have t7 : ((k : Int) == 5) = false := by simp; omega
  have HZ := Lib.hid (H0.out (fun h => by omega))
  clear h1 h2 h3 h4 h5 hk H0 H3
  go_enter Tryz.func25, Tryz.ntmps25
  go_wp2_with fail
  go_ret
  exact ⟨by rw [HZ.out]; rfl, (Below.refl _ _).alloc (Nat.le_refl _) _⟩
end Go.Proofs.YtblfnjdbihhglaaGreatDoor
