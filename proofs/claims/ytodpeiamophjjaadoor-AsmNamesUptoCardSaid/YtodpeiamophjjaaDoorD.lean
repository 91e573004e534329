import Derived.Test.YtodpeiamophjjaaDoorC
namespace Go.Proofs.YtodpeiamophjjaaDoor
open Go.ChangeShapes Go.WideShapes Go.ChangeAt Go.RowKit
open In (i32)
set_option linter.unusedVariables false
/-- the line that a line leads to -/
noncomputable def idx (g : Nat → Ln) (n k : Nat) : Nat := Classical.epsilon (fun j => j < n ∧ (g j).lab = (g k).tt)
/-- the number of the instruction, as it is put -/
noncomputable def effm (g : Nat → Ln) (n k : Nat) : Int := if (g k).tt = ⟨#[]⟩ then (g k).m else 4 * ((idx g n k : Int) - (k : Int))
noncomputable def putK (g : Nat → Ln) (n k : Nat) : Nat × Nat := In.put (g k).o (g k).d (g k).a (g k).b (effm g n k)
noncomputable def badK (g : Nat → Ln) (n k : Nat) : Bool := (decide ((g k).tt ≠ ⟨#[]⟩) && !leadsB (g k).o) || decide ((putK g n k).2 ≠ 0)
def WdPost (g : Nat → Ln) (n k : Nat) (w : World) (e : Ending) (w' : World) : Prop :=
  (badK g n k = true ∧ e = .returned (.tuple #[.int .u32 0, .iface 76 (.agg #[.int .i64 (k : Int), .iface 25 (.int .i64 2)])]) ∧ Below w.heap.size w w') ∨
  (badK g n k = false ∧ e = .returned (.tuple #[.int .u32 ((putK g n k).1 : Int), .nilIface]) ∧ Below w.heap.size w w')
theorem idx_spec {g : Nat → Ln} {n k : Nat} (h : ¬ MissAt g n k) (hne : (g k).tt ≠ ⟨#[]⟩) : idx g n k < n ∧ (g (idx g n k)).lab = (g k).tt := by
  have he : ∃ j, j < n ∧ (g j).lab = (g k).tt := by
    apply Classical.byContradiction
    intro hh
    exact h ⟨hne, fun j hj e => hh ⟨j, hj, e⟩⟩
  exact Classical.epsilon_spec (p := fun j => j < n ∧ (g j).lab = (g k).tt) he
set_option maxRecDepth 100000 in
set_option maxHeartbeats 8000000 in
theorem c19_plain (A : Option Addr) (n c : Nat) (g : Nat → Ln) (B k : Nat) (w : World) (hA : Ls w A n g) (hG : Gl2 w) (hn : n ≤ 268435456) (hk : k < n) (h0 : (g k).tt = ⟨#[]⟩) :
    Calls Tryd.prog 19 #[.slice A n c, .int .i64 (k : Int), .map (some B)] w fun e w' => WdPost g n k w e w' := by
  obtain ⟨b, o, rfl, hbl, hc⟩ := hA (by omega)
  obtain ⟨hok, q0, q1, q2, q3, q4, q5, q6⟩ := hc k hk
  have hg1 : Gl2 (w.alloc (.cells #[.int .u8 ((g k).o : Int), .int .u8 ((g k).d : Int), .int .u8 ((g k).a : Int), .int .u8 ((g k).b : Int), .int .i32 (g k).m] 35)) := hG.below ((Below.refl _ _).alloc (Nat.le_refl _) _)
  have K16 := Lib.hid (c16 (g k).o (g k).d (g k).a (g k).b (g k).m hok.1 hok.2.1 hok.2.2.1 hok.2.2.2.1 hok.2.2.2.2.1 _ hg1)
  have hb0 : ((g k).tt.toList == []) = true := by rw [emp, decide_eq_true h0]
  have hput : putK g n k = In.put (g k).o (g k).d (g k).a (g k).b (g k).m := by unfold putK effm; rw [if_pos h0]
  have hbad : badK g n k = decide ((putK g n k).2 ≠ 0) := by unfold badK; rw [decide_eq_false (by simpa using h0), Bool.false_and, Bool.false_or]
  have hpe := In.put_err (g k).o (g k).d (g k).a (g k).b (g k).m
  have HP : Hid (∀ e w', ((badK g n k = true ∧ e = .returned (.tuple #[.int .u32 0, .iface 76 (.agg #[.int .i64 (k : Int), .iface 25 (.int .i64 2)])]) ∧ Below w.heap.size w w') ∨ (badK g n k = false ∧ e = .returned (.tuple #[.int .u32 ((putK g n k).1 : Int), .nilIface]) ∧ Below w.heap.size w w')) → WdPost g n k w e w') := Lib.hid fun e w' h => h
  have hok1 := hok.1
  clear hc hG hg1 hA
  generalize badK g n k = bad at *
  generalize putK g n k = pk at *
  rw [hput] at hbad HP
  clear hput h0 hok
  generalize (g k).tt = tt at *
  generalize (g k).lab = lab at *
  generalize (g k).o = xo at *
  generalize (g k).d = xd at *
  generalize (g k).a = xa at *
  generalize (g k).b = xb at *
  generalize (g k).m = xm at *
  rcases hpe with ⟨wd, hp⟩ | hp
  all_goals
    rw [hp] at K16 hbad HP
    simp only at K16 hbad HP
  · have HB := Lib.hid hbad
    clear hbad hp
    go_enter Tryd.func19, Tryd.ntmps19
    go_wp2_with fail
    refine (K16.out).mono ?_
    rintro _ w1 ⟨rfl, b1⟩
    have B1 : Hid (Below w.heap.size w w1) := Lib.hid (((Below.refl _ _).alloc (Nat.le_refl _) _).trans (b1.mono (by simp)))
    clear b1
    go_wp2_with fail
    go_ret2
    exact HP.out _ _ (Or.inr ⟨by rw [HB.out]; rfl, rfl, B1.out⟩)
  · have HB := Lib.hid hbad
    clear hbad hp
    go_enter Tryd.func19, Tryd.ntmps19
    go_wp2_with fail
    refine (K16.out).mono ?_
    rintro _ w1 ⟨rfl, b1⟩
    have B1 : Hid (Below w.heap.size w w1) := Lib.hid (((Below.refl _ _).alloc (Nat.le_refl _) _).trans (b1.mono (by simp)))
    clear b1
    go_wp2_with fail
    go_ret2
    exact HP.out _ _ (Or.inl ⟨by rw [HB.out]; rfl, rfl, B1.out⟩)
set_option maxRecDepth 100000 in
set_option maxHeartbeats 8000000 in
theorem c19_no (A : Option Addr) (n c : Nat) (g : Nat → Ln) (B k : Nat) (w : World) (hA : Ls w A n g) (hn : n ≤ 268435456) (hk : k < n) (h0 : (g k).tt ≠ ⟨#[]⟩) (hl : leadsB (g k).o = false) :
    Calls Tryd.prog 19 #[.slice A n c, .int .i64 (k : Int), .map (some B)] w fun e w' => WdPost g n k w e w' := by
  obtain ⟨b, o, rfl, hbl, hc⟩ := hA (by omega)
  obtain ⟨hok, q0, q1, q2, q3, q4, q5, q6⟩ := hc k hk
  have K35 := Lib.hid (c35 (g k).o hok.1 (w.alloc (.cells #[.int .u8 ((g k).o : Int), .int .u8 ((g k).d : Int), .int .u8 ((g k).a : Int), .int .u8 ((g k).b : Int), .int .i32 (g k).m] 35)))
  rw [hl] at K35
  have hb0 : ((g k).tt.toList == []) = false := by rw [emp, decide_eq_false h0]
  have HBAD : Hid (badK g n k = true) := Lib.hid (by unfold badK; rw [decide_eq_true h0, hl]; rfl)
  clear hc hA hl h0
  generalize (g k).tt = tt at *
  generalize (g k).lab = lab at *
  generalize (g k).o = xo at *
  generalize (g k).d = xd at *
  generalize (g k).a = xa at *
  generalize (g k).b = xb at *
  generalize (g k).m = xm at *
  clear hok
  go_enter Tryd.func19, Tryd.ntmps19
  go_wp2_with fail
  refine (K35.out).mono ?_
  rintro _ _ ⟨rfl, rfl⟩
  go_wp2_with fail
  go_ret2
  exact Or.inl ⟨HBAD.out, rfl, (Below.refl _ _).alloc (Nat.le_refl _) _⟩
set_option maxRecDepth 100000 in
set_option maxHeartbeats 8000000 in
theorem c19_yes (A : Option Addr) (n c : Nat) (g : Nat → Ln) (B k : Nat) (w : World) (hA : Ls w A n g) (hM : Mp w B g n) (hG : Gl2 w) (hn : n ≤ 268435456) (hk : k < n) (h0 : (g k).tt ≠ ⟨#[]⟩) (hl : leadsB (g k).o = true) (hms : ¬ MissAt g n k) :
    Calls Tryd.prog 19 #[.slice A n c, .int .i64 (k : Int), .map (some B)] w fun e w' => WdPost g n k w e w' := by
  obtain ⟨hj1, hj2⟩ := idx_spec hms h0
  obtain ⟨D, hown, -, -, h4⟩ := hM
  have hat0 := h4 (idx g n k) hj1 (by rw [hj2]; exact h0)
  rw [hj2] at hat0
  have HJ : Hid (∀ c : Int, D.atKey (.string (g k).tt.data.toList) (.lit (.int .i64 0)) = .lit (.int .i64 c) → c = (idx g n k : Int)) := Lib.hid fun c hc => by
    rw [hat0] at hc
    simpa using hc.symm
  have HO := Lib.hid (hown.kept (World.grownBy_alloc w (.cells #[.int .u8 ((g k).o : Int), .int .u8 ((g k).d : Int), .int .u8 ((g k).a : Int), .int .u8 ((g k).b : Int), .int .i32 (g k).m] 35) none) (by simp))
  obtain ⟨b, o, rfl, hbl, hc⟩ := hA (by omega)
  obtain ⟨hok, q0, q1, q2, q3, q4, q5, q6⟩ := hc k hk
  have HK9 := Lib.hid (key9 _ hok.2.2.2.2.2.2)
  have hg1 : ∀ v, Gl2 ((w.alloc (.cells #[.int .u8 ((g k).o : Int), .int .u8 ((g k).d : Int), .int .u8 ((g k).a : Int), .int .u8 ((g k).b : Int), .int .i32 v] 35))) := fun v => hG.below ((Below.refl _ _).alloc (Nat.le_refl _) _)
  have K35 := Lib.hid (c35 (g k).o hok.1 (w.alloc (.cells #[.int .u8 ((g k).o : Int), .int .u8 ((g k).d : Int), .int .u8 ((g k).a : Int), .int .u8 ((g k).b : Int), .int .i32 (g k).m] 35)))
  rw [hl] at K35
  have hi : i32 (4 * ((idx g n k : Int) - (k : Int))) := ⟨by omega, by omega⟩
  have K16 := Lib.hid (fun w hg => c16 (g k).o (g k).d (g k).a (g k).b (4 * ((idx g n k : Int) - (k : Int))) hok.1 hok.2.1 hok.2.2.1 hok.2.2.2.1 hi w hg)
  have HG1 := Lib.hid hg1
  have hb0 : ((g k).tt.toList == []) = false := by rw [emp, decide_eq_false h0]
  have hput : putK g n k = In.put (g k).o (g k).d (g k).a (g k).b (4 * ((idx g n k : Int) - (k : Int))) := by unfold putK effm; rw [if_neg h0]
  have hbad : badK g n k = decide ((putK g n k).2 ≠ 0) := by unfold badK; rw [hl, Bool.not_true, Bool.and_false, Bool.false_or]
  have hpe := In.put_err (g k).o (g k).d (g k).a (g k).b (4 * ((idx g n k : Int) - (k : Int)))
  have HP : Hid (∀ e w', ((badK g n k = true ∧ e = .returned (.tuple #[.int .u32 0, .iface 76 (.agg #[.int .i64 (k : Int), .iface 25 (.int .i64 2)])]) ∧ Below w.heap.size w w') ∨ (badK g n k = false ∧ e = .returned (.tuple #[.int .u32 ((putK g n k).1 : Int), .nilIface]) ∧ Below w.heap.size w w')) → WdPost g n k w e w') := Lib.hid fun e w' h => h
  clear hc hG hg1 hms hj2 hown h4 hat0 hl h0 hi hok
  generalize badK g n k = bad at *
  generalize putK g n k = pk at *
  rw [hput] at hbad HP
  clear hput
  generalize idx g n k = j at *
  generalize (g k).tt = tt at *
  generalize (g k).lab = lab at *
  generalize (g k).o = xo at *
  generalize (g k).d = xd at *
  generalize (g k).a = xa at *
  generalize (g k).b = xb at *
  generalize (g k).m = xm at *
  have a1 : -1073741824 ≤ 4 * ((j : Int) - (k : Int)) := by omega
  have a2 : 4 * ((j : Int) - (k : Int)) ≤ 1073741824 := by omega
  rcases hpe with ⟨wd, hp⟩ | hp
  all_goals
    rw [hp] at K16 hbad HP
    simp only at K16 hbad HP
  · have HB := Lib.hid hbad
    clear hbad hp
    go_enter Tryd.func19, Tryd.ntmps19
    go_wp2_with fail
    refine (K35.out).mono ?_
    rintro _ _ ⟨rfl, rfl⟩
    go_wp2_with (at_lookup; refine wpList_lookup_own_int _ rfl _ _ 59 rfl 9 3 .i64 law9 Tryd.underlying59 Tryd.underlying3 (zero3 _) B n D rfl HO.out _ _ rfl HK9.out ?_; intro c' hat hwc; obtain rfl := HJ.out c' hat)
    refine (K16.out _ (HG1.out _)).mono ?_
    rintro _ w1 ⟨rfl, b1⟩
    have B1 : Hid (Below w.heap.size w w1) := Lib.hid (((Below.refl _ _).alloc (Nat.le_refl _) _).trans (b1.mono (by simp)))
    clear b1
    go_wp2_with fail
    go_ret2
    exact HP.out _ _ (Or.inr ⟨by rw [HB.out]; rfl, rfl, B1.out⟩)
  · have HB := Lib.hid hbad
    clear hbad hp
    go_enter Tryd.func19, Tryd.ntmps19
    go_wp2_with fail
    refine (K35.out).mono ?_
    rintro _ _ ⟨rfl, rfl⟩
    go_wp2_with (at_lookup; refine wpList_lookup_own_int _ rfl _ _ 59 rfl 9 3 .i64 law9 Tryd.underlying59 Tryd.underlying3 (zero3 _) B n D rfl HO.out _ _ rfl HK9.out ?_; intro c' hat hwc; obtain rfl := HJ.out c' hat)
    refine (K16.out _ (HG1.out _)).mono ?_
    rintro _ w1 ⟨rfl, b1⟩
    have B1 : Hid (Below w.heap.size w w1) := Lib.hid (((Below.refl _ _).alloc (Nat.le_refl _) _).trans (b1.mono (by simp)))
    clear b1
    go_wp2_with fail
    go_ret2
    exact HP.out _ _ (Or.inl ⟨by rw [HB.out]; rfl, rfl, B1.out⟩)
/-- a line's word -/
theorem c19 (A : Option Addr) (n c : Nat) (g : Nat → Ln) (B k : Nat) (w : World) (hA : Ls w A n g) (hM : Mp w B g n) (hG : Gl2 w) (hn : n ≤ 268435456) (hk : k < n) (hms : ¬ MissAt g n k) :
    Calls Tryd.prog 19 #[.slice A n c, .int .i64 (k : Int), .map (some B)] w fun e w' => WdPost g n k w e w' := by
  by_cases h0 : (g k).tt = ⟨#[]⟩
  · exact c19_plain A n c g B k w hA hG hn hk h0
  · cases hl : leadsB (g k).o with
    | false => exact c19_no A n c g B k w hA hn hk h0 hl
    | true => exact c19_yes A n c g B k w hA hM hG hn hk h0 hl hms
end Go.Proofs.YtodpeiamophjjaaDoor
