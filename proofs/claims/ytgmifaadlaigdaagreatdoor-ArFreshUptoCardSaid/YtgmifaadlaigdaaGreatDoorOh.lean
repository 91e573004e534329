import Derived.Test.YtgmifaadlaigdaaGreatDoorOg
import Derived.Maps.OwnOps
import Derived.Maps.OwnSet
import Derived.Maps.Views
import Derived.StringKeys
namespace Go.Proofs.YtgmifaadlaigdaaGreatDoor
open Go.ChangeShapes Go.WideShapes Go.ChangeAt Go.RowKit
set_option linter.unusedVariables false
theorem law9 : Maps.Keyed Tryz.prog 9 := Maps.string_keyed Tryz.underlying9
theorem zero3 (w : World) : (zeroValue 3).run Tryz.prog w = .ok (.int .i64 0) w := by kernel_rfl
theorem key9 (s : ByteArray) (h : s.size ≤ 9223372036854775807) : keyOf Tryz.prog 9 (.string s) = some (.string s.data.toList) := WideMaps.keyOf_string_mk Tryz.underlying9 (by unfold maxLen; exact h)
theorem wf_nat (k : Nat) (h : k ≤ 9223372036854775807) : (Lit.int .i64 (k : Int)).wf = true := by
  simp [Lit.wf, IntKind.min, IntKind.max, IntKind.bits, IntKind.signed]
  omega
theorem emp (s : ByteArray) : (s.toList == []) = decide (s = ⟨#[]⟩) := by
  rw [ByteArray.toList_eq, Bool.eq_iff_iff]
  obtain ⟨⟨l⟩⟩ := s
  simp
theorem nil_emp (s : ByteArray) : s.toList = [] ↔ s = ⟨#[]⟩ := by
  rw [ByteArray.toList_eq]
  obtain ⟨⟨l⟩⟩ := s
  simp
theorem lit_ne {s t : ByteArray} (h : s ≠ t) : (Lit.string s.data.toList) ≠ .string t.data.toList := fun e => h (by
  obtain ⟨⟨a⟩⟩ := s
  obtain ⟨⟨b⟩⟩ := t
  simpa using e)
/-- the map of the first names -/
def Mn (w : World) (B : Nat) (g : Nat → ByteArray) (k : Nat) : Prop :=
  ∃ D : DataW Unit, w.ownsMap Tryz.prog 9 (plainElem Tryz.prog 3) B k D ∧ Maps.IsMap D ∧ ∀ s : ByteArray, Maps.has D (.string s.data.toList) = true ↔ ∃ j, j < k ∧ g j = s
theorem Mn.below {w w' : World} {B : Nat} {g : Nat → ByteArray} {k : Nat} (h : Mn w B g k) (hb : Below w.heap.size w w') : Mn w' B g k := by
  obtain ⟨D, h1, h2⟩ := h
  exact ⟨D, h1.kept (grown_below hb) (by simp), h2⟩
theorem mn_zero (w : World) (g : Nat → ByteArray) : Mn (w.alloc (.map #[] 0)) w.heap.size g 0 :=
  ⟨.map [], World.ownsMap_made w _ _ _, Maps.isMap_empty, fun s => ⟨(fun h => by cases h), (fun ⟨j, hj, _⟩ => absurd hj (by omega))⟩⟩
theorem mn_put {w' : World} {B : Nat} {g : Nat → ByteArray} {k v : Nat} {D : DataW Unit} {s : ByteArray} (hs : g k = s) (h2 : Maps.IsMap D) (h3 : ∀ s : ByteArray, Maps.has D (.string s.data.toList) = true ↔ ∃ j, j < k ∧ g j = s)
    (h1 : w'.ownsMap Tryz.prog 9 (plainElem Tryz.prog 3) B (k + 1) (D.put (.string s.data.toList) (.lit (.int .i64 (v : Int))))) : Mn w' B g (k + 1) := by
  subst hs
  refine ⟨_, h1, h2.put _ _, fun t => ?_⟩
  by_cases ht : t = g k
  · subst ht
    rw [Maps.has_put_same h2 (show WideAt.IsKeyLit (.string _) from trivial)]
    exact ⟨fun _ => ⟨k, by omega, rfl⟩, fun _ => rfl⟩
  · rw [Maps.has_put_other (lit_ne ht), h3 t]
    exact ⟨fun ⟨j, hj, e⟩ => ⟨j, by omega, e⟩, fun ⟨j, hj, e1⟩ => by
      by_cases hjk : j = k
      · subst hjk; exact absurd e1.symm ht
      · exact ⟨j, by omega, e1⟩⟩
theorem mems_step {g : Nat → Mem} {k : Nat} : MemsOk g (k + 1) ↔ MemsOk g k ∧ nmB (g k).nm = true ∧ ∀ j, j < k → (g j).nm ≠ (g k).nm :=
  ⟨fun h => ⟨fun i hi => h i (by omega), h k (by omega)⟩, fun ⟨h1, h2, h3⟩ i hi => by
    by_cases e : i = k
    · subst e; exact ⟨h2, h3⟩
    · exact h1 i (by omega)⟩
theorem mems_less {g : Nat → Mem} {k n : Nat} (h : k ≤ n) (hm : MemsOk g n) : MemsOk g k := fun i hi => hm i (by omega)
theorem ixs_step {x : Nat → Ix} {n k : Nat} : IxsOk x n (k + 1) ↔ IxsOk x n k ∧ 0 ≤ (x k).m ∧ (x k).m < (n : Int) ∧ (x k).nm ≠ ⟨#[]⟩ ∧ zeB (x k).nm = false :=
  ⟨fun h => ⟨fun i hi => h i (by omega), h k (by omega)⟩, fun ⟨h1, h2⟩ i hi => by
    by_cases e : i = k
    · subst e; exact h2
    · exact h1 i (by omega)⟩
def R20 (w : World) (g : Nat → Mem) (n : Nat) (v i : Value) (wr : World) : Prop := ∃ k : Nat, k ≤ n ∧ i = .int .i64 (k : Int) ∧ Mn wr w.heap.size (fun j => (g j).nm) k ∧ Below w.heap.size w wr ∧ MemsOk g k
def R20b (w : World) (x : Nat → Ix) (n m : Nat) (v i : Value) (wr : World) : Prop := ∃ k : Nat, k ≤ m ∧ i = .int .i64 (k : Int) ∧ Below w.heap.size w wr ∧ IxsOk x n k
def May (g : Nat → Mem) (x : Nat → Ix) (n m : Nat) (w : World) (e : Ending) (w' : World) : Prop := ∃ b : Bool, e = .returned (.bool b) ∧ (b = true ↔ MemsOk g n ∧ IxsOk x n m) ∧ Below w.heap.size w w'
set_option maxRecDepth 100000 in
set_option maxHeartbeats 8000000 in
theorem c20 (A B : Option Addr) (n c m d : Nat) (g : Nat → Mem) (x : Nat → Ix) (w : World) (hA : Ms w A n g) (hB : Is w B m x) (hn : n ≤ 1073741824) (hm : m ≤ 1073741824) :
    Calls Tryz.prog 20 #[.slice A n c, .slice B m d] w (May g x n m w) := by
  have HA := Lib.hid hA
  have HB := Lib.hid hB
  clear hA hB
  have hmm := @run_makeMap Tryz.prog
  go_enter Tryz.func20, Tryz.ntmps20
  go_wp2
  go_loopw [15] (fun i wr => R20 w g n i i wr) (fun i _ => n - (intOf i).toNat)
  case atStart => exact ⟨0, by omega, rfl, mn_zero w _, (Below.refl _ _).alloc (Nat.le_refl _) _, fun i hi => absurd hi (by omega)⟩
  case round =>
    obtain ⟨k, hk, rfl, hmp, hb, hok⟩ := hrel
    have HBW := Lib.hid hb
    have HOK := Lib.hid hok
    by_cases hlt : k < n
    · obtain ⟨D, hown, h2, h3⟩ := hmp
      have HO := Lib.hid (hown.kept (World.grownBy_alloc wr (.cells #[.string (g k).nm, .slice (g k).A (g k).n (g k).c] 39) none) (by simp))
      have H2 := Lib.hid h2
      have H3 := Lib.hid h3
      obtain ⟨b, o, rfl, hbl, hc⟩ := HA.out (by omega)
      obtain ⟨q0, q1, -, -, -, hsl⟩ := hc k hlt
      have z : ∀ j, wr.cell? ⟨b, j, none⟩ = w.cell? ⟨b, j, none⟩ := fun j => hb.cell (p := ⟨b, j, none⟩) hbl
      rw [← z] at q0 q1
      have HK9 := Lib.hid (key9 _ hsl)
      have HLT := Lib.hid hlt
      have hzs := hb.size
      have HN : Hid (MemsOk g n → nmB (g k).nm = true ∧ ∀ j, j < k → (g j).nm ≠ (g k).nm) := Lib.hid (fun hm => hm k hlt)
      have HS : Hid ((nmB (g k).nm = true ∧ ∀ j, j < k → (g j).nm ≠ (g k).nm) → MemsOk g (k + 1)) := Lib.hid (fun h => mems_step.mpr ⟨HOK.out, h⟩)
      have K38 := Lib.hid (c38 (g k).nm hsl)
      have HNM : Hid ((fun j => (g j).nm) k = (g k).nm) := Lib.hid rfl
      clear hown h2 h3 hc z hb hok hk hsl
      generalize (g k).nm = nm at *
      generalize (g k).A = gA at *
      generalize (g k).n = gn at *
      generalize (g k).c = gc at *
      obtain ⟨q, hq⟩ : ∃ q, Maps.has D (.string nm.data.toList) = q := ⟨_, rfl⟩
      have HQ := Lib.hid hq
      cases q
      · obtain ⟨q', hq'⟩ : ∃ q', nmB nm = q' := ⟨_, rfl⟩
        rw [hq'] at K38 HN HS
        clear hq'
        cases q'
        · have HNO : Hid (¬ MemsOk g n) := Lib.hid (fun h => by have := (HN.out h).1; cases this)
          go_wp2_with (at_lookup; refine wpList_lookup_own_ok_int _ rfl _ _ 77 rfl 9 3 .i64 law9 Tryz.underlying77 Tryz.underlying3 (zero3 _) w.heap.size k D rfl HO.out _ _ rfl HK9.out ?_; intro c hat hwc)
          refine (K38.out _).mono ?_
          rintro _ _ ⟨rfl, u, rfl⟩
          go_wp2_with fail
          go_ret
          exact ⟨false, rfl, ⟨(fun h => by cases h), fun h => absurd h.1 HNO.out⟩, below_drewN (HBW.out.alloc HBW.out.size _) u⟩
        · have HDI : Hid (∀ j, j < k → (g j).nm ≠ nm) := Lib.hid (fun j hj e => by
            have := (H3.out nm).mpr ⟨j, hj, e⟩
            rw [HQ.out] at this
            cases this)
          have HS2 := Lib.hid (HS.out ⟨rfl, HDI.out⟩)
          go_wp2_with (at_lookup; refine wpList_lookup_own_ok_int _ rfl _ _ 77 rfl 9 3 .i64 law9 Tryz.underlying77 Tryz.underlying3 (zero3 _) w.heap.size k D rfl HO.out _ _ rfl HK9.out ?_; intro c hat hwc)
          refine (K38.out _).mono ?_
          rintro _ _ ⟨rfl, u, rfl⟩
          have HO2 := Lib.hid (HO.out.kept (grown_below (below_drewN (Below.refl _ _) u)) (by simp))
          go_wp2_with (at_mapUpdate; refine wpList_mapUpdate_own _ rfl _ _ _ 77 rfl 9 3 law9 Tryz.underlying77 _ w.heap.size k D rfl HO2.out (by unfold maxLen; omega) _ _ _ rfl rfl HK9.out _ [] (plainElem_int Tryz.underlying3 (wf_nat k (by omega))) ?_; intro w1 hown1 hgrow1)
          go_roundw
          case rel => exact ⟨k + 1, HLT.out, by go_num, mn_put HNM.out H2.out H3.out hown1, (below_drewN (HBW.out.alloc HBW.out.size _) u).grown hgrow1 (by simp; omega) (fun j hj => by simp at hj; omega), HS2.out⟩
          case measure => simp [intOf]; have := HLT.out; omega
      · have HNO : Hid (¬ MemsOk g n) := Lib.hid (fun h => by
          obtain ⟨j, hj, e⟩ := (H3.out nm).mp HQ.out
          exact (HN.out h).2 j hj e)
        go_wp2_with (at_lookup; refine wpList_lookup_own_ok_int _ rfl _ _ 77 rfl 9 3 .i64 law9 Tryz.underlying77 Tryz.underlying3 (zero3 _) w.heap.size k D rfl HO.out _ _ rfl HK9.out ?_; intro c hat hwc)
        go_ret
        exact ⟨false, rfl, ⟨(fun h => by cases h), fun h => absurd h.1 HNO.out⟩, HBW.out.alloc HBW.out.size _⟩
    · have hkn : k = n := by omega
      subst hkn
      clear hmp hb hok
      go_wp2_with fail
      go_loopw [41] (fun i wr => R20b w x k m i i wr) (fun i _ => m - (intOf i).toNat)
      case atStart => exact ⟨0, Nat.zero_le _, rfl, HBW.out, fun i hi => absurd hi (by omega)⟩
      case round =>
        obtain ⟨j, hj, rfl, hb, hok⟩ := hrel
        have HBX := Lib.hid hb
        have HOX := Lib.hid hok
        by_cases hlt2 : j < m
        · obtain ⟨b, o, rfl, hbl, hc⟩ := HB.out (by omega)
          obtain ⟨q0, q1, hs1, hs2, hs3⟩ := hc j hlt2
          have z : ∀ j, wr.cell? ⟨b, j, none⟩ = w.cell? ⟨b, j, none⟩ := fun j => hb.cell (p := ⟨b, j, none⟩) hbl
          rw [← z] at q0 q1
          have HLT := Lib.hid hlt2
          have hzs := hb.size
          have HN : Hid (IxsOk x k m → 0 ≤ (x j).m ∧ (x j).m < (k : Int) ∧ (x j).nm ≠ ⟨#[]⟩ ∧ zeB (x j).nm = false) := Lib.hid (fun h => h j hlt2)
          have HS : Hid ((0 ≤ (x j).m ∧ (x j).m < (k : Int) ∧ (x j).nm ≠ ⟨#[]⟩ ∧ zeB (x j).nm = false) → IxsOk x k (j + 1)) := Lib.hid (fun h => ixs_step.mpr ⟨HOX.out, h⟩)
          have K39 := Lib.hid (c39 (x j).nm)
          have HE := Lib.hid (emp (x j).nm)
          have HE2 : Hid (decide ((x j).nm.toList = []) = decide ((x j).nm = ⟨#[]⟩)) := Lib.hid (decide_eq_decide.mpr (nil_emp _))
          rw [HE2.out] at K39
          clear HE HE2 hc z hb hok hs1
          generalize (x j).nm = nm at *
          generalize (x j).m = xm at *
          by_cases h1 : xm < 0
          · have HNO : Hid (¬ IxsOk x k m) := Lib.hid (fun h => by have := (HN.out h).1; omega)
            go_wp2_with fail
            go_ret
            exact ⟨false, rfl, ⟨(fun h => by cases h), fun h => absurd h.2 HNO.out⟩, HBX.out.alloc HBX.out.size _⟩
          · by_cases h2 : (k : Int) ≤ xm
            · have HNO : Hid (¬ IxsOk x k m) := Lib.hid (fun h => by have := (HN.out h).2.1; omega)
              go_wp2_with fail
              go_ret
              exact ⟨false, rfl, ⟨(fun h => by cases h), fun h => absurd h.2 HNO.out⟩, HBX.out.alloc HBX.out.size _⟩
            · obtain ⟨q, hq⟩ : ∃ q, (!decide (nm = ⟨#[]⟩) && !zeB nm) = q := ⟨_, rfl⟩
              rw [hq] at K39
              have HQ := Lib.hid hq
              clear hq
              cases q
              · have HNO : Hid (¬ IxsOk x k m) := Lib.hid (fun h => by
                  obtain ⟨_, _, e1, e2⟩ := HN.out h
                  have := HQ.out
                  rw [decide_eq_false e1, e2] at this
                  cases this)
                go_wp2_with fail
                refine (K39.out _).mono ?_
                rintro _ _ ⟨rfl, rfl⟩
                go_wp2_with fail
                go_ret
                exact ⟨false, rfl, ⟨(fun h => by cases h), fun h => absurd h.2 HNO.out⟩, HBX.out.alloc HBX.out.size _⟩
              · have HS2 : Hid (IxsOk x k (j + 1)) := Lib.hid (HS.out (by
                  have := HQ.out
                  simp only [Bool.and_eq_true, Bool.not_eq_true', decide_eq_false_iff_not] at this
                  exact ⟨by omega, by omega, this.1, this.2⟩))
                go_wp2_with fail
                refine (K39.out _).mono ?_
                rintro _ _ ⟨rfl, rfl⟩
                go_wp2_with fail
                go_roundw
                case rel => exact ⟨j + 1, HLT.out, by go_num, HBX.out.alloc HBX.out.size _, HS2.out⟩
                case measure => simp [intOf]; have := HLT.out; omega
        · have hkn : j = m := by omega
          subst hkn
          clear hb hok
          go_wp2_with fail
          go_ret
          exact ⟨true, rfl, ⟨fun _ => ⟨HOK.out, HOX.out⟩, fun _ => rfl⟩, HBX.out⟩
end Go.Proofs.YtgmifaadlaigdaaGreatDoor
