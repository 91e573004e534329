import Derived.Test.YtodpeiamophjjaaDoorKM
import Derived.Maps.OwnOps
import Derived.Maps.OwnSet
import Derived.Maps.Views
import Derived.StringKeys
import Derived.Laws.Strings
import Derived.Laws.Strings2
import Derived.Laws.Strings3
import Derived.Laws.Concat
namespace Go.Proofs.YtodpeiamophjjaaDoor
open Go.ChangeShapes Go.WideShapes Go.ChangeAt Go.RowKit
open In (i32)
set_option linter.unusedVariables false
/-- a line -/
structure Ln where
  lab : ByteArray
  o : Nat
  d : Nat
  a : Nat
  b : Nat
  m : Int
  tt : ByteArray
def Ln.ok (x : Ln) : Prop := x.o < 256 ∧ x.d < 256 ∧ x.a < 256 ∧ x.b < 256 ∧ i32 x.m ∧ x.lab.size ≤ 9223372036854775807 ∧ x.tt.size ≤ 9223372036854775807
/-- so many lines stand there -/
def Ls (w : World) (A : Option Addr) (n : Nat) (g : Nat → Ln) : Prop :=
  0 < n → ∃ b o, A = some ⟨b, o, none⟩ ∧ b < w.heap.size ∧ ∀ k, k < n → (g k).ok ∧ w.cell? ⟨b, o + k * 7, none⟩ = some (.string (g k).lab) ∧ w.cell? ⟨b, o + k * 7 + 1, none⟩ = some (.int .u8 ((g k).o : Int)) ∧
    w.cell? ⟨b, o + k * 7 + 2, none⟩ = some (.int .u8 ((g k).d : Int)) ∧ w.cell? ⟨b, o + k * 7 + 3, none⟩ = some (.int .u8 ((g k).a : Int)) ∧ w.cell? ⟨b, o + k * 7 + 4, none⟩ = some (.int .u8 ((g k).b : Int)) ∧
    w.cell? ⟨b, o + k * 7 + 5, none⟩ = some (.int .i32 (g k).m) ∧ w.cell? ⟨b, o + k * 7 + 6, none⟩ = some (.string (g k).tt)
theorem Ls.below {w w' : World} {A : Option Addr} {n : Nat} {g : Nat → Ln} (h : Ls w A n g) (hb : Below w.heap.size w w') : Ls w' A n g := fun h0 => by
  obtain ⟨b, o, e, hl, hc⟩ := h h0
  have z : ∀ j, w'.cell? ⟨b, j, none⟩ = w.cell? ⟨b, j, none⟩ := fun j => hb.cell (p := ⟨b, j, none⟩) hl
  refine ⟨b, o, e, Nat.lt_of_lt_of_le hl hb.size, fun k hk => ?_⟩
  obtain ⟨h1, h2, h3, h4, h5, h6, h7, h8⟩ := hc k hk
  exact ⟨h1, by rw [z]; exact h2, by rw [z]; exact h3, by rw [z]; exact h4, by rw [z]; exact h5, by rw [z]; exact h6, by rw [z]; exact h7, by rw [z]; exact h8⟩
theorem law9 : Maps.Keyed Tryd.prog 9 := Maps.string_keyed Tryd.underlying9
theorem zero3 (w : World) : (zeroValue 3).run Tryd.prog w = .ok (.int .i64 0) w := by kernel_rfl
theorem key9 (s : ByteArray) (h : s.size ≤ 9223372036854775807) : keyOf Tryd.prog 9 (.string s) = some (.string s.data.toList) := WideMaps.keyOf_string_mk Tryd.underlying9 (by unfold maxLen; exact h)
theorem wf_nat (k : Nat) (h : k ≤ 9223372036854775807) : (Lit.int .i64 (k : Int)).wf = true := by
  simp [Lit.wf, IntKind.min, IntKind.max, IntKind.bits, IntKind.signed]
  omega
theorem emp (s : ByteArray) : (s.toList == []) = decide (s = ⟨#[]⟩) := by
  rw [ByteArray.toList_eq, Bool.eq_iff_iff]
  obtain ⟨⟨l⟩⟩ := s
  simp
theorem lit_ne {s t : ByteArray} (h : s ≠ t) : (Lit.string s.data.toList) ≠ .string t.data.toList := fun e => h (by
  obtain ⟨⟨a⟩⟩ := s
  obtain ⟨⟨b⟩⟩ := t
  simpa using e)
/-- the numbers of the first lines that have a name -/
def Mp (w : World) (B : Nat) (g : Nat → Ln) (k : Nat) : Prop :=
  ∃ D : DataW Unit, w.ownsMap Tryd.prog 9 (plainElem Tryd.prog 3) B k D ∧ Maps.IsMap D ∧ (∀ s : ByteArray, Maps.has D (.string s.data.toList) = true ↔ ∃ j, j < k ∧ (g j).lab = s ∧ s ≠ ⟨#[]⟩) ∧
    ∀ j, j < k → (g j).lab ≠ ⟨#[]⟩ → D.atKey (.string (g j).lab.data.toList) (.lit (.int .i64 0)) = .lit (.int .i64 (j : Int))
theorem grown_below {w w' : World} (hb : Below w.heap.size w w') : w.grownBy w' none := ⟨hb.os, hb.tape, hb.output, hb.size, fun k hk _ => hb.block k hk⟩
theorem Mp.below {w w' : World} {B : Nat} {g : Nat → Ln} {k : Nat} (h : Mp w B g k) (hb : Below w.heap.size w w') : Mp w' B g k := by
  obtain ⟨D, h1, h2⟩ := h
  exact ⟨D, h1.kept (grown_below hb) (by simp), h2⟩
theorem mp_zero (w : World) (g : Nat → Ln) : Mp (w.alloc (.map #[] 0)) w.heap.size g 0 :=
  ⟨.map [], World.ownsMap_made w _ _ _, Maps.isMap_empty, fun s => ⟨(fun h => by cases h), (fun ⟨j, hj, _⟩ => absurd hj (by omega))⟩, fun j hj => absurd hj (by omega)⟩
theorem mp_skip {w : World} {B : Nat} {g : Nat → Ln} {k : Nat} (h : Mp w B g k) (h0 : (g k).lab = ⟨#[]⟩) : Mp w B g (k + 1) := by
  obtain ⟨D, h1, h2, h3, h4⟩ := h
  refine ⟨D, h1.mono (Nat.le_succ _), h2, fun s => (h3 s).trans ⟨fun ⟨j, hj, e⟩ => ⟨j, by omega, e⟩, fun ⟨j, hj, e1, e2⟩ => ?_⟩, fun j hj hne => ?_⟩
  · by_cases hjk : j = k
    · subst hjk
      exact absurd (e1.symm.trans h0) e2
    · exact ⟨j, by omega, e1, e2⟩
  · by_cases hjk : j = k
    · subst hjk
      exact absurd h0 hne
    · exact h4 j (by omega) hne
theorem mp_put {w' : World} {B : Nat} {g : Nat → Ln} {k : Nat} {D : DataW Unit} {s : ByteArray} (hs : (g k).lab = s) (hne : s ≠ ⟨#[]⟩) (h2 : Maps.IsMap D) (h3 : ∀ s : ByteArray, Maps.has D (.string s.data.toList) = true ↔ ∃ j, j < k ∧ (g j).lab = s ∧ s ≠ ⟨#[]⟩)
    (h4 : ∀ j, j < k → (g j).lab ≠ ⟨#[]⟩ → D.atKey (.string (g j).lab.data.toList) (.lit (.int .i64 0)) = .lit (.int .i64 (j : Int))) (hno : Maps.has D (.string s.data.toList) = false)
    (h1 : w'.ownsMap Tryd.prog 9 (plainElem Tryd.prog 3) B (k + 1) (D.put (.string s.data.toList) (.lit (.int .i64 (k : Int))))) : Mp w' B g (k + 1) := by
  subst hs
  refine ⟨_, h1, h2.put _ _, fun t => ?_, fun j hj hne2 => ?_⟩
  · by_cases ht : t = (g k).lab
    · subst ht
      rw [Maps.has_put_same h2 (show WideAt.IsKeyLit (.string _) from trivial)]
      exact ⟨fun _ => ⟨k, by omega, rfl, hne⟩, fun _ => rfl⟩
    · rw [Maps.has_put_other (lit_ne ht), h3 t]
      exact ⟨fun ⟨j, hj, e⟩ => ⟨j, by omega, e⟩, fun ⟨j, hj, e1, e2⟩ => by
        by_cases hjk : j = k
        · subst hjk; exact absurd e1.symm ht
        · exact ⟨j, by omega, e1, e2⟩⟩
  · by_cases hjk : j = k
    · subst hjk
      exact Maps.atKey_put_same h2 (show WideAt.IsKeyLit (.string _) from trivial) _ _
    · have hd : (g j).lab ≠ (g k).lab := fun e => by
        have := (h3 (g k).lab).mpr ⟨j, by omega, e, hne⟩
        rw [hno] at this
        cases this
      rw [Maps.atKey_put_other (lit_ne hd)]
      exact h4 j (by omega) hne2
/-- have two lines one name? -/
def Dup (g : Nat → Ln) (n : Nat) : Prop := ∃ j k, j < k ∧ k < n ∧ (g j).lab = (g k).lab ∧ (g k).lab ≠ ⟨#[]⟩
def LabPost (g : Nat → Ln) (n : Nat) (w : World) (e : Ending) (w' : World) : Prop :=
  (∃ k : Nat, Dup g n ∧ e = .returned (.tuple #[.map none, .iface 76 (.agg #[.int .i64 (k : Int), .iface 25 (.int .i64 7)])]) ∧ Below w.heap.size w w') ∨
  (¬ Dup g n ∧ e = .returned (.tuple #[.map (some w.heap.size), .nilIface]) ∧ Mp w' w.heap.size g n ∧ Below w.heap.size w w')
def R17 (w : World) (g : Nat → Ln) (n : Nat) (i : Value) (wr : World) : Prop := ∃ k : Nat, k ≤ n ∧ i = .int .i64 (k : Int) ∧ Mp wr w.heap.size g k ∧ Below w.heap.size w wr ∧ ¬ Dup g k
theorem dup_step {g : Nat → Ln} {k : Nat} (h : ¬ Dup g k) (hn : ∀ j, j < k → (g j).lab = (g k).lab → (g k).lab = ⟨#[]⟩) : ¬ Dup g (k + 1) := by
  rintro ⟨j, i, h1, h2, h3, h4⟩
  by_cases hik : i = k
  · subst hik; exact h4 (hn j h1 h3)
  · exact h ⟨j, i, h1, by omega, h3, h4⟩
set_option maxRecDepth 100000 in
set_option maxHeartbeats 8000000 in
theorem c17 (A : Option Addr) (n c : Nat) (g : Nat → Ln) (w : World) (hA : Ls w A n g) (hn : n ≤ 1073741824) : Calls Tryd.prog 17 #[.slice A n c] w fun e w' => LabPost g n w e w' := by
  have HA := Lib.hid hA
  clear hA
  have hmm := @run_makeMap Tryd.prog
  go_enter Tryd.func17, Tryd.ntmps17
  go_wp2
  go_loopw [12] (fun i wr => R17 w g n i wr) (fun i _ => n - (intOf i).toNat)
  case atStart => exact ⟨0, by omega, rfl, mp_zero w g, (Below.refl _ _).alloc (Nat.le_refl _) _, fun ⟨j, k, h1, h2, _⟩ => by omega⟩
  case round =>
    obtain ⟨k, hk, rfl, hmp, hb, hnd⟩ := hrel
    have HB := Lib.hid hb
    have HND := Lib.hid hnd
    by_cases hlt : k < n
    · obtain ⟨D, hown, h2, h3, h4⟩ := hmp
      have HO := Lib.hid (hown.kept (World.grownBy_alloc wr (.cells #[.string (g k).lab, .int .u8 ((g k).o : Int), .int .u8 ((g k).d : Int), .int .u8 ((g k).a : Int), .int .u8 ((g k).b : Int), .int .i32 (g k).m, .string (g k).tt] 37) none) (by simp))
      have HMP : Hid (Mp wr w.heap.size g k) := Lib.hid ⟨D, hown, h2, h3, h4⟩
      have H2 := Lib.hid h2
      have H3 := Lib.hid h3
      have H4 := Lib.hid h4
      obtain ⟨b, o, rfl, hbl, hc⟩ := HA.out (by omega)
      obtain ⟨hok, q0, q1, q2, q3, q4, q5, q6⟩ := hc k hlt
      have z : ∀ j, wr.cell? ⟨b, j, none⟩ = w.cell? ⟨b, j, none⟩ := fun j => hb.cell (p := ⟨b, j, none⟩) hbl
      rw [← z] at q0 q1 q2 q3 q4 q5 q6
      obtain ⟨-, -, -, -, -, hsl, -⟩ := hok
      have HK9 := Lib.hid (key9 _ hsl)
      have HLT := Lib.hid hlt
      have hzs := hb.size
      clear hown h2 h3 h4 hc z hb hnd hk
      obtain ⟨x, hx⟩ : ∃ x, g k = x := ⟨_, rfl⟩
      have HX := Lib.hid hx
      rw [hx] at q0 q1 q2 q3 q4 q5 q6 HK9 HO hsl
      clear hx
      by_cases he : x.lab = ⟨#[]⟩
      · have hb0 : (x.lab.toList == []) = true := by rw [emp, decide_eq_true he]
        have HE := Lib.hid he
        clear he
        go_wp2_with fail
        go_roundw
        case rel => exact ⟨k + 1, HLT.out, by go_num, (mp_skip HMP.out (by rw [HX.out]; exact HE.out)).below (by first | exact (Below.refl _ _).alloc (Nat.le_refl _) _ | skip), by first | exact HB.out.alloc HB.out.size _ | skip, dup_step HND.out (fun j _ _ => by rw [HX.out]; exact HE.out)⟩
        case measure => simp [intOf]; have := HLT.out; omega
      · have hb0 : (x.lab.toList == []) = false := by rw [emp, decide_eq_false he]
        have HE := Lib.hid he
        clear he
        obtain ⟨q, hq⟩ : ∃ q, Maps.has D (.string x.lab.data.toList) = q := ⟨_, rfl⟩
        have HQ := Lib.hid hq
        cases q
        · go_wp2_with (first | (at_lookup; refine wpList_lookup_own_ok_int _ rfl _ _ 59 rfl 9 3 .i64 law9 Tryd.underlying59 Tryd.underlying3 (zero3 _) w.heap.size k D rfl HO.out _ _ rfl HK9.out ?_; intro c hat hwc) | (at_mapUpdate; refine wpList_mapUpdate_own _ rfl _ _ _ 59 rfl 9 3 law9 Tryd.underlying59 _ w.heap.size k D rfl HO.out (by unfold maxLen; omega) _ _ _ rfl rfl HK9.out _ [] (plainElem_int Tryd.underlying3 (wf_nat k (by omega))) ?_; intro w1 hown1 hgrow1))
          go_roundw
          case rel => exact ⟨k + 1, HLT.out, by go_num, mp_put (by rw [HX.out]) HE.out H2.out H3.out H4.out HQ.out hown1, (HB.out.alloc HB.out.size _).grown hgrow1 (by simp; omega) (fun j hj => by simp at hj; omega), dup_step HND.out (fun j hj e => by
            have := (H3.out x.lab).mpr ⟨j, hj, by rw [e, HX.out], HE.out⟩
            rw [HQ.out] at this
            cases this)⟩
          case measure => simp [intOf]; have := HLT.out; omega
        · have HDUP : Hid (Dup g n) := Lib.hid (by
            obtain ⟨j, hj, e1, e2⟩ := (H3.out x.lab).mp HQ.out
            exact ⟨j, k, hj, HLT.out, by rw [e1, HX.out], by rw [HX.out]; exact e2⟩)
          go_wp2_with (at_lookup; refine wpList_lookup_own_ok_int _ rfl _ _ 59 rfl 9 3 .i64 law9 Tryd.underlying59 Tryd.underlying3 (zero3 _) w.heap.size k D rfl HO.out _ _ rfl HK9.out ?_; intro c hat hwc)
          go_ret2
          exact Or.inl ⟨k, HDUP.out, rfl, HB.out.alloc HB.out.size _⟩
    · have hkn : k = n := by omega
      subst hkn
      have HM := Lib.hid hmp
      clear hmp hb hnd
      go_wp2_with fail
      go_ret2
      exact Or.inr ⟨HND.out, rfl, HM.out, HB.out⟩
end Go.Proofs.YtodpeiamophjjaaDoor
