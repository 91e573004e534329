import Derived.Test.YtodpeiamophjjaaDoorD
import Derived.OwnWalk
import Derived.Laws.AppendOwn
import Derived.Deep.Draws
namespace Go.Proofs.YtodpeiamophjjaaDoor
open Go.ChangeShapes Go.WideShapes Go.ChangeAt Go.RowKit
open In (i32)
set_option linter.unusedVariables false
open Classical in
/-- what is wrong with lines -/
noncomputable def errP (g : Nat → Ln) (n : Nat) : Nat := if Dup g n then 7 else if Miss g n then 6 else if ∃ k, k < n ∧ badK g n k = true then 2 else 0
theorem errP_dup {g : Nat → Ln} {n : Nat} (h : Dup g n) : errP g n = 7 := by unfold errP; rw [if_pos h]
theorem errP_miss {g : Nat → Ln} {n : Nat} (h : ¬ Dup g n) (h2 : Miss g n) : errP g n = 6 := by unfold errP; rw [if_neg h, if_pos h2]
theorem errP_bad {g : Nat → Ln} {n k : Nat} (h : ¬ Dup g n) (h2 : ¬ Miss g n) (hk : k < n) (hb : badK g n k = true) : errP g n = 2 := by unfold errP; rw [if_neg h, if_neg h2, if_pos ⟨k, hk, hb⟩]
theorem errP_ok {g : Nat → Ln} {n : Nat} (h : ¬ Dup g n) (h2 : ¬ Miss g n) (hb : ∀ k, k < n → badK g n k = false) : errP g n = 0 := by
  unfold errP
  rw [if_neg h, if_neg h2, if_neg]
  rintro ⟨k, hk, e⟩
  rw [hb k hk] at e
  cases e
theorem errP_cases (g : Nat → Ln) (n : Nat) : errP g n = 0 ∨ errP g n = 2 ∨ errP g n = 6 ∨ errP g n = 7 := by
  unfold errP
  split
  · simp
  · split
    · simp
    · split <;> simp
/-- the words, as cells -/
noncomputable def wcells (g : Nat → Ln) (n k : Nat) : List Value := (List.range k).map fun j => Value.int .u32 ((putK g n j).1 : Int)
theorem wcells_succ (g : Nat → Ln) (n k : Nat) : wcells g n (k + 1) = wcells g n k ++ [.int .u32 ((putK g n k).1 : Int)] := by unfold wcells; rw [List.range_succ, List.map_append]; rfl
def WsPost (g : Nat → Ln) (n : Nat) (w : World) (e : Ending) (w' : World) : Prop :=
  (∃ (k : Nat) (er : Nat), errP g n = er ∧ (er = 2 ∨ er = 6 ∨ er = 7) ∧ e = .returned (.tuple #[.slice none 0 0, .iface 76 (.agg #[.int .i64 (k : Int), .iface 25 (.int .i64 (er : Int))])]) ∧ Below w.heap.size w w') ∨
  (errP g n = 0 ∧ ∃ V, e = .returned (.tuple #[V, .nilIface]) ∧ w'.ownsRow w.heap.size 22 1 V n (wcells g n n) ∧ Below w.heap.size w w')
def R11 (g : Nat → Ln) (n : Nat) (w : World) (v i : Value) (wr : World) : Prop := ∃ k : Nat, k ≤ n ∧ i = .int .i64 (k : Int) ∧ wr.ownsRow w.heap.size 22 1 v k (wcells g n k) ∧ Below w.heap.size w wr ∧ Mp wr w.heap.size g n ∧ ∀ j, j < k → badK g n j = false
theorem one_cell (w : World) (x : Value) (t : TypeId) : ∀ (j : Nat) (u : Value), [x][j]? = some u → (w.alloc (.cells #[x] t)).cell? ((⟨w.heap.size, 0, none⟩ : Addr).add j) = some u := by
  intro j u h
  cases j with
  | zero =>
    simp at h
    subst h
    exact World.cell?_alloc_at _ _ _ _ (by simp)
  | succ j => simp at h
theorem own_base {w : World} {B B' e size n : Nat} {v : Value} {xs : List Value} (h : w.ownsRow B e size v n xs) (hB : B' ≤ B) : w.ownsRow B' e size v n xs := by
  obtain ⟨h1, h2⟩ := h
  refine ⟨h1, ?_⟩
  rcases h2 with h2 | ⟨g, cap, cur, a, b, c, d⟩
  · exact Or.inl h2
  · exact Or.inr ⟨g, cap, cur, a, Nat.le_trans hB b, c, d⟩
theorem own_below {w w' : World} {B e size n : Nat} {v : Value} {xs : List Value} (h : w.ownsRow B e size v n xs) (hb : Below w.heap.size w w') : w'.ownsRow B e size v n xs :=
  h.kept (grown_below hb) (by cases v.ownBlock <;> simp)
theorem gr_below {B : Nat} {a w w' : World} {v : Value} {e size n : Nat} {xs : List Value} (h : Below B a w) (ho : w.ownsRow B e size v n xs) (hg : w.grownBy w' v.ownBlock) (hB : B ≤ w.heap.size) : Below B a w' :=
  h.grown hg hB (fun k hk => (ho.lt k hk).1)
theorem own_slice {w : World} {B e size n : Nat} {v : Value} {xs : List Value} (h : w.ownsRow B e size v n xs) : ∃ A c, v = .slice A n c ∧ n ≤ c := by
  obtain ⟨h1, h2⟩ := h
  rcases h2 with ⟨h2, h3⟩ | ⟨g, cap, cur, a, b, c, d, e⟩
  · subst h3; exact ⟨none, 0, h2, Nat.le_refl _⟩
  · exact ⟨_, cap, a, d⟩
theorem below_grown {w w' : World} (hg : w.grownBy w' none) : Below w.heap.size w w' := ⟨hg.os, hg.tape, hg.output, hg.size, fun k hk => hg.block k hk (by simp)⟩
theorem mp_grown {w w' : World} {B base e size k n : Nat} {g : Nat → Ln} {v : Value} {xs : List Value} (h : Mp w B g n) (ho : w.ownsRow base e size v k xs) (hg : w.grownBy w' v.ownBlock) : Mp w' B g n := by
  obtain ⟨D, h1, h2⟩ := h
  refine ⟨D, h1.kept hg (fun hb => ?_), h2⟩
  obtain ⟨es, clock, hm, _⟩ := h1
  rcases ho.2 with ⟨rfl, _⟩ | ⟨q, cap, cur, rfl, _, hq, _⟩
  · simp [Value.ownBlock] at hb
  · simp [Value.ownBlock] at hb
    subst hb
    rw [hm] at hq
    simp at hq
set_option maxRecDepth 100000 in
set_option maxHeartbeats 8000000 in
theorem c11 (A : Option Addr) (n c : Nat) (g : Nat → Ln) (w : World) (hA : Ls w A n g) (hG : Gl2 w) (hn : n ≤ 268435456) : Calls Tryd.prog 11 #[.slice A n c] w fun e w' => WsPost g n w e w' := by
  obtain ⟨i0, hi, hz⟩ : ∃ i, Tryd.prog.info? 22 = some i ∧ (i.zero, i.size, i.bytes) = (some (.int .u32 0), 1, 4) := by
    have h : (Tryd.prog.info? 22).map (fun i => (i.zero, i.size, i.bytes)) = some (some (.int .u32 0), 1, 4) := by kernel_rfl
    cases hq : Tryd.prog.info? 22 with
    | none => rw [hq] at h; cases h
    | some i => rw [hq] at h; exact ⟨i, rfl, by simpa using h⟩
  simp only [Prod.mk.injEq] at hz
  obtain ⟨hz0, hz1, hz2⟩ := hz
  have HI := Lib.hid hi
  have HZ0 := Lib.hid hz0
  have HZ1 := Lib.hid hz1
  have HZ2 := Lib.hid hz2
  have HA := Lib.hid hA
  have HG := Lib.hid hG
  have K17 := Lib.hid (c17 A n c g w hA (by omega))
  unfold LabPost at K17
  clear hi hz0 hz1 hz2 hA hG
  go_enter Tryd.func11, Tryd.ntmps11
  go_wp2_with fail
  refine (K17.out).mono ?_
  rintro _ w1 (⟨k, hd, rfl, b1⟩ | ⟨hnd, rfl, hm, b1⟩)
  · have HE := Lib.hid (errP_dup hd)
    have HB1 := Lib.hid b1
    clear hd b1
    go_wp2_with fail
    go_ret2
    exact Or.inl ⟨k, 7, HE.out, by decide, rfl, HB1.out⟩
  · have HND := Lib.hid hnd
    have HM := Lib.hid hm
    have HB1 := Lib.hid b1
    have K18 := Lib.hid (c18 A n c g w.heap.size w1 (HA.out.below b1) hm (by omega))
    unfold NamPost at K18
    clear hnd hm b1
    go_wp2_with fail
    refine (K18.out).mono ?_
    rintro _ w2 (⟨k, hd, rfl, b2⟩ | ⟨hnm, rfl, b2⟩)
    · have HE := Lib.hid (errP_miss HND.out hd)
      have HB2 := Lib.hid (HB1.out.trans (b2.mono HB1.out.size))
      clear hd b2
      go_wp2_with fail
      go_ret2
      exact Or.inl ⟨k, 6, HE.out, by decide, rfl, HB2.out⟩
    · have HNM := Lib.hid hnm
      have HB2 := Lib.hid (HB1.out.trans (b2.mono HB1.out.size))
      have HM2 := Lib.hid (HM.out.below b2)
      have zs := HB2.out.size
      clear hnm b2
      go_wp2_with (at_make; refine wpList_make_own _ rfl _ _ 23 rfl w.heap.size 22 i0 (.int .u32 0) 1 Tryd.underlying23 HI.out HZ0.out HZ1.out .i64 .i64 (n : Int) n rfl rfl rfl (by rw [HZ2.out]; omega) (by unfold maxLen; omega) zs ?_; intro w3 hown3 hgrow3)
      have HB3 := Lib.hid (HB2.out.trans ((below_grown hgrow3).mono HB2.out.size))
      have HO3 := Lib.hid hown3
      have HM3 := Lib.hid (HM2.out.below (below_grown hgrow3))
      clear hown3 hgrow3
      go_loopw [7, 30] (fun v i wr => R11 g n w v i wr) (fun _ i _ => n - (intOf i).toNat)
      case atStart => exact ⟨0, by omega, rfl, HO3.out, HB3.out, HM3.out, fun j hj => absurd hj (by omega)⟩
      case round =>
        obtain ⟨k, hk, rfl, ho, hb, hm, hin⟩ := hrel
        have HO := Lib.hid ho
        have HB := Lib.hid hb
        have HIN := Lib.hid hin
        have HMR := Lib.hid hm
        by_cases hlt : k < n
        · have K19 := Lib.hid (c19 A n c g w.heap.size k wr (HA.out.below hb) hm (HG.out.below hb) hn hlt (fun h => HNM.out ⟨k, hlt, h⟩))
          unfold WdPost at K19
          have HS : Hid (badK g n k = false → ∀ j, j < k + 1 → badK g n j = false) := Lib.hid fun e j hj => by
            by_cases hjk : j = k
            · rw [hjk]; exact e
            · exact HIN.out j (by omega)
          have HE : Hid (badK g n k = true → errP g n = 2) := Lib.hid fun e => errP_bad HND.out HNM.out hlt e
          have HWC := Lib.hid (wcells_succ g n k)
          have HLT := Lib.hid hlt
          clear ho hb hin hm hk
          generalize putK g n k = pk at *
          go_wp2_with fail
          refine (K19.out).mono ?_
          rintro _ w4 (⟨hbad, rfl, b4⟩ | ⟨hbad, rfl, b4⟩)
          · have HW := Lib.hid (HE.out hbad)
            have HB4 := Lib.hid (HB.out.trans (b4.mono HB.out.size))
            clear hbad b4
            go_wp2_with fail
            go_ret2
            exact Or.inl ⟨k, 2, HW.out, by decide, rfl, HB4.out⟩
          · have HS2 := Lib.hid (HS.out hbad)
            have HB4 := Lib.hid (HB.out.trans (b4.mono HB.out.size))
            have HO4 := Lib.hid (own_below HO.out b4)
            have HM4 := Lib.hid (HMR.out.below b4)
            have z4 := HB4.out.size
            clear hbad b4
            go_wp2_with (at_builtin; refine wpList_append_own _ rfl _ _ 23 rfl w.heap.size 22 i0 (.int .u32 0) 1 4 Tryd.underlying23 HI.out HZ0.out HZ1.out HZ2.out rfl (by decide) _ _ _ rfl (HO4.out.alloc _) ⟨w4.heap.size, 0, none⟩ 1 1 [.int .u32 (pk.1 : Int)] rfl rfl (one_cell _ _ _) (fun x hx => by simp at hx; subst hx; rfl) (by unfold maxLen; omega) (by omega) (by simp; omega) ?_; intro v' w5 hown5 hgrow5 hnil5)
            go_roundw
            case rel => exact ⟨k + 1, HLT.out, by go_num, by rw [HWC.out]; exact hown5, gr_below (HB4.out.alloc HB4.out.size _) (HO4.out.alloc _) hgrow5 (by simp; omega), mp_grown (HM4.out.below ((Below.refl _ _).alloc (Nat.le_refl _) _)) (HO4.out.alloc _) hgrow5, HS2.out⟩
            case measure => simp [intOf]; have := HLT.out; omega
        · have hkn : k = n := by omega
          subst hkn
          have HW := Lib.hid (errP_ok HND.out HNM.out hin)
          clear ho hb hin hm
          go_wp2_with fail
          go_ret2
          exact Or.inr ⟨HW.out, _, rfl, HO.out, HB.out⟩
/-- what Put answers -/
def PutPost (g : Nat → Ln) (n : Nat) (w : World) (e : Ending) (w' : World) : Prop :=
  (∃ er : Nat, errP g n = er ∧ er ≠ 0 ∧ e = .returned (.tuple #[.slice none 0 0, .int .i64 (er : Int)]) ∧ Below w.heap.size w w') ∨
  (errP g n = 0 ∧ ∃ V, e = .returned (.tuple #[V, .int .i64 0]) ∧ w'.ownsRow w.heap.size 22 1 V n (wcells g n n) ∧ Below w.heap.size w w')
set_option maxHeartbeats 8000000 in
theorem c7 (base : Int) (A : Option Addr) (n c : Nat) (g : Nat → Ln) (w : World) (hA : Ls w A n g) (hG : Gl2 w) (hn : n ≤ 268435456) : Calls Tryd.prog 7 #[.int .u32 base, .slice A n c] w fun e w' => PutPost g n w e w' := by
  have K11 := Lib.hid (c11 A n c g w hA hG hn)
  unfold WsPost at K11
  clear hA hG
  go_enter Tryd.func7, Tryd.ntmps7
  go_wp2_with fail
  refine (K11.out).mono ?_
  rintro _ w1 (⟨k, er, he, hc, rfl, b1⟩ | ⟨he, V, rfl, ho, b1⟩)
  · have HE := Lib.hid he
    have HB1 := Lib.hid b1
    clear he b1
    rcases hc with rfl | rfl | rfl
    · have K12 := Lib.hid (c12_2 (k : Int) w1)
      unfold errAt at K12
      go_wp2_with fail
      refine (K12.out).mono ?_
      rintro _ w2 ⟨rfl, b2⟩
      go_wp2_with fail
      go_ret2
      exact Or.inl ⟨2, HE.out, by decide, rfl, HB1.out.trans (b2.mono HB1.out.size)⟩
    · have K12 := Lib.hid (c12_6 (k : Int) w1)
      unfold errAt at K12
      go_wp2_with fail
      refine (K12.out).mono ?_
      rintro _ w2 ⟨rfl, b2⟩
      go_wp2_with fail
      go_ret2
      exact Or.inl ⟨6, HE.out, by decide, rfl, HB1.out.trans (b2.mono HB1.out.size)⟩
    · have K12 := Lib.hid (c12_7 (k : Int) w1)
      unfold errAt at K12
      go_wp2_with fail
      refine (K12.out).mono ?_
      rintro _ w2 ⟨rfl, b2⟩
      go_wp2_with fail
      go_ret2
      exact Or.inl ⟨7, HE.out, by decide, rfl, HB1.out.trans (b2.mono HB1.out.size)⟩
  · have HE := Lib.hid he
    have HB1 := Lib.hid b1
    obtain ⟨A1, c1, rfl, -⟩ := own_slice ho
    have HO := Lib.hid ho
    clear he b1 ho
    go_wp2_with fail
    refine (c12_nil _).mono ?_
    rintro _ _ ⟨rfl, rfl⟩
    go_wp2_with fail
    go_ret2
    exact Or.inr ⟨HE.out, _, rfl, HO.out, HB1.out⟩
end Go.Proofs.YtodpeiamophjjaaDoor
