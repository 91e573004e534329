import Derived.Test.YtblfnjdbihhglaaGreatDoorLSi
import Derived.Test.YtblfnjdbihhglaaGreatDoorLD
import Derived.Laws.AppendOwn
namespace Go.Proofs.YtblfnjdbihhglaaGreatDoor.Li
open Go.ChangeShapes Go.WideShapes Go.ChangeAt Go.RowKit
set_option linter.unusedVariables false
/-- a blank or a tab -/
def pB (n : Nat) : Bool := decide (n = 32 ∨ n = 9)
/-- the words that a line says -/
def wordsB (s : ByteArray) : List ByteArray := (Lib.goFieldsP pB s).takeWhile (fun t => !decide (bb t 0 = 35))
theorem pred33 (w : World) : PredAtRunes Tryz.prog 66 #[] pB w := by
  intro W x hx hb
  show Calls Tryz.prog 66 #[.int .i32 (x : Int)] W _
  refine (c33 (x : Int) W).mono ?_
  rintro e w' ⟨he, rfl⟩
  refine ⟨?_, 0, rfl⟩
  rw [he]
  congr 2
  unfold pB
  rw [decide_eq_decide]
  omega
theorem enter33 (args : Array Value) (w : World) : (callFunc 66 args).run Tryz.prog w = .ok (.enter 66 args) w := enters_of Tryz.func66 (by kernel_rfl) rfl args w
theorem c32 (s : ByteArray) (hs : s.size ≤ 4294967296) (w : World) :
    Calls Tryz.prog 65 #[.string s, .func (.func 66) #[] #[]] w fun e w' => ∃ A, e = .returned (.slice (some ⟨A, 0, none⟩) (Lib.goFieldsP pB s).length (Lib.goFieldsP pB s).length) ∧ w.heap.size ≤ A ∧
      w'.ownsRow w.heap.size 9 1 (.slice (some ⟨A, 0, none⟩) (Lib.goFieldsP pB s).length (Lib.goFieldsP pB s).length) (Lib.goFieldsP pB s).length ((Lib.goFieldsP pB s).map Value.string) ∧ Below w.heap.size w w' :=
  Tryz.strings_FieldsFunc_runes 66 #[] enter33 pB s w hs (pred33 w)
theorem c35 (s : ByteArray) (hs : s.size ≤ 281474976710656) (w : World) : Calls Tryz.prog 68 #[.string s] w fun e w' => e = .returned (.string s) ∧ Below w.heap.size w w' := by
  have K := Lib.hid (Tryz.stringslite_Clone s)
  go_enter Tryz.func68, Tryz.ntmps68
  go_wp2_with fail
  refine (K.out _ hs).mono ?_
  rintro _ w1 ⟨rfl, b1⟩
  go_wp2_with fail
  go_ret
  exact ⟨rfl, b1⟩
theorem own_base {w : World} {B B' e size n : Nat} {v : Value} {xs : List Value} (h : w.ownsRow B e size v n xs) (hB : B' ≤ B) : w.ownsRow B' e size v n xs := by
  obtain ⟨h1, h2⟩ := h
  refine ⟨h1, ?_⟩
  rcases h2 with h2 | ⟨g, cap, cur, a, b, c, d⟩
  · exact Or.inl h2
  · exact Or.inr ⟨g, cap, cur, a, Nat.le_trans hB b, c, d⟩
theorem own_below {w w' : World} {B e size n : Nat} {v : Value} {xs : List Value} (h : w.ownsRow B e size v n xs) (hb : Below w.heap.size w w') : w'.ownsRow B e size v n xs := by
  obtain ⟨h1, h2⟩ := h
  refine ⟨h1, ?_⟩
  rcases h2 with h2 | ⟨g, cap, cur, a, b, c, d⟩
  · exact Or.inl h2
  · have hg : g < w.heap.size := by
      by_cases hh : g < w.heap.size
      · exact hh
      · rw [Array.getElem?_eq_none (by omega)] at c; cases c
    exact Or.inr ⟨g, cap, cur, a, b, by rw [hb.block g hg]; exact c, d⟩
theorem gr_below {B : Nat} {a w w' : World} {v : Value} {e size n : Nat} {xs : List Value} (h : Below B a w) (ho : w.ownsRow B e size v n xs) (hg : w.grownBy w' v.ownBlock) (hB : B ≤ w.heap.size) : Below B a w' :=
  h.grown hg hB (fun k hk => (ho.lt k hk).1)
theorem take_snoc {α : Type} (l : List α) (k : Nat) (h : k < l.length) : l.take (k + 1) = l.take k ++ [l[k]] := by
  rw [List.take_add_one, List.getElem?_eq_getElem h]; rfl
theorem tw_stop {α : Type} (p : α → Bool) : ∀ (l : List α) (k : Nat) (h : k < l.length), (∀ j, (hj : j < l.length) → j < k → p l[j] = true) → p l[k] = false → l.takeWhile p = l.take k
  | [], k, h, _, _ => absurd h (by simp)
  | a :: t, 0, h, _, hp => by simp at hp; simp [hp]
  | a :: t, k + 1, h, hj, hp => by
    have h0 := hj 0 (by simp) (by omega)
    simp at h0
    rw [List.takeWhile_cons, h0]
    simp only [if_true, List.take_succ_cons]
    congr 1
    exact tw_stop p t k (by simpa using h) (fun j h1 h2 => by have := hj (j + 1) (by simpa using h1) (by omega); simpa using this) (by simpa using hp)
theorem tw_all {α : Type} (p : α → Bool) : ∀ (l : List α), (∀ j, (hj : j < l.length) → p l[j] = true) → l.takeWhile p = l
  | [], _ => rfl
  | a :: t, h => by
    have h0 := h 0 (by simp)
    simp at h0
    rw [List.takeWhile_cons, h0]
    simp only [if_true]
    congr 1
    exact tw_all p t (fun j hj => by have := h (j + 1) (by simpa using hj); simpa using this)
theorem addr_add (A k : Nat) : (⟨A, 0, none⟩ : Addr).add k = ⟨A, k, none⟩ := by
  unfold Addr.add
  split <;> simp_all
/-- so many of the pieces, put into a row -/
def RW (w1 : World) (B : Nat) (ps : List ByteArray) (l i : Value) (wr : World) : Prop :=
  ∃ k : Nat, k ≤ ps.length ∧ i = .int .i64 (k : Int) ∧ wr.ownsRow B 9 1 l k ((ps.take k).map Value.string) ∧ Below B w1 wr ∧ ∀ j, (h : j < ps.length) → j < k → (!decide (bb ps[j] 0 = 35)) = true
theorem has0 (s : ByteArray) : (decide (0 < s.size) && decide (bb s 0 = 35)) = decide (bb s 0 = 35) := by
  by_cases h : 0 < s.size
  · simp [h]
  · have : bb s 0 = 0 := by unfold bb; rw [dif_neg h]
    simp [h, this]
theorem one_cell (w : World) (x : Value) (t : TypeId) : ∀ (j : Nat) (u : Value), [x][j]? = some u → (w.alloc (.cells #[x] t)).cell? ((⟨w.heap.size, 0, none⟩ : Addr).add j) = some u := by
  intro j u h
  cases j with
  | zero =>
    simp at h
    subst h
    exact World.cell?_alloc_at _ _ _ _ (by simp)
  | succ j => simp at h
set_option maxHeartbeats 4000000 in
theorem c19 (s : ByteArray) (hs : s.size ≤ 16777216) (w : World) (hN : (Lib.goFieldsP pB s).length ≤ 16777216) (hP : ∀ p ∈ Lib.goFieldsP pB s, p.size ≤ 16777216) :
    Calls Tryz.prog 41 #[.string s] w fun e w' => ∃ v, e = .returned v ∧ w'.ownsRow w.heap.size 9 1 v (wordsB s).length ((wordsB s).map Value.string) ∧ Below w.heap.size w w' := by
  obtain ⟨i0, hi, hz⟩ : ∃ i, Tryz.prog.info? 9 = some i ∧ (i.zero, i.size, i.bytes) = (some (.string ⟨#[]⟩), 1, 16) := by
    have h : (Tryz.prog.info? 9).map (fun i => (i.zero, i.size, i.bytes)) = some (some (.string ⟨#[]⟩), 1, 16) := by kernel_rfl
    cases hq : Tryz.prog.info? 9 with
    | none => rw [hq] at h; cases h
    | some i => rw [hq] at h; exact ⟨i, rfl, by simpa using h⟩
  simp only [Prod.mk.injEq] at hz
  obtain ⟨hz0, hz1, hz2⟩ := hz
  have K := Lib.hid (c32 s (by omega) w)
  have HW : Hid (wordsB s = (Lib.goFieldsP pB s).takeWhile (fun t => !decide (bb t 0 = 35))) := Lib.hid rfl
  generalize wordsB s = ws at *
  generalize Lib.goFieldsP pB s = ps at *
  have HI := Lib.hid hi
  have HZ0 := Lib.hid hz0
  have HZ1 := Lib.hid hz1
  have HZ2 := Lib.hid hz2
  clear hi hz0 hz1 hz2
  go_enter Tryz.func41, Tryz.ntmps41
  go_wp2_with fail
  refine (K.out).mono ?_
  rintro _ w1 ⟨A, rfl, hA, ho, b1⟩
  have HO := Lib.hid ho
  have HA := Lib.hid hA
  have HB := Lib.hid b1
  have HC := Lib.hid (ho.cells (g := A) rfl)
  have hlt := (ho.lt A rfl).2
  clear ho hA b1
  go_wp2_with fail
  go_loopw [3, 9] (fun l i wr => RW w1 w1.heap.size ps l i wr) (fun _ i _ => ps.length - (intOf i).toNat)
  case atStart => exact ⟨0, by omega, rfl, World.ownsRow_nil _ _ _ _, Below.refl _ _, fun j _ hj => absurd hj (by omega)⟩
  case round =>
    obtain ⟨k, hk, rfl, ho, hb, hall⟩ := hrel
    have HO2 := Lib.hid ho
    have HB2 := Lib.hid hb
    have HL := Lib.hid hall
    clear ho hb hall
    by_cases hkn : k < ps.length
    · have hcell : wr.cell? ⟨A, k, none⟩ = some (.string ps[k]) := by
        rw [HB2.out.cell (p := ⟨A, k, none⟩) hlt]
        have := HC.out k (.string ps[k]) (by rw [List.getElem?_map, List.getElem?_eq_getElem hkn]; rfl)
        rw [addr_add] at this
        exact this
      have hsz : (ps[k]).size ≤ 16777216 := hP _ (List.getElem_mem hkn)
      have K34 := Lib.hid (c34 ps[k] (by omega))
      rw [has0] at K34
      have K35 := Lib.hid (c35 ps[k] (by omega))
      have HT := Lib.hid (take_snoc ps k hkn)
      have HS : Hid ((!decide (bb ps[k] 0 = 35)) = false → ws = ps.take k) := Lib.hid fun h => by
        rw [HW.out]; exact tw_stop _ ps k hkn (fun j h1 h2 => HL.out j h1 h2) h
      have HS2 : Hid ((!decide (bb ps[k] 0 = 35)) = true → ∀ j, (h : j < ps.length) → j < k + 1 → (!decide (bb ps[j] 0 = 35)) = true) := Lib.hid fun h j h1 h2 => by
        by_cases e : j = k
        · subst e; exact h
        · exact HL.out j h1 (by omega)
      generalize ps[k] = x at *
      obtain ⟨q, hq⟩ : ∃ q, decide (bb x 0 = 35) = q := ⟨_, rfl⟩
      rw [hq] at K34 HS HS2
      clear hq
      go_wp2_with fail
      refine (K34.out _).mono ?_
      rintro _ _ ⟨rfl, rfl⟩
      cases q
      · have HS3 := Lib.hid (HS2.out rfl)
        go_wp2_with fail
        refine (K35.out _).mono ?_
        rintro _ w4 ⟨rfl, b4⟩
        have HB4 := Lib.hid (HB2.out.trans (b4.mono HB2.out.size))
        have HO4 := Lib.hid (own_below HO2.out b4)
        clear b4
        have z4 := HB4.out.size
        go_wp2_with (at_builtin; refine wpList_append_own _ rfl _ _ 22 rfl w1.heap.size 9 i0 (.string ⟨#[]⟩) 1 16 Tryz.underlying22 HI.out HZ0.out HZ1.out HZ2.out rfl (by decide) _ _ _ rfl (HO4.out.alloc _) ⟨w4.heap.size, 0, none⟩ 1 1 [.string x] rfl rfl (one_cell _ _ _) (fun x hx => by simp at hx; subst hx; rfl) (by unfold maxLen; omega) (by omega) (by simp; omega) ?_; intro v' w5 hown5 hgrow5 hnil5)
        go_roundw
        case rel => exact ⟨k + 1, hkn, by go_num, by rw [HT.out, List.map_append]; exact hown5, gr_below (HB4.out.alloc HB4.out.size _) (HO4.out.alloc _) hgrow5 (by simp; omega), HS3.out⟩
        case measure => simp [intOf]; omega
      · have HS3 := Lib.hid (HS.out rfl)
        have hl : (ps.take k).length = k := by simp; omega
        have HL2 := Lib.hid hl
        clear hl
        go_wp2_with fail
        go_ret
        refine ⟨_, rfl, ?_, HB.out.trans (HB2.out.mono HB.out.size)⟩
        rw [HS3.out, HL2.out]
        exact own_base HO2.out HB.out.size
    · have hkk : k = ps.length := by omega
      subst hkk
      have HS3 : Hid (ws = ps) := Lib.hid (by rw [HW.out]; exact tw_all _ ps (fun j h => HL.out j h h))
      have HT : Hid (ps.take ps.length = ps) := Lib.hid (List.take_length ..)
      go_wp2_with fail
      go_ret
      refine ⟨_, rfl, ?_, HB.out.trans (HB2.out.mono HB.out.size)⟩
      have := HO2.out
      rw [HT.out] at this
      rw [HS3.out]
      exact own_base this HB.out.size
end Go.Proofs.YtblfnjdbihhglaaGreatDoor.Li
