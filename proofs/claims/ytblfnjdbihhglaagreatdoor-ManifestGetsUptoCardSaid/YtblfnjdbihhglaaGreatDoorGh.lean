import Derived.Test.YtblfnjdbihhglaaGreatDoorGb
import Derived.Test.YtblfnjdbihhglaaGreatDoorGk
import Derived.Test.YtblfnjdbihhglaaGreatDoorRaz
import Derived.Test.YtblfnjdbihhglaaGreatDoorSz
import Derived.Test.YtblfnjdbihhglaaGreatDoorRgz
namespace Go.Proofs.YtblfnjdbihhglaaGreatDoor
open Go.ChangeShapes Go.WideShapes Go.ChangeAt Go.RowKit
set_option linter.unusedVariables false
set_option linter.unusedSimpArgs false
theorem addM_eq (cs : List ByteArray) (es : List Ed) (x : Ed) (ok : Bool) (a b : ByteArray) (h : (ok && formB x a b) = true) : addM cs es x ok a b =
    (if x.k = 2 then
      match nmAt cs b with
      | none => (6, x)
      | some d => match nmAt cs a with
        | none => (6, x)
        | some f => (tailM es (setE x f (d : Int)), setE x f (d : Int))
    else match nmAt cs a with
      | none => (6, x)
      | some f => (tailM es (setE x f (-1)), setE x f (-1))) := by
  unfold addM
  rw [if_neg (by rw [h]; decide)]
  rfl
theorem addS_bad {cs : List ByteArray} {es : List Ed} {x : Ed} {ok : Bool} {a b : ByteArray} (h : (ok && formB x a b) = false) : addS cs es (addM cs es x ok a b) = (5, cs, es) := by
  unfold addM
  rw [if_pos h]
  rfl
theorem addS_congr (cs : List ByteArray) (es : List Ed) (x x' : Ed) (ok ok' : Bool) (a b b' : ByteArray) (hk : (ok && formB x a b) = (ok' && formB x' a b')) (hx : (ok && formB x a b) = true → x.k = x'.k ∧ x.nm = x'.nm ∧ x.wh = x'.wh ∧ (x.k = 2 → b = b')) :
    addS cs es (addM cs es x ok a b) = addS cs es (addM cs es x' ok' a b') := by
  cases hq : (ok && formB x a b)
  · rw [addS_bad hq, addS_bad (hk.symm.trans hq)]
  · obtain ⟨h1, h2, h3, h4⟩ := hx hq
    rw [addM_eq _ _ _ _ _ _ hq, addM_eq _ _ _ _ _ _ (hk.symm.trans hq)]
    have hs : ∀ f d, setE x f d = setE x' f d := fun f d => by unfold setE; rw [h1, h2, h3]
    by_cases h : x.k = 2
    · rw [if_pos h, if_pos (h1.symm.trans h), h4 h]
      cases nmAt cs b' with
      | none => rfl
      | some d =>
        cases nmAt cs a with
        | none => rfl
        | some f => simp only [hs]
    · rw [if_neg h, if_neg (fun hh => h (h1.trans hh))]
      cases nmAt cs a with
      | none => rfl
      | some f => simp only [hs]
theorem form_k (x : Ed) (a b b' : ByteArray) (h : x.k ≠ 2) : formB x a b = formB x a b' := by
  unfold formB
  rw [decide_eq_false h]
  rfl
theorem form_fd (k : Nat) (fr dt fr' dt' : Int) (nm : ByteArray) (wh : Nat) (a b : ByteArray) : formB ⟨k, fr, dt, nm, wh⟩ a b = formB ⟨k, fr', dt', nm, wh⟩ a b := rfl
theorem form_what {x : Ed} {a b : ByteArray} (h : whatB x.k x.wh = false) : formB x a b = false := by
  unfold formB
  rw [h]
  simp
theorem w1_big {a b : Nat} (ha : a ≤ 255) (hb : 4088 < b) : whatB 1 (a + 256 * b) = false := by
  unfold whatB
  rw [if_pos rfl, show (a + 256 * b) % 256 = a by omega, show (a + 256 * b) / 256 = b by omega]
  unfold w1
  simp
  omega
theorem w3_big {a b : Nat} (ha : a ≤ 65535) (hb : 256 < b) : whatB 3 (a + 65536 * b) = false := by
  unfold whatB
  rw [if_neg (by decide), if_pos rfl, show (a + 65536 * b) % 65536 = a by omega, show (a + 65536 * b) / 65536 = b by omega]
  unfold w3
  simp
  omega
theorem two_same (kd M L l3 l4 : Nat) (s3 s4 nm a b b' : ByteArray) (h1 : M = l3 + 1) (h2 : L ≤ l4) (hkd : kd ≠ 2) (hbig : ∀ x y, x ≤ l3 → L < y → whatB kd (x + M * y) = false) (cs : List ByteArray) (es : List Ed) :
    addS cs es (addM cs es ⟨kd, 0, 0, nm, twoN M L s3 s4⟩ (twoK M L s3 s4) a b) = addS cs es (addM cs es ⟨kd, 0, -1, nm, decN s3 + M * decN s4⟩ ((decB s3 && decide (decN s3 ≤ l3)) && (decB s4 && decide (decN s4 ≤ l4))) a b') := by
  classical
  by_cases ht : twoB M L s3 s4
  · obtain ⟨t1, t2, t3, t4⟩ := id ht
    have e1 : twoK M L s3 s4 = true := by unfold twoK; exact decide_eq_true ht
    have e2 : twoN M L s3 s4 = decN s3 + M * decN s4 := by unfold twoN; rw [if_pos ht]
    have e3 : ((decB s3 && decide (decN s3 ≤ l3)) && (decB s4 && decide (decN s4 ≤ l4))) = true := by rw [t1, t2, decide_eq_true (by omega), decide_eq_true (by omega)]; rfl
    rw [e1, e2, e3]
    exact addS_congr _ _ _ _ _ _ _ _ _ (by rw [form_k _ a b b' hkd]; rfl) (fun _ => ⟨rfl, rfl, rfl, fun h => absurd h hkd⟩)
  · have e1 : twoK M L s3 s4 = false := by unfold twoK; exact decide_eq_false ht
    rw [addS_bad (by rw [e1]; rfl), addS_bad]
    cases hq : ((decB s3 && decide (decN s3 ≤ l3)) && (decB s4 && decide (decN s4 ≤ l4)))
    · rfl
    · simp only [Bool.and_eq_true, decide_eq_true_eq] at hq
      obtain ⟨⟨q1, q2⟩, q3, q4⟩ := hq
      rw [Bool.true_and]
      refine form_what (hbig _ _ q2 ?_)
      apply Decidable.byContradiction
      intro hh
      exact ht ⟨q1, q3, by omega, by omega⟩
/-- a line of no compartment, by the reference's edge -/
theorem step_edge (cs : List ByteArray) (es : List Ed) (n : Nat) (h : Nat → ByteArray) (hc : ¬ (h 0 = sComp ∧ n = 2)) : stepM cs es n h = addS cs es (addM cs es (edR h) (okR n h) (h 1) (h 2)) := by
  have bad : okR n h = false → addS cs es (addM cs es (edR h) (okR n h) (h 1) (h 2)) = (5, cs, es) := fun e => addS_bad (by rw [e]; rfl)
  unfold stepM
  by_cases h1 : h 0 = sComp
  · rw [if_pos h1, if_neg (fun hn => hc ⟨h1, hn⟩)]
    refine (bad ?_).symm
    unfold okR
    simp only [h1]
    repeat (rw [if_neg (fun hh => absurd hh.1 (by decide))])
  rw [if_neg h1]
  by_cases h2 : h 0 = sExport
  · rw [if_pos h2]
    by_cases hn : n = 5
    · rw [if_pos hn, show edR h = ⟨1, 0, -1, h 2, decN (h 3) + 256 * decN (h 4)⟩ from by unfold edR; rw [if_pos h2], show okR n h = _ from by unfold okR; rw [if_pos ⟨h2, hn⟩]]
      exact two_same 1 256 4088 255 65535 _ _ _ _ _ _ rfl (by decide) (by decide) (fun x y hx hy => w1_big hx hy) _ _
    · rw [if_neg hn]
      refine (bad ?_).symm
      unfold okR
      simp only [h2]
      rw [if_neg (fun hh => hn hh.2)]
      repeat (rw [if_neg (fun hh => absurd hh.1 (by decide))])
  rw [if_neg h2]
  by_cases h3 : h 0 = sCall
  · rw [if_pos h3]
    by_cases hn : n = 4
    · rw [if_pos hn, show edR h = ⟨2, 0, -1, h 3, 0⟩ from by unfold edR; rw [if_neg h2, if_pos h3], show okR n h = true from by unfold okR; rw [if_neg (fun hh => h2 hh.1), if_pos ⟨h3, hn⟩]]
      exact addS_congr _ _ _ _ _ _ _ _ _ rfl (fun _ => ⟨rfl, rfl, rfl, fun _ => rfl⟩)
    · rw [if_neg hn]
      refine (bad ?_).symm
      unfold okR
      simp only [h3]
      rw [if_neg (fun hh => absurd hh.1 (by decide)), if_neg (fun hh => hn hh.2)]
      repeat (rw [if_neg (fun hh => absurd hh.1 (by decide))])
  rw [if_neg h3]
  by_cases h4 : h 0 = sDevice
  · rw [if_pos h4]
    by_cases hn : n = 5
    · rw [if_pos hn, show edR h = ⟨3, 0, -1, h 2, decN (h 3) + 65536 * decN (h 4)⟩ from by unfold edR; rw [if_neg h2, if_neg h3, if_pos h4], show okR n h = _ from by unfold okR; rw [if_neg (fun hh => h2 hh.1), if_neg (fun hh => h3 hh.1), if_pos ⟨h4, hn⟩]]
      exact two_same 3 65536 256 65535 65535 _ _ _ _ _ _ rfl (by decide) (by decide) (fun x y hx hy => w3_big hx hy) _ _
    · rw [if_neg hn]
      refine (bad ?_).symm
      unfold okR
      rw [if_neg (fun hh => h2 hh.1), if_neg (fun hh => h3 hh.1), if_neg (fun hh => hn hh.2), if_neg (fun hh => absurd (h4.symm.trans hh.1) (by decide)), if_neg (fun hh => absurd (h4.symm.trans hh.1) (by decide))]
  rw [if_neg h4]
  by_cases h5 : h 0 = sShare
  · rw [if_pos h5]
    by_cases hn : n = 4
    · rw [if_pos hn, show edR h = ⟨4, 0, -1, h 2, if h 3 = ⟨#[114, 119]⟩ then 3 else 1⟩ from by unfold edR; rw [if_neg h2, if_neg h3, if_neg h4, if_pos h5], show okR n h = _ from by unfold okR; rw [if_neg (fun hh => h2 hh.1), if_neg (fun hh => h3 hh.1), if_neg (fun hh => h4 hh.1), if_pos ⟨h5, hn⟩]]
      exact addS_congr _ _ _ _ _ _ _ _ _ rfl (fun _ => ⟨rfl, rfl, rfl, fun hh => absurd hh (by simp)⟩)
    · rw [if_neg hn]
      refine (bad ?_).symm
      unfold okR
      rw [if_neg (fun hh => h2 hh.1), if_neg (fun hh => h3 hh.1), if_neg (fun hh => h4 hh.1), if_neg (fun hh => hn hh.2), if_neg (fun hh => absurd (h5.symm.trans hh.1) (by decide))]
  rw [if_neg h5]
  by_cases h6 : h 0 = sStart
  · rw [if_pos h6]
    by_cases hn : n = 3
    · rw [if_pos hn, show edR h = ⟨5, 0, -1, h 2, 0⟩ from by unfold edR; rw [if_neg h2, if_neg h3, if_neg h4, if_neg h5], show okR n h = _ from by unfold okR; rw [if_neg (fun hh => h2 hh.1), if_neg (fun hh => h3 hh.1), if_neg (fun hh => h4 hh.1), if_neg (fun hh => h5 hh.1), if_pos ⟨h6, hn⟩]]
      exact addS_congr _ _ _ _ _ _ _ _ _ rfl (fun _ => ⟨rfl, rfl, rfl, fun hh => absurd hh (by simp)⟩)
    · rw [if_neg hn]
      refine (bad ?_).symm
      unfold okR
      rw [if_neg (fun hh => h2 hh.1), if_neg (fun hh => h3 hh.1), if_neg (fun hh => h4 hh.1), if_neg (fun hh => h5 hh.1), if_neg (fun hh => hn hh.2)]
  rw [if_neg h6]
  refine (bad ?_).symm
  unfold okR
  rw [if_neg (fun hh => h2 hh.1), if_neg (fun hh => h3 hh.1), if_neg (fun hh => h4 hh.1), if_neg (fun hh => h5 hh.1), if_neg (fun hh => h6 hh.1)]
end Go.Proofs.YtblfnjdbihhglaaGreatDoor
namespace Go.Proofs.YtblfnjdbihhglaaGreatDoor
open Go.ChangeShapes Go.WideShapes Go.ChangeAt Go.RowKit
set_option linter.unusedVariables false
set_option linter.unusedSimpArgs false
theorem edR_k (h : Nat → ByteArray) : 1 ≤ (edR h).k ∧ (edR h).k ≤ 5 := by
  unfold edR
  repeat' split
  all_goals (simp only; omega)
theorem nmI_neg {cs : List ByteArray} {s : ByteArray} (h : nmI cs s < 0) : nmAt cs s = none := by
  unfold nmI at h
  cases hq : nmAt cs s with
  | none => rfl
  | some k => rw [hq] at h; simp at h; omega
theorem nmI_pos {cs : List ByteArray} {s : ByteArray} (h : 0 ≤ nmI cs s) : ∃ k, nmAt cs s = some k ∧ nmI cs s = (k : Int) ∧ k < cs.length := by
  unfold nmI at h ⊢
  cases hq : nmAt cs s with
  | none => rw [hq] at h; simp at h
  | some k => exact ⟨k, rfl, rfl, nmAt_lt hq⟩
/-- an edge of numbers -/
def numE (cs : List ByteArray) (x : Ed) (a b : ByteArray) : Ed := ⟨x.k, nmI cs a, if x.k = 2 then nmI cs b else -1, x.nm, x.wh⟩
def zerE (x : Ed) : Ed := ⟨x.k, 0, if x.k = 2 then 0 else -1, x.nm, x.wh⟩
theorem edB_form {y : Ed} {n : Nat} (hk : 1 ≤ y.k ∧ y.k ≤ 5) (h0 : 0 ≤ y.fr ∧ y.fr < n) (ht : toB y n = true) : edB y n = (nmB y.k y.nm && whatB y.k y.wh) := by
  unfold edB
  rw [ht, decide_eq_true ⟨hk.1, hk.2, h0.1, h0.2⟩]
  rfl
theorem ref_r1 {cs : List ByteArray} {es : List Ed} {x : Ed} {ok : Bool} {a b : ByteArray} (h : (ok && (nameB a && (!decide (x.k = 2) || nameB b))) = false) : addS cs es (addM cs es x ok a b) = (5, cs, es) := by
  refine addS_bad ?_
  unfold formB
  revert h
  cases ok <;> cases nameB a <;> cases nmB x.k x.nm <;> cases whatB x.k x.wh <;> cases (!decide (x.k = 2) || nameB b) <;> decide
theorem form_two {x : Ed} {ok : Bool} {a b : ByteArray} (h : (ok && (nameB a && (!decide (x.k = 2) || nameB b))) = true) : (ok && formB x a b) = (nmB x.k x.nm && whatB x.k x.wh) := by
  unfold formB
  revert h
  cases ok <;> cases nameB a <;> cases nmB x.k x.nm <;> cases whatB x.k x.wh <;> cases (!decide (x.k = 2) || nameB b) <;> decide
theorem ref_r2 {cs : List ByteArray} {es : List Ed} {x : Ed} {ok : Bool} {a b : ByteArray} (hk : 1 ≤ x.k ∧ x.k ≤ 5) (h : (ok && (nameB a && (!decide (x.k = 2) || nameB b))) = true) (hn : nmI cs a < 0 ∨ (x.k = 2 ∧ nmI cs b < 0)) :
    addS cs es (addM cs es x ok a b) = (if edB (zerE x) 1 = true then 6 else 5, cs, es) := by
  have hz : edB (zerE x) 1 = (nmB x.k x.nm && whatB x.k x.wh) := edB_form (y := zerE x) hk (by show (0 : Int) ≤ 0 ∧ (0 : Int) < ((1 : Nat) : Int); omega) (by
    unfold toB zerE
    simp only
    split <;> simp)
  rw [hz, ← form_two h]
  cases hq : (ok && formB x a b)
  · rw [addS_bad hq]; rfl
  · rw [addM_eq _ _ _ _ _ _ hq, if_pos rfl]
    have h6 : addS cs es (6, x) = (6, cs, es) := rfl
    by_cases h2 : x.k = 2
    · rw [if_pos h2]
      cases hb : nmAt cs b with
      | none => exact h6
      | some d =>
        rcases hn with hn | hn
        · rw [nmI_neg hn]; exact h6
        · have := nmI_neg hn.2; rw [hb] at this; cases this
    · rw [if_neg h2]
      rcases hn with hn | hn
      · rw [nmI_neg hn]; exact h6
      · exact absurd hn.1 h2
theorem ref_r3 {cs : List ByteArray} {es : List Ed} {x : Ed} {ok : Bool} {a b : ByteArray} (hk : 1 ≤ x.k ∧ x.k ≤ 5) (h : (ok && (nameB a && (!decide (x.k = 2) || nameB b))) = true) (ha : 0 ≤ nmI cs a) (hb : x.k = 2 → 0 ≤ nmI cs b) :
    addS cs es (addM cs es x ok a b) = (if edB (numE cs x a b) cs.length = true then addS cs es (tailM es (numE cs x a b), numE cs x a b) else (5, cs, es)) := by
  obtain ⟨f, f1, f2, f3⟩ := nmI_pos ha
  have hz : edB (numE cs x a b) cs.length = (nmB x.k x.nm && whatB x.k x.wh) := edB_form (y := numE cs x a b) hk (by show 0 ≤ nmI cs a ∧ nmI cs a < _; omega) (by
    unfold toB numE
    simp only
    by_cases h2 : x.k = 2
    · obtain ⟨d, d1, d2, d3⟩ := nmI_pos (hb h2)
      rw [if_pos h2, if_pos h2, d2]
      exact decide_eq_true ⟨by omega, by omega⟩
    · rw [if_neg h2, if_neg h2]; rfl)
  rw [hz, ← form_two h]
  cases hq : (ok && formB x a b)
  · rw [addS_bad hq]; rfl
  · rw [addM_eq _ _ _ _ _ _ hq, if_pos rfl, f1]
    by_cases h2 : x.k = 2
    · obtain ⟨d, d1, d2, d3⟩ := nmI_pos (hb h2)
      rw [if_pos h2, d1]
      have : numE cs x a b = setE x f (d : Int) := by unfold numE setE; rw [if_pos h2, f2, d2]
      rw [this]
    · rw [if_neg h2]
      have : numE cs x a b = setE x f (-1) := by unfold numE setE; rw [if_neg h2, f2]
      rw [this]
theorem tail_none {cs : List ByteArray} {es : List Ed} {y : Ed} (h : es.getLast? = none) : addS cs es (tailM es y, y) = (0, cs, es ++ [y]) := by
  unfold addS tailM pushE
  rw [h]
  rfl
theorem tail_lt {cs : List ByteArray} {es : List Ed} {y l : Ed} (h : es.getLast? = some l) (hl : ltE y l = true) : addS cs es (tailM es y, y) = (5, cs, es) := by
  have hc : 0 < cmpE l y := by
    rcases cmpE_cases l y with ⟨_, _, h3, _⟩ | ⟨_, _, h3, _⟩ | ⟨h1, _⟩
    · rw [hl] at h3; cases h3
    · rw [hl] at h3; cases h3
    · exact h1
  unfold addS tailM pushE
  rw [h]
  simp only
  rw [if_pos hc]
  rfl
theorem tail_eq {cs : List ByteArray} {es : List Ed} {y l : Ed} (h : es.getLast? = some l) (he : y = l) : addS cs es (tailM es y, y) = (7, cs, es) := by
  subst he
  have hc : cmpE y y = 0 := by
    rcases cmpE_cases y y with ⟨_, _, _, h4⟩ | ⟨h1, _⟩ | ⟨_, _, _, h4⟩
    · exact absurd rfl h4
    · exact h1
    · exact absurd rfl h4
  unfold addS tailM pushE
  rw [h]
  simp only
  rw [if_neg (by omega), if_pos hc]
  rfl
theorem tail_ok {cs : List ByteArray} {es : List Ed} {y l : Ed} (h : es.getLast? = some l) (hl : ltE y l = false) (he : y ≠ l) : addS cs es (tailM es y, y) = (0, cs, es ++ [y]) := by
  have hc : cmpE l y < 0 := by
    rcases cmpE_cases l y with ⟨h1, _⟩ | ⟨_, _, _, h4⟩ | ⟨_, _, h3, _⟩
    · exact h1
    · exact absurd h4.symm he
    · rw [hl] at h3; cases h3
  unfold addS tailM pushE
  rw [h]
  simp only
  rw [if_neg (by omega), if_neg (by omega)]
  rfl
end Go.Proofs.YtblfnjdbihhglaaGreatDoor
namespace Go.Proofs.YtblfnjdbihhglaaGreatDoor
open Go.ChangeShapes Go.WideShapes Go.ChangeAt Go.RowKit
set_option linter.unusedVariables false
set_option linter.unusedSimpArgs false
theorem okR_len {n : Nat} {h : Nat → ByteArray} (e : okR n h = true) : 3 ≤ n ∧ ((edR h).k = 2 → n = 4) := by
  unfold okR at e
  unfold edR
  by_cases h1 : h 0 = sExport ∧ n = 5
  · rw [if_pos h1.1]
    exact ⟨by omega, fun hh => absurd hh (by simp)⟩
  rw [if_neg h1] at e
  by_cases h2 : h 0 = sCall ∧ n = 4
  · exact ⟨by omega, fun _ => h2.2⟩
  rw [if_neg h2] at e
  by_cases h3 : h 0 = sDevice ∧ n = 5
  · rw [if_neg (by rw [h3.1]; decide), if_neg (by rw [h3.1]; decide), if_pos h3.1]
    exact ⟨by omega, fun hh => absurd hh (by simp)⟩
  rw [if_neg h3] at e
  by_cases h4 : h 0 = sShare ∧ n = 4
  · exact ⟨by omega, fun _ => h4.2⟩
  rw [if_neg h4] at e
  by_cases h5 : h 0 = sStart ∧ n = 3
  · rw [if_neg (by rw [h5.1]; decide), if_neg (by rw [h5.1]; decide), if_neg (by rw [h5.1]; decide), if_neg (by rw [h5.1]; decide)]
    exact ⟨by omega, fun hh => absurd hh (by simp)⟩
  rw [if_neg h5] at e
  cases e
theorem edR_form (h : Nat → ByteArray) : ∃ ek enm ewh, edR h = ⟨ek, 0, -1, enm, ewh⟩ := by
  unfold edR
  repeat' split
  all_goals exact ⟨_, _, _, rfl⟩
/-- what an edge's line makes, of its numbers -/
def EF (S : Nat × List ByteArray × List Ed) (cs : List ByteArray) (es : List Ed) (y z : Ed) (bad : Prop) : Prop :=
  (bad → (edB z 1 = true → S = (6, cs, es)) ∧ (edB z 1 = false → S = (5, cs, es))) ∧
  (¬ bad → (edB y cs.length = false → S = (5, cs, es)) ∧ (edB y cs.length = true → (es = [] → S = (0, cs, es ++ [y])) ∧ ∀ l, es.getLast? = some l → (ltE y l = true → S = (5, cs, es)) ∧ (y = l → S = (7, cs, es)) ∧ (ltE y l = false → y ≠ l → S = (0, cs, es ++ [y]))))
theorem edge_facts {cs : List ByteArray} {es : List Ed} {nn : Nat} {h : Nat → ByteArray} (hco : ¬ (h 0 = sComp ∧ nn = 2)) (hok : okR nn h = true) : ∃ ek enm ewh, edR h = ⟨ek, 0, -1, enm, ewh⟩ ∧ 1 ≤ ek ∧ ek ≤ 5 ∧ 3 ≤ nn ∧ (ek = 2 → nn = 4) ∧
    (nameB (h 1) = false → stepM cs es nn h = (5, cs, es)) ∧ (ek = 2 → nameB (h 2) = false → stepM cs es nn h = (5, cs, es)) ∧
    (nameB (h 1) = true → ek = 2 → nameB (h 2) = true → EF (stepM cs es nn h) cs es ⟨ek, nmI cs (h 1), nmI cs (h 2), enm, ewh⟩ ⟨ek, 0, 0, enm, ewh⟩ (nmI cs (h 1) < 0 ∨ nmI cs (h 2) < 0)) ∧
    (nameB (h 1) = true → ek ≠ 2 → EF (stepM cs es nn h) cs es ⟨ek, nmI cs (h 1), -1, enm, ewh⟩ ⟨ek, 0, -1, enm, ewh⟩ (nmI cs (h 1) < 0)) := by
  obtain ⟨ek, enm, ewh, hed⟩ := edR_form h
  obtain ⟨hn3, hk4⟩ := okR_len hok
  have hk := edR_k h
  rw [step_edge cs es nn h hco, hok, hed]
  rw [hed] at hk4 hk
  simp only at hk4 hk
  have tail : ∀ y : Ed, (es = [] → addS cs es (tailM es y, y) = (0, cs, es ++ [y])) ∧ ∀ l, es.getLast? = some l → (ltE y l = true → addS cs es (tailM es y, y) = (5, cs, es)) ∧ (y = l → addS cs es (tailM es y, y) = (7, cs, es)) ∧ (ltE y l = false → y ≠ l → addS cs es (tailM es y, y) = (0, cs, es ++ [y])) := fun y =>
    ⟨fun e => tail_none (by rw [e]; rfl), fun l hl => ⟨fun a => tail_lt hl a, fun a => tail_eq hl a, fun a b => tail_ok hl a b⟩⟩
  refine ⟨ek, enm, ewh, rfl, hk.1, hk.2, hn3, hk4, fun h1 => ref_r1 (by rw [h1]; simp), fun h2 hb => ref_r1 (by rw [hb]; simp [h2]), fun h1 h2 hb => ?_, fun h1 h2 => ?_⟩
  · subst h2
    have hf : ((true : Bool) && (nameB (h 1) && (!decide ((⟨2, 0, -1, enm, ewh⟩ : Ed).k = 2) || nameB (h 2)))) = true := by rw [h1, hb]; rfl
    have hz : zerE ⟨2, 0, -1, enm, ewh⟩ = ⟨2, 0, 0, enm, ewh⟩ := by unfold zerE; rw [if_pos rfl]
    have hy : numE cs ⟨2, 0, -1, enm, ewh⟩ (h 1) (h 2) = ⟨2, nmI cs (h 1), nmI cs (h 2), enm, ewh⟩ := by unfold numE; rw [if_pos rfl]
    refine ⟨fun hbad => ?_, fun hn => ?_⟩
    · have := ref_r2 (cs := cs) (es := es) (x := ⟨2, 0, -1, enm, ewh⟩) hk hf (by rcases hbad with hh | hh; exact Or.inl hh; exact Or.inr ⟨rfl, hh⟩)
      rw [hz] at this
      exact ⟨fun e => by rw [this, if_pos e], fun e => by rw [this, if_neg (by rw [e]; decide)]⟩
    · have := ref_r3 (cs := cs) (es := es) (x := ⟨2, 0, -1, enm, ewh⟩) hk hf (by omega) (fun _ => by omega)
      rw [hy] at this
      exact ⟨fun e => by rw [this, if_neg (by rw [e]; decide)], fun e => by rw [this, if_pos e]; exact tail _⟩
  · have hf : ((true : Bool) && (nameB (h 1) && (!decide ((⟨ek, 0, -1, enm, ewh⟩ : Ed).k = 2) || nameB (h 2)))) = true := by rw [h1]; simp [h2]
    have hz : zerE ⟨ek, 0, -1, enm, ewh⟩ = ⟨ek, 0, -1, enm, ewh⟩ := by unfold zerE; rw [if_neg h2]
    have hy : numE cs ⟨ek, 0, -1, enm, ewh⟩ (h 1) (h 2) = ⟨ek, nmI cs (h 1), -1, enm, ewh⟩ := by unfold numE; rw [if_neg h2]
    refine ⟨fun hbad => ?_, fun hn => ?_⟩
    · have := ref_r2 (cs := cs) (es := es) (x := ⟨ek, 0, -1, enm, ewh⟩) hk hf (Or.inl hbad)
      rw [hz] at this
      exact ⟨fun e => by rw [this, if_pos e], fun e => by rw [this, if_neg (by rw [e]; decide)]⟩
    · have := ref_r3 (cs := cs) (es := es) (x := ⟨ek, 0, -1, enm, ewh⟩) hk hf (by omega) (fun e => absurd e h2)
      rw [hy] at this
      exact ⟨fun e => by rw [this, if_neg (by rw [e]; decide)], fun e => by rw [this, if_pos e]; exact tail _⟩
end Go.Proofs.YtblfnjdbihhglaaGreatDoor
namespace Go.Proofs.YtblfnjdbihhglaaGreatDoor
open Go.ChangeShapes Go.WideShapes Go.ChangeAt Go.RowKit
set_option linter.unusedVariables false
theorem eq42_ne (x y : Ed) (h : x ≠ y) (w : World) : (Op.equalIn 10000 42 (.agg #[.int .u8 (x.k : Int), .int .i64 x.fr, .int .i64 x.dt, .string x.nm, .int .u32 (x.wh : Int)]) (.agg #[.int .u8 (y.k : Int), .int .i64 y.fr, .int .i64 y.dt, .string y.nm, .int .u32 (y.wh : Int)])).run Tryz.prog w = .ok false w := by
  obtain ⟨k, fr, dt, nm, wh⟩ := x
  obtain ⟨k', fr', dt', nm', wh'⟩ := y
  simp only
  go_simp
  intro h1 h2 h3 h4 h5
  refine h ?_
  have h4 := toList_inj h4
  subst h2 h3 h4
  have a : k = k' := by omega
  have b : wh = wh' := by omega
  rw [a, b]
theorem eq42_yes (y : Ed) (w : World) : (Op.equalIn 10000 42 (.agg #[.int .u8 (y.k : Int), .int .i64 y.fr, .int .i64 y.dt, .string y.nm, .int .u32 (y.wh : Int)]) (.agg #[.int .u8 (y.k : Int), .int .i64 y.fr, .int .i64 y.dt, .string y.nm, .int .u32 (y.wh : Int)])).run Tryz.prog w = .ok true w := by
  obtain ⟨k, fr, dt, nm, wh⟩ := y
  simp only
  go_simp
end Go.Proofs.YtblfnjdbihhglaaGreatDoor
