import Derived.Test.YtapdiionikfgpaaGreatDoorGa
import Derived.Test.YtapdiionikfgpaaGreatDoorGg
import Derived.Test.YtapdiionikfgpaaGreatDoorGi
import Derived.Test.YtapdiionikfgpaaGreatDoorPez
import Derived.Test.YtapdiionikfgpaaGreatDoorGr
import Derived.Test.YtapdiionikfgpaaGreatDoorGq
namespace Go.Proofs.YtapdiionikfgpaaGreatDoor
set_option linter.unusedVariables false
set_option linter.unusedSimpArgs false
/-- what is there is found -/
theorem fnd_mem {α : Type} {P : α → Bool} {l : List α} {x : α} (h : x ∈ l) (hx : P x = true) : (fnd P l).isSome = true := by
  cases hf : fnd P l with
  | some i => rfl
  | none =>
    obtain ⟨j, hj, e⟩ := List.getElem_of_mem h
    have := fnd_none hf j hj
    rw [e, hx] at this
    cases this
theorem fnd_set {α : Type} {P : α → Bool} : ∀ (l : List α) (k : Nat) (c c' : α), l[k]? = some c → P c' = P c → fnd P (l.set k c') = fnd P l
  | [], k, c, c', h, _ => by simp at h
  | a :: l, 0, c, c', h, e => by
    simp at h
    subst h
    rw [List.set_cons_zero, fnd, fnd, e]
  | a :: l, k + 1, c, c', h, e => by
    rw [List.set_cons_succ, fnd, fnd, fnd_set l k c c' (by simpa using h) e]
theorem add_once {α : Type} {l : List α} {x : α} {same : α → Bool} {lim : Nat} {set : List α → Pm} {p q : Pm} (h : addV l x same lim set p = (0, q)) : q = set (l ++ [x]) := by
  unfold addV at h
  split at h
  · cases h
  · split at h
    · cases h
    · simp only [Prod.mk.injEq, true_and] at h
      exact h.symm
theorem add_twice {α : Type} {l : List α} {x : α} {same : α → Bool} {lim : Nat} {set : List α → Pm} {q : Pm} (h : x ∈ l) (hs : same x = true) : addV l x same lim set q = (7, q) := by
  unfold addV
  rw [if_pos (fnd_mem h hs)]
theorem numO_lo {s : ByteArray} {lo hi of n : Nat} (h : numO s lo hi of = some n) : lo ≤ n := by
  unfold numO at h
  obtain ⟨m, -, hm⟩ := Option.bind_eq_some_iff.1 h
  split at hm
  · rename_i hp
    cases hm
    exact hp.1
  · cases hm
theorem once_twice {old : Nat} {n : Option Nat} {set : Nat → Pm} {p q : Pm} {get : Pm → Nat} {set' : Nat → Pm} (h : onceV old n set p = (0, q)) (hn : ∀ x, n = some x → x ≠ 0) (hg : ∀ x, get (set x) = x) : onceV (get q) n set' q = (7, q) := by
  unfold onceV at h ⊢
  cases n with
  | none => cases h
  | some x =>
    simp only at h ⊢
    split at h
    · cases h
    · simp only [Prod.mk.injEq, true_and] at h
      rw [← h, hg, if_pos (hn x rfl)]
theorem two_twice {p q : Pm} {k a : ByteArray} (h : two p k a = (0, q)) : two q k a = (7, q) := by
  unfold two at h ⊢
  by_cases h1 : k = kStack
  · rw [if_pos h1] at h ⊢
    exact once_twice (get := Pm.st) h (fun x hx => by have := numO_lo hx; omega) (fun _ => rfl)
  rw [if_neg h1] at h ⊢
  by_cases h2 : k = kTrusted
  · rw [if_pos h2] at h ⊢
    exact once_twice (get := Pm.tr) h (fun x hx => by have := numO_lo hx; omega) (fun _ => rfl)
  rw [if_neg h2] at h ⊢
  by_cases h3 : k = kComp
  · rw [if_pos h3] at h ⊢
    by_cases h4 : nameB a = true
    · rw [if_pos h4] at h ⊢
      have e := add_once h
      subst e
      exact add_twice (by simp) (by simp [byName, Co.new])
    · rw [if_neg h4] at h; cases h
  · rw [if_neg h3] at h; cases h
/-- a compartment's list: found again, once more -/
theorem upd_twice {p : Pm} {k : Nat} {a : ByteArray} {c c' : Co}
    (hk : fnd (byName a) p.cs = some k) (hc : p.cs[k]? = some c) (hn : c'.nm = c.nm) :
    fnd (byName a) (upd p k c').cs = some k ∧ (upd p k c').cs[k]? = some c' := by
  refine ⟨?_, ?_⟩
  · show fnd (byName a) (p.cs.set k c') = _
    rw [fnd_set p.cs k c c' hc (by unfold byName; rw [hn]), hk]
  · show (p.cs.set k c')[k]? = _
    exact List.getElem?_set_self (List.getElem?_eq_some_iff.1 hc).1
theorem upd_other {p : Pm} {k : Nat} {b : ByteArray} {c c' : Co} (hc : p.cs[k]? = some c) (hn : c'.nm = c.nm) : fnd (byName b) (upd p k c').cs = fnd (byName b) p.cs := by
  show fnd (byName b) (p.cs.set k c') = _
  rw [fnd_set p.cs k c c' hc (by unfold byName; rw [hn])]
theorem file_twice {p q : Pm} {ar : Bool} {a b : ByteArray} (h : fileV p ar a b = (0, q)) (ar' : Bool) : fileV q ar' a b = (7, q) := by
  unfold fileV at h ⊢
  by_cases h1 : nameB a = true ∧ symB b = true
  · rw [if_pos h1] at h ⊢
    cases hk : fnd (byName a) p.cs with
    | none => rw [hk] at h; cases h
    | some k =>
      rw [hk] at h
      simp only at h
      cases hc : p.cs[k]? with
      | none => rw [hc] at h; cases h
      | some c =>
        rw [hc] at h
        simp only at h
        have e := add_once h
        subst e
        obtain ⟨e1, e2⟩ := upd_twice (c' := { c with fs := c.fs ++ [(b, ar)] }) hk hc rfl
        rw [e1]
        simp only
        rw [e2]
        simp only
        have := fnd_mem (P := fun x : ByteArray × Bool => decide (x.1 = b)) (l := c.fs ++ [(b, ar)]) (x := (b, ar)) (by simp) (by simp)
        unfold addV
        rw [if_pos this]
  · rw [if_neg h1] at h; cases h
theorem share_twice {p q : Pm} {o : Option Nat} {a : ByteArray} (h : shareO o p a = (0, q)) : shareO o q a = (7, q) := by
  unfold shareO at h ⊢
  cases o with
  | none => cases h
  | some n =>
    simp only at h ⊢
    by_cases h1 : nameB a = true
    · rw [if_pos h1] at h ⊢
      have e := add_once h
      subst e
      exact add_twice (by simp) (by simp)
    · rw [if_neg h1] at h; cases h
theorem start_twice {p q : Pm} {a b : ByteArray} (h : startV p a b = (0, q)) (hb : symB b = true → b ≠ ⟨#[]⟩) : startV q a b = (7, q) := by
  unfold startV at h ⊢
  by_cases h1 : nameB a = true ∧ symB b = true
  · rw [if_pos h1] at h ⊢
    cases hk : fnd (byName a) p.cs with
    | none => rw [hk] at h; cases h
    | some k =>
      rw [hk] at h
      simp only at h
      split at h
      · cases h
      · simp only [Prod.mk.injEq, true_and] at h
        subst h
        show (match fnd (byName a) p.cs with | none => _ | some k => _) = _
        rw [hk]
        simp only
        rw [if_pos (hb h1.2)]
  · rw [if_neg h1] at h; cases h
theorem import_twice {p q : Pm} {a b c : ByteArray} (h : importV p a b c = (0, q)) : importV q a b c = (7, q) := by
  unfold importV at h ⊢
  by_cases h1 : nameB a = true ∧ nameB b = true ∧ symB c = true
  · rw [if_pos h1] at h ⊢
    cases hk : fnd (byName a) p.cs with
    | none => rw [hk] at h; cases h
    | some k =>
      cases hd : fnd (byName b) p.cs with
      | none => rw [hk, hd] at h; cases h
      | some d =>
        rw [hk, hd] at h
        simp only at h
        cases hc : p.cs[k]? with
        | none => rw [hc] at h; cases h
        | some x =>
          rw [hc] at h
          simp only at h
          have e := add_once h
          subst e
          obtain ⟨e1, e2⟩ := upd_twice (c' := { x with is := x.is ++ [(d, c)] }) hk hc rfl
          rw [e1, upd_other hc (by rfl), hd]
          simp only
          rw [e2]
          simp only
          have := fnd_mem (P := fun y : Nat × ByteArray => decide (y = (d, c))) (l := x.is ++ [(d, c)]) (x := (d, c)) (by simp) (by simp)
          unfold addV
          rw [if_pos this]
  · rw [if_neg h1] at h; cases h
theorem give_twice {p q : Pm} {a b c : ByteArray} (h : giveV p a b c = (0, q)) : giveV q a b c = (7, q) := by
  unfold giveV at h ⊢
  by_cases h1 : nameB a = true ∧ nameB b = true ∧ (c = kR ∨ c = kRw)
  · rw [if_pos h1] at h ⊢
    cases hk : fnd (byName a) p.cs with
    | none => rw [hk] at h; cases h
    | some k =>
      cases hd : fnd (fun x : ByteArray × Nat => decide (x.1 = b)) p.ss with
      | none => rw [hk, hd] at h; cases h
      | some d =>
        rw [hk, hd] at h
        simp only at h
        cases hc : p.cs[k]? with
        | none => rw [hc] at h; cases h
        | some x =>
          rw [hc] at h
          simp only at h
          have e := add_once h
          subst e
          obtain ⟨e1, e2⟩ := upd_twice (c' := { x with gs := x.gs ++ [(d, decide (c = kRw))] }) hk hc rfl
          rw [e1, show (upd p k { x with gs := x.gs ++ [(d, decide (c = kRw))] }).ss = p.ss from rfl, hd]
          simp only
          rw [e2]
          simp only
          have := fnd_mem (P := fun y : Nat × Bool => decide (y.1 = d)) (l := x.gs ++ [(d, decide (c = kRw))]) (x := (d, decide (c = kRw))) (by simp) (by simp)
          unfold addV
          rw [if_pos this]
  · rw [if_neg h1] at h; cases h
theorem export_twice {p q : Pm} {o1 o2 : Option Nat} {a b : ByteArray} (h : exportO o1 o2 p a b = (0, q)) : exportO o1 o2 q a b = (7, q) := by
  unfold exportO at h ⊢
  cases o1 with
  | none => cases h
  | some n =>
    cases o2 with
    | none => cases h
    | some m =>
      simp only at h ⊢
      by_cases h1 : nameB a = true ∧ symB b = true
      · rw [if_pos h1] at h ⊢
        cases hk : fnd (byName a) p.cs with
        | none => rw [hk] at h; cases h
        | some k =>
          rw [hk] at h
          simp only at h
          cases hc : p.cs[k]? with
          | none => rw [hc] at h; cases h
          | some x =>
            rw [hc] at h
            simp only at h
            have e := add_once h
            subst e
            obtain ⟨e1, e2⟩ := upd_twice (c' := { x with es := x.es ++ [(b, n, m)] }) hk hc rfl
            rw [e1]
            simp only
            rw [e2]
            simp only
            have := fnd_mem (P := fun y : ByteArray × Nat × Nat => decide (y.1 = b)) (l := x.es ++ [(b, n, m)]) (x := (b, n, m)) (by simp) (by simp)
            unfold addV
            rw [if_pos this]
      · rw [if_neg h1] at h; cases h
theorem device_twice {p q : Pm} {o1 o2 : Option Nat} {a b : ByteArray} (h : deviceO o1 o2 p a b = (0, q)) : deviceO o1 o2 q a b = (7, q) := by
  unfold deviceO at h ⊢
  cases o1 with
  | none => cases h
  | some n =>
    cases o2 with
    | none => cases h
    | some m =>
      simp only at h ⊢
      by_cases h1 : nameB a = true ∧ nameB b = true ∧ n + m ≤ 65536
      · rw [if_pos h1] at h ⊢
        cases hk : fnd (byName a) p.cs with
        | none => rw [hk] at h; cases h
        | some k =>
          rw [hk] at h
          simp only at h
          cases hc : p.cs[k]? with
          | none => rw [hc] at h; cases h
          | some x =>
            rw [hc] at h
            simp only at h
            have e := add_once h
            subst e
            obtain ⟨e1, e2⟩ := upd_twice (c' := { x with ds := x.ds ++ [(b, n, m)] }) hk hc rfl
            rw [e1]
            simp only
            rw [e2]
            simp only
            have := fnd_mem (P := fun y : ByteArray × Nat × Nat => decide (y.1 = b)) (l := x.ds ++ [(b, n, m)]) (x := (b, n, m)) (by simp) (by simp)
            unfold addV
            rw [if_pos this]
      · rw [if_neg h1] at h; cases h
theorem line_twice {p q : Pm} {ws : List ByteArray} (h : lineV p ws = (0, q)) (hb : ∀ b : ByteArray, symB b = true → b ≠ ⟨#[]⟩) : lineV q ws = (7, q) := by
  match ws, h with
  | [k, a], h => exact two_twice h
  | [k, a, b], h =>
    change three p k a b = (0, q) at h
    show three q k a b = (7, q)
    unfold three at h ⊢
    by_cases h1 : k = kShare
    · rw [if_pos h1] at h ⊢; exact share_twice h
    rw [if_neg h1] at h ⊢
    by_cases h2 : k = kStart
    · rw [if_pos h2] at h ⊢; exact start_twice h (hb b)
    rw [if_neg h2] at h ⊢
    by_cases h3 : k = kObject
    · rw [if_pos h3] at h ⊢; exact file_twice h _
    rw [if_neg h3] at h ⊢
    by_cases h4 : k = kArchive
    · rw [if_pos h4] at h ⊢; exact file_twice h _
    · rw [if_neg h4] at h; cases h
  | [k, a, b, c], h =>
    change four p k a b c = (0, q) at h
    show four q k a b c = (7, q)
    unfold four at h ⊢
    by_cases h1 : k = kImport
    · rw [if_pos h1] at h ⊢; exact import_twice h
    rw [if_neg h1] at h ⊢
    by_cases h2 : k = kGive
    · rw [if_pos h2] at h ⊢; exact give_twice h
    · rw [if_neg h2] at h; cases h
  | [k, a, b, c, d], h =>
    change five p k a b c d = (0, q) at h
    show five q k a b c d = (7, q)
    unfold five at h ⊢
    by_cases h1 : k = kExport
    · rw [if_pos h1] at h ⊢; exact export_twice h
    rw [if_neg h1] at h ⊢
    by_cases h2 : k = kDevice
    · rw [if_pos h2] at h ⊢; exact device_twice h
    · rw [if_neg h2] at h; cases h
  | [], h => simp [lineV] at h
  | [a], h => simp [lineV] at h
  | _ :: _ :: _ :: _ :: _ :: _ :: _, h => simp [lineV] at h
/-- lines that go through: what stands behind them is read by what they leave -/
theorem linesV_app : ∀ (l r : List (Nat × List ByteArray)) (p : Pm), (linesV p l).2.1 = 0 → linesV p (l ++ r) = linesV (linesV p l).2.2 r
  | [], r, p, _ => rfl
  | (n, w) :: l, r, p, h => by
    rw [linesV] at h
    rw [List.cons_append, linesV, linesV]
    cases hv : lineV p w with
    | mk e q =>
      rw [hv] at h
      cases e with
      | zero => exact linesV_app l r q h
      | succ e => simp at h
/-- the lines' numbers say nothing where all goes through -/
theorem linesV_num : ∀ (l l' : List (Nat × List ByteArray)) (p : Pm), l.map (·.2) = l'.map (·.2) → (linesV p l).2.1 = 0 → (linesV p l').2.1 = 0 ∧ (linesV p l').2.2 = (linesV p l).2.2
  | [], [], p, _, _ => ⟨rfl, rfl⟩
  | [], _ :: _, _, h, _ => by simp at h
  | _ :: _, [], _, h, _ => by simp at h
  | (n, w) :: l, (n', w') :: l', p, h, h0 => by
    simp only [List.map_cons, List.cons.injEq] at h
    obtain ⟨rfl, h⟩ := h
    rw [linesV] at h0 ⊢
    rw [linesV]
    cases hv : lineV p w with
    | mk e q =>
      rw [hv] at h0
      cases e with
      | zero => exact linesV_num l l' q h h0
      | succ e => simp at h0
theorem linesV_pre : ∀ (l r : List (Nat × List ByteArray)) (p : Pm), (linesV p (l ++ r)).2.1 = 0 → (linesV p l).2.1 = 0
  | [], r, p, _ => rfl
  | (n, w) :: l, r, p, h => by
    rw [List.cons_append, linesV] at h
    rw [linesV]
    cases hv : lineV p w with
    | mk e q =>
      rw [hv] at h
      cases e with
      | zero => exact linesV_pre l r q h
      | succ e => simp at h
/-- lines that go through; then the last of them once more -/
theorem lines_twice (hb : ∀ b : ByteArray, symB b = true → b ≠ ⟨#[]⟩) (l : List (Nat × List ByteArray)) (n n' : Nat) (w : List ByteArray) (r : List (Nat × List ByteArray)) (p : Pm) (h : (linesV p (l ++ [(n, w)])).2.1 = 0) :
    (linesV p ((l ++ [(n, w)]) ++ (n', w) :: r)).1 = n' ∧ (linesV p ((l ++ [(n, w)]) ++ (n', w) :: r)).2.1 = 7 := by
  have hp := linesV_pre _ _ _ h
  rw [linesV_app _ _ _ h]
  rw [linesV_app _ _ _ hp] at h ⊢
  generalize (linesV p l).2.2 = q at h ⊢
  rw [linesV] at h ⊢
  cases hv : lineV q w with
  | mk e q' =>
    rw [hv] at h
    cases e with
    | succ e => simp at h
    | zero =>
      simp only [linesV, hv]
      rw [line_twice hv hb]
      exact ⟨rfl, rfl⟩
theorem sym_ne (b : ByteArray) (h : symB b = true) : b ≠ ⟨#[]⟩ := by
  intro e
  subst e
  revert h
  unfold symB Li.wd
  simp
  intro h
  exact absurd h (by decide)
end Go.Proofs.YtapdiionikfgpaaGreatDoor
namespace Go.Proofs.YtapdiionikfgpaaGreatDoor.Li
open Go.ChangeShapes Go.WideShapes Go.ChangeAt Go.RowKit
set_option linter.unusedVariables false
/-- a word, as bytes -/
def wdL (l : List UInt8) : Prop := l ≠ [] ∧ nh l = true ∧ ∀ b ∈ l, inW b.toNat = true
theorem inW_bl {b : UInt8} (h : inW b.toNat = true) : bl b = false := by
  rw [bl_pB]
  unfold inW at h
  unfold pB
  simp at h
  exact decide_eq_false (by omega)
theorem wd_list (s : ByteArray) (h : wd s = true) : wdL s.data.toList := by
  unfold wd at h
  obtain ⟨h1, h2, h3⟩ := of_decide_eq_true h
  refine ⟨fun hn => ?_, ?_, fun b hb => ?_⟩
  · have : s.size = 0 := by rw [← list_len, hn]; rfl
    omega
  · rw [nh_bb, decide_eq_false h2]; rfl
  · obtain ⟨j, hj, rfl⟩ := List.getElem_of_mem hb
    rw [bb_list s j hj]
    exact h3 j hj
theorem wd_mk (l : List UInt8) (h : wdL l) : wd (mk l) = true := by
  obtain ⟨h1, h2, h3⟩ := h
  have hl : (mk l).data.toList = l := list_mk l
  unfold wd
  refine decide_eq_true ⟨?_, ?_, fun i hi => ?_⟩
  · rw [← list_len, hl]; exact List.length_pos_iff.2 h1
  · rw [← hl, nh_bb] at h2
    intro hh
    rw [decide_eq_true hh] at h2
    cases h2
  · rw [← bb_list _ i hi]
    exact h3 _ (by
      have := List.getElem_mem (l := (mk l).data.toList) hi
      conv at this => arg 1; rw [hl]
      exact this)
/-- words joined come back -/
theorem wrd_tail : ∀ (r : List (List UInt8)) (w : List UInt8), w ≠ [] → (∀ x ∈ r, wdL x) → wrd w (Lib.joinTail [32] r) = w :: r
  | [], w, hw, _ => by
    show wrd w [] = [w]
    rw [wrd, if_neg hw]
  | y :: r, w, hw, h => by
    have e : Lib.joinTail [32] (y :: r) = 32 :: (y ++ Lib.joinTail [32] r) := by simp [Lib.joinTail]
    have hy := h y (by simp)
    rw [e, wrd, show bl 32 = true from rfl, if_pos rfl, if_neg hw, wrd_word y [] _ (fun b hb => inW_bl (hy.2.2 b hb)), List.nil_append, wrd_tail r y hy.1 (fun x hx => h x (by simp [hx]))]
theorem words_join (ws : List (List UInt8)) (h : ∀ x ∈ ws, wdL x) : wordsL (Lib.join ws [32]) = ws := by
  unfold wordsL
  cases ws with
  | nil => rfl
  | cons y r =>
    have hy := h y (by simp)
    rw [Lib.join_cons, wrd_word y [] _ (fun b hb => inW_bl (hy.2.2 b hb)), List.nil_append, wrd_tail r y hy.1 (fun x hx => h x (by simp [hx]))]
    exact tw_id nh _ (fun x hx => (h x hx).2.1)
/-- the bytes of a joined line -/
theorem join_bytes (ws : List (List UInt8)) (h : ∀ x ∈ ws, wdL x) : ∀ b ∈ Lib.join ws [32], b = 32 ∨ inW b.toNat = true := by
  cases ws with
  | nil => intro b hb; cases hb
  | cons y r =>
    intro b hb
    rw [Lib.join_cons] at hb
    rcases List.mem_append.1 hb with hb | hb
    · exact Or.inr ((h y (by simp)).2.2 b hb)
    · unfold Lib.joinTail at hb
      obtain ⟨l, hl, hb⟩ := List.mem_flatten.1 hb
      obtain ⟨x, hx, rfl⟩ := List.mem_map.1 hl
      rcases List.mem_append.1 hb with hb | hb
      · left; simpa using hb
      · exact Or.inr ((h x (by simp [hx])).2.2 b hb)
/-- a line's words -/
def lws (x : Wl) : List (List UInt8) := ((List.range x.n).map x.f).map (·.data.toList)
theorem lws_wd (x : Wl) (h : lineP x) : ∀ l ∈ lws x, wdL l := by
  intro l hl
  unfold lws at hl
  obtain ⟨s, hs, rfl⟩ := List.mem_map.1 hl
  obtain ⟨j, hj, rfl⟩ := List.mem_map.1 hs
  exact wd_list _ (h.2 j (List.mem_range.1 hj))
theorem inW_ne {b : UInt8} (h : b = 32 ∨ inW b.toNat = true) : b ≠ 10 ∧ okb b.toNat = true := by
  rcases h with rfl | h
  · decide
  · unfold inW at h
    simp at h
    refine ⟨fun hh => ?_, ?_⟩
    · rw [hh] at h; exact absurd h.1 (by decide)
    · unfold okb; exact decide_eq_true (Or.inr (Or.inr ⟨by omega, h.2⟩))
theorem line_bytes (x : Wl) (h : lineP x) : ∀ b ∈ (jn x x.n).data.toList, b ≠ 10 ∧ okb b.toNat = true := by
  intro b hb
  rw [jn_list] at hb
  exact inW_ne (join_bytes _ (lws_wd x h) b hb)
theorem asc_of (s : ByteArray) (h : ∀ b ∈ s.data.toList, okb b.toNat = true) : asc s := fun i hi => by
  rw [← bb_list s i hi]
  exact okb_lt (h _ (List.getElem_mem _))
theorem line_words (x : Wl) (h : lineP x) : wordsB (jn x x.n) = (List.range x.n).map x.f := by
  rw [words_list _ (asc_of _ (fun b hb => (line_bytes x h b hb).2)), jn_list]
  show (wordsL (Lib.join (lws x) [32])).map mk = _
  rw [words_join _ (lws_wd x h)]
  unfold lws
  rw [List.map_map]
  conv => rhs; rw [← List.map_id ((List.range x.n).map x.f)]
  congr 1
/-- the text's bytes -/
theorem out_list (g : Nat → Wl) : ∀ n, (outN g n).data.toList = ((List.range n).map (fun k => (jn (g k) (g k).n).data.toList)).flatMap (· ++ [10])
  | 0 => rfl
  | n + 1 => by
    rw [List.range_succ, List.map_append, List.flatMap_append, ← out_list g n, outN]
    simp [ByteArray.data_append]
theorem lnL_flat : ∀ (ls : List (List UInt8)), (∀ l ∈ ls, ∀ b ∈ l, b ≠ 10) → lnL [] (ls.flatMap (· ++ [10])) = ls
  | [], _ => rfl
  | l :: r, h => by
    have e : (l :: r).flatMap (· ++ [10]) = l ++ 10 :: r.flatMap (· ++ [10]) := by simp
    rw [e, lnL_hit l [] _ (fun b hb => h l (by simp) b hb), List.nil_append, lnL_flat r (fun x hx => h x (by simp [hx]))]
theorem out_lns (g : Nat → Wl) (n : Nat) (h : ∀ k, k < n → lineP (g k)) : lnsB (outN g n) = (List.range n).map (fun k => jn (g k) (g k).n) := by
  rw [lns_list, out_list, lnL_flat]
  · rw [List.map_map]
    congr 1
  · intro l hl b hb
    obtain ⟨k, hk, rfl⟩ := List.mem_map.1 hl
    exact (line_bytes _ (h k (List.mem_range.1 hk)) b hb).1
theorem out_ok (g : Nat → Wl) (n : Nat) (h : ∀ k, k < n → lineP (g k)) : okT (outN g n) = true := by
  apply okT_yes
  intro i hi
  rw [← bb_list _ i hi]
  have hm : (outN g n).data.toList[i]'hi ∈ (outN g n).data.toList := List.getElem_mem _
  generalize (outN g n).data.toList[i]'hi = b at hm
  rw [out_list] at hm
  obtain ⟨l, hl, hb⟩ := List.mem_flatMap.1 hm
  obtain ⟨k, hk, rfl⟩ := List.mem_map.1 hl
  rcases List.mem_append.1 hb with hb | hb
  · exact (line_bytes _ (h k (List.mem_range.1 hk)) b hb).2
  · have : b = 10 := by simpa using hb
    rw [this]; rfl
theorem said_map (L : Nat → ByteArray) : ∀ n, (∀ k, k < n → wordsB (L k) ≠ []) → saidB 1 ((List.range n).map L) = (List.range n).map (fun k => (1 + k, wordsB (L k)))
  | 0, _ => rfl
  | n + 1, h => by
    rw [List.range_succ, List.map_append, List.map_append, List.map_cons, List.map_nil, saidB_snoc, said_map L n (fun k hk => h k (by omega)), if_neg (h n (by omega))]
    simp
/-- what is put is read -/
theorem back_maths (g : Nat → Wl) (n : Nat) (h : ∀ k, k < n → lineP (g k)) (hl : ∀ k, k < n → ¬ longP (g k)) (h4 : n ≤ 400) :
    rdE (outN g n) = 0 ∧ rdV (outN g n) = (List.range n).map (fun k => (1 + k, (List.range (g k).n).map (g k).f)) := by
  have hL := out_lns g n h
  have hm : ¬ manyP (outN g n) := by
    rintro (hh | ⟨x, hx, hh⟩)
    · rw [hL] at hh; simp at hh; omega
    · rw [hL] at hx
      obtain ⟨k, hk, rfl⟩ := List.mem_map.1 hx
      exact hl k (List.mem_range.1 hk) hh
  have he := rdE_ok _ (out_ok g n h) hm
  refine ⟨he, ?_⟩
  rw [rdV_ok _ he, hL, said_map]
  · apply List.map_congr_left
    intro k hk
    rw [line_words _ (h k (List.mem_range.1 hk))]
  · intro k hk hh
    rw [line_words _ (h k hk)] at hh
    have := (h k hk).1
    have h2 := congrArg List.length hh
    simp at h2
    omega
theorem mayB_all {g : Nat → Wl} {n : Nat} (h : mayB g n = true) : ∀ k, k < n → lineP (g k) := by
  intro k hk
  classical
  apply Decidable.byContradiction
  intro hn
  rw [mayB_no g n k hk hn] at h
  cases h
theorem putV_cases (g : Nat → Wl) (n : Nat) : (∃ e : Nat, (e = 3 ∨ e = 5) ∧ putV g n = .tuple #[.string ⟨#[]⟩, .int .i64 (e : Int)] ∧ (mayB g n = true → e = 3)) ∨
    (putV g n = .tuple #[.string (outN g n), .int .i64 0] ∧ (∀ k, k < n → lineP (g k)) ∧ (∀ k, k < n → ¬ longP (g k)) ∧ n ≤ 400) := by
  by_cases hm : mayB g n = false
  · exact Or.inl ⟨5, Or.inr rfl, putV_may g n hm, fun h => by rw [hm] at h; cases h⟩
  · have hm : mayB g n = true := by simpa using hm
    by_cases hl : ∃ k, k < n ∧ longP (g k)
    · obtain ⟨k, hk, hl⟩ := hl
      exact Or.inl ⟨3, Or.inl rfl, putV_long g n k hm hk hl, fun _ => rfl⟩
    · by_cases h4 : 400 < n
      · exact Or.inl ⟨3, Or.inl rfl, putV_many g n hm h4, fun _ => rfl⟩
      · have h1 : ∀ k, k < n → ¬ longP (g k) := fun k hk hh => hl ⟨k, hk, hh⟩
        exact Or.inr ⟨putV_ok g n hm h1 (by omega), mayB_all hm, h1, by omega⟩
/-- what a line's words are made of -/
theorem wrd_mem (P : UInt8 → Prop) : ∀ (l cur : List UInt8), (∀ b ∈ cur, bl b = false ∧ P b) → (∀ b ∈ l, P b) → ∀ w ∈ wrd cur l, w ≠ [] ∧ ∀ b ∈ w, bl b = false ∧ P b
  | [], cur, hc, _, w, hw => by
    rw [wrd] at hw
    split at hw
    · cases hw
    · obtain rfl : w = cur := by simpa using hw
      exact ⟨by assumption, hc⟩
  | b :: t, cur, hc, hl, w, hw => by
    rw [wrd] at hw
    have ht : ∀ b ∈ t, P b := fun x hx => hl x (by simp [hx])
    split at hw
    · split at hw
      · exact wrd_mem P t [] (fun b hb => by cases hb) ht w hw
      · rcases List.mem_cons.1 hw with rfl | hw
        · exact ⟨by assumption, hc⟩
        · exact wrd_mem P t [] (fun b hb => by cases hb) ht w hw
    · rename_i hb
      refine wrd_mem P t (cur ++ [b]) (fun x hx => ?_) ht w hw
      rcases List.mem_append.1 hx with hx | hx
      · exact hc x hx
      · obtain rfl : x = b := by simpa using hx
        exact ⟨by simpa using hb, hl x (by simp)⟩
theorem lnL_mem (P : UInt8 → Prop) : ∀ (l cur : List UInt8), (∀ b ∈ cur, b ≠ 10 ∧ P b) → (∀ b ∈ l, P b) → ∀ x ∈ lnL cur l, ∀ b ∈ x, b ≠ 10 ∧ P b
  | [], cur, hc, _, x, hx => by
    rw [lnL] at hx
    split at hx
    · cases hx
    · obtain rfl : x = cur := by simpa using hx
      exact hc
  | b :: t, cur, hc, hl, x, hx => by
    rw [lnL] at hx
    have ht : ∀ b ∈ t, P b := fun x hx => hl x (by simp [hx])
    split at hx
    · rcases List.mem_cons.1 hx with rfl | hx
      · exact hc
      · exact lnL_mem P t [] (fun b hb => by cases hb) ht x hx
    · rename_i hb
      refine lnL_mem P t (cur ++ [b]) (fun y hy => ?_) ht x hx
      rcases List.mem_append.1 hy with hy | hy
      · exact hc y hy
      · obtain rfl : y = b := by simpa using hy
        exact ⟨hb, hl y (by simp)⟩
theorem tw_mem {α : Type} (p : α → Bool) : ∀ (l : List α), ∀ x ∈ l.takeWhile p, p x = true
  | [], x, hx => by cases hx
  | a :: t, x, hx => by
    rw [List.takeWhile_cons] at hx
    split at hx
    · rcases List.mem_cons.1 hx with rfl | hx
      · assumption
      · exact tw_mem p t x hx
    · cases hx
/-- the words that are read may be -/
theorem read_wd (s x : ByteArray) (hs : okT s = true) (hx : x ∈ lnsB s) : (∀ b ∈ x.data.toList, b ≠ 10 ∧ okb b.toNat = true) ∧ ∀ w ∈ wordsB x, wd w = true := by
  rw [lns_list] at hx
  obtain ⟨l, hl, rfl⟩ := List.mem_map.1 hx
  have hb : ∀ b ∈ l, b ≠ 10 ∧ okb b.toNat = true := lnL_mem (fun b => okb b.toNat = true) s.data.toList [] (fun b hb => by cases hb) (fun b hb => by
    obtain ⟨j, hj, rfl⟩ := List.getElem_of_mem hb
    rw [bb_list s j hj]
    exact okT_all hs j hj) l hl
  refine ⟨by rw [list_mk]; exact hb, fun w hw => ?_⟩
  rw [words_list _ (asc_of _ (by rw [list_mk]; exact fun b h => (hb b h).2)), list_mk] at hw
  obtain ⟨v, hv, rfl⟩ := List.mem_map.1 hw
  have hv2 := tw_mem nh _ v hv
  have hv3 : v ∈ wrd [] l := (List.takeWhile_sublist _).subset hv
  obtain ⟨h1, h2⟩ := wrd_mem (fun b => b ≠ 10 ∧ okb b.toNat = true) l [] (fun b hb => by cases hb) hb v hv3
  refine wd_mk v ⟨h1, hv2, fun b hb => ?_⟩
  obtain ⟨e1, e2, e3⟩ := h2 b hb
  rw [bl_pB] at e1
  unfold pB at e1
  have e1 := of_decide_eq_false e1
  unfold okb at e3
  have e3 := of_decide_eq_true e3
  have e4 : b.toNat ≠ 10 := fun h => e2 (UInt8.toNat_inj.1 h)
  unfold inW
  simp
  omega
theorem said_mem : ∀ (l : List ByteArray) (j : Nat), ∀ r ∈ saidB j l, ∃ x ∈ l, r.2 = wordsB x ∧ wordsB x ≠ []
  | [], j, r, hr => by cases hr
  | y :: t, j, r, hr => by
    rw [saidB] at hr
    split at hr
    · obtain ⟨x, hx, h⟩ := said_mem t (j + 1) r hr
      exact ⟨x, by simp [hx], h⟩
    · rcases List.mem_cons.1 hr with rfl | hr
      · exact ⟨y, by simp, rfl, by assumption⟩
      · obtain ⟨x, hx, h⟩ := said_mem t (j + 1) r hr
        exact ⟨x, by simp [hx], h⟩
theorem rdE_zero {s : ByteArray} (h : rdE s = 0) : okT s = true ∧ ¬ manyP s := by
  unfold rdE at h
  split at h
  · cases h
  · rename_i h1
    split at h
    · cases h
    · exact ⟨by simpa using h1, by assumption⟩
/-- what is read may be put -/
theorem read_line (s : ByteArray) (hs : rdE s = 0) (g : Nat → Wl) (hr : Reads g (rdV s)) : ∀ k, k < (rdV s).length → lineP (g k) ∧ (g k).n ≤ 101 ∧ ∀ j, j < (g k).n → ((g k).f j).size ≤ 100 := by
  intro k hk
  obtain ⟨ht, hm⟩ := rdE_zero hs
  obtain ⟨h1, h2, h3⟩ := hr k hk
  have hmem : (rdV s)[k] ∈ saidB 1 (lnsB s) := by
    have := List.getElem_mem hk
    conv at this => arg 1; rw [rdV_ok s hs]
    exact this
  obtain ⟨x, hx, e, hne⟩ := said_mem _ _ _ hmem
  have hx100 := mem_size hx hm
  obtain ⟨_, hw⟩ := read_wd s x ht hx
  rw [e] at h2 h3
  have hf : ∀ j, j < (g k).n → (g k).f j ∈ wordsB x := by
    intro j hj
    rw [h3 j, List.getElem?_eq_getElem (by omega)]
    exact List.getElem_mem _
  refine ⟨⟨by rw [h2]; exact List.length_pos_iff.2 hne, fun j hj => hw _ (hf j hj)⟩, by rw [h2]; have := wordsB_len x; omega, fun j hj => ?_⟩
  have h5 : (g k).f j ∈ Lib.goFieldsP pB x := (List.takeWhile_sublist _).subset (hf j hj)
  have := fields_sz pB x _ h5
  omega
end Go.Proofs.YtapdiionikfgpaaGreatDoor.Li
namespace Go.Proofs.YtapdiionikfgpaaGreatDoor
open Li (Wl Reads rdE rdV putV outN lineP longP)
set_option linter.unusedVariables false
theorem reads_words {g : Nat → Wl} {R : List (Nat × List ByteArray)} (h : Reads g R) (k : Nat) (hk : k < R.length) : (List.range (g k).n).map (g k).f = R[k].2 := by
  obtain ⟨-, h2, h3⟩ := h k hk
  apply List.ext_getElem
  · simp [h2]
  · intro j hj1 hj2
    simp only [List.getElem_map, List.getElem_range]
    rw [h3 j, List.getElem?_eq_getElem hj2]
    rfl
/-- a line that stands twice is told -/
theorem less_maths {s t : ByteArray} {q : Pm} {k : Nat} (hr : readP s = ((0, 0), some q)) (hk : k < (rdV s).length) {g : Nat → Wl} (hg : Reads g ((rdV s).take (k + 1) ++ (rdV s).drop k))
    (hp : putV g ((rdV s).take (k + 1) ++ (rdV s).drop k).length = .tuple #[.string t, .int .i64 0]) : readP t = ((k + 2, 7), none) := by
  generalize hR' : (rdV s).take (k + 1) ++ (rdV s).drop k = R' at hg hp
  have h0 : (linesV Pm.zero (rdV s)).2.1 = 0 := by
    unfold readP at hr
    split at hr
    · split at hr
      · assumption
      · simp at hr
    · simp at hr
  have hlen : R'.length = (rdV s).length + 1 := by rw [← hR']; simp; omega
  rcases Li.putV_cases g R'.length with ⟨e, he, h1, -⟩ | ⟨h1, h2, h3, h4⟩
  · rw [hp] at h1
    simp at h1
    omega
  · rw [hp] at h1
    simp at h1
    subst h1
    obtain ⟨b1, b2⟩ := Li.back_maths g R'.length h2 h3 h4
    have hL : ∀ j, (hj : j < R'.length) → (rdV (outN g R'.length))[j]? = some (1 + j, R'[j].2) := fun j hj => by
      rw [b2, List.getElem?_map, List.getElem?_range hj]
      simp only [Option.map_some]
      rw [reads_words hg j hj]
    have hLl : (rdV (outN g R'.length)).length = R'.length := by rw [b2]; simp
    generalize hLe : rdV (outN g R'.length) = L at hL hLl b2
    have hmap : L.map (·.2) = R'.map (·.2) := by
      apply List.ext_getElem?
      intro j
      rw [List.getElem?_map, List.getElem?_map]
      by_cases hj : j < R'.length
      · rw [hL j hj, List.getElem?_eq_getElem hj]; rfl
      · rw [List.getElem?_eq_none (by omega), List.getElem?_eq_none (by omega)]
    have r1 : R'[k]'(by omega) = (rdV s)[k] := by
      have : R'[k]? = some ((rdV s)[k]) := by rw [← hR', List.getElem?_append_left (by simp; omega), List.getElem?_take, if_pos (by omega), List.getElem?_eq_getElem hk]
      have h5 : R'[k]? = some (R'[k]'(by omega)) := List.getElem?_eq_getElem (by omega)
      exact Option.some.inj (h5.symm.trans this)
    have r2 : R'[k + 1]'(by omega) = (rdV s)[k] := by
      have : R'[k + 1]? = some ((rdV s)[k]) := by
        rw [← hR', List.getElem?_append_right (by simp; omega), List.getElem?_drop, ← List.getElem?_eq_getElem hk]
        congr 1
        simp; omega
      have h5 : R'[k + 1]? = some (R'[k + 1]'(by omega)) := List.getElem?_eq_getElem (by omega)
      exact Option.some.inj (h5.symm.trans this)
    have l1 : L[k]'(by omega) = (1 + k, (rdV s)[k].2) := by
      have h5 : L[k]? = some (L[k]'(by omega)) := List.getElem?_eq_getElem (by omega)
      rw [hL k (by omega), r1] at h5
      exact (Option.some.inj h5).symm
    have l2 : L[k + 1]'(by omega) = (k + 2, (rdV s)[k].2) := by
      have h5 : L[k + 1]? = some (L[k + 1]'(by omega)) := List.getElem?_eq_getElem (by omega)
      rw [hL (k + 1) (by omega), r2] at h5
      have := (Option.some.inj h5).symm
      rw [this]
      congr 1
      omega
    have hdec : L = (L.take k ++ [(1 + k, (rdV s)[k].2)]) ++ (k + 2, (rdV s)[k].2) :: L.drop (k + 2) := by
      rw [← l1, ← l2, List.take_append_getElem, ← List.drop_eq_getElem_cons, List.take_append_drop]
    have hpre : (linesV Pm.zero (L.take k ++ [(1 + k, (rdV s)[k].2)])).2.1 = 0 := by
      have h6 : (linesV Pm.zero ((rdV s).take (k + 1))).2.1 = 0 := linesV_pre _ ((rdV s).drop (k + 1)) _ (by rw [List.take_append_drop]; exact h0)
      refine (linesV_num ((rdV s).take (k + 1)) _ _ ?_ h6).1
      rw [← l1, List.take_append_getElem]
      have h7 : ((rdV s).take (k + 1)) = R'.take (k + 1) := by rw [← hR', List.take_append_of_le_length (by simp; omega), List.take_take, Nat.min_self]
      rw [h7, List.map_take, List.map_take, hmap]
    have h8 := lines_twice sym_ne (L.take k) (1 + k) (k + 2) (rdV s)[k].2 (L.drop (k + 2)) Pm.zero hpre
    rw [← hdec] at h8
    unfold readP
    rw [if_pos b1, hLe, if_neg (by rw [h8.2]; decide), h8.1, h8.2]
end Go.Proofs.YtapdiionikfgpaaGreatDoor
namespace Go.Proofs.YtapdiionikfgpaaGreatDoor
open Go.ChangeShapes Go.WideShapes Go.ChangeAt Go.RowKit
open Li (Gl)
set_option linter.unusedVariables false
set_option linter.unusedSimpArgs false
def row57 (x : Nat × Value × List ByteArray) : List Value := [.int .i64 (x.1 : Int), x.2.1]
theorem info57' : ∃ i, Tryz.prog.info? 57 = some i ∧ i.zero = some (.agg #[.int .i64 0, .slice none 0 0]) ∧ i.size = 2 ∧ i.bytes = 32 := info57
theorem fm_take (D : List (Nat × Value × List ByteArray)) : ∀ k, (D.flatMap row57).take (k * 2) = (D.take k).flatMap row57 := by
  induction D with
  | nil => intro k; simp
  | cons a D ih =>
    intro k
    cases k with
    | zero => simp
    | succ k => rw [List.take_succ_cons, List.flatMap_cons, List.flatMap_cons, ← ih k, show (k + 1) * 2 = k * 2 + 1 + 1 from by omega]; rfl
theorem fm_drop (D : List (Nat × Value × List ByteArray)) : ∀ k, (D.flatMap row57).drop (k * 2) = (D.drop k).flatMap row57 := by
  induction D with
  | nil => intro k; simp
  | cons a D ih =>
    intro k
    cases k with
    | zero => simp
    | succ k => rw [List.drop_succ_cons, List.flatMap_cons, ← ih k, show (k + 1) * 2 = k * 2 + 1 + 1 from by omega]; rfl
/-- the doubled list, once it is laid -/
theorem c15_less {s : ByteArray} (he : Li.rdE s = 0) {k : Nat} {W : World} {B : Nat} {A : Option Addr} {m c : Nat} (hb : Li.RdOut B (.slice A m c) ((Li.rdV s).take (k + 1) ++ (Li.rdV s).drop k) W) (hk : k < (Li.rdV s).length) :
    ∃ g, Li.Reads g ((Li.rdV s).take (k + 1) ++ (Li.rdV s).drop k) ∧ Calls Tryz.prog 17 #[.slice A m c] W fun e w' => e = .returned (Li.putV g ((Li.rdV s).take (k + 1) ++ (Li.rdV s).drop k).length) ∧ W = w' := by
  have hsh := rdV_short he
  have hmem : ∀ x ∈ (Li.rdV s).take (k + 1) ++ (Li.rdV s).drop k, x ∈ Li.rdV s := fun x hx => by
    rcases List.mem_append.1 hx with h | h
    · exact List.mem_of_mem_take h
    · exact List.mem_of_mem_drop h
  have hlen : ((Li.rdV s).take (k + 1) ++ (Li.rdV s).drop k).length ≤ 401 := by
    have := hsh.1
    simp only [List.length_append, List.length_take, List.length_drop]
    omega
  generalize (Li.rdV s).take (k + 1) ++ (Li.rdV s).drop k = R at hb hmem hlen
  obtain ⟨hm, g, hw, hr⟩ := Li.rd_ws hb (fun x hx => by
    obtain ⟨-, h2, h3⟩ := hsh.2 x (hmem x hx)
    exact ⟨by omega, fun y hy => by have := h3 y hy; omega⟩)
  have hn : ∀ j, j < R.length → (g j).n ≤ 101 ∧ ∀ i, ((g j).f i).size ≤ 100 := fun j hj => by
    obtain ⟨-, h2, h3⟩ := hr j hj
    obtain ⟨-, h4, h5⟩ := hsh.2 _ (hmem _ (List.getElem_mem hj))
    refine ⟨by omega, fun i => ?_⟩
    rw [h3 i]
    cases hi : R[j].2[i]? with
    | none => exact Nat.zero_le _
    | some y => exact h5 y (List.mem_of_getElem? hi)
  subst hm
  exact ⟨g, hr, Li.c15 A R.length c g W hw (by omega) (fun j hj h => by have := outN_size j h; omega)
    (fun j hj i hi => by have h1 := jn_size (hn j hj).2 i; have h2 := (hn j hj).1; have : i * (100 + 1) ≤ 101 * (100 + 1) := Nat.mul_le_mul_right _ (by omega); omega)
    (fun j hj i hi => by have := (hn j hj).2 i; omega)⟩
set_option maxRecDepth 100000 in
set_option maxHeartbeats 8000000 in
theorem w6_e (s : ByteArray) (x n k : Nat) (hx : x ≤ 65535) (hs : s.size ≤ 16777215) (w : World) (hg : Gx w) (hv : readP s = ((n, k), none)) :
    Calls Tryz.prog 6 #[.string s, .int .u16 (x : Int)] w fun e w' => e = .returned (.bool true) ∧ Below w.heap.size w w' := by
  have HG : Hid (∀ X, Below w.heap.size w X → Gl X ∧ Gt X) := Lib.hid (fun X hX => ⟨hg.1.below hX, hg.2.below hX⟩)
  have K8 := Lib.hid (k8 s n k hv hs w hg.1)
  have K16 : Hid (∀ X, Calls Tryz.prog 16 #[.string s] X fun e w' => Li.RdPost s X e w') := Lib.hid (fun X => Li.c9 s hs X)
  have K11 : Hid (∀ X, Below w.heap.size w X → Calls Tryz.prog 11 #[] X fun e w' => e = .returned (.bool true) ∧ Below X.heap.size X w') := Lib.hid (fun X hX => n11 X (HG.out X hX).1 (HG.out X hX).2)
  have hk0 := readP_none hv
  have e1 : ((k : Int) != 0) = true := by simp; omega
  clear hg hv hk0 hs
  go_enter Tryz.func6, Tryz.ntmps6
  go_wp2_with fail
  refine K8.out.mono ?_
  rintro _ w1 ⟨rfl, hb1⟩
  have HB1 : Hid (Below w.heap.size w (w1.alloc (.cells #[.int .i64 0, .int .i64 0, .slice none 0 0, .slice none 0 0, .int .i64 0, .string ⟨#[]⟩] 25))) := Lib.hid (hb1.alloc hb1.size _)
  clear hb1 K8
  go_wp2_with fail
  refine (K16.out _).mono ?_
  rintro _ w2 ⟨A, m, c, rfl, hm, -, hb2⟩
  have HB2 : Hid (Below w.heap.size w w2) := Lib.hid (HB1.out.trans (hb2.mono HB1.out.size))
  clear hb2 hm K16
  go_wp2_with fail
  refine (K11.out _ HB2.out).mono ?_
  rintro _ w3 ⟨rfl, hb3⟩
  have HB3 : Hid (Below w.heap.size w w3) := Lib.hid (HB2.out.trans (hb3.mono HB2.out.size))
  clear hb3
  go_wp2_with fail
  go_ret
  exact ⟨rfl, HB3.out⟩
set_option maxRecDepth 100000 in
set_option maxHeartbeats 8000000 in
theorem w6_o (s : ByteArray) (q : Pm) (x : Nat) (hx : x ≤ 65535) (hs : s.size ≤ 16777215) (w : World) (hg : Gx w) (hv : readP s = ((0, 0), some q)) (he : Li.rdE s = 0) :
    Calls Tryz.prog 6 #[.string s, .int .u16 (x : Int)] w fun e w' => e = .returned (.bool true) ∧ Below w.heap.size w w' := by
  have HG : Hid (∀ X, Below w.heap.size w X → Gl X ∧ Gt X) := Lib.hid (fun X hX => ⟨hg.1.below hX, hg.2.below hX⟩)
  have K8 := Lib.hid (kRead hv rfl hs w hg.1)
  have K16 : Hid (∀ X, Calls Tryz.prog 16 #[.string s] X fun e w' => Li.RdPost s X e w') := Lib.hid (fun X => Li.c9 s hs X)
  have K11 : Hid (∀ X, Below w.heap.size w X → Calls Tryz.prog 11 #[] X fun e w' => e = .returned (.bool true) ∧ Below X.heap.size X w') := Lib.hid (fun X hX => n11 X (HG.out X hX).1 (HG.out X hX).2)
  have HE := Lib.hid he
  have HV := Lib.hid hv
  clear hg hv hs he
  go_enter Tryz.func6, Tryz.ntmps6
  go_wp2_with fail
  refine K8.out.mono ?_
  rintro _ w1 ⟨⟨A1, n1, c1, E1, m1, d1, D1, hp1, rfl, hb1⟩, -⟩
  have HB1 : Hid (∀ o, Below w.heap.size w (w1.alloc o)) := Lib.hid (fun o => hb1.alloc hb1.size _)
  clear hb1 K8 hp1
  go_wp2_with fail
  refine (K16.out _).mono ?_
  rintro _ w2 ⟨A, L, c, rfl, hL, hrd, hb2⟩
  have HB2 : Hid (Below w.heap.size w w2) := Lib.hid ((HB1.out _).trans (hb2.mono (HB1.out _).size))
  have HRD : Hid (Li.RdOut w.heap.size (.slice A L c) (Li.rdV s) w2) := Lib.hid (Li.rd_base hrd (HB1.out _).size)
  rw [HE.out]
  have HL := Lib.hid hL
  clear hb2 hrd hL K16
  by_cases h0 : L = 0
  · subst h0
    go_wp2_with fail
    refine (K11.out _ HB2.out).mono ?_
    rintro _ w3 ⟨rfl, hb3⟩
    have HB3 : Hid (Below w.heap.size w w3) := Lib.hid (HB2.out.trans (hb3.mono HB2.out.size))
    clear hb3
    go_wp2_with fail
    go_ret
    exact ⟨rfl, HB3.out⟩
  · have e0 : ((L : Int) == 0) = false := by simp; omega
    have e00 : ¬ ((L : Int) = 0) := by omega
    have hLp : 0 < L := by omega
    obtain ⟨k, hk⟩ : ∃ k, x % L = k := ⟨_, rfl⟩
    have em : Int.tmod (x : Int) (L : Int) = (k : Int) := by rw [← hk]; rfl
    have hkl : k < L := by rw [← hk]; exact Nat.mod_lt _ hLp
    have hkb : k ≤ 65535 := by have := Nat.mod_le x L; omega
    have hkw : IntKind.i64.wrap (k : Int) = (k : Int) := by rw [IntKind.wrap_i64]; omega
    have hxw : IntKind.i64.wrap (x : Int) = (x : Int) := by rw [IntKind.wrap_i64]; omega
    have hkw1 : IntKind.i64.wrap ((k : Int) + 1) = (k : Int) + 1 := by rw [IntKind.wrap_i64]; omega
    obtain ⟨D, hD, hrow, hws⟩ := HRD.out
    have hDL : D.length = L := by have := congrArg List.length hD; rw [List.length_map] at this; rw [this, HL.out]
    obtain ⟨A', c', hsl, hlc⟩ := own_slice hrow
    simp only [Value.slice.injEq] at hsl
    obtain ⟨rfl, -, rfl⟩ := hsl
    obtain ⟨b, c'', hsl2, hBb, hbl⟩ := hrow.form (by omega)
    simp only [Value.slice.injEq] at hsl2
    obtain ⟨rfl, -, -⟩ := hsl2
    have hcells := hrow.cells (g := b) rfl
    rw [show (D.flatMap fun x => [Value.int .i64 (x.1 : Int), x.2.1]) = D.flatMap row57 from rfl] at hcells
    have hlc2 : L ≤ c := by omega
    have hb1 : 0 ≤ (k : Int) + 1 ∧ (k : Int) + 1 ≤ (c : Int) := by omega
    have hb2 : 0 ≤ (k : Int) ∧ (k : Int) ≤ (L : Int) := by omega
    have hc0 : ¬ (c = 0) := by omega
    have hck : ¬ (c = k) := by omega
    obtain ⟨i0, hi0, hz0, hz1, hz2⟩ := info57'
    have HI0 := Lib.hid hi0
    have HZ0 := Lib.hid hz0
    have HZ1 := Lib.hid hz1
    have HZ2 := Lib.hid hz2
    have hLs : L ≤ 400 := by rw [HL.out]; exact (rdV_short HE.out).1
    have hfl : (D.flatMap row57).length = L * 2 := by rw [flat_len row57 2 (fun _ => rfl), hDL]
    have HLN1 : Hid (((D.flatMap row57).take ((k + 1) * 2)).length = (k + 1) * 2) := Lib.hid (by rw [List.length_take, hfl]; omega)
    have HLN2 : Hid (((D.flatMap row57).drop (k * 2)).length = (L - k) * 2) := Lib.hid (by rw [List.length_drop, hfl]; omega)
    have HC1 : Hid (∀ j u, ((D.flatMap row57).take ((k + 1) * 2))[j]? = some u → w2.cell? ((⟨b, 0, none⟩ : Addr).add j) = some u) := Lib.hid (fun j u hu => hcells j u (by
      rw [List.getElem?_take] at hu
      split at hu
      · exact hu
      · cases hu))
    have HC2 : Hid (∀ j u, ((D.flatMap row57).drop (k * 2))[j]? = some u → w2.cell? ((⟨b, k * 2, none⟩ : Addr).add j) = some u) := Lib.hid (fun j u hu => by
      rw [List.getElem?_drop] at hu
      have := hcells _ u hu
      rw [add_at] at this ⊢
      simpa using this)
    have hone : ∀ u ∈ D.flatMap row57, u.oneCell' = true := fun u hu => by
      obtain ⟨y, hy, hu⟩ := List.mem_flatMap.1 hu
      obtain ⟨A5, c5, e5, -⟩ := own_slice (hws y hy)
      unfold row57 at hu
      rw [e5] at hu
      simp only [List.mem_cons, List.not_mem_nil, or_false] at hu
      rcases hu with rfl | rfl <;> rfl
    have HO1 : Hid (∀ u ∈ (D.flatMap row57).take ((k + 1) * 2), u.oneCell' = true) := Lib.hid (fun u hu => hone u (List.mem_of_mem_take hu))
    have HO2 : Hid (∀ u ∈ (D.flatMap row57).drop (k * 2), u.oneCell' = true) := Lib.hid (fun u hu => hone u (List.mem_of_mem_drop hu))
    have HNIL : Hid (w2.ownsRow w.heap.size 57 2 (.slice none 0 0) 0 []) := Lib.hid (World.ownsRow_nil _ _ _ _)
    have HM1 : Hid (0 + (k + 1) ≤ maxLen) := Lib.hid (by unfold maxLen; omega)
    have HY1 : Hid ((0 + (k + 1)) * 32 ≤ 140737488355328) := Lib.hid (by omega)
    have HM2 : Hid (0 + (k + 1) + (L - k) ≤ maxLen) := Lib.hid (by unfold maxLen; omega)
    have HY2 : Hid ((0 + (k + 1) + (L - k)) * 32 ≤ 140737488355328) := Lib.hid (by omega)
    have HWZ : Hid (w.heap.size ≤ w2.heap.size) := Lib.hid HB2.out.size
    have HK1 : Hid (0 < k + 1) := Lib.hid (by omega)
    have HK2 : Hid (0 < L - k) := Lib.hid (by omega)
    have HWS := Lib.hid hws
    have HBL := Lib.hid hbl
    have HD := Lib.hid hD
    have HKL := Lib.hid hkl
    clear h0 hi0 hz0 hz1 hz2 hD hrow hws hcells hone hfl hBb hbl hlc
    go_wp2_with (at_builtin; first
      | (refine wpList_append_lies _ (by rfl) _ _ 37 (by rfl) w.heap.size 57 i0 (.agg #[.int .i64 0, .slice none 0 0]) 2 32 Tryz.underlying37 HI0.out HZ0.out HZ1.out HZ2.out rfl (by decide) (.slice none 0 0) 0 [] (by rfl) HNIL.out ⟨b, 0, none⟩ (k + 1) c _ (by rfl) HLN1.out HC1.out HO1.out HK1.out HM1.out HY1.out HWZ.out _ rfl ?_))
    intro g5 c5 w5 hown5 hgrow5 hat5 hlt5
    have HOWN5 : Hid (w5.ownsRow w.heap.size 57 2 (.slice (some ⟨g5, 0, none⟩) (k + 1) c5) (k + 1) ((D.flatMap row57).take ((k + 1) * 2))) := Lib.hid (by first | exact hown5 | simpa using hown5)
    rw [Nat.zero_add] at HM2 HY2
    try rw [Nat.zero_add]
    have HGR5 := Lib.hid hgrow5
    have HC5 : Hid (∀ j u, ((D.flatMap row57).drop (k * 2))[j]? = some u → w5.cell? ((⟨b, k * 2, none⟩ : Addr).add j) = some u) := Lib.hid (fun j u hu => hgrow5.cell (HC2.out j u hu) (by simp [Value.ownBlock]))
    have HWZ5 : Hid (w.heap.size ≤ w5.heap.size) := Lib.hid (Nat.le_trans HWZ.out hgrow5.size)
    clear hown5 hgrow5 hat5 hlt5
    go_wp2_with (at_builtin; first
      | (refine wpList_append_lies _ (by rfl) _ _ 37 (by rfl) w.heap.size 57 i0 (.agg #[.int .i64 0, .slice none 0 0]) 2 32 Tryz.underlying37 HI0.out HZ0.out HZ1.out HZ2.out rfl (by decide) (.slice (some ⟨g5, 0, none⟩) (k + 1) c5) (k + 1) _ (by first | rfl | simp) HOWN5.out ⟨b, k * 2, none⟩ (L - k) (c - k) _ (by first | rfl | simp) HLN2.out HC5.out HO2.out HK2.out HM2.out HY2.out HWZ5.out _ rfl ?_))
    intro g8 c8 w8 hown8 hgrow8 hat8 hlt8
    have HRD8 : Hid (Li.RdOut w.heap.size (.slice (some ⟨g8, 0, none⟩) (k + 1 + (L - k)) c8) ((Li.rdV s).take (k + 1) ++ (Li.rdV s).drop k) w8) := Lib.hid (by
      refine ⟨D.take (k + 1) ++ D.drop k, ?_, ?_, fun y hy => ?_⟩
      · rw [List.map_append, List.map_take, List.map_drop, HD.out]
      · have hl : (D.take (k + 1) ++ D.drop k).length = k + 1 + (L - k) := by simp only [List.length_append, List.length_take, List.length_drop]; omega
        have h9 : (D.take (k + 1) ++ D.drop k).flatMap row57 = (D.flatMap row57).take ((k + 1) * 2) ++ (D.flatMap row57).drop (k * 2) := by rw [List.flatMap_append, fm_take, fm_drop]
        show w8.ownsRow _ 57 2 _ (D.take (k + 1) ++ D.drop k).length ((D.take (k + 1) ++ D.drop k).flatMap row57)
        rw [hl, h9]
        exact hown8
      · have hyD : y ∈ D := by
          rcases List.mem_append.1 hy with h | h
          · exact List.mem_of_mem_take h
          · exact List.mem_of_mem_drop h
        have h5 := (HWS.out y hyD).kept HGR5.out (none_or _)
        exact h5.kept hgrow8 (own_apart h5 HOWN5.out (by decide)))
    have HB8 : Hid (Below w.heap.size w w8) := Lib.hid (((HB2.out).grown HGR5.out HWZ.out (fun k hk => by cases hk)).grown hgrow8 HWZ5.out (fun k hk => by
      have := HOWN5.out.lt k hk
      omega))
    clear hown8 hgrow8 hat8 hlt8
    obtain ⟨gg, hre, h17⟩ := c15_less HE.out HRD8.out (k := k) (by rw [← HL.out]; exact HKL.out)
    rcases Li.putV_cases gg ((Li.rdV s).take (k + 1) ++ (Li.rdV s).drop k).length with ⟨e, he, hpv, -⟩ | ⟨hpv, hp1, hp2, hp3⟩
    · rw [hpv] at h17
      have H17 := Lib.hid h17
      have e3 : ((e : Int) != 0) = true := by simp; omega
      clear h17 hre hpv he
      go_wp2_with fail
      refine H17.out.mono ?_
      rintro _ w9 ⟨rfl, rfl⟩
      clear H17
      go_wp2_with fail
      refine (K11.out _ HB8.out).mono ?_
      rintro _ w3 ⟨rfl, hb3⟩
      have HB3 : Hid (Below w.heap.size w w3) := Lib.hid (HB8.out.trans (hb3.mono HB8.out.size))
      clear hb3
      go_wp2_with fail
      go_ret
      exact ⟨rfl, HB3.out⟩
    · rw [hpv] at h17
      have hless := less_maths HV.out (by rw [← HL.out]; exact HKL.out) hre hpv
      have hsz : (Li.outN gg ((Li.rdV s).take (k + 1) ++ (Li.rdV s).drop k).length).size ≤ 16777215 := by
        have := outN_size _ (fun j hj => hp2 j hj)
        omega
      generalize Li.outN gg ((Li.rdV s).take (k + 1) ++ (Li.rdV s).drop k).length = t at h17 hless hsz
      have KT : Hid (Calls Tryz.prog 8 #[.string t] w8 fun e w' => e = .returned (.tuple #[.agg #[.int .i64 0, .int .i64 0, .slice none 0 0, .slice none 0 0, .int .i64 0, .string ⟨#[]⟩], .int .i64 ((k : Int) + 2), .int .i64 7]) ∧ Below w8.heap.size w8 w') := Lib.hid (by
        have h := k8 t (k + 2) 7 hless hsz w8 (HG.out _ HB8.out).1
        rw [show ((k + 2 : Nat) : Int) = (k : Int) + 2 from by omega, show ((7 : Nat) : Int) = 7 from rfl] at h
        exact h)
      have H17 := Lib.hid h17
      have hkw2 : IntKind.i64.wrap ((k : Int) + 2) = (k : Int) + 2 := by rw [IntKind.wrap_i64]; omega
      have e5 : ((k : Int) + 2 == (k : Int) + 2) = true := by simp
      clear h17 hre hpv hless hsz hp1 hp2 hp3
      go_wp2_with fail
      refine H17.out.mono ?_
      rintro _ w9 ⟨rfl, rfl⟩
      clear H17
      go_wp2_with fail
      refine KT.out.mono ?_
      rintro _ w9 ⟨rfl, hb9⟩
      have HB9 : Hid (Below w.heap.size w (w9.alloc (.cells #[.int .i64 0, .int .i64 0, .slice none 0 0, .slice none 0 0, .int .i64 0, .string ⟨#[]⟩] 25))) := Lib.hid (by have := HB8.out.trans (hb9.mono HB8.out.size); exact this.alloc this.size _)
      clear hb9 KT
      go_wp2_with fail
      refine (K11.out _ HB9.out).mono ?_
      rintro _ w3 ⟨rfl, hb3⟩
      have HB3 : Hid (Below w.heap.size w w3) := Lib.hid (HB9.out.trans (hb3.mono HB9.out.size))
      clear hb3
      go_wp2_with fail
      go_ret
      exact ⟨rfl, HB3.out⟩
theorem walk6 (s : ByteArray) (x : Int) (hs : s.size ≤ 1048576) (hx : 0 ≤ x ∧ x ≤ 65535) {W : World} (w : World) (hw : W = w) (hg : Gx W) : Calls Tryz.prog 6 #[.string s, .int .u16 x] w fun e w' => e = .returned (.bool true) ∧ Below w.heap.size w w' := by
  subst hw
  obtain ⟨n, rfl⟩ := Int.eq_ofNat_of_zero_le hx.1
  rcases readP_or s with ⟨m, k, hv⟩ | ⟨q, hv⟩
  · exact w6_e s n m k (by omega) (by omega) W hg hv
  · refine w6_o s q n (by omega) (by omega) W hg hv ?_
    unfold readP at hv
    split at hv
    · assumption
    · simp at hv
end Go.Proofs.YtapdiionikfgpaaGreatDoor
