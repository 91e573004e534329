import Derived.Test.YtblfnjdbihhglaaGreatDoorLXf
import Derived.Test.YtblfnjdbihhglaaGreatDoorLE
import Derived.Test.YtblfnjdbihhglaaGreatDoorLXc
import Derived.Test.YtblfnjdbihhglaaGreatDoorLW
namespace Go.Proofs.YtblfnjdbihhglaaGreatDoor.Li
open Go.ChangeShapes Go.WideShapes Go.ChangeAt Go.RowKit
set_option linter.unusedVariables false
/-- a word, as bytes -/
def wdL (l : List UInt8) : Prop := l ≠ [] ∧ nh l = true ∧ ∀ b ∈ l, inW b.toNat = true
theorem inW_bl {b : UInt8} (h : inW b.toNat = true) : bl b = false := by
  rw [bl_pB]
  unfold inW at h
  unfold pB
  simp at h
  exact decide_eq_false (by omega)
theorem wd_list (s : ByteArray) (h : wd s = true) : wdL s.data.toList := by
  unfold wd at h
  obtain ⟨h1, h2, h3⟩ := of_decide_eq_true h
  refine ⟨fun hn => ?_, ?_, fun b hb => ?_⟩
  · have : s.size = 0 := by rw [← list_len, hn]; rfl
    omega
  · rw [nh_bb, decide_eq_false h2]; rfl
  · obtain ⟨j, hj, rfl⟩ := List.getElem_of_mem hb
    rw [bb_list s j hj]
    exact h3 j hj
theorem wd_mk (l : List UInt8) (h : wdL l) : wd (mk l) = true := by
  obtain ⟨h1, h2, h3⟩ := h
  have hl : (mk l).data.toList = l := list_mk l
  unfold wd
  refine decide_eq_true ⟨?_, ?_, fun i hi => ?_⟩
  · rw [← list_len, hl]; exact List.length_pos_iff.2 h1
  · rw [← hl, nh_bb] at h2
    intro hh
    rw [decide_eq_true hh] at h2
    cases h2
  · rw [← bb_list _ i hi]
    exact h3 _ (by
      have := List.getElem_mem (l := (mk l).data.toList) hi
      conv at this => arg 1; rw [hl]
      exact this)
/-- words joined come back -/
theorem wrd_tail : ∀ (r : List (List UInt8)) (w : List UInt8), w ≠ [] → (∀ x ∈ r, wdL x) → wrd w (Lib.joinTail [32] r) = w :: r
  | [], w, hw, _ => by
    show wrd w [] = [w]
    rw [wrd, if_neg hw]
  | y :: r, w, hw, h => by
    have e : Lib.joinTail [32] (y :: r) = 32 :: (y ++ Lib.joinTail [32] r) := by simp [Lib.joinTail]
    have hy := h y (by simp)
    rw [e, wrd, show bl 32 = true from rfl, if_pos rfl, if_neg hw, wrd_word y [] _ (fun b hb => inW_bl (hy.2.2 b hb)), List.nil_append, wrd_tail r y hy.1 (fun x hx => h x (by simp [hx]))]
theorem words_join (ws : List (List UInt8)) (h : ∀ x ∈ ws, wdL x) : wordsL (Lib.join ws [32]) = ws := by
  unfold wordsL
  cases ws with
  | nil => rfl
  | cons y r =>
    have hy := h y (by simp)
    rw [Lib.join_cons, wrd_word y [] _ (fun b hb => inW_bl (hy.2.2 b hb)), List.nil_append, wrd_tail r y hy.1 (fun x hx => h x (by simp [hx]))]
    exact tw_id nh _ (fun x hx => (h x hx).2.1)
/-- the bytes of a joined line -/
theorem join_bytes (ws : List (List UInt8)) (h : ∀ x ∈ ws, wdL x) : ∀ b ∈ Lib.join ws [32], b = 32 ∨ inW b.toNat = true := by
  cases ws with
  | nil => intro b hb; cases hb
  | cons y r =>
    intro b hb
    rw [Lib.join_cons] at hb
    rcases List.mem_append.1 hb with hb | hb
    · exact Or.inr ((h y (by simp)).2.2 b hb)
    · unfold Lib.joinTail at hb
      obtain ⟨l, hl, hb⟩ := List.mem_flatten.1 hb
      obtain ⟨x, hx, rfl⟩ := List.mem_map.1 hl
      rcases List.mem_append.1 hb with hb | hb
      · left; simpa using hb
      · exact Or.inr ((h x (by simp [hx])).2.2 b hb)
/-- a line's words -/
def lws (x : Wl) : List (List UInt8) := ((List.range x.n).map x.f).map (·.data.toList)
theorem lws_wd (x : Wl) (h : lineP x) : ∀ l ∈ lws x, wdL l := by
  intro l hl
  unfold lws at hl
  obtain ⟨s, hs, rfl⟩ := List.mem_map.1 hl
  obtain ⟨j, hj, rfl⟩ := List.mem_map.1 hs
  exact wd_list _ (h.2 j (List.mem_range.1 hj))
theorem inW_ne {b : UInt8} (h : b = 32 ∨ inW b.toNat = true) : b ≠ 10 ∧ okb b.toNat = true := by
  rcases h with rfl | h
  · decide
  · unfold inW at h
    simp at h
    refine ⟨fun hh => ?_, ?_⟩
    · rw [hh] at h; exact absurd h.1 (by decide)
    · unfold okb; exact decide_eq_true (Or.inr (Or.inr ⟨by omega, h.2⟩))
theorem line_bytes (x : Wl) (h : lineP x) : ∀ b ∈ (jn x x.n).data.toList, b ≠ 10 ∧ okb b.toNat = true := by
  intro b hb
  rw [jn_list] at hb
  exact inW_ne (join_bytes _ (lws_wd x h) b hb)
theorem asc_of (s : ByteArray) (h : ∀ b ∈ s.data.toList, okb b.toNat = true) : asc s := fun i hi => by
  rw [← bb_list s i hi]
  exact okb_lt (h _ (List.getElem_mem _))
theorem line_words (x : Wl) (h : lineP x) : wordsB (jn x x.n) = (List.range x.n).map x.f := by
  rw [words_list _ (asc_of _ (fun b hb => (line_bytes x h b hb).2)), jn_list]
  show (wordsL (Lib.join (lws x) [32])).map mk = _
  rw [words_join _ (lws_wd x h)]
  unfold lws
  rw [List.map_map]
  conv => rhs; rw [← List.map_id ((List.range x.n).map x.f)]
  congr 1
/-- the text's bytes -/
theorem out_list (g : Nat → Wl) : ∀ n, (outN g n).data.toList = ((List.range n).map (fun k => (jn (g k) (g k).n).data.toList)).flatMap (· ++ [10])
  | 0 => rfl
  | n + 1 => by
    rw [List.range_succ, List.map_append, List.flatMap_append, ← out_list g n, outN]
    simp [ByteArray.data_append]
theorem lnL_flat : ∀ (ls : List (List UInt8)), (∀ l ∈ ls, ∀ b ∈ l, b ≠ 10) → lnL [] (ls.flatMap (· ++ [10])) = ls
  | [], _ => rfl
  | l :: r, h => by
    have e : (l :: r).flatMap (· ++ [10]) = l ++ 10 :: r.flatMap (· ++ [10]) := by simp
    rw [e, lnL_hit l [] _ (fun b hb => h l (by simp) b hb), List.nil_append, lnL_flat r (fun x hx => h x (by simp [hx]))]
theorem out_lns (g : Nat → Wl) (n : Nat) (h : ∀ k, k < n → lineP (g k)) : lnsB (outN g n) = (List.range n).map (fun k => jn (g k) (g k).n) := by
  rw [lns_list, out_list, lnL_flat]
  · rw [List.map_map]
    congr 1
  · intro l hl b hb
    obtain ⟨k, hk, rfl⟩ := List.mem_map.1 hl
    exact (line_bytes _ (h k (List.mem_range.1 hk)) b hb).1
theorem out_ok (g : Nat → Wl) (n : Nat) (h : ∀ k, k < n → lineP (g k)) : okT (outN g n) = true := by
  apply okT_yes
  intro i hi
  rw [← bb_list _ i hi]
  have hm : (outN g n).data.toList[i]'hi ∈ (outN g n).data.toList := List.getElem_mem _
  generalize (outN g n).data.toList[i]'hi = b at hm
  rw [out_list] at hm
  obtain ⟨l, hl, hb⟩ := List.mem_flatMap.1 hm
  obtain ⟨k, hk, rfl⟩ := List.mem_map.1 hl
  rcases List.mem_append.1 hb with hb | hb
  · exact (line_bytes _ (h k (List.mem_range.1 hk)) b hb).2
  · have : b = 10 := by simpa using hb
    rw [this]; rfl
theorem said_map (L : Nat → ByteArray) : ∀ n, (∀ k, k < n → wordsB (L k) ≠ []) → saidB 1 ((List.range n).map L) = (List.range n).map (fun k => (1 + k, wordsB (L k)))
  | 0, _ => rfl
  | n + 1, h => by
    rw [List.range_succ, List.map_append, List.map_append, List.map_cons, List.map_nil, saidB_snoc, said_map L n (fun k hk => h k (by omega)), if_neg (h n (by omega))]
    simp
/-- what is put is read -/
theorem back_maths (g : Nat → Wl) (n : Nat) (h : ∀ k, k < n → lineP (g k)) (hl : ∀ k, k < n → ¬ longP (g k)) (h4 : n ≤ 400) :
    rdE (outN g n) = 0 ∧ rdV (outN g n) = (List.range n).map (fun k => (1 + k, (List.range (g k).n).map (g k).f)) := by
  have hL := out_lns g n h
  have hm : ¬ manyP (outN g n) := by
    rintro (hh | ⟨x, hx, hh⟩)
    · rw [hL] at hh; simp at hh; omega
    · rw [hL] at hx
      obtain ⟨k, hk, rfl⟩ := List.mem_map.1 hx
      exact hl k (List.mem_range.1 hk) hh
  have he := rdE_ok _ (out_ok g n h) hm
  refine ⟨he, ?_⟩
  rw [rdV_ok _ he, hL, said_map]
  · apply List.map_congr_left
    intro k hk
    rw [line_words _ (h k (List.mem_range.1 hk))]
  · intro k hk hh
    rw [line_words _ (h k hk)] at hh
    have := (h k hk).1
    have h2 := congrArg List.length hh
    simp at h2
    omega
theorem back_alike (g g' : Nat → Wl) (n : Nat) (hr : Reads g' ((List.range n).map (fun k => (1 + k, (List.range (g k).n).map (g k).f)))) : AlikeW n g g' := by
  intro k hk
  obtain ⟨_, h2, h3⟩ := hr k (by simpa using hk)
  simp only [List.getElem_map, List.getElem_range, List.length_map, List.length_range] at h2 h3
  refine ⟨h2.symm, fun j hj => ?_⟩
  rw [h3 j, List.getElem?_map, List.getElem?_range hj]
  rfl
theorem mayB_all {g : Nat → Wl} {n : Nat} (h : mayB g n = true) : ∀ k, k < n → lineP (g k) := by
  intro k hk
  classical
  apply Decidable.byContradiction
  intro hn
  rw [mayB_no g n k hk hn] at h
  cases h
theorem putV_cases (g : Nat → Wl) (n : Nat) : (∃ e : Nat, (e = 3 ∨ e = 5) ∧ putV g n = .tuple #[.string ⟨#[]⟩, .int .i64 (e : Int)] ∧ (mayB g n = true → e = 3)) ∨
    (putV g n = .tuple #[.string (outN g n), .int .i64 0] ∧ (∀ k, k < n → lineP (g k)) ∧ (∀ k, k < n → ¬ longP (g k)) ∧ n ≤ 400) := by
  by_cases hm : mayB g n = false
  · exact Or.inl ⟨5, Or.inr rfl, putV_may g n hm, fun h => by rw [hm] at h; cases h⟩
  · have hm : mayB g n = true := by simpa using hm
    by_cases hl : ∃ k, k < n ∧ longP (g k)
    · obtain ⟨k, hk, hl⟩ := hl
      exact Or.inl ⟨3, Or.inl rfl, putV_long g n k hm hk hl, fun _ => rfl⟩
    · by_cases h4 : 400 < n
      · exact Or.inl ⟨3, Or.inl rfl, putV_many g n hm h4, fun _ => rfl⟩
      · have h1 : ∀ k, k < n → ¬ longP (g k) := fun k hk hh => hl ⟨k, hk, hh⟩
        exact Or.inr ⟨putV_ok g n hm h1 (by omega), mayB_all hm, h1, by omega⟩
/-- what a line's words are made of -/
theorem wrd_mem (P : UInt8 → Prop) : ∀ (l cur : List UInt8), (∀ b ∈ cur, bl b = false ∧ P b) → (∀ b ∈ l, P b) → ∀ w ∈ wrd cur l, w ≠ [] ∧ ∀ b ∈ w, bl b = false ∧ P b
  | [], cur, hc, _, w, hw => by
    rw [wrd] at hw
    split at hw
    · cases hw
    · obtain rfl : w = cur := by simpa using hw
      exact ⟨by assumption, hc⟩
  | b :: t, cur, hc, hl, w, hw => by
    rw [wrd] at hw
    have ht : ∀ b ∈ t, P b := fun x hx => hl x (by simp [hx])
    split at hw
    · split at hw
      · exact wrd_mem P t [] (fun b hb => by cases hb) ht w hw
      · rcases List.mem_cons.1 hw with rfl | hw
        · exact ⟨by assumption, hc⟩
        · exact wrd_mem P t [] (fun b hb => by cases hb) ht w hw
    · rename_i hb
      refine wrd_mem P t (cur ++ [b]) (fun x hx => ?_) ht w hw
      rcases List.mem_append.1 hx with hx | hx
      · exact hc x hx
      · obtain rfl : x = b := by simpa using hx
        exact ⟨by simpa using hb, hl x (by simp)⟩
theorem lnL_mem (P : UInt8 → Prop) : ∀ (l cur : List UInt8), (∀ b ∈ cur, b ≠ 10 ∧ P b) → (∀ b ∈ l, P b) → ∀ x ∈ lnL cur l, ∀ b ∈ x, b ≠ 10 ∧ P b
  | [], cur, hc, _, x, hx => by
    rw [lnL] at hx
    split at hx
    · cases hx
    · obtain rfl : x = cur := by simpa using hx
      exact hc
  | b :: t, cur, hc, hl, x, hx => by
    rw [lnL] at hx
    have ht : ∀ b ∈ t, P b := fun x hx => hl x (by simp [hx])
    split at hx
    · rcases List.mem_cons.1 hx with rfl | hx
      · exact hc
      · exact lnL_mem P t [] (fun b hb => by cases hb) ht x hx
    · rename_i hb
      refine lnL_mem P t (cur ++ [b]) (fun y hy => ?_) ht x hx
      rcases List.mem_append.1 hy with hy | hy
      · exact hc y hy
      · obtain rfl : y = b := by simpa using hy
        exact ⟨hb, hl y (by simp)⟩
theorem tw_mem {α : Type} (p : α → Bool) : ∀ (l : List α), ∀ x ∈ l.takeWhile p, p x = true
  | [], x, hx => by cases hx
  | a :: t, x, hx => by
    rw [List.takeWhile_cons] at hx
    split at hx
    · rcases List.mem_cons.1 hx with rfl | hx
      · assumption
      · exact tw_mem p t x hx
    · cases hx
/-- the words that are read may be -/
theorem read_wd (s x : ByteArray) (hs : okT s = true) (hx : x ∈ lnsB s) : (∀ b ∈ x.data.toList, b ≠ 10 ∧ okb b.toNat = true) ∧ ∀ w ∈ wordsB x, wd w = true := by
  rw [lns_list] at hx
  obtain ⟨l, hl, rfl⟩ := List.mem_map.1 hx
  have hb : ∀ b ∈ l, b ≠ 10 ∧ okb b.toNat = true := lnL_mem (fun b => okb b.toNat = true) s.data.toList [] (fun b hb => by cases hb) (fun b hb => by
    obtain ⟨j, hj, rfl⟩ := List.getElem_of_mem hb
    rw [bb_list s j hj]
    exact okT_all hs j hj) l hl
  refine ⟨by rw [list_mk]; exact hb, fun w hw => ?_⟩
  rw [words_list _ (asc_of _ (by rw [list_mk]; exact fun b h => (hb b h).2)), list_mk] at hw
  obtain ⟨v, hv, rfl⟩ := List.mem_map.1 hw
  have hv2 := tw_mem nh _ v hv
  have hv3 : v ∈ wrd [] l := (List.takeWhile_sublist _).subset hv
  obtain ⟨h1, h2⟩ := wrd_mem (fun b => b ≠ 10 ∧ okb b.toNat = true) l [] (fun b hb => by cases hb) hb v hv3
  refine wd_mk v ⟨h1, hv2, fun b hb => ?_⟩
  obtain ⟨e1, e2, e3⟩ := h2 b hb
  rw [bl_pB] at e1
  unfold pB at e1
  have e1 := of_decide_eq_false e1
  unfold okb at e3
  have e3 := of_decide_eq_true e3
  have e4 : b.toNat ≠ 10 := fun h => e2 (UInt8.toNat_inj.1 h)
  unfold inW
  simp
  omega
theorem said_mem : ∀ (l : List ByteArray) (j : Nat), ∀ r ∈ saidB j l, ∃ x ∈ l, r.2 = wordsB x ∧ wordsB x ≠ []
  | [], j, r, hr => by cases hr
  | y :: t, j, r, hr => by
    rw [saidB] at hr
    split at hr
    · obtain ⟨x, hx, h⟩ := said_mem t (j + 1) r hr
      exact ⟨x, by simp [hx], h⟩
    · rcases List.mem_cons.1 hr with rfl | hr
      · exact ⟨y, by simp, rfl, by assumption⟩
      · obtain ⟨x, hx, h⟩ := said_mem t (j + 1) r hr
        exact ⟨x, by simp [hx], h⟩
theorem rdE_zero {s : ByteArray} (h : rdE s = 0) : okT s = true ∧ ¬ manyP s := by
  unfold rdE at h
  split at h
  · cases h
  · rename_i h1
    split at h
    · cases h
    · exact ⟨by simpa using h1, by assumption⟩
/-- what is read may be put -/
theorem read_line (s : ByteArray) (hs : rdE s = 0) (g : Nat → Wl) (hr : Reads g (rdV s)) : ∀ k, k < (rdV s).length → lineP (g k) ∧ (g k).n ≤ 101 ∧ ∀ j, j < (g k).n → ((g k).f j).size ≤ 100 := by
  intro k hk
  obtain ⟨ht, hm⟩ := rdE_zero hs
  obtain ⟨h1, h2, h3⟩ := hr k hk
  have hmem : (rdV s)[k] ∈ saidB 1 (lnsB s) := by
    have := List.getElem_mem hk
    conv at this => arg 1; rw [rdV_ok s hs]
    exact this
  obtain ⟨x, hx, e, hne⟩ := said_mem _ _ _ hmem
  have hx100 := mem_size hx hm
  obtain ⟨_, hw⟩ := read_wd s x ht hx
  rw [e] at h2 h3
  have hf : ∀ j, j < (g k).n → (g k).f j ∈ wordsB x := by
    intro j hj
    rw [h3 j, List.getElem?_eq_getElem (by omega)]
    exact List.getElem_mem _
  refine ⟨⟨by rw [h2]; exact List.length_pos_iff.2 hne, fun j hj => hw _ (hf j hj)⟩, by rw [h2]; have := wordsB_len x; omega, fun j hj => ?_⟩
  have h5 : (g k).f j ∈ Lib.goFieldsP pB x := (List.takeWhile_sublist _).subset (hf j hj)
  have := fields_sz pB x _ h5
  omega
end Go.Proofs.YtblfnjdbihhglaaGreatDoor.Li
