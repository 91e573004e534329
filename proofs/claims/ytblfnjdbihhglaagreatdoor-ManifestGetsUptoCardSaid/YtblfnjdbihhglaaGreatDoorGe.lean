import Derived.Test.YtblfnjdbihhglaaGreatDoorLXfz
import Derived.Test.YtblfnjdbihhglaaGreatDoorLE
import Derived.Test.YtblfnjdbihhglaaGreatDoorGn
import Derived.Test.YtblfnjdbihhglaaGreatDoorLW
import Derived.Test.YtblfnjdbihhglaaGreatDoorGd
import Derived.Test.YtblfnjdbihhglaaGreatDoorGb
import Derived.Test.YtblfnjdbihhglaaGreatDoorGc
import Derived.Test.YtblfnjdbihhglaaGreatDoorGa
namespace Go.Proofs.YtblfnjdbihhglaaGreatDoor.Li
open Go.ChangeShapes Go.WideShapes Go.ChangeAt Go.RowKit
set_option linter.unusedVariables false
/-- a word, as bytes -/
def wdL (l : List UInt8) : Prop := l ≠ [] ∧ nh l = true ∧ ∀ b ∈ l, inW b.toNat = true
theorem inW_bl {b : UInt8} (h : inW b.toNat = true) : bl b = false := by
  rw [bl_pB]
  unfold inW at h
  unfold pB
  simp at h
  exact decide_eq_false (by omega)
theorem wd_list (s : ByteArray) (h : wd s = true) : wdL s.data.toList := by
  unfold wd at h
  obtain ⟨h1, h2, h3⟩ := of_decide_eq_true h
  refine ⟨fun hn => ?_, ?_, fun b hb => ?_⟩
  · have : s.size = 0 := by rw [← list_len, hn]; rfl
    omega
  · rw [nh_bb, decide_eq_false h2]; rfl
  · obtain ⟨j, hj, rfl⟩ := List.getElem_of_mem hb
    rw [bb_list s j hj]
    exact h3 j hj
theorem wd_mk (l : List UInt8) (h : wdL l) : wd (mk l) = true := by
  obtain ⟨h1, h2, h3⟩ := h
  have hl : (mk l).data.toList = l := list_mk l
  unfold wd
  refine decide_eq_true ⟨?_, ?_, fun i hi => ?_⟩
  · rw [← list_len, hl]; exact List.length_pos_iff.2 h1
  · rw [← hl, nh_bb] at h2
    intro hh
    rw [decide_eq_true hh] at h2
    cases h2
  · rw [← bb_list _ i hi]
    exact h3 _ (by
      have := List.getElem_mem (l := (mk l).data.toList) hi
      conv at this => arg 1; rw [hl]
      exact this)
/-- words joined come back -/
theorem wrd_tail : ∀ (r : List (List UInt8)) (w : List UInt8), w ≠ [] → (∀ x ∈ r, wdL x) → wrd w (Lib.joinTail [32] r) = w :: r
  | [], w, hw, _ => by
    show wrd w [] = [w]
    rw [wrd, if_neg hw]
  | y :: r, w, hw, h => by
    have e : Lib.joinTail [32] (y :: r) = 32 :: (y ++ Lib.joinTail [32] r) := by simp [Lib.joinTail]
    have hy := h y (by simp)
    rw [e, wrd, show bl 32 = true from rfl, if_pos rfl, if_neg hw, wrd_word y [] _ (fun b hb => inW_bl (hy.2.2 b hb)), List.nil_append, wrd_tail r y hy.1 (fun x hx => h x (by simp [hx]))]
theorem words_join (ws : List (List UInt8)) (h : ∀ x ∈ ws, wdL x) : wordsL (Lib.join ws [32]) = ws := by
  unfold wordsL
  cases ws with
  | nil => rfl
  | cons y r =>
    have hy := h y (by simp)
    rw [Lib.join_cons, wrd_word y [] _ (fun b hb => inW_bl (hy.2.2 b hb)), List.nil_append, wrd_tail r y hy.1 (fun x hx => h x (by simp [hx]))]
    exact tw_id nh _ (fun x hx => (h x hx).2.1)
/-- the bytes of a joined line -/
theorem join_bytes (ws : List (List UInt8)) (h : ∀ x ∈ ws, wdL x) : ∀ b ∈ Lib.join ws [32], b = 32 ∨ inW b.toNat = true := by
  cases ws with
  | nil => intro b hb; cases hb
  | cons y r =>
    intro b hb
    rw [Lib.join_cons] at hb
    rcases List.mem_append.1 hb with hb | hb
    · exact Or.inr ((h y (by simp)).2.2 b hb)
    · unfold Lib.joinTail at hb
      obtain ⟨l, hl, hb⟩ := List.mem_flatten.1 hb
      obtain ⟨x, hx, rfl⟩ := List.mem_map.1 hl
      rcases List.mem_append.1 hb with hb | hb
      · left; simpa using hb
      · exact Or.inr ((h x (by simp [hx])).2.2 b hb)
/-- a line's words -/
def lws (x : Wl) : List (List UInt8) := ((List.range x.n).map x.f).map (·.data.toList)
theorem lws_wd (x : Wl) (h : lineP x) : ∀ l ∈ lws x, wdL l := by
  intro l hl
  unfold lws at hl
  obtain ⟨s, hs, rfl⟩ := List.mem_map.1 hl
  obtain ⟨j, hj, rfl⟩ := List.mem_map.1 hs
  exact wd_list _ (h.2 j (List.mem_range.1 hj))
theorem inW_ne {b : UInt8} (h : b = 32 ∨ inW b.toNat = true) : b ≠ 10 ∧ okb b.toNat = true := by
  rcases h with rfl | h
  · decide
  · unfold inW at h
    simp at h
    refine ⟨fun hh => ?_, ?_⟩
    · rw [hh] at h; exact absurd h.1 (by decide)
    · unfold okb; exact decide_eq_true (Or.inr (Or.inr ⟨by omega, h.2⟩))
theorem line_bytes (x : Wl) (h : lineP x) : ∀ b ∈ (jn x x.n).data.toList, b ≠ 10 ∧ okb b.toNat = true := by
  intro b hb
  rw [jn_list] at hb
  exact inW_ne (join_bytes _ (lws_wd x h) b hb)
theorem asc_of (s : ByteArray) (h : ∀ b ∈ s.data.toList, okb b.toNat = true) : asc s := fun i hi => by
  rw [← bb_list s i hi]
  exact okb_lt (h _ (List.getElem_mem _))
theorem line_words (x : Wl) (h : lineP x) : wordsB (jn x x.n) = (List.range x.n).map x.f := by
  rw [words_list _ (asc_of _ (fun b hb => (line_bytes x h b hb).2)), jn_list]
  show (wordsL (Lib.join (lws x) [32])).map mk = _
  rw [words_join _ (lws_wd x h)]
  unfold lws
  rw [List.map_map]
  conv => rhs; rw [← List.map_id ((List.range x.n).map x.f)]
  congr 1
/-- the text's bytes -/
theorem out_list (g : Nat → Wl) : ∀ n, (outN g n).data.toList = ((List.range n).map (fun k => (jn (g k) (g k).n).data.toList)).flatMap (· ++ [10])
  | 0 => rfl
  | n + 1 => by
    rw [List.range_succ, List.map_append, List.flatMap_append, ← out_list g n, outN]
    simp [ByteArray.data_append]
theorem lnL_flat : ∀ (ls : List (List UInt8)), (∀ l ∈ ls, ∀ b ∈ l, b ≠ 10) → lnL [] (ls.flatMap (· ++ [10])) = ls
  | [], _ => rfl
  | l :: r, h => by
    have e : (l :: r).flatMap (· ++ [10]) = l ++ 10 :: r.flatMap (· ++ [10]) := by simp
    rw [e, lnL_hit l [] _ (fun b hb => h l (by simp) b hb), List.nil_append, lnL_flat r (fun x hx => h x (by simp [hx]))]
theorem out_lns (g : Nat → Wl) (n : Nat) (h : ∀ k, k < n → lineP (g k)) : lnsB (outN g n) = (List.range n).map (fun k => jn (g k) (g k).n) := by
  rw [lns_list, out_list, lnL_flat]
  · rw [List.map_map]
    congr 1
  · intro l hl b hb
    obtain ⟨k, hk, rfl⟩ := List.mem_map.1 hl
    exact (line_bytes _ (h k (List.mem_range.1 hk)) b hb).1
theorem out_ok (g : Nat → Wl) (n : Nat) (h : ∀ k, k < n → lineP (g k)) : okT (outN g n) = true := by
  apply okT_yes
  intro i hi
  rw [← bb_list _ i hi]
  have hm : (outN g n).data.toList[i]'hi ∈ (outN g n).data.toList := List.getElem_mem _
  generalize (outN g n).data.toList[i]'hi = b at hm
  rw [out_list] at hm
  obtain ⟨l, hl, hb⟩ := List.mem_flatMap.1 hm
  obtain ⟨k, hk, rfl⟩ := List.mem_map.1 hl
  rcases List.mem_append.1 hb with hb | hb
  · exact (line_bytes _ (h k (List.mem_range.1 hk)) b hb).2
  · have : b = 10 := by simpa using hb
    rw [this]; rfl
theorem said_map (L : Nat → ByteArray) : ∀ n, (∀ k, k < n → wordsB (L k) ≠ []) → saidB 1 ((List.range n).map L) = (List.range n).map (fun k => (1 + k, wordsB (L k)))
  | 0, _ => rfl
  | n + 1, h => by
    rw [List.range_succ, List.map_append, List.map_append, List.map_cons, List.map_nil, saidB_snoc, said_map L n (fun k hk => h k (by omega)), if_neg (h n (by omega))]
    simp
/-- what is put is read -/
theorem back_maths (g : Nat → Wl) (n : Nat) (h : ∀ k, k < n → lineP (g k)) (hl : ∀ k, k < n → ¬ longP (g k)) (h4 : n ≤ 400) :
    rdE (outN g n) = 0 ∧ rdV (outN g n) = (List.range n).map (fun k => (1 + k, (List.range (g k).n).map (g k).f)) := by
  have hL := out_lns g n h
  have hm : ¬ manyP (outN g n) := by
    rintro (hh | ⟨x, hx, hh⟩)
    · rw [hL] at hh; simp at hh; omega
    · rw [hL] at hx
      obtain ⟨k, hk, rfl⟩ := List.mem_map.1 hx
      exact hl k (List.mem_range.1 hk) hh
  have he := rdE_ok _ (out_ok g n h) hm
  refine ⟨he, ?_⟩
  rw [rdV_ok _ he, hL, said_map]
  · apply List.map_congr_left
    intro k hk
    rw [line_words _ (h k (List.mem_range.1 hk))]
  · intro k hk hh
    rw [line_words _ (h k hk)] at hh
    have := (h k hk).1
    have h2 := congrArg List.length hh
    simp at h2
    omega
theorem back_alike (g g' : Nat → Wl) (n : Nat) (hr : Reads g' ((List.range n).map (fun k => (1 + k, (List.range (g k).n).map (g k).f)))) : AlikeW n g g' := by
  intro k hk
  obtain ⟨_, h2, h3⟩ := hr k (by simpa using hk)
  simp only [List.getElem_map, List.getElem_range, List.length_map, List.length_range] at h2 h3
  refine ⟨h2.symm, fun j hj => ?_⟩
  rw [h3 j, List.getElem?_map, List.getElem?_range hj]
  rfl
theorem mayB_all {g : Nat → Wl} {n : Nat} (h : mayB g n = true) : ∀ k, k < n → lineP (g k) := by
  intro k hk
  classical
  apply Decidable.byContradiction
  intro hn
  rw [mayB_no g n k hk hn] at h
  cases h
theorem putV_cases (g : Nat → Wl) (n : Nat) : (∃ e : Nat, (e = 3 ∨ e = 5) ∧ putV g n = .tuple #[.string ⟨#[]⟩, .int .i64 (e : Int)] ∧ (mayB g n = true → e = 3)) ∨
    (putV g n = .tuple #[.string (outN g n), .int .i64 0] ∧ (∀ k, k < n → lineP (g k)) ∧ (∀ k, k < n → ¬ longP (g k)) ∧ n ≤ 400) := by
  by_cases hm : mayB g n = false
  · exact Or.inl ⟨5, Or.inr rfl, putV_may g n hm, fun h => by rw [hm] at h; cases h⟩
  · have hm : mayB g n = true := by simpa using hm
    by_cases hl : ∃ k, k < n ∧ longP (g k)
    · obtain ⟨k, hk, hl⟩ := hl
      exact Or.inl ⟨3, Or.inl rfl, putV_long g n k hm hk hl, fun _ => rfl⟩
    · by_cases h4 : 400 < n
      · exact Or.inl ⟨3, Or.inl rfl, putV_many g n hm h4, fun _ => rfl⟩
      · have h1 : ∀ k, k < n → ¬ longP (g k) := fun k hk hh => hl ⟨k, hk, hh⟩
        exact Or.inr ⟨putV_ok g n hm h1 (by omega), mayB_all hm, h1, by omega⟩
/-- what a line's words are made of -/
theorem wrd_mem (P : UInt8 → Prop) : ∀ (l cur : List UInt8), (∀ b ∈ cur, bl b = false ∧ P b) → (∀ b ∈ l, P b) → ∀ w ∈ wrd cur l, w ≠ [] ∧ ∀ b ∈ w, bl b = false ∧ P b
  | [], cur, hc, _, w, hw => by
    rw [wrd] at hw
    split at hw
    · cases hw
    · obtain rfl : w = cur := by simpa using hw
      exact ⟨by assumption, hc⟩
  | b :: t, cur, hc, hl, w, hw => by
    rw [wrd] at hw
    have ht : ∀ b ∈ t, P b := fun x hx => hl x (by simp [hx])
    split at hw
    · split at hw
      · exact wrd_mem P t [] (fun b hb => by cases hb) ht w hw
      · rcases List.mem_cons.1 hw with rfl | hw
        · exact ⟨by assumption, hc⟩
        · exact wrd_mem P t [] (fun b hb => by cases hb) ht w hw
    · rename_i hb
      refine wrd_mem P t (cur ++ [b]) (fun x hx => ?_) ht w hw
      rcases List.mem_append.1 hx with hx | hx
      · exact hc x hx
      · obtain rfl : x = b := by simpa using hx
        exact ⟨by simpa using hb, hl x (by simp)⟩
theorem lnL_mem (P : UInt8 → Prop) : ∀ (l cur : List UInt8), (∀ b ∈ cur, b ≠ 10 ∧ P b) → (∀ b ∈ l, P b) → ∀ x ∈ lnL cur l, ∀ b ∈ x, b ≠ 10 ∧ P b
  | [], cur, hc, _, x, hx => by
    rw [lnL] at hx
    split at hx
    · cases hx
    · obtain rfl : x = cur := by simpa using hx
      exact hc
  | b :: t, cur, hc, hl, x, hx => by
    rw [lnL] at hx
    have ht : ∀ b ∈ t, P b := fun x hx => hl x (by simp [hx])
    split at hx
    · rcases List.mem_cons.1 hx with rfl | hx
      · exact hc
      · exact lnL_mem P t [] (fun b hb => by cases hb) ht x hx
    · rename_i hb
      refine lnL_mem P t (cur ++ [b]) (fun y hy => ?_) ht x hx
      rcases List.mem_append.1 hy with hy | hy
      · exact hc y hy
      · obtain rfl : y = b := by simpa using hy
        exact ⟨hb, hl y (by simp)⟩
theorem tw_mem {α : Type} (p : α → Bool) : ∀ (l : List α), ∀ x ∈ l.takeWhile p, p x = true
  | [], x, hx => by cases hx
  | a :: t, x, hx => by
    rw [List.takeWhile_cons] at hx
    split at hx
    · rcases List.mem_cons.1 hx with rfl | hx
      · assumption
      · exact tw_mem p t x hx
    · cases hx
/-- the words that are read may be -/
theorem read_wd (s x : ByteArray) (hs : okT s = true) (hx : x ∈ lnsB s) : (∀ b ∈ x.data.toList, b ≠ 10 ∧ okb b.toNat = true) ∧ ∀ w ∈ wordsB x, wd w = true := by
  rw [lns_list] at hx
  obtain ⟨l, hl, rfl⟩ := List.mem_map.1 hx
  have hb : ∀ b ∈ l, b ≠ 10 ∧ okb b.toNat = true := lnL_mem (fun b => okb b.toNat = true) s.data.toList [] (fun b hb => by cases hb) (fun b hb => by
    obtain ⟨j, hj, rfl⟩ := List.getElem_of_mem hb
    rw [bb_list s j hj]
    exact okT_all hs j hj) l hl
  refine ⟨by rw [list_mk]; exact hb, fun w hw => ?_⟩
  rw [words_list _ (asc_of _ (by rw [list_mk]; exact fun b h => (hb b h).2)), list_mk] at hw
  obtain ⟨v, hv, rfl⟩ := List.mem_map.1 hw
  have hv2 := tw_mem nh _ v hv
  have hv3 : v ∈ wrd [] l := (List.takeWhile_sublist _).subset hv
  obtain ⟨h1, h2⟩ := wrd_mem (fun b => b ≠ 10 ∧ okb b.toNat = true) l [] (fun b hb => by cases hb) hb v hv3
  refine wd_mk v ⟨h1, hv2, fun b hb => ?_⟩
  obtain ⟨e1, e2, e3⟩ := h2 b hb
  rw [bl_pB] at e1
  unfold pB at e1
  have e1 := of_decide_eq_false e1
  unfold okb at e3
  have e3 := of_decide_eq_true e3
  have e4 : b.toNat ≠ 10 := fun h => e2 (UInt8.toNat_inj.1 h)
  unfold inW
  simp
  omega
theorem said_mem : ∀ (l : List ByteArray) (j : Nat), ∀ r ∈ saidB j l, ∃ x ∈ l, r.2 = wordsB x ∧ wordsB x ≠ []
  | [], j, r, hr => by cases hr
  | y :: t, j, r, hr => by
    rw [saidB] at hr
    split at hr
    · obtain ⟨x, hx, h⟩ := said_mem t (j + 1) r hr
      exact ⟨x, by simp [hx], h⟩
    · rcases List.mem_cons.1 hr with rfl | hr
      · exact ⟨y, by simp, rfl, by assumption⟩
      · obtain ⟨x, hx, h⟩ := said_mem t (j + 1) r hr
        exact ⟨x, by simp [hx], h⟩
theorem rdE_zero {s : ByteArray} (h : rdE s = 0) : okT s = true ∧ ¬ manyP s := by
  unfold rdE at h
  split at h
  · cases h
  · rename_i h1
    split at h
    · cases h
    · exact ⟨by simpa using h1, by assumption⟩
/-- what is read may be put -/
theorem read_line (s : ByteArray) (hs : rdE s = 0) (g : Nat → Wl) (hr : Reads g (rdV s)) : ∀ k, k < (rdV s).length → lineP (g k) ∧ (g k).n ≤ 101 ∧ ∀ j, j < (g k).n → ((g k).f j).size ≤ 100 := by
  intro k hk
  obtain ⟨ht, hm⟩ := rdE_zero hs
  obtain ⟨h1, h2, h3⟩ := hr k hk
  have hmem : (rdV s)[k] ∈ saidB 1 (lnsB s) := by
    have := List.getElem_mem hk
    conv at this => arg 1; rw [rdV_ok s hs]
    exact this
  obtain ⟨x, hx, e, hne⟩ := said_mem _ _ _ hmem
  have hx100 := mem_size hx hm
  obtain ⟨_, hw⟩ := read_wd s x ht hx
  rw [e] at h2 h3
  have hf : ∀ j, j < (g k).n → (g k).f j ∈ wordsB x := by
    intro j hj
    rw [h3 j, List.getElem?_eq_getElem (by omega)]
    exact List.getElem_mem _
  refine ⟨⟨by rw [h2]; exact List.length_pos_iff.2 hne, fun j hj => hw _ (hf j hj)⟩, by rw [h2]; have := wordsB_len x; omega, fun j hj => ?_⟩
  have h5 : (g k).f j ∈ Lib.goFieldsP pB x := (List.takeWhile_sublist _).subset (hf j hj)
  have := fields_sz pB x _ h5
  omega
end Go.Proofs.YtblfnjdbihhglaaGreatDoor.Li
namespace Go.Proofs.YtblfnjdbihhglaaGreatDoor
open Go.ChangeShapes Go.WideShapes Go.ChangeAt Go.RowKit
open Li (Ss Gl Wl Ws Reads bb dg numN wd inW nh wrd wordsL wordsB)
set_option linter.unusedVariables false
set_option linter.unusedSimpArgs false
/-- the number of digits, from the left -/
def fvL (l : List UInt8) : Nat := l.foldl (fun a c => 10 * a + dg c.toNat) 0
theorem num_fv (s : ByteArray) : ∀ k, k ≤ s.size → numN 10 s k = fvL (s.data.toList.take k)
  | 0, _ => rfl
  | k + 1, hk => by
    have hl : k < s.data.toList.length := by rw [Li.list_len]; omega
    rw [numN, num_fv s k (by omega), List.take_succ_eq_append_getElem hl, fvL, fvL, List.foldl_append, ← Li.bb_list s k (by omega)]
    rfl
theorem dg_digit (i : Nat) (h : i < 10) : dg (UInt8.ofNat (48 + i)).toNat = i := by
  have : (UInt8.ofNat (48 + i)).toNat = 48 + i := by simp; omega
  rw [this]
  unfold dg
  rw [if_pos (by omega)]
  omega
theorem fv_dec (n : Nat) : fvL (Lib.decDigits n) = n := by
  induction n using Nat.strongRecOn with
  | _ n ih =>
    rw [Lib.decDigits]
    split
    · rename_i h
      show 10 * 0 + dg _ = n
      rw [dg_digit n h]; omega
    · rename_i h
      rw [fvL, List.foldl_append]
      show 10 * (fvL (Lib.decDigits (n / 10))) + dg _ = n
      rw [ih (n / 10) (by omega), dg_digit _ (by omega)]
      omega
theorem head_dec (n : Nat) (h0 : 1 ≤ n) : ∃ c r, Lib.decDigits n = c :: r ∧ c.toNat ≠ 48 := by
  induction n using Nat.strongRecOn with
  | _ n ih =>
    rw [Lib.decDigits]
    split
    · rename_i h
      refine ⟨_, [], rfl, ?_⟩
      have : (UInt8.ofNat (48 + n)).toNat = 48 + n := by simp; omega
      omega
    · rename_i h
      obtain ⟨c, r, e, hc⟩ := ih (n / 10) (by omega) (by omega)
      exact ⟨c, r ++ [UInt8.ofNat (48 + n % 10)], by rw [e]; rfl, hc⟩
theorem tn_list (n : Nat) : (tn n).data.toList = Lib.decDigits n := by unfold tn; simp
theorem tn_len (n : Nat) : (tn n).size = (Lib.decDigits n).length := by rw [← Li.list_len, tn_list]
theorem dg_dig {c : Nat} (h1 : 48 ≤ c) (h2 : c ≤ 57) : dg c < 10 := by unfold dg; rw [if_pos ⟨h1, h2⟩]; omega
/-- a numeral is one, and its number comes back -/
theorem decP_tn (n : Nat) (hn : n < 4294967296) : decP (tn n) ∧ decN (tn n) = n := by
  have hv : decN (tn n) = n := by
    unfold decN
    rw [num_fv _ _ (Nat.le_refl _), tn_len, tn_list, List.take_length, fv_dec]
  refine ⟨⟨?_, ?_, ?_, ?_, ?_⟩, hv⟩
  · rw [tn_len]
    by_cases h0 : n < 1
    · obtain rfl : n = 0 := by omega
      rw [Lib.decDigits, dif_pos (by decide)]
      decide
    · rw [Lib.decDigits_length]
      by_cases h9 : n < 10 ^ 9
      · have := Lib.lt_pow_nDigits n
        have h1 := Lib.numDigits_eq n (by omega) (by omega)
        apply Decidable.byContradiction
        intro hh
        have hu : ∀ k, k < 10 → 10 ^ k ≤ n → n < 10 ^ (k + 1) → False := fun k hk a b => by
          have := Lib.nDigits_unique k n a b
          omega
        rcases (by omega : n < 10 ∨ (10 ≤ n ∧ n < 100) ∨ (100 ≤ n ∧ n < 1000) ∨ (1000 ≤ n ∧ n < 10000) ∨ (10000 ≤ n ∧ n < 100000) ∨ (100000 ≤ n ∧ n < 1000000) ∨ (1000000 ≤ n ∧ n < 10000000) ∨ (10000000 ≤ n ∧ n < 100000000) ∨ (100000000 ≤ n ∧ n < 1000000000)) with h | ⟨a, b⟩ | ⟨a, b⟩ | ⟨a, b⟩ | ⟨a, b⟩ | ⟨a, b⟩ | ⟨a, b⟩ | ⟨a, b⟩ | ⟨a, b⟩
        · exact hu 0 (by omega) (by omega) (by omega)
        · exact hu 1 (by omega) (by omega) (by omega)
        · exact hu 2 (by omega) (by omega) (by omega)
        · exact hu 3 (by omega) (by omega) (by omega)
        · exact hu 4 (by omega) (by omega) (by omega)
        · exact hu 5 (by omega) (by omega) (by omega)
        · exact hu 6 (by omega) (by omega) (by omega)
        · exact hu 7 (by omega) (by omega) (by omega)
        · exact hu 8 (by omega) (by omega) (by omega)
      · rw [Lib.nDigits_unique 9 n (by omega) (by omega)]
        omega
  · rw [tn_len, Lib.decDigits_length]
    exact Lib.nDigits_pos n
  · rintro ⟨h1, h2⟩
    have h1n : 1 ≤ n := by
      apply Decidable.byContradiction
      intro hh
      obtain rfl : n = 0 := by omega
      rw [tn_len, Lib.decDigits, dif_pos (by decide)] at h1
      exact absurd h1 (by decide)
    obtain ⟨c, r, e, hc⟩ := head_dec n h1n
    have h3 := Li.bb_list (tn n) 0 (by omega)
    rw [h2] at h3
    have h4 : (tn n).data.toList = c :: r := by rw [tn_list, e]
    simp only [h4, List.getElem_cons_zero] at h3
    exact hc h3
  · intro i hi
    have h3 := Li.bb_list (tn n) i hi
    have hm := digits_are n ((tn n).data.toList[i]'(by rw [Li.list_len]; exact hi)) (by
      rw [← tn_list]
      exact List.getElem_mem _)
    rw [h3] at hm
    exact dg_dig hm.1 hm.2
  · show decN (tn n) < _
    rw [hv]; exact hn
/-- words joined are no longer than their line -/
def sumL : List (List UInt8) → Nat
  | [] => 0
  | w :: r => w.length + 1 + sumL r
theorem wrd_sum : ∀ (l cur : List UInt8), sumL (wrd cur l) ≤ cur.length + l.length + 1
  | [], cur => by
    rw [wrd]
    split
    · simp [sumL]
    · simp [sumL]
  | b :: t, cur => by
    rw [wrd]
    split
    · split
      · have := wrd_sum t []
        simp at this ⊢
        omega
      · have := wrd_sum t []
        simp [sumL] at this ⊢
        omega
    · have := wrd_sum t (cur ++ [b])
      simp at this ⊢
      omega
theorem sum_sub : ∀ (p : List UInt8 → Bool) (l : List (List UInt8)), sumL (l.takeWhile p) ≤ sumL l
  | _, [] => Nat.le_refl _
  | p, w :: r => by
    rw [List.takeWhile_cons]
    have := sum_sub p r
    split
    · simp [sumL]; exact this
    · simp [sumL]
theorem join_sum : ∀ (r : List (List UInt8)), (Lib.joinTail [32] r).length = sumL r
  | [] => rfl
  | w :: r => by
    have e : Lib.joinTail [32] (w :: r) = 32 :: (w ++ Lib.joinTail [32] r) := by simp [Lib.joinTail]
    rw [e, List.length_cons, List.length_append, join_sum r]
    simp [sumL]
    omega
theorem join_len (ws : List (List UInt8)) : (Lib.join ws [32]).length + 1 ≤ sumL ws + (if ws = [] then 1 else 0) := by
  cases ws with
  | nil => simp [Lib.join, sumL]
  | cons w r =>
    rw [Lib.join_cons, List.length_append, join_sum r]
    simp [sumL]
    omega
theorem words_len (l : List UInt8) : (Lib.join (wordsL l) [32]).length ≤ l.length := by
  have h1 := join_len (wordsL l)
  have h2 : sumL (wordsL l) ≤ l.length + 1 := by
    have := sum_sub nh (wrd [] l)
    have := wrd_sum l []
    unfold wordsL
    simp at this
    omega
  by_cases h : wordsL l = []
  · rw [h]; simp [Lib.join]
  · rw [if_neg h] at h1; omega
end Go.Proofs.YtblfnjdbihhglaaGreatDoor
namespace Go.Proofs.YtblfnjdbihhglaaGreatDoor
open Go.ChangeShapes Go.WideShapes Go.ChangeAt Go.RowKit
open Li (Ss Gl Wl Ws Reads rdE rdV putV outN lineP longP)
set_option linter.unusedVariables false
set_option linter.unusedSimpArgs false
theorem words_at {n : Nat} {h : Nat → ByteArray} {L : List ByteArray} (hw : (List.range n).map h = L) : n = L.length ∧ ∀ j, (hj : j < L.length) → h j = L[j] := by
  subst hw
  exact ⟨by simp, fun j hj => by simp⟩
theorem tail_zero {es : List Ed} {y : Ed} (h : es.getLast? = none ∨ ∃ l, es.getLast? = some l ∧ ltE l y = true) : tailM es y = 0 := by
  unfold tailM
  rcases h with h | ⟨l, h, hl⟩
  · rw [h]
  · rw [h]
    rcases cmpE_cases l y with ⟨h1, _⟩ | ⟨_, h2, _⟩ | ⟨_, h2, _⟩
    · simp only
      rw [if_neg (by omega), if_neg (by omega)]
    · rw [hl] at h2; cases h2
    · rw [hl] at h2; cases h2
theorem tail_inv {es : List Ed} {y : Ed} (h : tailM es y = 0) : es.getLast? = none ∨ ∃ l, es.getLast? = some l ∧ ltE l y = true := by
  unfold tailM at h
  cases hl : es.getLast? with
  | none => exact Or.inl rfl
  | some l =>
    rw [hl] at h
    simp only at h
    refine Or.inr ⟨l, rfl, ?_⟩
    rcases cmpE_cases l y with ⟨_, h2, _⟩ | ⟨h1, _⟩ | ⟨h1, _⟩
    · exact h2
    · rw [if_neg (by omega), if_pos h1] at h; cases h
    · rw [if_pos h1] at h; cases h
theorem two_tn (M L wh : Nat) (hM : 0 < M) (h1 : wh < 4294967296) (h2 : wh / M ≤ L) : twoN M L (tn (wh % M)) (tn (wh / M)) = wh ∧ twoK M L (tn (wh % M)) (tn (wh / M)) = true := by
  classical
  have ha := decP_tn (wh % M) (by have := Nat.mod_le wh M; omega)
  have hb := decP_tn (wh / M) (by have := Nat.div_le_self wh M; omega)
  have ht : twoB M L (tn (wh % M)) (tn (wh / M)) := ⟨decB_yes ha.1, decB_yes hb.1, by rw [ha.2]; exact Nat.mod_lt _ hM, by rw [hb.2]; exact h2⟩
  refine ⟨?_, ?_⟩
  · unfold twoN
    rw [if_pos ht, ha.2, hb.2]
    exact Nat.mod_add_div wh M
  · unfold twoK
    exact decide_eq_true ht
theorem two_inv {M L : Nat} {a b : ByteArray} (hM : 0 < M) (h : twoK M L a b = true) : tn (twoN M L a b % M) = a ∧ tn (twoN M L a b / M) = b := by
  classical
  unfold twoK at h
  have h := of_decide_eq_true h
  unfold twoN
  rw [if_pos h]
  obtain ⟨h1, h2, h3, h4⟩ := h
  rw [Nat.add_mul_mod_self_left, Nat.mod_eq_of_lt h3, Nat.add_mul_div_left _ _ hM, Nat.div_eq_of_lt h3, Nat.zero_add]
  exact ⟨tn_dec (decB_true h1), tn_dec (decB_true h2)⟩
/-- an edge that may be, told and read -/
theorem said_step (cs : List ByteArray) (es : List Ed) (x : Ed) (g : Nat → ByteArray) (hg : ∀ i, i < cs.length → nmAt cs (g i) = some i ∧ nameB (g i) = true) (hx : edB x cs.length = true) (hok : x.ok) (ht : tailM es x = 0) (n : Nat) (h : Nat → ByteArray)
    (hw : (List.range n).map h = saidL g x) : stepM cs es n h = (0, cs, es ++ [x]) := by
  obtain ⟨⟨k1, k5, f0, f1⟩, hto, hnm, hwh⟩ := edB_out hx
  have hlt := hok.2.1
  obtain ⟨k, fr, dt, nm, wh⟩ := x
  simp only at k1 k5 f0 f1 hto hnm hwh hlt
  obtain ⟨i, rfl⟩ : ∃ i : Nat, fr = (i : Int) := ⟨fr.toNat, by omega⟩
  obtain ⟨a1, a2⟩ := hg i (by omega)
  have hpush : ∀ y : Ed, addS cs es (0, y) = (0, cs, es ++ [y]) := fun y => rfl
  unfold toB at hto
  simp only at hto
  have e0 : ((i : Int)).toNat = i := rfl
  rcases (by omega : k = 1 ∨ k = 2 ∨ k = 3 ∨ k = 4 ∨ k = 5) with rfl | rfl | rfl | rfl | rfl
  · rw [if_neg (by decide)] at hto
    have hdt := of_decide_eq_true hto
    subst hdt
    have hs : saidL g ⟨1, (i : Int), -1, nm, wh⟩ = [sExport, g i, nm, tn (wh % 256), tn (wh / 256)] := by unfold saidL; rw [if_pos rfl]; rfl
    rw [hs] at hw
    obtain ⟨hn, hh⟩ := words_at hw
    have hn : n = 5 := hn
    have h0 : h 0 = sExport := hh 0 (by simp)
    have h1 : h 1 = g i := hh 1 (by simp)
    have h2 : h 2 = nm := hh 2 (by simp)
    have h3 : h 3 = tn (wh % 256) := hh 3 (by simp)
    have h4 : h 4 = tn (wh / 256) := hh 4 (by simp)
    have hq : wh / 256 ≤ 4088 := by
      unfold whatB w1 at hwh
      rw [if_pos rfl] at hwh
      simp at hwh
      exact hwh.2.1
    obtain ⟨t1, t2⟩ := two_tn 256 4088 wh (by decide) hlt hq
    unfold stepM
    rw [if_neg (by rw [h0]; decide), if_pos h0, if_pos hn, h1, h2, h3, h4, t1, t2]
    have hf : formB ⟨1, 0, 0, nm, wh⟩ (g i) ⟨#[]⟩ = true := by
      unfold formB
      rw [a2, hnm, hwh]; rfl
    unfold addM
    rw [hf, if_neg (by decide), if_neg (by simp), a1]
    show addS cs es (tailM es ⟨1, (i : Int), -1, nm, wh⟩, ⟨1, (i : Int), -1, nm, wh⟩) = _
    rw [ht, hpush]
  · rw [if_pos rfl] at hto
    have hdt := of_decide_eq_true hto
    obtain ⟨d, rfl⟩ : ∃ d : Nat, dt = (d : Int) := ⟨dt.toNat, by omega⟩
    obtain ⟨b1, b2⟩ := hg d (by omega)
    have hs : saidL g ⟨2, (i : Int), (d : Int), nm, wh⟩ = [sCall, g i, g d, nm] := by unfold saidL; rw [if_neg (by simp), if_pos rfl]; rfl
    rw [hs] at hw
    obtain ⟨hn, hh⟩ := words_at hw
    have hn : n = 4 := hn
    have h0 : h 0 = sCall := hh 0 (by simp)
    have h1 : h 1 = g i := hh 1 (by simp)
    have h2 : h 2 = g d := hh 2 (by simp)
    have h3 : h 3 = nm := hh 3 (by simp)
    have hz : wh = 0 := by
      unfold whatB at hwh
      rw [if_neg (by decide), if_neg (by decide), if_neg (by decide)] at hwh
      exact of_decide_eq_true hwh
    subst hz
    unfold stepM
    rw [if_neg (by rw [h0]; decide), if_neg (by rw [h0]; decide), if_pos h0, if_pos hn, h1, h2, h3]
    have hf : formB ⟨2, 0, 0, nm, 0⟩ (g i) (g d) = true := by
      unfold formB
      rw [a2, hnm, hwh, b2]; rfl
    unfold addM
    rw [hf, if_neg (by decide), if_pos rfl, b1, a1]
    show addS cs es (tailM es ⟨2, (i : Int), (d : Int), nm, 0⟩, ⟨2, (i : Int), (d : Int), nm, 0⟩) = _
    rw [ht, hpush]
  · rw [if_neg (by decide)] at hto
    have hdt := of_decide_eq_true hto
    subst hdt
    have hs : saidL g ⟨3, (i : Int), -1, nm, wh⟩ = [sDevice, g i, nm, tn (wh % 65536), tn (wh / 65536)] := by unfold saidL; rw [if_neg (by simp), if_neg (by simp), if_pos rfl]; rfl
    rw [hs] at hw
    obtain ⟨hn, hh⟩ := words_at hw
    have hn : n = 5 := hn
    have h0 : h 0 = sDevice := hh 0 (by simp)
    have h1 : h 1 = g i := hh 1 (by simp)
    have h2 : h 2 = nm := hh 2 (by simp)
    have h3 : h 3 = tn (wh % 65536) := hh 3 (by simp)
    have h4 : h 4 = tn (wh / 65536) := hh 4 (by simp)
    have hq : wh / 65536 ≤ 256 := by
      unfold whatB w3 at hwh
      rw [if_neg (by decide), if_pos rfl] at hwh
      simp at hwh
      omega
    obtain ⟨t1, t2⟩ := two_tn 65536 256 wh (by decide) hlt hq
    unfold stepM
    rw [if_neg (by rw [h0]; decide), if_neg (by rw [h0]; decide), if_neg (by rw [h0]; decide), if_pos h0, if_pos hn, h1, h2, h3, h4, t1, t2]
    have hf : formB ⟨3, 0, 0, nm, wh⟩ (g i) ⟨#[]⟩ = true := by
      unfold formB
      rw [a2, hnm, hwh]; rfl
    unfold addM
    rw [hf, if_neg (by decide), if_neg (by simp), a1]
    show addS cs es (tailM es ⟨3, (i : Int), -1, nm, wh⟩, ⟨3, (i : Int), -1, nm, wh⟩) = _
    rw [ht, hpush]
  · rw [if_neg (by decide)] at hto
    have hdt := of_decide_eq_true hto
    subst hdt
    have hs : saidL g ⟨4, (i : Int), -1, nm, wh⟩ = [sShare, g i, nm, if wh = 3 then ⟨#[114, 119]⟩ else ⟨#[114]⟩] := by unfold saidL; rw [if_neg (by simp), if_neg (by simp), if_neg (by simp), if_pos rfl]; rfl
    rw [hs] at hw
    obtain ⟨hn, hh⟩ := words_at hw
    have hn : n = 4 := hn
    have h0 : h 0 = sShare := hh 0 (by simp)
    have h1 : h 1 = g i := hh 1 (by simp)
    have h2 : h 2 = nm := hh 2 (by simp)
    have h3 : h 3 = if wh = 3 then ⟨#[114, 119]⟩ else ⟨#[114]⟩ := hh 3 (by simp)
    have hwc : wh = 1 ∨ wh = 3 := by
      unfold whatB at hwh
      rw [if_neg (by decide), if_neg (by decide), if_pos rfl] at hwh
      exact of_decide_eq_true hwh
    have t1 : (if h 3 = (⟨#[114, 119]⟩ : ByteArray) then 3 else 1) = wh ∧ (decide (h 3 = (⟨#[114]⟩ : ByteArray)) || decide (h 3 = (⟨#[114, 119]⟩ : ByteArray))) = true := by
      rw [h3]
      rcases hwc with rfl | rfl
      · rw [if_neg (by decide), if_neg (by decide)]; exact ⟨rfl, by decide⟩
      · rw [if_pos rfl, if_pos rfl]; exact ⟨rfl, by decide⟩
    unfold stepM
    rw [if_neg (by rw [h0]; decide), if_neg (by rw [h0]; decide), if_neg (by rw [h0]; decide), if_neg (by rw [h0]; decide), if_pos h0, if_pos hn, t1.1, t1.2, h1, h2]
    have hf : formB ⟨4, 0, 0, nm, wh⟩ (g i) ⟨#[]⟩ = true := by
      unfold formB
      rw [a2, hnm, hwh]; rfl
    unfold addM
    rw [hf, if_neg (by decide), if_neg (by simp), a1]
    show addS cs es (tailM es ⟨4, (i : Int), -1, nm, wh⟩, ⟨4, (i : Int), -1, nm, wh⟩) = _
    rw [ht, hpush]
  · rw [if_neg (by decide)] at hto
    have hdt := of_decide_eq_true hto
    subst hdt
    have hs : saidL g ⟨5, (i : Int), -1, nm, wh⟩ = [sStart, g i, nm] := by unfold saidL; rw [if_neg (by simp), if_neg (by simp), if_neg (by simp), if_neg (by simp)]; rfl
    rw [hs] at hw
    obtain ⟨hn, hh⟩ := words_at hw
    have hn : n = 3 := hn
    have h0 : h 0 = sStart := hh 0 (by simp)
    have h1 : h 1 = g i := hh 1 (by simp)
    have h2 : h 2 = nm := hh 2 (by simp)
    have hz : wh = 0 := by
      unfold whatB at hwh
      rw [if_neg (by decide), if_neg (by decide), if_neg (by decide)] at hwh
      exact of_decide_eq_true hwh
    subst hz
    unfold stepM
    rw [if_neg (by rw [h0]; decide), if_neg (by rw [h0]; decide), if_neg (by rw [h0]; decide), if_neg (by rw [h0]; decide), if_neg (by rw [h0]; decide), if_pos h0, if_pos hn, h1, h2]
    have hf : formB ⟨5, 0, 0, nm, 0⟩ (g i) ⟨#[]⟩ = true := by
      unfold formB
      rw [a2, hnm, hwh]; rfl
    unfold addM
    rw [hf, if_neg (by decide), if_neg (by simp), a1]
    show addS cs es (tailM es ⟨5, (i : Int), -1, nm, 0⟩, ⟨5, (i : Int), -1, nm, 0⟩) = _
    rw [ht, hpush]
theorem run_steps (g : Nat → Wl) (cs : Nat → List ByteArray) (es : Nat → List Ed) (N : Nat) (hs : ∀ k, k < N → stepM (cs k) (es k) (g k).n (g k).f = (0, cs (k + 1), es (k + 1))) : ∀ m k, k + m = N → runG g m k (cs k) (es k) = ((0, 0), cs N, es N)
  | 0, k, h => by
    obtain rfl : k = N := by omega
    rfl
  | m + 1, k, h => by
    rw [runG, hs k (by omega), if_pos rfl]
    exact run_steps g cs es N hs m (k + 1) (by omega)
theorem range_get (L : List ByteArray) : (List.range L.length).map (fun j => (L[j]?).getD ⟨#[]⟩) = L := by
  refine List.ext_getElem (by simp) fun j h1 h2 => ?_
  simp only [List.getElem_map, List.getElem_range, List.getElem?_eq_getElem h2, Option.getD_some]
/-- a line's words, of those of a graph -/
def rowW (R : List (Nat × List ByteArray)) (k : Nat) : List ByteArray := ((R[k]?).map (·.2)).getD []
theorem gR_comp (nc : Nat) (g : Nat → ByteArray) (f : Nat → Ed) (n k : Nat) (hk : k < nc) : rowW (gR nc g f n) k = [sComp, g k] := by
  unfold rowW gR
  rw [List.getElem?_append_left (by rw [gR1_len]; exact hk)]
  unfold gR1
  rw [List.getElem?_map, List.getElem?_range hk]
  rfl
theorem gR_edge (nc : Nat) (g : Nat → ByteArray) (f : Nat → Ed) (n j : Nat) (hj : j < n) : rowW (gR nc g f n) (nc + j) = saidL g (f j) := by
  unfold rowW gR
  rw [List.getElem?_append_right (by rw [gR1_len]; omega), gR1_len, Nat.add_sub_cancel_left, List.getElem?_map, List.getElem?_range hj]
  rfl
theorem range_last (f : Nat → Ed) (j : Nat) : ((List.range j).map f).getLast? = if j = 0 then none else some (f (j - 1)) := by
  cases j with
  | zero => rfl
  | succ j => rw [List.range_succ, List.map_append, List.map_singleton, List.getLast?_append]; simp
/-- what is put is got -/
theorem back_get {nc n : Nat} {g : Nat → ByteArray} {f : Nat → Ed} (hg : GrP nc g n f) (hok : ∀ k, k < n → (f k).ok) (s : ByteArray) (hp : putR (gR nc g f n) = .tuple #[.string s, .int .i64 0]) :
    getV s = ((0, 0), (List.range nc).map g, (List.range n).map f) := by
  have hlen := gR_len nc g f n
  have hG : ∀ k, wlW (rowW (gR nc g f n) k) = wlW ((((gR nc g f n)[k]?).map (·.2)).getD []) := fun k => rfl
  obtain ⟨h1, h2⟩ := hg
  have hnd := nlist g nc (fun a ha => (h1 a ha).2)
  unfold putR at hp
  rcases Li.putV_cases (fun k => wlW (rowW (gR nc g f n) k)) (gR nc g f n).length with ⟨e, he, h, _⟩ | ⟨h, h3, h4, h5⟩
  · have := h.symm.trans hp
    simp at this
    omega
  · have hs := h.symm.trans hp
    simp at hs
    obtain ⟨m1, m2⟩ := Li.back_maths _ _ h3 h4 h5
    rw [hs] at m1 m2
    have hr : Reads (fun k => (⟨((1 + k : Nat) : Int), none, (rowW (gR nc g f n) k).length, 0, fun j => ((rowW (gR nc g f n) k)[j]?).getD ⟨#[]⟩⟩ : Wl)) (rdV s) := by
      rw [m2]
      intro k hk
      have e : (List.range (wlW (rowW (gR nc g f n) k)).n).map (wlW (rowW (gR nc g f n) k)).f = rowW (gR nc g f n) k := range_get _
      simp only [List.getElem_map, List.getElem_range, e]
      exact ⟨trivial, trivial, fun j => trivial⟩
    rw [getV_reads m1 hr]
    have hl : (rdV s).length = nc + n := by rw [m2]; simp [hlen]
    rw [hl]
    have := run_steps (fun k => (⟨((1 + k : Nat) : Int), none, (rowW (gR nc g f n) k).length, 0, fun j => ((rowW (gR nc g f n) k)[j]?).getD ⟨#[]⟩⟩ : Wl)) (fun k => (List.range (min k nc)).map g) (fun k => (List.range (k - nc)).map f) (nc + n) (fun k hk => ?_) (nc + n) 0 (by omega)
    · simp only [Nat.zero_min, Nat.zero_sub, List.range_zero, List.map_nil, Nat.add_sub_cancel_left] at this
      rw [this, Nat.min_eq_right (by omega)]
    · simp only
      by_cases hkc : k < nc
      · rw [Nat.min_eq_left (by omega), Nat.min_eq_left (by omega), Nat.sub_eq_zero_of_le (by omega), Nat.sub_eq_zero_of_le (by omega), gR_comp nc g f n k hkc]
        unfold stepM
        rw [if_pos (by rfl), if_pos (by rfl)]
        show compM _ _ (g k) = _
        unfold compM
        rw [(h1 k hkc).1, if_neg (by simp), nmAt_none _ _ (by
          intro hm
          obtain ⟨i, hi, e⟩ := List.mem_map.1 hm
          exact (h1 k hkc).2 i (List.mem_range.1 hi) e.symm)]
        simp only [List.range_succ, List.map_append, List.map_cons, List.map_nil]
      · obtain ⟨j, rfl⟩ : ∃ j, k = nc + j := ⟨k - nc, by omega⟩
        have hj : j < n := by omega
        rw [Nat.min_eq_right (by omega), Nat.min_eq_right (by omega), Nat.add_sub_cancel_left, show nc + j + 1 - nc = j + 1 by omega, gR_edge nc g f n j hj, List.range_succ, List.map_append, List.map_singleton]
        refine said_step _ _ (f j) g (fun i hi => ?_) (by rw [List.length_map, List.length_range]; exact (h2 j hj).1) (hok j hj) (tail_zero ?_) _ _ (range_get _)
        · rw [List.length_map, List.length_range] at hi
          exact ⟨nmAt_nodup _ hnd i (g i) (by rw [List.getElem?_map, List.getElem?_range hi]; rfl), (h1 i hi).1⟩
        · rw [range_last]
          by_cases h0 : j = 0
          · rw [if_pos h0]; exact Or.inl rfl
          · rw [if_neg h0]; exact Or.inr ⟨_, rfl, (h2 j hj).2 (by omega)⟩
end Go.Proofs.YtblfnjdbihhglaaGreatDoor
namespace Go.Proofs.YtblfnjdbihhglaaGreatDoor
open Go.ChangeShapes Go.WideShapes Go.ChangeAt Go.RowKit
open Li (Ss Gl Wl Ws Reads rdE rdV putV outN lineP longP AlikeW)
set_option linter.unusedVariables false
set_option linter.unusedSimpArgs false
def nf (cs : List ByteArray) (i : Nat) : ByteArray := (cs[i]?).getD ⟨#[]⟩
def ef (es : List Ed) (i : Nat) : Ed := (es[i]?).getD eM
def Wd (x : Wl) : List ByteArray := (List.range x.n).map x.f
theorem addM_eq' (cs : List ByteArray) (es : List Ed) (x : Ed) (ok : Bool) (a b : ByteArray) (h : (ok && formB x a b) = true) : addM cs es x ok a b = (if x.k = 2 then
    match nmAt cs b with
    | none => (6, x)
    | some d => match nmAt cs a with
      | none => (6, x)
      | some f => (tailM es (setE x f (d : Int)), setE x f (d : Int))
  else match nmAt cs a with
    | none => (6, x)
    | some f => (tailM es (setE x f (-1)), setE x f (-1))) := by
  unfold addM
  rw [if_neg (by rw [h]; decide)]
  rfl
/-- what add has asked of an edge that is in -/
theorem add_inv {cs : List ByteArray} {es : List Ed} {x : Ed} {ok : Bool} {a b : ByteArray} (h : (addM cs es x ok a b).1 = 0) :
    ok = true ∧ nameB a = true ∧ nmB x.k x.nm = true ∧ whatB x.k x.wh = true ∧ ∃ i, i < cs.length ∧ nf cs i = a ∧ tailM es (addM cs es x ok a b).2 = 0 ∧
      ((x.k = 2 ∧ ∃ d, d < cs.length ∧ nf cs d = b ∧ (addM cs es x ok a b).2 = setE x i (d : Int)) ∨ (x.k ≠ 2 ∧ (addM cs es x ok a b).2 = setE x i (-1))) := by
  by_cases hf : (ok && formB x a b) = false
  · unfold addM at h
    rw [if_pos hf] at h
    cases h
  · have hf : (ok && formB x a b) = true := by simpa using hf
    have hu : addM cs es x ok a b = _ := addM_eq' cs es x ok a b hf
    have hb := hf
    unfold formB at hb
    simp only [Bool.and_eq_true] at hb
    obtain ⟨b1, b2, b3, b4, _⟩ := hb
    refine ⟨b1, b2, b3, b4, ?_⟩
    rw [hu] at h ⊢
    by_cases h2 : x.k = 2
    · rw [if_pos h2] at h ⊢
      cases hd : nmAt cs b with
      | none => rw [hd] at h; cases h
      | some d =>
        rw [hd] at h
        simp only at h
        cases hi : nmAt cs a with
        | none => rw [hi] at h; cases h
        | some i =>
          rw [hi] at h
          refine ⟨i, nmAt_lt hi, by unfold nf; rw [nmAt_some _ _ _ hi]; rfl, h, Or.inl ⟨h2, d, nmAt_lt hd, by unfold nf; rw [nmAt_some _ _ _ hd]; rfl, rfl⟩⟩
    · rw [if_neg h2] at h ⊢
      cases hi : nmAt cs a with
      | none => rw [hi] at h; cases h
      | some i =>
        rw [hi] at h
        exact ⟨i, nmAt_lt hi, by unfold nf; rw [nmAt_some _ _ _ hi]; rfl, h, Or.inr ⟨h2, rfl⟩⟩
/-- what the lines so far have left -/
def Inv (g : Nat → Wl) (k : Nat) (cs : List ByteArray) (es : List Ed) : Prop :=
  cs.length + es.length = k ∧ cs.Nodup ∧ (∀ s ∈ cs, nameB s = true) ∧ (∀ i, i < es.length → edB (ef es i) cs.length = true ∧ (0 < i → ltE (ef es (i - 1)) (ef es i) = true)) ∧
    (∀ i, i < cs.length → Wd (g i) = [sComp, nf cs i]) ∧ (∀ j, j < es.length → Wd (g (cs.length + j)) = saidL (nf cs) (ef es j))
theorem ef_app (es : List Ed) (y : Ed) (j : Nat) (hj : j < es.length) : ef (es ++ [y]) j = ef es j := by unfold ef; rw [List.getElem?_append_left hj]
theorem ef_new (es : List Ed) (y : Ed) : ef (es ++ [y]) es.length = y := by unfold ef; simp
theorem nf_app (cs : List ByteArray) (y : ByteArray) (j : Nat) (hj : j < cs.length) : nf (cs ++ [y]) j = nf cs j := by unfold nf; rw [List.getElem?_append_left hj]
theorem nf_new (cs : List ByteArray) (y : ByteArray) : nf (cs ++ [y]) cs.length = y := by unfold nf; simp
theorem ef_last {es : List Ed} {l : Ed} (h : es.getLast? = some l) : 0 < es.length ∧ ef es (es.length - 1) = l := by
  obtain ⟨ys, rfl⟩ := List.getLast?_eq_some_iff.1 h
  refine ⟨by simp, ?_⟩
  rw [show (ys ++ [l]).length - 1 = ys.length by simp]
  exact ef_new ys l
/-- an edge more -/
theorem inv_edge {g : Nat → Wl} {k : Nat} {cs : List ByteArray} {es : List Ed} {y : Ed} (h : Inv g k cs es) (hy : edB y cs.length = true) (ht : tailM es y = 0) (hw : Wd (g k) = saidL (nf cs) y) : Inv g (k + 1) cs (es ++ [y]) := by
  obtain ⟨h1, h2, h3, h4, h5, h6⟩ := h
  refine ⟨by simp; omega, h2, h3, fun i hi => ?_, h5, fun j hj => ?_⟩
  · simp only [List.length_append, List.length_cons, List.length_nil] at hi
    by_cases hl : i < es.length
    · rw [ef_app es y i hl]
      refine ⟨(h4 i hl).1, fun h0 => ?_⟩
      rw [ef_app es y (i - 1) (by omega)]
      exact (h4 i hl).2 h0
    · obtain rfl : i = es.length := by omega
      rw [ef_new]
      refine ⟨hy, fun h0 => ?_⟩
      rw [ef_app es y _ (by omega)]
      rcases tail_inv ht with hn | ⟨l, hl, hlt⟩
      · have : es = [] := by simpa using hn
        rw [this] at h0; simp at h0
      · rw [(ef_last hl).2]; exact hlt
  · simp only [List.length_append, List.length_cons, List.length_nil] at hj
    by_cases hl : j < es.length
    · rw [ef_app es y j hl]
      exact h6 j hl
    · obtain rfl : j = es.length := by omega
      rw [ef_new, h1]
      exact hw
/-- .. of an edge that add lets in -/
theorem inv_add {g : Nat → Wl} {k : Nat} {cs : List ByteArray} {es : List Ed} {x : Ed} {ok : Bool} {a b : ByteArray} (h : Inv g k cs es) (hk : 1 ≤ x.k ∧ x.k ≤ 5) (h0 : (addM cs es x ok a b).1 = 0)
    (hw : ok = true → nmB x.k x.nm = true → ∀ i, nf cs i = a → ∀ d : Int, (x.k = 2 → nf cs d.toNat = b) → whatB x.k x.wh = true → Wd (g k) = saidL (nf cs) (setE x i d)) :
    Inv g (k + 1) cs (pushE es (addM cs es x ok a b)) := by
  unfold pushE
  rw [if_pos h0]
  obtain ⟨hok, ha, hnm, hwh, i, hi, hia, ht, hd⟩ := add_inv h0
  refine inv_edge h ?_ ht ?_
  · rcases hd with ⟨h2, d, hdl, hdb, he⟩ | ⟨h2, he⟩
    · rw [he]
      unfold edB setE
      simp only
      rw [hnm, hwh, decide_eq_true (by omega : 1 ≤ x.k ∧ x.k ≤ 5 ∧ 0 ≤ (i : Int) ∧ (i : Int) < (cs.length : Int))]
      unfold toB
      simp only
      rw [if_pos h2, decide_eq_true (by omega : 0 ≤ (d : Int) ∧ (d : Int) < (cs.length : Int))]
      rfl
    · rw [he]
      unfold edB setE
      simp only
      rw [hnm, hwh, decide_eq_true (by omega : 1 ≤ x.k ∧ x.k ≤ 5 ∧ 0 ≤ (i : Int) ∧ (i : Int) < (cs.length : Int))]
      unfold toB
      simp only
      rw [if_neg h2]
      rfl
  · rcases hd with ⟨h2, d, hdl, hdb, he⟩ | ⟨h2, he⟩
    · rw [he]
      exact hw hok hnm i hia (d : Int) (fun _ => hdb) hwh
    · rw [he]
      exact hw hok hnm i hia (-1) (fun h => absurd h h2) hwh
theorem wd_n {x : Wl} {n : Nat} (h : x.n = n) : Wd x = (List.range n).map x.f := by unfold Wd; rw [h]
/-- a line that is taken -/
theorem inv_step {g : Nat → Wl} {k : Nat} {cs : List ByteArray} {es : List Ed} (h : Inv g k cs es) (h0 : (stepM cs es (g k).n (g k).f).1 = 0) : Inv g (k + 1) (stepM cs es (g k).n (g k).f).2.1 (stepM cs es (g k).n (g k).f).2.2 := by
  unfold stepM at h0 ⊢
  by_cases c1 : (g k).f 0 = sComp
  · rw [if_pos c1] at h0 ⊢
    by_cases hn : (g k).n = 2
    · rw [if_pos hn] at h0 ⊢
      unfold compM at h0 ⊢
      by_cases hb : (nameB ((g k).f 1) && decide (es.length = 0)) = false
      · rw [if_pos hb] at h0; cases h0
      · rw [if_neg hb] at h0 ⊢
        have hb : (nameB ((g k).f 1) && decide (es.length = 0)) = true := by simpa using hb
        simp only [Bool.and_eq_true, decide_eq_true_eq] at hb
        obtain ⟨hb1, hb2⟩ := hb
        obtain rfl : es = [] := List.eq_nil_of_length_eq_zero hb2
        cases hq : nmAt cs ((g k).f 1) with
        | some d => rw [hq] at h0; cases h0
        | none =>
          obtain ⟨h1, h2, h3, h4, h5, h6⟩ := h
          refine ⟨by simp at h1 ⊢; omega, ?_, ?_, fun i hi => absurd hi (by simp), fun i hi => ?_, fun j hj => absurd hj (by simp)⟩
          · show (cs ++ [(g k).f 1]).Nodup
            rw [List.nodup_append]
            exact ⟨h2, by simp, fun x hx y hy => by rw [List.mem_singleton.1 hy]; exact fun e => nmAt_mem hq (by rw [← e]; exact hx)⟩
          · intro s hs
            rcases List.mem_append.1 hs with hs | hs
            · exact h3 s hs
            · rw [List.mem_singleton.1 hs]; exact hb1
          · show _ = [sComp, nf (cs ++ [(g k).f 1]) i]
            have hi : i < cs.length + 1 := by simpa using hi
            by_cases hl : i < cs.length
            · rw [nf_app _ _ _ hl]; exact h5 i hl
            · obtain rfl : i = cs.length := by omega
              rw [nf_new]
              have hk : cs.length = k := by simp at h1; exact h1
              rw [hk, wd_n hn]
              show [(g k).f 0, (g k).f 1] = _
              rw [c1]
    · rw [if_neg hn] at h0; cases h0
  rw [if_neg c1] at h0 ⊢
  by_cases c2 : (g k).f 0 = sExport
  · rw [if_pos c2] at h0 ⊢
    by_cases hn : (g k).n = 5
    · rw [if_pos hn] at h0 ⊢
      refine inv_add (cs := cs) (es := es) h ⟨by simp, by simp⟩ h0 fun hok hnm i hi d hd hwh => ?_
      obtain ⟨t1, t2⟩ := two_inv (by decide) hok
      rw [wd_n hn]
      show [(g k).f 0, (g k).f 1, (g k).f 2, (g k).f 3, (g k).f 4] = _
      unfold saidL setE
      simp only
      rw [if_pos trivial, t1, t2, c2]
      show _ = [sExport, nf cs i, _, _, _]
      rw [hi]
    · rw [if_neg hn] at h0; cases h0
  rw [if_neg c2] at h0 ⊢
  by_cases c3 : (g k).f 0 = sCall
  · rw [if_pos c3] at h0 ⊢
    by_cases hn : (g k).n = 4
    · rw [if_pos hn] at h0 ⊢
      refine inv_add (cs := cs) (es := es) h ⟨by simp, by simp⟩ h0 fun hok hnm i hi d hd hwh => ?_
      have hdd := hd rfl
      rw [wd_n hn]
      show [(g k).f 0, (g k).f 1, (g k).f 2, (g k).f 3] = _
      unfold saidL setE
      simp only
      rw [if_neg (by simp), if_pos trivial, c3]
      show _ = [sCall, nf cs i, nf cs d.toNat, _]
      rw [hi, hdd]
    · rw [if_neg hn] at h0; cases h0
  rw [if_neg c3] at h0 ⊢
  by_cases c4 : (g k).f 0 = sDevice
  · rw [if_pos c4] at h0 ⊢
    by_cases hn : (g k).n = 5
    · rw [if_pos hn] at h0 ⊢
      refine inv_add (cs := cs) (es := es) h ⟨by simp, by simp⟩ h0 fun hok hnm i hi d hd hwh => ?_
      obtain ⟨t1, t2⟩ := two_inv (by decide) hok
      rw [wd_n hn]
      show [(g k).f 0, (g k).f 1, (g k).f 2, (g k).f 3, (g k).f 4] = _
      unfold saidL setE
      simp only
      rw [if_neg (by simp), if_neg (by simp), if_pos trivial, t1, t2, c4]
      show _ = [sDevice, nf cs i, _, _, _]
      rw [hi]
    · rw [if_neg hn] at h0; cases h0
  rw [if_neg c4] at h0 ⊢
  by_cases c5 : (g k).f 0 = sShare
  · rw [if_pos c5] at h0 ⊢
    by_cases hn : (g k).n = 4
    · rw [if_pos hn] at h0 ⊢
      refine inv_add (cs := cs) (es := es) h ⟨by simp, by simp⟩ h0 fun hok hnm i hi d hd hwh => ?_
      have h3 : (if (if (g k).f 3 = (⟨#[114, 119]⟩ : ByteArray) then 3 else 1) = 3 then (⟨#[114, 119]⟩ : ByteArray) else ⟨#[114]⟩) = (g k).f 3 := by
        simp only [Bool.or_eq_true, decide_eq_true_eq] at hok
        rcases hok with e | e
        · rw [e]; decide
        · rw [e]; decide
      rw [wd_n hn]
      show [(g k).f 0, (g k).f 1, (g k).f 2, (g k).f 3] = _
      unfold saidL setE
      simp only
      rw [if_neg (by simp), if_neg (by simp), if_neg (by simp), if_pos trivial, h3, c5]
      show _ = [sShare, nf cs i, _, _]
      rw [hi]
    · rw [if_neg hn] at h0; cases h0
  rw [if_neg c5] at h0 ⊢
  by_cases c6 : (g k).f 0 = sStart
  · rw [if_pos c6] at h0 ⊢
    by_cases hn : (g k).n = 3
    · rw [if_pos hn] at h0 ⊢
      refine inv_add (cs := cs) (es := es) h ⟨by simp, by simp⟩ h0 fun hok hnm i hi d hd hwh => ?_
      rw [wd_n hn]
      show [(g k).f 0, (g k).f 1, (g k).f 2] = _
      unfold saidL setE
      simp only
      rw [if_neg (by simp), if_neg (by simp), if_neg (by simp), if_neg (by simp), c6]
      show _ = [sStart, nf cs i, _]
      rw [hi]
    · rw [if_neg hn] at h0; cases h0
  rw [if_neg c6] at h0
  cases h0
theorem inv_run {g : Nat → Wl} {cs' : List ByteArray} {es' : List Ed} : ∀ (m k : Nat) (cs : List ByteArray) (es : List Ed), Inv g k cs es → runG g m k cs es = ((0, 0), cs', es') → Inv g (k + m) cs' es'
  | 0, k, cs, es, h, hr => by
    have e : ((0, 0), cs, es) = (((0 : Int), (0 : Nat)), cs', es') := hr
    cases e
    exact h
  | m + 1, k, cs, es, h, hr => by
    rw [runG] at hr
    by_cases h0 : (stepM cs es (g k).n (g k).f).1 = 0
    · rw [if_pos h0] at hr
      have := inv_run m (k + 1) _ _ (inv_step h h0) hr
      rw [show k + (m + 1) = k + 1 + m by omega]
      exact this
    · rw [if_neg h0] at hr
      have h2 := congrArg (fun x => x.1.2) hr
      exact absurd h2 h0
/-- what is got is put as the same lines -/
theorem get_back {text : ByteArray} {cs : List ByteArray} {es : List Ed} {g : Nat → Wl} (he : rdE text = 0) (hr : Reads g (rdV text)) (hv : getV text = ((0, 0), cs, es)) :
    gputV cs.length (nf cs) es.length (ef es) = .tuple #[.string (outN g (rdV text).length), .int .i64 0] ∧ (∀ k, k < (rdV text).length → lineP (g k)) ∧ (∀ k, k < (rdV text).length → ¬ longP (g k)) ∧ (rdV text).length ≤ 400 ∧ cs.length + es.length = (rdV text).length := by
  rw [getV_reads he hr] at hv
  obtain ⟨h1, h2, h3, h4, h5, h6⟩ := inv_run (rdV text).length 0 [] [] ⟨rfl, List.nodup_nil, fun s hs => (by cases hs), fun i hi => absurd hi (Nat.not_lt_zero _), fun i hi => absurd hi (Nat.not_lt_zero _), fun i hi => absurd hi (Nat.not_lt_zero _)⟩ hv
  rw [Nat.zero_add] at h1
  have hl := Li.read_line text he g hr
  have h400 := (rdV_short he).1
  obtain ⟨ht, hm⟩ := Li.rdE_zero he
  have hlong : ∀ k, k < (rdV text).length → ¬ longP (g k) := fun k hk => by
    obtain ⟨r1, r2, r3⟩ := hr k hk
    have hmem : (rdV text)[k] ∈ Li.saidB 1 (Li.lnsB text) := by
      have := List.getElem_mem hk
      conv at this => arg 1; rw [Li.rdV_ok text he]
      exact this
    obtain ⟨x, hx, e, hne⟩ := Li.said_mem _ _ _ hmem
    have hx100 := Li.mem_size hx hm
    obtain ⟨hb, _⟩ := Li.read_wd text x ht hx
    have hww : (List.range (g k).n).map (g k).f = Li.wordsB x := by
      rw [← e]
      refine List.ext_getElem (by simp [r2]) fun j a b => ?_
      simp only [List.getElem_map, List.getElem_range, r3 j, List.getElem?_eq_getElem b, Option.getD_some]
    unfold longP
    rw [← Li.list_len, Li.jn_list, hww, Li.words_list x (Li.asc_of x fun b hb' => (hb b hb').2)]
    have h7 : ((Li.wordsL x.data.toList).map Li.mk).map (·.data.toList) = Li.wordsL x.data.toList := by
      rw [List.map_map]
      conv => rhs; rw [← List.map_id (Li.wordsL x.data.toList)]
      exact List.map_congr_left fun l _ => Li.list_mk l
    rw [h7]
    have := words_len x.data.toList
    rw [Li.list_len] at this
    omega
  refine ⟨?_, fun k hk => (hl k hk).1, hlong, h400, h1⟩
  have hgr : GrP cs.length (nf cs) es.length (ef es) := by
    refine ⟨fun i hi => ⟨h3 _ (by unfold nf; rw [List.getElem?_eq_getElem hi]; exact List.getElem_mem hi), fun j hj e => ?_⟩, h4⟩
    unfold nf at e
    rw [List.getElem?_eq_getElem hi, List.getElem?_eq_getElem (by omega)] at e
    have := (List.getElem_inj h2).1 e
    omega
  unfold gputV
  rw [if_pos (grB_yes hgr)]
  unfold putR
  have hlen : (gR cs.length (nf cs) (ef es) es.length).length = (rdV text).length := by rw [gR_len]; exact h1
  rw [hlen]
  rw [← putV_congr g _ (rdV text).length, Li.putV_ok g _ (Li.mayB_yes g _ fun k hk => (hl k hk).1) hlong h400]
  intro k hk
  have hw : Wd (g k) = rowW (gR cs.length (nf cs) (ef es) es.length) k := by
    by_cases hc : k < cs.length
    · rw [gR_comp _ _ _ _ _ hc]; exact h5 k hc
    · obtain ⟨j, rfl⟩ : ∃ j, k = cs.length + j := ⟨k - cs.length, by omega⟩
      rw [gR_edge _ _ _ _ j (by omega)]
      exact h6 j (by omega)
  obtain ⟨e1, e2⟩ := words_at hw
  refine ⟨e1, fun j hj => ?_⟩
  rw [e2 j (by omega)]
  show _ = ((rowW (gR cs.length (nf cs) (ef es) es.length) k)[j]?).getD ⟨#[]⟩
  rw [List.getElem?_eq_getElem (by omega)]
  rfl
end Go.Proofs.YtblfnjdbihhglaaGreatDoor
