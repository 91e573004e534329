import Derived.Test.YtgmifaadlaigdaaGreatDoorQc
namespace Go.Proofs.YtgmifaadlaigdaaGreatDoor
open Go.ChangeShapes Go.WideShapes Go.ChangeAt Go.RowKit
set_option linter.unusedVariables false
theorem ext_size (s : ByteArray) (a b : Nat) (h : b ≤ s.size) : (s.extract a b).size = b - a := by
  rw [ByteArray.size_extract]
  omega
theorem bb_ext (s : ByteArray) (a b k : Nat) (hb : b ≤ s.size) (h : a + k < b) : bb (s.extract a b) k = bb s (a + k) := by
  have h1 : k < (s.extract a b).size := by rw [ext_size s a b hb]; omega
  rw [bb_eq _ k h1, bb_eq s (a + k) (by omega)]
  congr 1
  exact ByteArray.getElem_extract ..
theorem ext_ext (s : ByteArray) (a b c d : Nat) (h : a + d ≤ b) : (s.extract a b).extract c d = s.extract (a + c) (a + d) := by
  rw [ByteArray.extract_extract]
  congr 1
  omega
/-- a stretch of a text, byte by byte -/
theorem ext_str (s : ByteArray) (a n : Nat) (h : a + n ≤ s.size) : s.extract a (a + n) = strN (fun k => bb s (a + k)) n := by
  have hz := ext_size s a (a + n) h
  have e := strN_bb (s.extract a (a + n))
  rw [hz] at e
  have h2 : a + n - a = n := by omega
  rw [h2] at e
  rw [← e]
  exact strN_congr fun k hk => bb_ext s a (a + n) k h (by omega)
theorem trimN_congr {f g : Nat → Nat} : ∀ {n : Nat}, (∀ k, k < n → f k = g k) → trimN f n = trimN g n
  | 0, _ => rfl
  | n + 1, h => by
    rw [trimN, trimN, trimN_congr (fun k hk => h k (by omega)), h n (by omega)]
theorem decN_congr {f g : Nat → Nat} : ∀ {n : Nat}, (∀ k, k < n → f k = g k) → decN f n = decN g n
  | 0, _ => rfl
  | n + 1, h => by
    rw [decN, decN, decN_congr (fun k hk => h k (by omega)), h n (by omega)]
theorem szV_congr {f g : Nat → Nat} {n : Nat} (h : ∀ k, k < n → f k = g k) : szV f n = szV g n := by
  have h1 : digs f n ↔ digs g n := ⟨fun q i hi => by rw [← h i hi]; exact q i hi, fun q i hi => by rw [h i hi]; exact q i hi⟩
  have h2 : (1 ≤ n ∧ ¬ (1 < n ∧ f 0 = 48)) ↔ (1 ≤ n ∧ ¬ (1 < n ∧ g 0 = 48)) := by
    by_cases hn : 1 ≤ n
    · rw [h 0 hn]
    · exact ⟨fun q => absurd q.1 hn, fun q => absurd q.1 hn⟩
  by_cases hc : (1 ≤ n ∧ ¬ (1 < n ∧ f 0 = 48)) ∧ digs f n
  · rw [szV_yes hc, szV_yes ⟨h2.mp hc.1, h1.mp hc.2⟩, decN_congr h]
  · rw [szV_no hc, szV_no (fun q => hc ⟨h2.mpr q.1, h1.mpr q.2⟩)]
/-- the size that a head at that place tells -/
noncomputable def szF (f : Nat → Nat) (a : Nat) : Nat × Bool := szV (fun j => f (a + 48 + j)) (trimN (fun j => f (a + 48 + j)) 10)
theorem szF_ext (s : ByteArray) (a : Nat) (h : a + 58 ≤ s.size) : szV (bb (s.extract (a + 48) (a + 58))) (trimN (bb (s.extract (a + 48) (a + 58))) (s.extract (a + 48) (a + 58)).size) = szF (bb s) a := by
  have hz : (s.extract (a + 48) (a + 58)).size = 10 := by rw [ext_size _ _ _ h]; omega
  have hc : ∀ k, k < 10 → bb (s.extract (a + 48) (a + 58)) k = bb s (a + 48 + k) := fun k hk => bb_ext s _ _ k h (by omega)
  unfold szF
  rw [hz, trimN_congr hc]
  have := trimN_le (fun j => bb s (a + 48 + j)) 10
  exact szV_congr fun k hk => hc k (by omega)
/-- where the pieces end, from the left -/
noncomputable def posN (f : Nat → Nat) : Nat → Nat
  | 0 => 8
  | k + 1 => evn (posN f k) + 60 + (szF f (evn (posN f k))).1
/-- where a piece's head stands -/
noncomputable def atN (f : Nat → Nat) (k : Nat) : Nat := evn (posN f k)
theorem posN_lt (f : Nat → Nat) (k : Nat) : posN f k + 60 ≤ posN f (k + 1) := by
  rw [posN]; unfold evn; omega
theorem posN_ge (f : Nat → Nat) : ∀ k, 8 + 60 * k ≤ posN f k
  | 0 => Nat.le_refl _
  | k + 1 => by have := posN_ge f k; have := posN_lt f k; omega
/-- is the piece as it should be? -/
def okP (f : Nat → Nat) (N k : Nat) : Prop :=
  (posN f k % 2 = 1 → f (posN f k) = 10 ∧ posN f k + 1 ≠ N) ∧ atN f k + 60 ≤ N ∧ ((szF f (atN f k)).2 = true ∧ f (atN f k + 58) = 96 ∧ f (atN f k + 59) = 10) ∧ atN f k + 60 + (szF f (atN f k)).1 ≤ N
open Classical in
/-- what is wrong with a piece -/
noncomputable def erP (f : Nat → Nat) (N k : Nat) : Nat :=
  if ¬ (posN f k % 2 = 1 → f (posN f k) = 10 ∧ posN f k + 1 ≠ N) then 5
  else if ¬ atN f k + 60 ≤ N then 4
  else if ¬ ((szF f (atN f k)).2 = true ∧ f (atN f k + 58) = 96 ∧ f (atN f k + 59) = 10) then 5
  else 4
/-- so many pieces stand there, and that is all, or the next one is wrong -/
def Parts (f : Nat → Nat) (N k : Nat) (b : Bool) : Prop := (∀ i, i < k → posN f i < N ∧ okP f N i) ∧ ((b = true ∧ N ≤ posN f k) ∨ (b = false ∧ posN f k < N ∧ ¬ okP f N k))
theorem parts_uniq {f : Nat → Nat} {N k l : Nat} {b c : Bool} (h : Parts f N k b) (h' : Parts f N l c) : k = l ∧ b = c := by
  have key : ∀ {k l : Nat} {b c : Bool}, Parts f N k b → Parts f N l c → ¬ k < l := by
    intro k l b c h h' hl
    obtain ⟨h1, h2⟩ := h'.1 k hl
    rcases h.2 with ⟨_, h3⟩ | ⟨_, _, h3⟩
    · omega
    · exact h3 h2
  have e : k = l := by
    have h1 := key h h'
    have h2 := key h' h
    omega
  subst e
  refine ⟨rfl, ?_⟩
  rcases h.2 with ⟨h1, h2⟩ | ⟨h1, h2, _⟩ <;> rcases h'.2 with ⟨h3, h4⟩ | ⟨h3, h4, _⟩
  · rw [h1, h3]
  · omega
  · omega
  · rw [h1, h3]
theorem pre_magic (s : ByteArray) (h : 8 ≤ s.size) : Lib.hasPrefix s.data.toList magicB.data.toList = decide (strN (bb s) 8 = magicB) := by
  have e : strN (bb s) 8 = s.extract 0 8 := by
    have := ext_str s 0 8 (by omega)
    rw [Nat.zero_add] at this
    rw [this]
    exact strN_congr fun k _ => by rw [Nat.zero_add]
  unfold Lib.hasPrefix
  rw [Bool.eq_iff_iff, List.isPrefixOf_iff_prefix, decide_eq_true_iff, e]
  have h8 : magicB.data.toList.length = 8 := rfl
  have e2 : (s.extract 0 8).data.toList = s.data.toList.take 8 := by
    rw [ByteArray.data_extract]
    simp
  constructor
  · intro hp
    apply ba_eq
    rw [e2, List.prefix_iff_eq_take.mp hp, h8]
  · intro hq
    rw [List.prefix_iff_eq_take, h8, ← e2, hq]
end Go.Proofs.YtgmifaadlaigdaaGreatDoor
