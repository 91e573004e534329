import Derived.Test.YtblfnjdbihhglaaGreatDoorJz
import Derived.Test.YtblfnjdbihhglaaGreatDoorLXfz
import Derived.Test.YtblfnjdbihhglaaGreatDoorLF
import Derived.Test.YtblfnjdbihhglaaGreatDoorLD
import Derived.Test.YtblfnjdbihhglaaGreatDoorIz
import Derived.OwnWalk
import Derived.Laws.AppendOwn
import Derived.StillTailTactics
import Derived.Deep.AppendLies
import Derived.Deep.RegionHeld3
namespace Go.Proofs.YtblfnjdbihhglaaGreatDoor
open Go.ChangeShapes Go.WideShapes Go.ChangeAt Go.RowKit
open Li (Ss Ws Wl RdOut Reads putV jn outN lineP longP mayB AlikeW)
set_option linter.unusedVariables false
set_option linter.unusedSimpArgs false
def wlW (L : List ByteArray) : Wl := ⟨0, none, L.length, L.length, fun j => (L[j]?).getD ⟨#[]⟩⟩
theorem jn_congr (x y : Wl) : ∀ m, (∀ j, j < m → x.f j = y.f j) → jn x m = jn y m
  | 0, _ => rfl
  | m + 1, h => by rw [jn, jn, jn_congr x y m (fun j hj => h j (by omega)), h m (by omega)]
theorem lineP_congr {x y : Wl} (hn : x.n = y.n) (hf : ∀ j, j < x.n → x.f j = y.f j) : lineP x ↔ lineP y := by
  unfold lineP
  rw [← hn]
  exact ⟨fun h => ⟨h.1, fun j hj => by rw [← hf j hj]; exact h.2 j hj⟩, fun h => ⟨h.1, fun j hj => by rw [hf j hj]; exact h.2 j hj⟩⟩
theorem outN_congr (g g' : Nat → Wl) : ∀ n, AlikeW n g g' → outN g n = outN g' n
  | 0, _ => rfl
  | n + 1, h => by
    rw [outN, outN, outN_congr g g' n (fun k hk => h k (by omega)), ← (h n (by omega)).1, jn_congr _ _ _ (h n (by omega)).2]
theorem putV_congr (g g' : Nat → Wl) (n : Nat) (h : AlikeW n g g') : putV g n = putV g' n := by
  have hl : ∀ k, k < n → (lineP (g k) ↔ lineP (g' k)) := fun k hk => lineP_congr (h k hk).1 (h k hk).2
  have hg : ∀ k, k < n → (longP (g k) ↔ longP (g' k)) := fun k hk => by
    unfold longP
    rw [← (h k hk).1, jn_congr _ _ _ (h k hk).2]
  have hm : mayB g n = mayB g' n := by
    cases h1 : mayB g' n
    · obtain ⟨k, hk, hn⟩ : ∃ k, k < n ∧ ¬ lineP (g' k) := by
        classical
        apply Decidable.byContradiction
        intro hh
        rw [Li.mayB_yes g' n (fun j hj => Classical.byContradiction fun h2 => hh ⟨j, hj, h2⟩)] at h1
        cases h1
      exact Li.mayB_no g n k hk (fun hh => hn ((hl k hk).1 hh))
    · refine Li.mayB_yes g n (fun j hj => (hl j hj).2 (Classical.byContradiction fun h2 => ?_))
      rw [Li.mayB_no g' n j hj h2] at h1
      cases h1
  unfold putV
  rw [hm, outN_congr g g' n h]
  have hP : ((∃ k, k < n ∧ longP (g k)) ∨ 400 < n) ↔ ((∃ k, k < n ∧ longP (g' k)) ∨ 400 < n) := by
    constructor
    · rintro (⟨k, hk, hh⟩ | hh)
      · exact Or.inl ⟨k, hk, (hg k hk).1 hh⟩
      · exact Or.inr hh
    · rintro (⟨k, hk, hh⟩ | hh)
      · exact Or.inl ⟨k, hk, (hg k hk).2 hh⟩
      · exact Or.inr hh
  by_cases h0 : mayB g' n = false
  · rw [if_pos h0, if_pos h0]
  · rw [if_neg h0, if_neg h0]
    by_cases h1 : (∃ k, k < n ∧ longP (g k)) ∨ 400 < n
    · rw [if_pos h1, if_pos (hP.1 h1)]
    · rw [if_neg h1, if_neg (fun h => h1 (hP.2 h))]
/-- the text of lines -/
noncomputable def putR (R : List (Nat × List ByteArray)) : Value := putV (fun k => wlW (((R[k]?).map (·.2)).getD [])) R.length
theorem reads_wl {g : Nat → Wl} {R : List (Nat × List ByteArray)} (h : Reads g R) : AlikeW R.length g (fun k => wlW (((R[k]?).map (·.2)).getD [])) := by
  intro k hk
  obtain ⟨_, h2, h3⟩ := h k hk
  simp only [List.getElem?_eq_getElem hk]
  exact ⟨h2, fun j _ => h3 j⟩
theorem put_reads {g : Nat → Wl} {R : List (Nat × List ByteArray)} (h : Reads g R) : putV g R.length = putR R := putV_congr _ _ _ (reads_wl h)
/-- the lines of a graph -/
def compL (s : ByteArray) : Nat × List ByteArray := (0, [⟨#[99, 111, 109, 112, 97, 114, 116, 109, 101, 110, 116]⟩, s])
def gR1 (g : Nat → ByteArray) (k : Nat) : List (Nat × List ByteArray) := (List.range k).map fun i => compL (g i)
def gR (nc : Nat) (g : Nat → ByteArray) (f : Nat → Ed) (k : Nat) : List (Nat × List ByteArray) := gR1 g nc ++ (List.range k).map fun i => (0, saidL g (f i))
noncomputable def gputV (nc : Nat) (g : Nat → ByteArray) (n : Nat) (f : Nat → Ed) : Value := if grB nc g n f = true then putR (gR nc g f n) else .tuple #[.string ⟨#[]⟩, .int .i64 2]
theorem gR1_succ (g : Nat → ByteArray) (k : Nat) : gR1 g (k + 1) = gR1 g k ++ [compL (g k)] := by unfold gR1; rw [List.range_succ, List.map_append]; rfl
theorem gR_succ (nc : Nat) (g : Nat → ByteArray) (f : Nat → Ed) (k : Nat) : gR nc g f (k + 1) = gR nc g f k ++ [(0, saidL g (f k))] := by unfold gR; rw [List.range_succ, List.map_append, ← List.append_assoc]; rfl
theorem gR_zero (nc : Nat) (g : Nat → ByteArray) (f : Nat → Ed) : gR nc g f 0 = gR1 g nc := by unfold gR; simp
theorem gR1_len (g : Nat → ByteArray) (k : Nat) : (gR1 g k).length = k := by unfold gR1; simp
theorem gR_len (nc : Nat) (g : Nat → ByteArray) (f : Nat → Ed) (k : Nat) : (gR nc g f k).length = nc + k := by unfold gR; simp [gR1_len]
theorem grB_true {nc : Nat} {g : Nat → ByteArray} {n : Nat} {f : Nat → Ed} (h : grB nc g n f = true) : GrP nc g n f := by
  classical
  apply Decidable.byContradiction
  intro hh
  rw [grB_no hh] at h
  cases h
theorem tn_size (n : Nat) (h : n ≤ 4294967296) : (tn n).size ≤ 20 := by
  show (Lib.decDigits n).toArray.size ≤ 20
  rw [List.size_toArray]
  by_cases h0 : n < 1
  · obtain rfl : n = 0 := by omega
    rw [Lib.decDigits, dif_pos (by decide)]
    simp
  · rw [Lib.decDigits_length]
    have := Lib.numDigits_eq n (by omega) (by omega); split at this <;> omega
theorem nameB_size {s : ByteArray} (h : nameB s = true) : s.size ≤ 16 := by
  unfold nameB at h
  exact (of_decide_eq_true h).2.1
theorem symB_size {s : ByteArray} (h : symB s = true) : s.size ≤ 32 := by
  unfold symB at h
  simp at h
  exact h.2
theorem nmB_size {k : Nat} {s : ByteArray} (h : nmB k s = true) : s.size ≤ 32 := by
  unfold nmB at h
  split at h
  · have := nameB_size h; omega
  · exact symB_size h
theorem edB_out {x : Ed} {n : Nat} (h : edB x n = true) : (1 ≤ x.k ∧ x.k ≤ 5 ∧ 0 ≤ x.fr ∧ x.fr < n) ∧ toB x n = true ∧ nmB x.k x.nm = true ∧ whatB x.k x.wh = true := by
  unfold edB at h
  simp only [Bool.and_eq_true, decide_eq_true_eq] at h
  exact ⟨h.1, h.2.1, h.2.2.1, h.2.2.2⟩
theorem saidL_small (g : Nat → ByteArray) (x : Ed) (hw : x.wh < 4294967296) (hg : (g x.fr.toNat).size ≤ 32) (hg2 : x.k = 2 → (g x.dt.toNat).size ≤ 32) (hn : x.nm.size ≤ 32) : (saidL g x).length ≤ 5 ∧ ∀ s ∈ saidL g x, s.size ≤ 32 := by
  have t : ∀ d, (tn (x.wh % d)).size ≤ 32 := fun d => by have := tn_size (x.wh % d) (by have := Nat.mod_le x.wh d; omega); omega
  have t2 : ∀ d, (tn (x.wh / d)).size ≤ 32 := fun d => by have := tn_size (x.wh / d) (by have := Nat.div_le_self x.wh d; omega); omega
  unfold saidL
  split
  · refine ⟨by simp, fun s hs => ?_⟩
    simp only [List.mem_cons, List.not_mem_nil, or_false] at hs
    rcases hs with rfl | rfl | rfl | rfl | rfl
    · decide
    · exact hg
    · exact hn
    · exact t _
    · exact t2 _
  split
  · rename_i h2
    refine ⟨by simp, fun s hs => ?_⟩
    simp only [List.mem_cons, List.not_mem_nil, or_false] at hs
    rcases hs with rfl | rfl | rfl | rfl
    · decide
    · exact hg
    · exact hg2 h2
    · exact hn
  split
  · refine ⟨by simp, fun s hs => ?_⟩
    simp only [List.mem_cons, List.not_mem_nil, or_false] at hs
    rcases hs with rfl | rfl | rfl | rfl | rfl
    · decide
    · exact hg
    · exact hn
    · exact t _
    · exact t2 _
  split
  · refine ⟨by simp, fun s hs => ?_⟩
    simp only [List.mem_cons, List.not_mem_nil, or_false] at hs
    rcases hs with rfl | rfl | rfl | rfl
    · decide
    · exact hg
    · exact hn
    · split <;> decide
  · refine ⟨by simp, fun s hs => ?_⟩
    simp only [List.mem_cons, List.not_mem_nil, or_false] at hs
    rcases hs with rfl | rfl | rfl
    · decide
    · exact hg
    · exact hn
/-- lines that are short -/
def shortR (R : List (Nat × List ByteArray)) : Prop := R.length ≤ 400 ∧ ∀ x ∈ R, x.2.length ≤ 101 ∧ ∀ s ∈ x.2, s.size ≤ 100
theorem gR_short {nc n : Nat} {g : Nat → ByteArray} {f : Nat → Ed} (h : GrP nc g n f) (hcn : nc + n ≤ 400) (hok : ∀ k, k < n → (f k).ok) : shortR (gR nc g f n) := by
  refine ⟨by rw [gR_len]; omega, fun x hx => ?_⟩
  unfold gR at hx
  rcases List.mem_append.1 hx with hx | hx
  · unfold gR1 at hx
    obtain ⟨i, hi, rfl⟩ := List.mem_map.1 hx
    have := nameB_size (h.1 i (List.mem_range.1 hi)).1
    refine ⟨by simp [compL], fun s hs => ?_⟩
    simp only [compL, List.mem_cons, List.not_mem_nil, or_false] at hs
    rcases hs with rfl | rfl
    · decide
    · omega
  · obtain ⟨k, hk, rfl⟩ := List.mem_map.1 hx
    have hk := List.mem_range.1 hk
    obtain ⟨⟨_, _, h0, h1⟩, h2, h3, _⟩ := edB_out (h.2 k hk).1
    have hfr := nameB_size (h.1 (f k).fr.toNat (by omega)).1
    have := saidL_small g (f k) (hok k hk).2.1 (by omega) (fun h2k => by
      unfold toB at h2
      rw [if_pos h2k] at h2
      have h2 := of_decide_eq_true h2
      have := nameB_size (h.1 (f k).dt.toNat (by omega)).1
      omega) (nmB_size h3)
    exact ⟨by have := this.1; simp only; omega, fun s hs => by have := this.2 s hs; omega⟩
theorem jn_bound (x : Wl) : ∀ m, (∀ j, j < m → (x.f j).size ≤ 100) → (jn x m).size ≤ m * 101
  | 0, _ => Nat.le_refl _
  | m + 1, h => by
    have ih := jn_bound x m (fun j hj => h j (by omega))
    have h1 := h m (by omega)
    rw [jn]
    split
    · rw [ByteArray.size_append]; omega
    · rw [ByteArray.size_append, ByteArray.size_append]
      show _ + 1 + _ ≤ _
      omega
theorem outN_bound (g : Nat → Wl) : ∀ n, (∀ k, k < n → (jn (g k) (g k).n).size ≤ 10201) → (outN g n).size ≤ n * 10202
  | 0, _ => Nat.le_refl _
  | n + 1, h => by
    have ih := outN_bound g n (fun k hk => h k (by omega))
    have h1 := h n (by omega)
    rw [outN, ByteArray.size_append, ByteArray.size_append]
    show _ + _ + 1 ≤ _
    omega
/-- lines.Put, of lines that read so -/
theorem put_ready {w : World} {B : Nat} {A : Option Addr} {n c : Nat} {R : List (Nat × List ByteArray)} (h : RdOut B (.slice A n c) R w) (hs : shortR R) : n = R.length ∧ ∃ g, Ws w A R.length g ∧ putV g R.length = putR R ∧ Reads g R ∧
    (∀ k, k ≤ R.length → (outN g k).size ≤ 16777216) ∧ (∀ k, k < R.length → ∀ m, m ≤ (g k).n → (jn (g k) m).size ≤ 16777216) ∧ (∀ k, k < R.length → (g k).n ≤ 16777216) ∧ (∀ k, k < R.length → ∀ m, m < (g k).n → ((g k).f m).size ≤ 16777216) := by
  obtain ⟨hn, g, h1, h2⟩ := Li.rd_ws h (fun x hx => ⟨by have := (hs.2 x hx).1; omega, fun y hy => by have := (hs.2 x hx).2 y hy; omega⟩)
  have hk : ∀ k, k < R.length → (g k).n ≤ 101 ∧ ∀ m, m < (g k).n → ((g k).f m).size ≤ 100 := fun k hk => by
    obtain ⟨_, e2, e3⟩ := h2 k hk
    obtain ⟨s1, s2⟩ := hs.2 _ (List.getElem_mem hk)
    refine ⟨by omega, fun m hm => ?_⟩
    rw [e3 m, List.getElem?_eq_getElem (by omega)]
    exact s2 _ (List.getElem_mem _)
  have hj : ∀ k, k < R.length → ∀ m, m ≤ (g k).n → (jn (g k) m).size ≤ 10201 := fun k hkk m hm => by
    have := jn_bound (g k) m (fun j hj => (hk k hkk).2 j (by omega))
    have := (hk k hkk).1
    omega
  refine ⟨hn, g, h1, put_reads h2, h2, fun k hkk => ?_, fun k hkk m hm => by have := hj k hkk m hm; omega, fun k hkk => by have := (hk k hkk).1; omega, fun k hkk m hm => by have := (hk k hkk).2 m hm; omega⟩
  have := outN_bound g k (fun i hi => hj i (by omega) _ (Nat.le_refl _))
  have := hs.1
  omega
end Go.Proofs.YtblfnjdbihhglaaGreatDoor
namespace Go.Proofs.YtblfnjdbihhglaaGreatDoor
open Go.ChangeShapes Go.WideShapes Go.ChangeAt Go.RowKit
open Li (Ss Ws Wl RdOut Reads putV jn outN lineP longP mayB AlikeW)
set_option linter.unusedVariables false
set_option linter.unusedSimpArgs false
theorem putR_two (R : List (Nat × List ByteArray)) : ∃ s, ∃ e : Nat, putR R = .tuple #[.string s, .int .i64 (e : Int)] := by
  unfold putR putV
  split
  · exact ⟨_, 5, rfl⟩
  · split
    · exact ⟨_, 3, rfl⟩
    · exact ⟨_, 0, rfl⟩
theorem two_at (w : World) (N : Nat) (hN : w.heap.size = N) (x y : Value) (t : TypeId) : ∀ (j : Nat) (u : Value), [x, y][j]? = some u → (w.alloc (.cells #[x, y] t)).cell? ((⟨N, 0, none⟩ : Addr).add j) = some u := by
  subst hN
  exact Li.two_cells w x y t
def R7a (w1 : World) (p0 nc : Nat) (g : Nat → ByteArray) (l i : Value) (wr : World) : Prop := ∃ k : Nat, k ≤ nc ∧ i = .int .i64 (k : Int) ∧ RdOut p0 l (gR1 g k) wr ∧ Below p0 w1 wr
def R7b (w1 : World) (p0 nc : Nat) (g : Nat → ByteArray) (n : Nat) (f : Nat → Ed) (l i : Value) (wr : World) : Prop := ∃ k : Nat, k ≤ n ∧ i = .int .i64 (k : Int) ∧ RdOut p0 l (gR nc g f k) wr ∧ Below p0 w1 wr
set_option maxRecDepth 100000 in
set_option maxHeartbeats 16000000 in
theorem c7 (A : Option Addr) (nc cc : Nat) (B : Option Addr) (n c : Nat) (g : Nat → ByteArray) (f : Nat → Ed) (w : World) (hA : Ss w A nc g) (hB : Es w B n f) (hcn : nc + n ≤ 400) (hg : Gt w) :
    Calls Tryz.prog 7 #[.agg #[.slice A nc cc, .slice B n c]] w fun e w' => e = .returned (gputV nc g n f) ∧ Below w.heap.size w w' := by
  have hnc : nc ≤ 400 := by omega
  have hn : n ≤ 400 := by omega
  obtain ⟨i0, hi, hz⟩ : ∃ i, Tryz.prog.info? 44 = some i ∧ (i.zero, i.size, i.bytes) = (some (.agg #[.int .i64 0, .slice none 0 0]), 2, 32) := by
    have h : (Tryz.prog.info? 44).map (fun i => (i.zero, i.size, i.bytes)) = some (some (.agg #[.int .i64 0, .slice none 0 0]), 2, 32) := by kernel_rfl
    cases hq : Tryz.prog.info? 44 with
    | none => rw [hq] at h; cases h
    | some i => rw [hq] at h; exact ⟨i, rfl, by simpa using h⟩
  simp only [Prod.mk.injEq] at hz
  obtain ⟨hz0, hz1, hz2⟩ := hz
  have HI := Lib.hid hi
  have HZ0 := Lib.hid hz0
  have HZ1 := Lib.hid hz1
  have HZ2 := Lib.hid hz2
  clear hi hz0 hz1 hz2
  have KM : Hid (∀ W, Below w.heap.size w W → Calls Tryz.prog 14 #[.agg #[.slice A nc cc, .slice B n c]] W fun e w' => e = .returned (.bool (grB nc g n f)) ∧ Below W.heap.size W w') := Lib.hid (fun W hW => c14 A nc cc B n c g f W (hA.below hW) (hB.below hW) (by omega) (by omega))
  have HW1 : Hid (∀ W, Below (w.heap.size + 1) (w.alloc (.cells #[.slice A nc cc, .slice B n c] 25)) W → Bx W w.heap.size A nc cc B n c ∧ Below w.heap.size w W ∧ w.heap.size + 1 ≤ W.heap.size) := Lib.hid (fun W hW => by
    have h0 : Bx (w.alloc (.cells #[.slice A nc cc, .slice B n c] 25)) w.heap.size A nc cc B n c := ⟨World.cell?_alloc_new _ _ _ _, World.cell?_alloc_new _ _ _ _, by simp⟩
    refine ⟨h0.below hW (Nat.lt_succ_self _), ((Below.refl _ w).alloc (Nat.le_refl _) _).trans (hW.mono (Nat.le_succ _)), ?_⟩
    have := hW.size
    simp at this
    omega)
  have HV : Hid (grB nc g n f = false → gputV nc g n f = .tuple #[.string ⟨#[]⟩, .int .i64 2]) := Lib.hid (fun h => by unfold gputV; rw [h]; rfl)
  have HV2 : Hid (grB nc g n f = true → gputV nc g n f = putR (gR nc g f n)) := Lib.hid (fun h => by unfold gputV; rw [if_pos h])
  have HGP : Hid (grB nc g n f = true → GrP nc g n f) := Lib.hid grB_true
  have HA := Lib.hid hA
  have HB := Lib.hid hB
  have HG := Lib.hid hg
  clear hA hB hg
  obtain ⟨q, hq⟩ : ∃ q, grB nc g n f = q := ⟨_, rfl⟩
  rw [hq] at KM HV HV2 HGP
  clear hq
  obtain ⟨rv, hrv⟩ : ∃ rv, gputV nc g n f = rv := ⟨_, rfl⟩
  rw [hrv] at HV HV2 ⊢
  clear hrv
  go_enter Tryz.func7, Tryz.ntmps7
  go_wp2_with fail
  refine (KM.out _ ((Below.refl _ _).alloc (Nat.le_refl _) _)).mono ?_
  rintro _ w2 ⟨rfl, hb2⟩
  have HB2 : Hid (Below (w.heap.size + 1) (w.alloc (.cells #[.slice A nc cc, .slice B n c] 25)) w2) := Lib.hid (hb2.mono (by simp))
  generalize w.alloc (.cells #[.slice A nc cc, .slice B n c] 25) = w1 at *
  clear hb2
  cases q
  · have HX := Lib.hid (HV.out rfl)
    go_wp2_with fail
    go_ret2
    exact ⟨by rw [HX.out]; rfl, (HW1.out _ HB2.out).2.1⟩
  have HGr := Lib.hid (HGP.out rfl)
  have HRv := Lib.hid (HV2.out rfl)
  clear HV HV2 HGP KM
  obtain ⟨p0, hp0⟩ : ∃ p0, w.heap.size + 1 = p0 := ⟨_, rfl⟩
  rw [hp0] at HW1 HB2
  have HP0 := Lib.hid hp0
  clear hp0
  obtain ⟨⟨x0, x1, xl⟩, _, _⟩ := HW1.out _ HB2.out
  go_wp2_with fail
  clear x0 x1 xl
  go_loopw [4, 15] (fun l i wr => R7a w1 p0 nc g l i wr) (fun _ i _ => nc - (intOf i).toNat)
  case atStart => exact ⟨0, by omega, rfl, Li.rd_nil _ _, HB2.out⟩
  case round =>
    obtain ⟨k, hk, rfl, hrd, hb⟩ := hrel
    have HB3 := Lib.hid hb
    obtain ⟨⟨x0, x1, xl⟩, hbw, hps⟩ := HW1.out _ hb
    have HBW := Lib.hid hbw
    have HPS := Lib.hid hps
    by_cases hlt : k < nc
    · obtain ⟨D, h1, h2, h3⟩ := hrd
      have hdl : D.length = k := by have := congrArg List.length h1; simpa [gR1_len] using this
      obtain ⟨b, o, rfl, hbl, hc⟩ := HA.out (by omega)
      obtain ⟨q0, hs⟩ := hc k hlt
      rw [← hbw.cell (p := ⟨b, o + k, none⟩) hbl] at q0
      have HLT := Lib.hid hlt
      have HSU := Lib.hid (gR1_succ g k)
      have HDL := Lib.hid hdl
      have H1 := Lib.hid h1
      have H2 := Lib.hid h2
      have H3 := Lib.hid h3
      have HN : Hid (nc ≤ 400) := Lib.hid hnc
      obtain ⟨s, hsg⟩ : ∃ s, g k = s := ⟨_, rfl⟩
      rw [hsg] at q0 hs HSU
      have hkc : (k : Int) < (nc : Int) := by omega
      clear h1 h2 h3 hdl hc hsg hk hbw hps hb
      go_wp2_with (at_builtin; refine wpList_append_own _ rfl _ _ 35 rfl p0 44 i0 (.agg #[.int .i64 0, .slice none 0 0]) 2 32 Tryz.underlying35 HI.out HZ0.out HZ1.out HZ2.out rfl (by decide) _ _ _ rfl ((H2.out.alloc _).alloc _) ⟨wr.heap.size + 1, 0, none⟩ 1 1 [.int .i64 0, .slice (some ⟨wr.heap.size, 0, none⟩) 2 2] rfl rfl (two_at _ _ (by simp) _ _ _) (fun x hx => by simp at hx; rcases hx with rfl | rfl <;> rfl) (by rw [HDL.out]; unfold maxLen; omega) (by rw [HDL.out]; omega) (by have := HPS.out; simp; omega) ?_; intro v' w5 hown5 hgrow5 hnil5)
      go_roundw
      case rel =>
        have ho : ((wr.alloc (.cells #[.string ⟨#[99, 111, 109, 112, 97, 114, 116, 109, 101, 110, 116]⟩, .string s] 9)).alloc (.cells #[.int .i64 0, .slice (some ⟨wr.heap.size, 0, none⟩) 2 2] 44)).ownsRow p0 9 1 (.slice (some ⟨wr.heap.size, 0, none⟩) 2 2) 2 [.string ⟨#[99, 111, 109, 112, 97, 114, 116, 109, 101, 110, 116]⟩, .string s] :=
          (Li.own_base (own_new wr [.string ⟨#[99, 111, 109, 112, 97, 114, 116, 109, 101, 110, 116]⟩, .string s] 9 2 rfl (by decide)) HPS.out).alloc _
        have hz := Li.rd_snoc (j := 0) (l := [⟨#[99, 111, 109, 112, 97, 114, 116, 109, 101, 110, 116]⟩, s]) H1.out ((H2.out.alloc _).alloc _) (fun x hx => ((H3.out x hx).alloc _).alloc _) ho hown5 hgrow5
        exact ⟨k + 1, HLT.out, by go_num, by rw [HSU.out]; exact hz, Li.gr_below ((HB3.out.alloc HPS.out _).alloc (by have := HPS.out; simp; omega) _) ((H2.out.alloc _).alloc _) hgrow5 (by have := HPS.out; simp; omega)⟩
      case measure => simp [intOf]; have := HLT.out; omega
    · obtain rfl : k = nc := by omega
      have HRD := Lib.hid hrd
      clear hrd hk
      go_wp2_with fail
      clear x0 x1 xl hbw hps hb hlt
      go_loopw [4, 29] (fun l i wz => R7b w1 p0 k g n f l i wz) (fun _ i _ => n - (intOf i).toNat)
      case atStart => exact ⟨0, by omega, rfl, by rw [gR_zero]; exact HRD.out, HB3.out⟩
      case round =>
        obtain ⟨m, hm, rfl, hrd, hb⟩ := hrel
        have HB4 := Lib.hid hb
        obtain ⟨⟨x0, x1, xl⟩, hbw, hps⟩ := HW1.out _ hb
        have HBW4 := Lib.hid hbw
        have HPS4 := Lib.hid hps
        by_cases hlt : m < n
        · obtain ⟨D, h1, h2, h3⟩ := hrd
          have hdl : D.length = k + m := by have := congrArg List.length h1; simpa [gR_len] using this
          obtain ⟨b, o, rfl, hbl, hc⟩ := HB.out (by omega)
          obtain ⟨hok, q0, q1, q2, q3, q4⟩ := hc m hlt
          have z : ∀ (W : World), Below w.heap.size w W → ∀ j, W.cell? ⟨b, j, none⟩ = w.cell? ⟨b, j, none⟩ := fun W hW j => hW.cell (p := ⟨b, j, none⟩) hbl
          have HLT := Lib.hid hlt
          have HSU := Lib.hid (gR_succ k g f m)
          have HDL := Lib.hid hdl
          have H1 := Lib.hid h1
          have H2 := Lib.hid h2
          have H3 := Lib.hid h3
          have HN : Hid (k ≤ 400 ∧ n ≤ 400) := Lib.hid ⟨hnc, hn⟩
          obtain ⟨⟨_, _, hf0, hf1⟩, hto, _, _⟩ := edB_out (HGr.out.2 m hlt).1
          have KW : Hid (∀ W, Below w.heap.size w W → Calls Tryz.prog 15 #[.agg #[.slice A k cc, .slice (some ⟨b, o, none⟩) n c], (f m).v] W fun e w' => RowOut W.heap.size (saidL g (f m)) W e w') := Lib.hid (fun W hW => c15 A k cc _ n c g (f m) (f m).fr.toNat W hok (HA.out.below hW) (by omega) (by omega) (by omega) (fun h2k => by
            unfold toB at hto
            rw [if_pos h2k] at hto
            have := of_decide_eq_true hto
            exact ⟨(f m).dt.toNat, by omega, by omega⟩) (HG.out.below hW))
          obtain ⟨x, hx⟩ : ∃ x, f m = x := ⟨_, rfl⟩
          obtain ⟨L, hL⟩ : ∃ L, saidL g (f m) = L := ⟨_, rfl⟩
          rw [hL] at KW HSU
          rw [hx] at q0 q1 q2 q3 q4 KW
          unfold Ed.v at KW
          have hmn : (m : Int) < (n : Int) := by omega
          have hmw := wrapN m n hlt (by omega)
          clear h1 h2 h3 hdl hc hx hL hm hok hf0 hf1 hto hps
          rw [← z _ hbw] at q0 q1 q2 q3 q4
          clear z hb hbw
          go_wp2_with fail
          refine (KW.out _ (HBW4.out.alloc HBW4.out.size _)).mono ?_
          rintro _ w6 ⟨pb, rfl, hrow, hb6⟩
          have HW6 : Hid (Below p0 w1 w6) := Lib.hid ((HB4.out.alloc HPS4.out _).trans (hb6.mono (by have := HPS4.out; simp; omega)))
          have HD6 := Lib.hid (Li.own_below (H2.out.alloc _) hb6)
          have HD7 : Hid (∀ x ∈ D, w6.ownsRow p0 9 1 x.2.1 x.2.2.length (x.2.2.map Value.string)) := Lib.hid (fun x hx => Li.own_below ((H3.out x hx).alloc _) hb6)
          have HR6 := Lib.hid (Li.own_base hrow (show p0 ≤ _ from by have := HPS4.out; simp; omega))
          have HP6 : Hid (p0 ≤ w6.heap.size) := Lib.hid (by have := hb6.size; have := HPS4.out; simp at *; omega)
          clear hrow hb6
          go_wp2_with (at_builtin; refine wpList_append_own _ rfl _ _ 35 rfl p0 44 i0 (.agg #[.int .i64 0, .slice none 0 0]) 2 32 Tryz.underlying35 HI.out HZ0.out HZ1.out HZ2.out rfl (by decide) _ _ _ rfl (HD6.out.alloc _) ⟨w6.heap.size, 0, none⟩ 1 1 [.int .i64 0, .slice (some ⟨pb, 0, none⟩) L.length L.length] rfl rfl (two_at _ _ rfl _ _ _) (fun x hx => by simp at hx; rcases hx with rfl | rfl <;> rfl) (by rw [HDL.out]; unfold maxLen; omega) (by rw [HDL.out]; omega) (by have := HP6.out; simp; omega) ?_; intro v' w5 hown5 hgrow5 hnil5)
          go_roundw
          case rel =>
            have hz := Li.rd_snoc (j := 0) (l := L) H1.out (HD6.out.alloc _) (fun x hx => (HD7.out x hx).alloc _) (HR6.out.alloc _) hown5 hgrow5
            exact ⟨m + 1, HLT.out, by go_num, by rw [HSU.out]; exact hz, Li.gr_below (HW6.out.alloc HP6.out _) (HD6.out.alloc _) hgrow5 (by have := HP6.out; simp; omega)⟩
          case measure => simp [intOf]; have := HLT.out; omega
        · obtain rfl : m = n := by omega
          have hshort : shortR (gR k g f m) := gR_short HGr.out hcn (fun j hj => by
            obtain ⟨_, _, _, _, hc⟩ := HB.out (by omega)
            exact (hc j hj).1)
          obtain ⟨D, h1, h2, h3⟩ := hrd
          obtain ⟨A6, c6, hu4, hlen⟩ := Li.own_slice h2
          have hrd : RdOut p0 (.slice A6 D.length c6) (gR k g f m) wr := ⟨D, h1, hu4 ▸ h2, h3⟩
          subst hu4
          obtain ⟨hlr, gl, hws, hpv, _, e1, e2, e3, e4⟩ := put_ready hrd hshort
          have KP : Hid (Calls Tryz.prog 16 #[.slice A6 (gR k g f m).length c6] wr fun e w' => e = .returned (putV gl (gR k g f m).length) ∧ Below wr.heap.size wr w') := Lib.hid (Li.c14 A6 _ c6 gl wr hws (by have := hshort.1; omega) e1 e2 e3)
          rw [hpv, ← HRv.out] at KP
          obtain ⟨s2, e5, hrv⟩ := putR_two (gR k g f m)
          rw [← HRv.out] at hrv
          have HRT := Lib.hid hrv
          rw [hrv] at KP
          rw [← hlr] at KP
          clear hlr
          clear hrd h1 h2 h3 hlen hws hpv e1 e2 e3 e4 hrv hshort hm
          go_wp2_with fail
          refine KP.out.mono ?_
          rintro _ w7 ⟨rfl, hb7⟩
          go_wp2_with fail
          go_ret2
          exact ⟨by rw [HRT.out]; rfl, HBW4.out.trans (hb7.mono HBW4.out.size)⟩
end Go.Proofs.YtblfnjdbihhglaaGreatDoor
namespace Go.Proofs.YtblfnjdbihhglaaGreatDoor
open Go.ChangeShapes Go.WideShapes Go.ChangeAt Go.RowKit
open Li (Ss Ws Wl RdOut Reads putV jn outN lineP longP mayB AlikeW)
set_option linter.unusedVariables false
set_option linter.unusedSimpArgs false
set_option maxRecDepth 100000 in
set_option maxHeartbeats 16000000 in
theorem c8 (A : Option Addr) (nc cc : Nat) (B : Option Addr) (n c : Nat) (g : Nat → ByteArray) (f : Nat → Ed) (w : World) (hA : Ss w A nc g) (hB : Es w B n f) (hcn : nc + n ≤ 400) (hg : Gt w) :
    Calls Tryz.prog 8 #[.agg #[.slice A nc cc, .slice B n c]] w fun e w' => e = .returned (gputV nc g n f) ∧ Below w.heap.size w w' := by
  have hnc : nc ≤ 400 := by omega
  have hn : n ≤ 400 := by omega
  obtain ⟨i0, hi, hz⟩ : ∃ i, Tryz.prog.info? 44 = some i ∧ (i.zero, i.size, i.bytes) = (some (.agg #[.int .i64 0, .slice none 0 0]), 2, 32) := by
    have h : (Tryz.prog.info? 44).map (fun i => (i.zero, i.size, i.bytes)) = some (some (.agg #[.int .i64 0, .slice none 0 0]), 2, 32) := by kernel_rfl
    cases hq : Tryz.prog.info? 44 with
    | none => rw [hq] at h; cases h
    | some i => rw [hq] at h; exact ⟨i, rfl, by simpa using h⟩
  simp only [Prod.mk.injEq] at hz
  obtain ⟨hz0, hz1, hz2⟩ := hz
  have HI0 := Lib.hid hi
  have HZ0 := Lib.hid hz0
  have HZ1 := Lib.hid hz1
  have HZ2 := Lib.hid hz2
  clear hi hz0 hz1 hz2
  have KM : Hid (∀ W, Below w.heap.size w W → Calls Tryz.prog 17 #[.agg #[.slice A nc cc, .slice B n c]] W fun e w' => e = .returned (.bool (grB nc g n f)) ∧ Below W.heap.size W w') := Lib.hid (fun W hW => c17 A nc cc B n c g f W (hA.below hW) (hB.below hW) (by omega) (by omega))
  have HW1 : Hid (∀ W, Below (w.heap.size + 1) (w.alloc (.cells #[.slice A nc cc, .slice B n c] 25)) W → Bx W w.heap.size A nc cc B n c ∧ Below w.heap.size w W ∧ w.heap.size + 1 ≤ W.heap.size) := Lib.hid (fun W hW => by
    have h0 : Bx (w.alloc (.cells #[.slice A nc cc, .slice B n c] 25)) w.heap.size A nc cc B n c := ⟨World.cell?_alloc_new _ _ _ _, World.cell?_alloc_new _ _ _ _, by simp⟩
    refine ⟨h0.below hW (Nat.lt_succ_self _), ((Below.refl _ w).alloc (Nat.le_refl _) _).trans (hW.mono (Nat.le_succ _)), ?_⟩
    have := hW.size
    simp at this
    omega)
  have HV : Hid (grB nc g n f = false → gputV nc g n f = .tuple #[.string ⟨#[]⟩, .int .i64 2]) := Lib.hid (fun h => by unfold gputV; rw [h]; rfl)
  have HV2 : Hid (grB nc g n f = true → gputV nc g n f = putR (gR nc g f n)) := Lib.hid (fun h => by unfold gputV; rw [if_pos h])
  have HGP : Hid (grB nc g n f = true → GrP nc g n f) := Lib.hid grB_true
  have HA := Lib.hid hA
  have HB := Lib.hid hB
  have HG := Lib.hid hg
  clear hA hB hg
  obtain ⟨q, hq⟩ : ∃ q, grB nc g n f = q := ⟨_, rfl⟩
  rw [hq] at KM HV HV2 HGP
  clear hq
  obtain ⟨rv, hrv⟩ : ∃ rv, gputV nc g n f = rv := ⟨_, rfl⟩
  rw [hrv] at HV HV2 ⊢
  clear hrv
  go_enter Tryz.func8, Tryz.ntmps8
  go_wp2_with fail
  refine (KM.out _ ((Below.refl _ _).alloc (Nat.le_refl _) _)).mono ?_
  rintro _ w2 ⟨rfl, hb2⟩
  have HB2 : Hid (Below (w.heap.size + 1) (w.alloc (.cells #[.slice A nc cc, .slice B n c] 25)) w2) := Lib.hid (hb2.mono (by simp))
  generalize w.alloc (.cells #[.slice A nc cc, .slice B n c] 25) = w1 at *
  clear hb2
  cases q
  · have HX := Lib.hid (HV.out rfl)
    go_wp2_with fail
    go_ret2
    exact ⟨by rw [HX.out]; rfl, (HW1.out _ HB2.out).2.1⟩
  have HGr := Lib.hid (HGP.out rfl)
  have HRv := Lib.hid (HV2.out rfl)
  clear HV HV2 HGP KM
  obtain ⟨p0, hp0⟩ : ∃ p0, w.heap.size + 1 = p0 := ⟨_, rfl⟩
  rw [hp0] at HW1 HB2
  have HP0 := Lib.hid hp0
  clear hp0
  obtain ⟨⟨x0, x1, xl⟩, _, _⟩ := HW1.out _ HB2.out
  go_wp2_with fail
  clear x0 x1 xl
  go_loopw [4, 5] (fun l i wr => R7a w1 p0 nc g l i wr) (fun _ i _ => nc - (intOf i).toNat)
  case atStart => exact ⟨0, by omega, rfl, Li.rd_nil _ _, HB2.out⟩
  case round =>
    obtain ⟨k, hk, rfl, hrd, hb⟩ := hrel
    have HB3 := Lib.hid hb
    obtain ⟨⟨x0, x1, xl⟩, hbw, hps⟩ := HW1.out _ hb
    have HBW := Lib.hid hbw
    have HPS := Lib.hid hps
    by_cases hlt : k < nc
    · obtain ⟨D, h1, h2, h3⟩ := hrd
      have hdl : D.length = k := by have := congrArg List.length h1; simpa [gR1_len] using this
      obtain ⟨b, o, rfl, hbl, hc⟩ := HA.out (by omega)
      obtain ⟨q0, hs⟩ := hc k hlt
      rw [← hbw.cell (p := ⟨b, o + k, none⟩) hbl] at q0
      have HLT := Lib.hid hlt
      have HSU := Lib.hid (gR1_succ g k)
      have HDL := Lib.hid hdl
      have H1 := Lib.hid h1
      have H2 := Lib.hid h2
      have H3 := Lib.hid h3
      have HN : Hid (nc ≤ 400) := Lib.hid hnc
      obtain ⟨s, hsg⟩ : ∃ s, g k = s := ⟨_, rfl⟩
      rw [hsg] at q0 hs HSU
      have hkc : (k : Int) < (nc : Int) := by omega
      clear h1 h2 h3 hdl hc hsg hk hbw hps hb
      go_wp2_with (at_builtin; refine wpList_append_own _ rfl _ _ 35 rfl p0 44 i0 (.agg #[.int .i64 0, .slice none 0 0]) 2 32 Tryz.underlying35 HI0.out HZ0.out HZ1.out HZ2.out rfl (by decide) _ _ _ rfl ((H2.out.alloc _).alloc _) ⟨wr.heap.size + 1, 0, none⟩ 1 1 [.int .i64 0, .slice (some ⟨wr.heap.size, 0, none⟩) 2 2] rfl rfl (two_at _ _ (by simp) _ _ _) (fun x hx => by simp at hx; rcases hx with rfl | rfl <;> rfl) (by rw [HDL.out]; unfold maxLen; omega) (by rw [HDL.out]; omega) (by have := HPS.out; simp; omega) ?_; intro v' w5 hown5 hgrow5 hnil5)
      go_roundw
      case rel =>
        have ho : ((wr.alloc (.cells #[.string ⟨#[99, 111, 109, 112, 97, 114, 116, 109, 101, 110, 116]⟩, .string s] 9)).alloc (.cells #[.int .i64 0, .slice (some ⟨wr.heap.size, 0, none⟩) 2 2] 44)).ownsRow p0 9 1 (.slice (some ⟨wr.heap.size, 0, none⟩) 2 2) 2 [.string ⟨#[99, 111, 109, 112, 97, 114, 116, 109, 101, 110, 116]⟩, .string s] :=
          (Li.own_base (own_new wr [.string ⟨#[99, 111, 109, 112, 97, 114, 116, 109, 101, 110, 116]⟩, .string s] 9 2 rfl (by decide)) HPS.out).alloc _
        have hz := Li.rd_snoc (j := 0) (l := [⟨#[99, 111, 109, 112, 97, 114, 116, 109, 101, 110, 116]⟩, s]) H1.out ((H2.out.alloc _).alloc _) (fun x hx => ((H3.out x hx).alloc _).alloc _) ho hown5 hgrow5
        exact ⟨k + 1, HLT.out, by go_num, by rw [HSU.out]; exact hz, Li.gr_below ((HB3.out.alloc HPS.out _).alloc (by have := HPS.out; simp; omega) _) ((H2.out.alloc _).alloc _) hgrow5 (by have := HPS.out; simp; omega)⟩
      case measure => simp [intOf]; have := HLT.out; omega
    · obtain rfl : k = nc := by omega
      have HRD := Lib.hid hrd
      clear hrd hk
      go_wp2_with fail
      clear x0 x1 xl hbw hps hb hlt
      go_loopw [4, 6] (fun l i wz => R7b w1 p0 k g n f l i wz) (fun _ i _ => n - (intOf i).toNat)
      case atStart => exact ⟨0, by omega, rfl, by rw [gR_zero]; exact HRD.out, HB3.out⟩
      case round =>
        obtain ⟨m, hm, rfl, hrd, hb⟩ := hrel
        have HB4 := Lib.hid hb
        obtain ⟨⟨x0, x1, xl⟩, hbw, hps⟩ := HW1.out _ hb
        have HBW4 := Lib.hid hbw
        have HPS4 := Lib.hid hps
        by_cases hlt : m < n
        · obtain ⟨D, h1, h2, h3⟩ := hrd
          have hdl : D.length = k + m := by have := congrArg List.length h1; simpa [gR_len] using this
          obtain ⟨b, o, rfl, hbl, hc⟩ := HB.out (by omega)
          obtain ⟨hok, q0, q1, q2, q3, q4⟩ := hc m hlt
          have z : ∀ (W : World), Below w.heap.size w W → ∀ j, W.cell? ⟨b, j, none⟩ = w.cell? ⟨b, j, none⟩ := fun W hW j => hW.cell (p := ⟨b, j, none⟩) hbl
          have HLT := Lib.hid hlt
          have HSU := Lib.hid (gR_succ k g f m)
          have HDL := Lib.hid hdl
          have H1 := Lib.hid h1
          have H2 := Lib.hid h2
          have H3 := Lib.hid h3
          have HN : Hid (k ≤ 400 ∧ n ≤ 400) := Lib.hid ⟨hnc, hn⟩
          obtain ⟨⟨_, _, hf0, hf1⟩, hto, _, _⟩ := edB_out (HGr.out.2 m hlt).1
          have KW : Hid (∀ W, Below w.heap.size w W → Calls Tryz.prog 18 #[.agg #[.slice A k cc, .slice (some ⟨b, o, none⟩) n c], (f m).v] W fun e w' => RowOut W.heap.size (saidL g (f m)) W e w') := Lib.hid (fun W hW => c18 A k cc _ n c g (f m) (f m).fr.toNat W hok (HA.out.below hW) (by omega) (by omega) (by omega) (fun h2k => by
            unfold toB at hto
            rw [if_pos h2k] at hto
            have := of_decide_eq_true hto
            exact ⟨(f m).dt.toNat, by omega, by omega⟩) (HG.out.below hW))
          obtain ⟨x, hx⟩ : ∃ x, f m = x := ⟨_, rfl⟩
          obtain ⟨L, hL⟩ : ∃ L, saidL g (f m) = L := ⟨_, rfl⟩
          rw [hL] at KW HSU
          rw [hx] at q0 q1 q2 q3 q4 KW
          unfold Ed.v at KW
          have hmn : (m : Int) < (n : Int) := by omega
          have hmw := wrapN m n hlt (by omega)
          clear h1 h2 h3 hdl hc hx hL hm hok hf0 hf1 hto hps
          have HS : Hid (∀ W, Below p0 w1 W → W.cell? ⟨w.heap.size, 0, none⟩ = some (.slice A k cc) ∧ W.cell? ⟨w.heap.size, 1, none⟩ = some (.slice (some ⟨b, o, none⟩) n c) ∧ W.cell? ⟨b, o + m * 5, none⟩ = some (.int .u8 x.k) ∧ W.cell? ⟨b, o + m * 5 + 1, none⟩ = some (.int .i64 x.fr) ∧ W.cell? ⟨b, o + m * 5 + 2, none⟩ = some (.int .i64 x.dt) ∧ W.cell? ⟨b, o + m * 5 + 3, none⟩ = some (.string x.nm) ∧ W.cell? ⟨b, o + m * 5 + 4, none⟩ = some (.int .u32 x.wh)) := Lib.hid (fun W hW => by
            obtain ⟨⟨y0, y1, yl⟩, hbW, _⟩ := HW1.out _ hW
            exact ⟨y0, y1, (z _ hbW _).trans q0, (z _ hbW _).trans q1, (z _ hbW _).trans q2, (z _ hbW _).trans q3, (z _ hbW _).trans q4⟩)
          rw [← z _ hbw] at q0 q1 q2 q3 q4
          clear z hb hbw
          go_upto_region 11 with fail
          have HI := Lib.hid (HS.out _ HB4.out.drew)
          go_region_held3 (fun W => W.cell? ⟨w.heap.size, 0, none⟩ = some (.slice A k cc) ∧ W.cell? ⟨w.heap.size, 1, none⟩ = some (.slice (some ⟨b, o, none⟩) n c) ∧ W.cell? ⟨b, o + m * 5, none⟩ = some (.int .u8 x.k) ∧ W.cell? ⟨b, o + m * 5 + 1, none⟩ = some (.int .i64 x.fr) ∧ W.cell? ⟨b, o + m * 5 + 2, none⟩ = some (.int .i64 x.dt) ∧ W.cell? ⟨b, o + m * 5 + 3, none⟩ = some (.string x.nm) ∧ W.cell? ⟨b, o + m * 5 + 4, none⟩ = some (.int .u32 x.wh))
            (first | assumption | exact HI.out | (with_reducible exact HS.out _ (by assumption)) | (with_reducible exact HS.out _ (Below.alloc (by assumption) (by assumption) _)) | (exact HS.out _ (Li.gr_below (HW6.alloc HP6 _) (HD6.alloc _) hgrow5 (by have := HP6; simp; omega))))
            (first
              | (go_at_call 18; (with_reducible refine (KW.out _ HBW4.out.drew).mono ?_); rintro _ w6 ⟨pb, rfl, hrow, hb6⟩; have HW6 : Below p0 w1 w6 := HB4.out.drew.trans (hb6.mono (by have := HPS4.out; simpa using this)); have HD6 := Li.own_below (H2.out.drew) hb6; have HD7 : Hid (∀ x ∈ D, w6.ownsRow p0 9 1 x.2.1 x.2.2.length (x.2.2.map Value.string)) := Lib.hid (fun x hx => Li.own_below ((H3.out x hx).drew) hb6); have HR6 := Li.own_base hrow (show p0 ≤ _ from by have := HPS4.out; simpa using this); have HP6 : p0 ≤ w6.heap.size := (by have := hb6.size; have := HPS4.out; simp at *; omega); clear hrow hb6)
              | (refine step_append_lies _ (by rfl) _ _ 35 (by rfl) p0 44 i0 (.agg #[.int .i64 0, .slice none 0 0]) 2 32 Tryz.underlying35 HI0.out HZ0.out HZ1.out HZ2.out rfl (by decide) _ _ _ (by rfl) (HD6.alloc _) ⟨w6.heap.size, 0, none⟩ 1 1 [.int .i64 0, .slice (some ⟨pb, 0, none⟩) L.length L.length] (by rfl) rfl (two_at _ _ rfl _ _ _) (fun x hx => by simp at hx; rcases hx with rfl | rfl <;> rfl) (by decide) (by rw [HDL.out]; unfold maxLen; omega) (by rw [HDL.out]; omega) (by have := HP6; simp; omega) _ rfl ?_; intro g5 c5 w5 hown5 hgrow5 hat5 hlt5))
          go_wp2_with fail
          go_roundw
          case rel =>
            have hz := Li.rd_snoc (j := 0) (l := L) H1.out (HD6.alloc _) (fun x hx => (HD7.out x hx).alloc _) (HR6.alloc _) hown5 hgrow5
            exact ⟨m + 1, HLT.out, by go_num, by rw [HSU.out]; exact hz, Li.gr_below (HW6.alloc HP6 _) (HD6.alloc _) hgrow5 (by have := HP6; simp; omega)⟩
          case measure => simp [intOf]; have := HLT.out; omega
        · obtain rfl : m = n := by omega
          have hshort : shortR (gR k g f m) := gR_short HGr.out hcn (fun j hj => by
            obtain ⟨_, _, _, _, hc⟩ := HB.out (by omega)
            exact (hc j hj).1)
          obtain ⟨D, h1, h2, h3⟩ := hrd
          obtain ⟨A6, c6, hu4, hlen⟩ := Li.own_slice h2
          have hrd : RdOut p0 (.slice A6 D.length c6) (gR k g f m) wr := ⟨D, h1, hu4 ▸ h2, h3⟩
          subst hu4
          obtain ⟨hlr, gl, hws, hpv, _, e1, e2, e3, e4⟩ := put_ready hrd hshort
          have KP : Hid (Calls Tryz.prog 19 #[.slice A6 (gR k g f m).length c6] wr fun e w' => e = .returned (putV gl (gR k g f m).length) ∧ wr = w') := Lib.hid (Li.c15 A6 _ c6 gl wr hws (by have := hshort.1; omega) e1 e2 e4)
          rw [hpv, ← HRv.out] at KP
          obtain ⟨s2, e5, hrv⟩ := putR_two (gR k g f m)
          rw [← HRv.out] at hrv
          have HRT := Lib.hid hrv
          rw [hrv] at KP
          rw [← hlr] at KP
          clear hlr
          clear hrd h1 h2 h3 hlen hws hpv e1 e2 e3 e4 hrv hshort hm
          go_wp2_with fail
          refine KP.out.mono ?_
          rintro _ w7 ⟨rfl, rfl⟩
          go_wp2_with fail
          go_ret2
          exact ⟨by rw [HRT.out]; rfl, HBW4.out⟩
end Go.Proofs.YtblfnjdbihhglaaGreatDoor
