import Derived.Test.YtapdiionikfgpaaGreatDoorRiz
import Derived.Test.YtapdiionikfgpaaGreatDoorQpz
import Derived.Test.YtapdiionikfgpaaGreatDoorGo
namespace Go.Proofs.YtapdiionikfgpaaGreatDoor
open Go.ChangeShapes Go.WideShapes Go.ChangeAt Go.RowKit
open Li (Wl jn outN longP mayB putV lineP wd Gl)
set_option linter.unusedVariables false
set_option linter.unusedSimpArgs false
/-- the same words -/
def SmW (x y : Wl) : Prop := x.n = y.n ∧ ∀ j, x.f j = y.f j
theorem jn_same {x y : Wl} (h : SmW x y) : ∀ m, jn x m = jn y m
  | 0 => rfl
  | m + 1 => by rw [jn, jn, jn_same h m, h.2 m]
theorem lineP_same {x y : Wl} (h : SmW x y) : lineP x ↔ lineP y := by
  unfold lineP
  rw [h.1]
  constructor
  · rintro ⟨a, b⟩; exact ⟨a, fun j hj => by rw [← h.2 j]; exact b j hj⟩
  · rintro ⟨a, b⟩; exact ⟨a, fun j hj => by rw [h.2 j]; exact b j hj⟩
theorem longP_same {x y : Wl} (h : SmW x y) : longP x ↔ longP y := by
  unfold longP
  rw [jn_same h, h.1]
theorem outN_same {g g' : Nat → Wl} : ∀ n, (∀ k, k < n → SmW (g k) (g' k)) → outN g n = outN g' n
  | 0, _ => rfl
  | n + 1, h => by rw [outN, outN, outN_same n (fun k hk => h k (by omega)), jn_same (h n (by omega)), (h n (by omega)).1]
theorem mayB_same {g g' : Nat → Wl} {n : Nat} (h : ∀ k, k < n → SmW (g k) (g' k)) : mayB g n = mayB g' n := by
  by_cases h1 : ∀ k, k < n → lineP (g k)
  · rw [Li.mayB_yes g n h1, Li.mayB_yes g' n (fun k hk => (lineP_same (h k hk)).1 (h1 k hk))]
  · obtain ⟨k, hk, hn⟩ : ∃ k, k < n ∧ ¬ lineP (g k) := by
      refine Classical.byContradiction (fun hh => h1 (fun k hk => Classical.byContradiction (fun hn => hh ⟨k, hk, hn⟩)))
    rw [Li.mayB_no g n k hk hn, Li.mayB_no g' n k hk (fun hh => hn ((lineP_same (h k hk)).2 hh))]
theorem putV_same {g g' : Nat → Wl} {n : Nat} (h : ∀ k, k < n → SmW (g k) (g' k)) : putV g n = putV g' n := by
  cases hm : mayB g n
  · rw [Li.putV_may g n hm, Li.putV_may g' n (by rw [← mayB_same h]; exact hm)]
  · have hm' : mayB g' n = true := by rw [← mayB_same h]; exact hm
    by_cases hl : ∃ k, k < n ∧ longP (g k)
    · obtain ⟨k, hk, hl⟩ := hl
      rw [Li.putV_long g n k hm hk hl, Li.putV_long g' n k hm' hk ((longP_same (h k hk)).1 hl)]
    · by_cases h4 : 400 < n
      · rw [Li.putV_many g n hm h4, Li.putV_many g' n hm' h4]
      · rw [Li.putV_ok g n hm (fun k hk hh => hl ⟨k, hk, hh⟩) (by omega), Li.putV_ok g' n hm' (fun k hk hh => hl ⟨k, hk, (longP_same (h k hk)).2 hh⟩) (by omega), outN_same n h]
theorem putV_pt (LS : List (List ByteArray)) : putV (gL LS) LS.length = .tuple #[.string (pt LS).1, .int .i64 ((pt LS).2 : Int)] := by
  unfold pt
  cases hm : mayB (gL LS) LS.length
  · rw [Li.putV_may _ _ hm, if_pos rfl]; rfl
  · rw [if_neg (by simp)]
    by_cases hl : ∃ k, k < LS.length ∧ longP (gL LS k)
    · obtain ⟨k, hk, hl⟩ := hl
      rw [Li.putV_long _ _ k hm hk hl, if_pos (Or.inl ⟨k, hk, hl⟩)]; rfl
    · by_cases h4 : 400 < LS.length
      · rw [Li.putV_many _ _ hm h4, if_pos (Or.inr h4)]; rfl
      · rw [Li.putV_ok _ _ hm (fun k hk hh => hl ⟨k, hk, hh⟩) (by omega), if_neg (fun hh => by rcases hh with h | h; exact hl h; exact h4 h)]; rfl
theorem jn_size {x : Wl} {M : Nat} (h : ∀ j, (x.f j).size ≤ M) : ∀ m, (jn x m).size ≤ m * (M + 1)
  | 0 => Nat.zero_le _
  | m + 1 => by
    have h1 := jn_size h m
    have h2 := h m
    have h3 : (jn x (m + 1)).size ≤ (jn x m).size + 1 + (x.f m).size := by
      rw [jn]
      split
      · rw [ByteArray.size_append]; omega
      · rw [ByteArray.size_append, ByteArray.size_append]
        have : (⟨#[32]⟩ : ByteArray).size = 1 := rfl
        omega
    rw [Nat.add_mul]
    omega
theorem outN_size {g : Nat → Wl} : ∀ k, (∀ j, j < k → ¬ longP (g j)) → (outN g k).size ≤ k * 101
  | 0, _ => Nat.zero_le _
  | k + 1, h => by
    have h1 := outN_size k (fun j hj => h j (by omega))
    have h2 := h k (by omega)
    unfold longP at h2
    rw [outN, ByteArray.size_append, ByteArray.size_append]
    have : (⟨#[10]⟩ : ByteArray).size = 1 := rfl
    rw [Nat.add_mul]
    omega
/-- lines of few and short words -/
def ShL (LS : List (List ByteArray)) : Prop := ∀ l ∈ LS, l.length ≤ 5 ∧ ∀ u ∈ l, u.size ≤ 1048576
theorem pt_size (LS : List (List ByteArray)) : (pt LS).1.size ≤ 40400 := by
  unfold pt
  split
  · exact Nat.zero_le _
  · split
    · exact Nat.zero_le _
    · rename_i h
      have h1 : ∀ k, k < LS.length → ¬ longP (gL LS k) := fun k hk hl => h (Or.inl ⟨k, hk, hl⟩)
      have h2 := outN_size LS.length h1
      have h3 : LS.length ≤ 400 := Nat.le_of_not_lt (fun hh => h (Or.inr hh))
      simp only
      omega
theorem gl_words {LS : List (List ByteArray)} (h : ShL LS) (k : Nat) : (gL LS k).n ≤ 5 ∧ ∀ j, ((gL LS k).f j).size ≤ 1048576 := by
  unfold gL
  cases hk : LS[k]? with
  | none => exact ⟨Nat.zero_le _, fun j => Nat.zero_le _⟩
  | some l =>
    obtain ⟨h1, h2⟩ := h l (List.mem_of_getElem? hk)
    refine ⟨by simpa using h1, fun j => ?_⟩
    simp only [Option.getD_some]
    cases hj : l[j]? with
    | none => exact Nat.zero_le _
    | some u => simpa using h2 u (List.mem_of_getElem? hj)
/-- lines.Put of what was said -/
theorem put_lines (LS : List (List ByteArray)) (hs : ShL LS) (hl : LS.length ≤ 1073741824) (W : World) (V : Value) (B : Nat) (h : Li.RdOut B V (LS.map (fun l => (0, l))) W) :
    (Calls Tryz.prog 60 #[V] W fun e w' => e = .returned (.tuple #[.string (pt LS).1, .int .i64 ((pt LS).2 : Int)]) ∧ Below W.heap.size W w') := by
  obtain ⟨A, n, c, rfl⟩ : ∃ A n c, V = .slice A n c := by
    obtain ⟨D, d1, d2, d3⟩ := h
    obtain ⟨A, c, e, _⟩ := own_slice d2
    exact ⟨A, _, c, e⟩
  obtain ⟨hn, g, hw, hre⟩ := Li.rd_ws h (fun x hx => by
    obtain ⟨l, hl', rfl⟩ := List.mem_map.1 hx
    obtain ⟨h1, h2⟩ := hs l hl'
    exact ⟨by simp only; omega, fun y hy => by have := h2 y hy; omega⟩)
  rw [List.length_map] at hn hw
  have hsm : ∀ k, k < LS.length → SmW (g k) (gL LS k) := fun k hk => by
    obtain ⟨-, h2, h3⟩ := hre k (by simpa using hk)
    refine ⟨by rw [h2]; simp [gL, hk], fun j => by rw [h3 j]; simp [gL, hk]⟩
  have hg : ∀ k, k < LS.length → (g k).n ≤ 5 ∧ ∀ j, ((g k).f j).size ≤ 1048576 := fun k hk => by
    obtain ⟨h1, h2⟩ := gl_words hs k
    exact ⟨by rw [(hsm k hk).1]; exact h1, fun j => by rw [(hsm k hk).2 j]; exact h2 j⟩
  subst hn
  have hC := Li.c14 A LS.length c g W hw (by omega)
    (fun k hk h4 hno => by have := outN_size k hno; omega)
    (fun k hk m hm => by have h1 := jn_size (M := 1048576) (hg k hk).2 m; have h2 := (hg k hk).1; have : m * (1048576 + 1) ≤ 5 * (1048576 + 1) := Nat.mul_le_mul_right _ (by omega); omega)
    (fun k hk => by have := (hg k hk).1; omega)
  rw [putV_same hsm, putV_pt] at hC
  exact hC
/-- what was read, among all plans -/
def toC (c : Co) : CoI := ⟨c.nm, c.fs, c.es.map (fun x => (x.1, (x.2.1 : Int), (x.2.2 : Int))), c.is.map (fun x => ((x.1 : Int), x.2)), c.ds.map (fun x => (x.1, (x.2.1 : Int), (x.2.2 : Int))), c.gs.map (fun x => ((x.1 : Int), x.2))⟩
def toI (p : Pm) : PlI := ⟨p.st, p.tr, p.ss.map (fun x => (x.1, (x.2 : Int))), p.cs.map toC, p.s0, p.mn⟩
theorem ly_own {α β : Type} {W : World} {B e sz : Nat} {v : Value} {L : List α} {f : α → List Value} (m : α → β) (f' : β → List Value) (hf : ∀ x, (f x).length = sz) (hm : ∀ x, f' (m x) = f x) (h : W.ownsRow B e sz v L.length (L.flatMap f)) : Ly W v sz f' (L.map m) := by
  obtain ⟨A, c, hv, -⟩ := own_slice h
  refine ⟨A, c, by rw [List.length_map]; exact hv, fun h0 => ?_⟩
  rw [List.length_map] at h0
  obtain ⟨g, c', hv', hg, -, hat⟩ := own_at hf h h0
  rw [hv] at hv'
  cases hv'
  refine ⟨g, 0, rfl, hg, fun k x hx j u hu => ?_⟩
  rw [List.getElem?_map] at hx
  cases hk : L[k]? with
  | none => rw [hk] at hx; cases hx
  | some y =>
    rw [hk] at hx
    cases hx
    rw [hm] at hu
    have hj : j < sz := by have := (List.getElem?_eq_some_iff.1 hu).1; rw [hf] at this; exact this
    rw [Nat.zero_add, hat k y hk j hj]
    exact hu
theorem co_ly {W : World} {B : Nat} {x : Sv × Co} (h : CoIn W B x) : CoL W (x.1, toC x.2) := by
  refine ⟨?_, ly_own _ iEs len_cEs (fun _ => rfl) h.2.1, ly_own _ iIs len_cIs (fun _ => rfl) h.2.2.1, ly_own _ iDs len_cDs (fun _ => rfl) h.2.2.2.1, ly_own _ iGs len_cGs (fun _ => rfl) h.2.2.2.2⟩
  have := ly_own id iFs len_cFs (fun _ => rfl) h.1
  rw [List.map_id] at this
  exact this
theorem pl_ly {W : World} {B : Nat} {SV CV : Value} {p : Pm} {D : List (Sv × Co)} (h : PlIn W B SV CV p.ss D) (hD : D.map (·.2) = p.cs) : PlL W SV CV (toI p) (D.map (fun x => (x.1, toC x.2))) := by
  refine ⟨ly_own _ iSs len_cSs (fun _ => rfl) h.1, ly_own _ iCo len_cCo (fun _ => rfl) h.2.1, ?_, fun x hx => ?_⟩
  · show _ = p.cs.map toC
    rw [← hD, List.map_map, List.map_map]
    rfl
  · obtain ⟨y, hy, rfl⟩ := List.mem_map.1 hx
    obtain ⟨i, hi, e⟩ := List.getElem_of_mem hy
    exact co_ly (h.2.2.1 i y (by rw [List.getElem?_eq_getElem hi, e]))
theorem bd_sm {p : Pm} (h : Sm p) : BdP (toI p) := by
  refine ⟨by show (p.ss.map _).length ≤ _; rw [List.length_map]; have := h.2.1; omega, by show (p.cs.map _).length ≤ _; rw [List.length_map]; have := h.1; omega, fun c hc => ?_⟩
  obtain ⟨x, hx, rfl⟩ := List.mem_map.1 hc
  obtain ⟨h1, h2, h3, h4, h5⟩ := h.2.2 x hx
  exact ⟨by show x.fs.length ≤ _; omega, by show (x.es.map _).length ≤ _; rw [List.length_map]; omega, by show (x.is.map _).length ≤ _; rw [List.length_map]; omega, by show (x.ds.map _).length ≤ _; rw [List.length_map]; omega, by show (x.gs.map _).length ≤ _; rw [List.length_map]; omega⟩
open Classical in
/-- what Put answers -/
noncomputable def putP (P : PlI) : ByteArray × Nat := if (outT P).2 = 0 ∧ ∃ q, readP (outT P).1 = ((0, 0), some q) ∧ toI q = P then ((outT P).1, 0) else (⟨#[]⟩, 5)
/-- plans that fit -/
def OkP (P : PlI) : Prop := BdP P ∧ RgP P ∧ ShL (txt P) ∧ (txt P).length ≤ 1073741824
theorem outT_size (P : PlI) : (outT P).1.size ≤ 16777215 := by
  unfold outT
  split
  · have := pt_size (txt P); omega
  · exact Nat.zero_le _
theorem putP_no {P : PlI} (h : ¬ ((outT P).2 = 0 ∧ ∃ q, readP (outT P).1 = ((0, 0), some q) ∧ toI q = P)) : putP P = (⟨#[]⟩, 5) := by unfold putP; rw [if_neg h]
theorem putP_yes {P : PlI} (h : (outT P).2 = 0 ∧ ∃ q, readP (outT P).1 = ((0, 0), some q) ∧ toI q = P) : putP P = ((outT P).1, 0) := by unfold putP; rw [if_pos h]
end Go.Proofs.YtapdiionikfgpaaGreatDoor
