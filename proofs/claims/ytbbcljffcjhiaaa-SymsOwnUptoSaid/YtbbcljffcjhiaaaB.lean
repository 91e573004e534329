import Derived.Test.YtbbcljffcjhiaaaA
import Derived.Laws.Concat
import Derived.Laws.Rows
import Derived.Laws.AppendOwn
import Derived.Deep.AppendLies
import Derived.OwnWalk
namespace Go.Proofs.Ytbbcljffcjhiaaa
open Go.ChangeShapes Go.WideShapes Go.ChangeAt Go.RowKit
set_option linter.unusedVariables false
set_option linter.unusedSimpArgs false
def sSw : ByteArray := ⟨#[115, 119, 105, 116, 99, 104]⟩
def sImp : ByteArray := ⟨#[105, 109, 112, 111, 114, 116, 46]⟩
def sDot : ByteArray := ⟨#[46]⟩
def sDev : ByteArray := ⟨#[100, 101, 118, 105, 99, 101, 46]⟩
def sSha : ByteArray := ⟨#[115, 104, 97, 114, 101, 46]⟩
def nmO : List Value → ByteArray
  | .string s :: _ => s
  | _ => ⟨#[]⟩
/-- the name of the one of that number, if there is one -/
def fromS (nc : Nat) (FC : Nat → List Value) (x : Int) : ByteArray := if 0 ≤ x ∧ x < nc then nmO (FC x.toNat) else ⟨#[]⟩
def impS (nc : Nat) (FC : Nat → List Value) : List Value → ByteArray
  | [.int _ fr, .string nm] => sImp ++ fromS nc FC fr ++ sDot ++ nm
  | _ => ⟨#[]⟩
def devS : List Value → ByteArray
  | .string nm :: _ => sDev ++ nm
  | _ => ⟨#[]⟩
def givS (ns : Nat) (FS : Nat → List Value) : List Value → ByteArray
  | .int _ s :: _ => sSha ++ fromS ns FS s
  | _ => ⟨#[]⟩
def l1 (nc : Nat) (FC FI : Nat → List Value) (k : Nat) : List ByteArray := sSw :: (List.range k).map fun i => impS nc FC (FI i)
def l2 (L : List ByteArray) (FD : Nat → List Value) (k : Nat) : List ByteArray := L ++ (List.range k).map fun i => devS (FD i)
def l3 (L : List ByteArray) (ns : Nat) (FS FG : Nat → List Value) (k : Nat) : List ByteArray := L ++ (List.range k).map fun i => givS ns FS (FG i)
theorem l1_succ (nc : Nat) (FC FI : Nat → List Value) (k : Nat) : l1 nc FC FI (k + 1) = l1 nc FC FI k ++ [impS nc FC (FI k)] := by unfold l1; rw [List.range_succ, List.map_append]; rfl
theorem l2_succ (L : List ByteArray) (FD : Nat → List Value) (k : Nat) : l2 L FD (k + 1) = l2 L FD k ++ [devS (FD k)] := by unfold l2; rw [List.range_succ, List.map_append, ← List.append_assoc]; rfl
theorem l3_succ (L : List ByteArray) (ns : Nat) (FS FG : Nat → List Value) (k : Nat) : l3 L ns FS FG (k + 1) = l3 L ns FS FG k ++ [givS ns FS (FG k)] := by unfold l3; rw [List.range_succ, List.map_append, ← List.append_assoc]; rfl
theorem l1_len (nc : Nat) (FC FI : Nat → List Value) (k : Nat) : (l1 nc FC FI k).length = 1 + k := by unfold l1; simp; omega
theorem l2_len (L : List ByteArray) (FD : Nat → List Value) (k : Nat) : (l2 L FD k).length = L.length + k := by unfold l2; simp
theorem l3_len (L : List ByteArray) (ns : Nat) (FS FG : Nat → List Value) (k : Nat) : (l3 L ns FS FG k).length = L.length + k := by unfold l3; simp
theorem info9 : ∃ i, Try.prog.info? 9 = some i ∧ i.zero = some (.string ⟨#[]⟩) ∧ i.size = 1 ∧ i.bytes = 16 := by
  have h : (Try.prog.info? 9).map (fun i => (i.zero, i.size, i.bytes)) = some (some (.string ⟨#[]⟩), 1, 16) := by kernel_rfl
  cases hq : Try.prog.info? 9 with
  | none => rw [hq] at h; cases h
  | some i =>
    rw [hq] at h
    simp only [Option.map_some, Option.some.injEq, Prod.mk.injEq] at h
    exact ⟨i, rfl, h.1, h.2.1, h.2.2⟩
theorem one_at (w : World) (N : Nat) (hN : w.heap.size = N) (y : Value) (t : TypeId) : ∀ (j : Nat) (u : Value), [y][j]? = some u → (w.alloc (.cells #[y] t)).cell? ((⟨N, 0, none⟩ : Addr).add j) = some u := by
  subst hN
  exact World.news_of_block (heap_alloc_new w _)
theorem own_slice {w : World} {B e size n : Nat} {v : Value} {xs : List Value} (h : w.ownsRow B e size v n xs) : ∃ A c, v = .slice A n c ∧ n ≤ c := by
  obtain ⟨h1, h2⟩ := h
  rcases h2 with ⟨h2, h3⟩ | ⟨g, cap, cur, a, b, c, d, e⟩
  · subst h3; exact ⟨none, 0, h2, Nat.le_refl _⟩
  · exact ⟨_, cap, a, d⟩
/-- what stands in the boxes -/
def w2 (w : World) (pv cv : List Value) : World := (w.alloc (.cells pv.toArray 25)).alloc (.cells cv.toArray 37)
theorem w2_at {w W : World} {pv cv : List Value} (hW : Below (w.heap.size + 2) (w2 w pv cv) W) : (∀ j, W.cell? ⟨w.heap.size, j, none⟩ = pv[j]?) ∧ (∀ j, W.cell? ⟨w.heap.size + 1, j, none⟩ = cv[j]?) ∧ Below w.heap.size w W := by
  have hz : (w.alloc (.cells pv.toArray 25)).heap.size = w.heap.size + 1 := by simp
  have h1 : W.heap[w.heap.size]? = some (.cells pv.toArray 25 (0, 0)) := (hW.block _ (by omega)).trans ((Below.heap_alloc _ _ _ (by omega)).trans (heap_alloc_new w _))
  have h2 : W.heap[w.heap.size + 1]? = some (.cells cv.toArray 37 (0, 0)) := (hW.block _ (by omega)).trans (by
    have := heap_alloc_new (w.alloc (.cells pv.toArray 25)) (.cells cv.toArray 37)
    rw [hz] at this
    exact this)
  refine ⟨fun j => ?_, fun j => ?_, (((Below.refl _ w).alloc (Nat.le_refl _) _).alloc (by omega) _).trans (hW.mono (by omega))⟩
  · rw [cell_of_row _ _ _ _ _ _ h1]; simp
  · rw [cell_of_row _ _ _ _ _ _ h2]; simp
theorem own_new (W : World) (x : ByteArray) : (W.alloc (.cells #[.string x] 9)).ownsRow W.heap.size 9 1 (.slice (some ⟨W.heap.size, 0, none⟩) 1 1) 1 [.string x] :=
  ⟨by simp, Or.inr ⟨W.heap.size, 1, #[.string x], rfl, Nat.le_refl _, heap_alloc_new W _, Nat.le_refl _, by unfold maxLen; omega, by simp, by simp⟩⟩
theorem gr_below {B : Nat} {a w w' : World} {v : Value} {e size n : Nat} {xs : List Value} (h : Below B a w) (ho : w.ownsRow B e size v n xs) (hg : w.grownBy w' v.ownBlock) (hB : B ≤ w.heap.size) : Below B a w' :=
  h.grown hg hB (fun k hk => (ho.lt k hk).1)
end Go.Proofs.Ytbbcljffcjhiaaa
