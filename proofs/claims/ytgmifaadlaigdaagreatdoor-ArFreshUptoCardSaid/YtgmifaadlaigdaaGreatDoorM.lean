import Derived.Test.YtgmifaadlaigdaaGreatDoorD
import Derived.Test.YtgmifaadlaigdaaGreatDoorK
namespace Go.Proofs.YtgmifaadlaigdaaGreatDoor
open Go.ChangeShapes Go.WideShapes Go.ChangeAt Go.RowKit
set_option linter.unusedVariables false
/-- may the members be? -/
def MemsOk (g : Nat → Mem) (n : Nat) : Prop := ∀ i, i < n → nmB (g i).nm = true ∧ ∀ k, k < i → (g k).nm ≠ (g i).nm
/-- may the entries be, of so many members? -/
def IxsOk (x : Nat → Ix) (n m : Nat) : Prop := ∀ i, i < m → 0 ≤ (x i).m ∧ (x i).m < (n : Int) ∧ (x i).nm ≠ ⟨#[]⟩ ∧ zeB (x i).nm = false
/-- four bytes as a text -/
def fourB (n : Nat) : ByteArray := ⟨#[UInt8.ofNat (n / 16777216), UInt8.ofNat (n / 65536 % 256), UInt8.ofNat (n / 256 % 256), UInt8.ofNat (n % 256)]⟩
/-- the index: the places, then the names -/
def placesB (g : Nat → Mem) (x : Nat → Ix) (e0 : Nat) : Nat → ByteArray
  | 0 => ⟨#[]⟩
  | k + 1 => placesB g x e0 k ++ fourB (evn (endN g e0 (x k).m.toNat))
def namesB (x : Nat → Ix) : Nat → ByteArray
  | 0 => ⟨#[]⟩
  | k + 1 => namesB x k ++ (x k).nm ++ ⟨#[0]⟩
def indexB (g : Nat → Mem) (x : Nat → Ix) (e0 m : Nat) : ByteArray := fourB m ++ placesB g x e0 m ++ namesB x m
def padB (s : ByteArray) : ByteArray := if s.size % 2 = 1 then s ++ ⟨#[10]⟩ else s
/-- the archive of so many members, behind what stands ahead -/
def outB (g : Nat → Mem) (s0 : ByteArray) : Nat → ByteArray
  | 0 => s0
  | k + 1 => padB (outB g s0 k) ++ headB ((g k).nm ++ ⟨#[47]⟩) (g k).n ++ strN (g k).f (g k).n
def startB (g : Nat → Mem) (x : Nat → Ix) (m : Nat) : ByteArray := if m = 0 then magicB else magicB ++ headB ⟨#[47]⟩ (indexB g x (begN x m) m).size ++ indexB g x (begN x m) m
def arB (g : Nat → Mem) (x : Nat → Ix) (n m : Nat) : ByteArray := outB g (startB g x m) n
theorem fourB_size (n : Nat) : (fourB n).size = 4 := rfl
theorem placesB_size (g : Nat → Mem) (x : Nat → Ix) (e0 : Nat) : ∀ m, (placesB g x e0 m).size = 4 * m
  | 0 => rfl
  | m + 1 => by rw [placesB, ByteArray.size_append, placesB_size g x e0 m, fourB_size]; omega
theorem namesB_size (x : Nat → Ix) : ∀ m, (namesB x m).size = lgN x m
  | 0 => rfl
  | m + 1 => by
    rw [namesB, ByteArray.size_append, ByteArray.size_append, namesB_size x m, lgN]
    show _ + _ + 1 = _
    omega
theorem indexB_size (g : Nat → Mem) (x : Nat → Ix) (e0 m : Nat) : (indexB g x e0 m).size = ixS x m := by
  unfold indexB ixS
  rw [ByteArray.size_append, ByteArray.size_append, fourB_size, placesB_size, namesB_size]
theorem padB_size (s : ByteArray) : (padB s).size = evn s.size := by
  unfold padB evn
  split
  · rw [ByteArray.size_append]
    show _ + 1 = _
    omega
  · omega
theorem headB_size (s : ByteArray) (n : Nat) (hs : s.size ≤ 16) (hn : n < 10000000000) : (headB s n).size = 60 := by
  have ht : (tens n).size ≤ 10 := by
    have key : ∀ k n, n < 10 ^ (k + 1) → (tens n).size ≤ k + 1 := by
      intro k
      induction k with
      | zero => intro n h; rw [tens_lt (by omega), one_size]; omega
      | succ k ih =>
        intro n h
        by_cases h10 : n < 10
        · rw [tens_lt h10, one_size]; omega
        · rw [tens_ge h10, ByteArray.size_append, one_size]
          have := ih (n / 10) (by rw [Nat.pow_succ] at h; omega)
          omega
    exact key 9 n (by omega)
  unfold headB
  simp only [ByteArray.size_append, wideB_size]
  have e1 : (⟨#[48]⟩ : ByteArray).size = 1 := rfl
  have e2 : (⟨#[96, 10]⟩ : ByteArray).size = 2 := rfl
  omega
theorem startB_size (g : Nat → Mem) (x : Nat → Ix) (m : Nat) (h : ixS x m < 10000000000) : (startB g x m).size = begN x m := by
  unfold startB begN
  split
  · rfl
  · rw [ByteArray.size_append, ByteArray.size_append, headB_size _ _ (by decide) (by rw [indexB_size]; exact h), indexB_size]
    show 8 + 60 + _ = _
    omega
theorem outB_size (g : Nat → Mem) (s0 : ByteArray) : ∀ k, (∀ i, i < k → (g i).nm.size ≤ 15 ∧ (g i).n < 10000000000) → (outB g s0 k).size = endN g s0.size k
  | 0, _ => rfl
  | k + 1, h => by
    have ih := outB_size g s0 k (fun i hi => h i (by omega))
    obtain ⟨h1, h2⟩ := h k (by omega)
    have h3 : ((g k).nm ++ ⟨#[47]⟩).size ≤ 16 := by
      rw [ByteArray.size_append]
      show _ + 1 ≤ _
      omega
    rw [outB, ByteArray.size_append, ByteArray.size_append, padB_size, ih, headB_size _ _ h3 h2, strN_size, endN]
/-- the whole archive is as long as its heads tell -/
theorem arB_size (g : Nat → Mem) (x : Nat → Ix) (n m : Nat) (hx : ixS x m < 10000000000) (h : ∀ i, i < n → (g i).nm.size ≤ 15 ∧ (g i).n < 10000000000) : (arB g x n m).size = endN g (begN x m) n := by
  unfold arB
  rw [outB_size g _ n h, startB_size g x m hx]
end Go.Proofs.YtgmifaadlaigdaaGreatDoor
