import Derived.Test.YtgmifaadlaigdaaGreatDoorQl
namespace Go.Proofs.YtgmifaadlaigdaaGreatDoor
open Go.ChangeShapes Go.WideShapes Go.ChangeAt Go.RowKit
set_option linter.unusedVariables false
set_option maxRecDepth 100000
theorem tens1 : tens 1 = ⟨#[49]⟩ := by rw [tens_lt (by decide)]; rfl
theorem tens10 : tens 10 = ⟨#[49, 48]⟩ := by rw [tens_ge (by decide), show 10 / 10 = 1 from rfl, tens1]; rfl
def bl (k : Nat) : List UInt8 := List.replicate k 32
/-- an archive of one member, with an index -/
def arL : List UInt8 := [33, 60, 97, 114, 99, 104, 62, 10] ++ ([47] ++ bl 15 ++ ([48] ++ bl 11) ++ ([48] ++ bl 5) ++ ([48] ++ bl 5) ++ ([48] ++ bl 7) ++ ([49, 48] ++ bl 8) ++ [96, 10]) ++ [0, 0, 0, 1, 0, 0, 0, 78, 102, 0] ++ ([97, 47] ++ bl 14 ++ ([48] ++ bl 11) ++ ([48] ++ bl 5) ++ ([48] ++ bl 5) ++ ([48] ++ bl 7) ++ ([49] ++ bl 9) ++ [96, 10]) ++ [7]
def ar0 : ByteArray := ⟨arL.toArray⟩
theorem ar0_size : ar0.size = 139 := by kernel_rfl
theorem head_a : headB ⟨#[47]⟩ 10 = ⟨([47] ++ bl 15 ++ ([48] ++ bl 11) ++ ([48] ++ bl 5) ++ ([48] ++ bl 5) ++ ([48] ++ bl 7) ++ ([49, 48] ++ bl 8) ++ [96, 10]).toArray⟩ := by
  unfold headB
  rw [tens10]
  rfl
theorem head_b : headB (⟨#[97]⟩ ++ ⟨#[47]⟩) 1 = ⟨([97, 47] ++ bl 14 ++ ([48] ++ bl 11) ++ ([48] ++ bl 5) ++ ([48] ++ bl 5) ++ ([48] ++ bl 7) ++ ([49] ++ bl 9) ++ [96, 10]).toArray⟩ := by
  unfold headB
  rw [tens1]
  rfl
/-- the member, wherever its byte stands, and the entry -/
def g0 (b : Nat) : Nat → Mem := fun _ => ⟨⟨#[97]⟩, some ⟨b, 0, none⟩, 1, 1, fun _ => 7⟩
def x0 : Nat → Ix := fun _ => ⟨⟨#[102]⟩, 0⟩
theorem index0 (b : Nat) : indexB (g0 b) x0 (begN x0 1) 1 = ⟨#[0, 0, 0, 1, 0, 0, 0, 78, 102, 0]⟩ := by kernel_rfl
theorem arB0 (b : Nat) : arB (g0 b) x0 1 1 = ar0 := by
  have h1 : startB (g0 b) x0 1 = magicB ++ headB ⟨#[47]⟩ 10 ++ ⟨#[0, 0, 0, 1, 0, 0, 0, 78, 102, 0]⟩ := by
    unfold startB
    rw [if_neg (by decide), index0]
    rfl
  have h2 : arB (g0 b) x0 1 1 = padB (startB (g0 b) x0 1) ++ headB (⟨#[97]⟩ ++ ⟨#[47]⟩) 1 ++ strN (fun _ => 7) 1 := rfl
  rw [h2, h1, head_a, head_b]
  exact ba_eq (by kernel_rfl)
theorem mems0 (b : Nat) : MemsOk (g0 b) 1 := fun i hi => by
  obtain rfl : i = 0 := by omega
  refine ⟨?_, fun k hk => absurd hk (by omega)⟩
  unfold nmB
  refine decide_eq_true ⟨(show (1 : Nat) ≤ 1 ∧ 1 ≤ 15 by decide), fun i hi => ?_⟩
  have : i = 0 := by have : (g0 b 0).nm.size = 1 := rfl; omega
  subst this
  rfl
theorem ixs0 : IxsOk x0 1 1 := fun i hi => by
  obtain rfl : i = 0 := by omega
  refine ⟨by decide, by decide, by decide, ?_⟩
  unfold zeB
  refine decide_eq_false (fun ⟨i, h1, h2⟩ => ?_)
  have : i = 0 := by have : (x0 0).nm.size = 1 := rfl; omega
  subst this
  exact absurd h2 (by decide)
theorem end0 (b : Nat) : endN (g0 b) (begN x0 1) 1 = 139 := by kernel_rfl
theorem sz8 : szF (bb ar0) 8 = (10, true) := by
  have t : trimN (fun j => bb ar0 (8 + 48 + j)) 10 = 2 := by kernel_rfl
  unfold szF
  rw [t, szV_yes ⟨⟨by decide, fun h => absurd h.2 (of_decide_eq_true (by kernel_rfl))⟩, fun i hi => by
    have : i = 0 ∨ i = 1 := by omega
    rcases this with rfl | rfl <;> exact of_decide_eq_true (by kernel_rfl)⟩, show decN (fun j => bb ar0 (8 + 48 + j)) 2 = 10 by kernel_rfl]
theorem sz78 : szF (bb ar0) 78 = (1, true) := by
  have t : trimN (fun j => bb ar0 (78 + 48 + j)) 10 = 1 := by kernel_rfl
  unfold szF
  rw [t, szV_yes ⟨⟨by decide, fun h => absurd h.2 (of_decide_eq_true (by kernel_rfl))⟩, fun i hi => by
    obtain rfl : i = 0 := by omega
    exact of_decide_eq_true (by kernel_rfl)⟩, show decN (fun j => bb ar0 (78 + 48 + j)) 1 = 1 by kernel_rfl]
theorem pos0 : posN (bb ar0) 0 = 8 := rfl
theorem pos1 : posN (bb ar0) 1 = 78 := by
  rw [posN, pos0]
  show evn 8 + 60 + (szF (bb ar0) 8).1 = 78
  rw [sz8]; rfl
theorem pos2 : posN (bb ar0) 2 = 139 := by
  rw [posN, pos1]
  show evn 78 + 60 + (szF (bb ar0) 78).1 = 139
  rw [sz78]; rfl
theorem at0 : atN (bb ar0) 0 = 8 := by unfold atN; rw [pos0]; rfl
theorem at1 : atN (bb ar0) 1 = 78 := by unfold atN; rw [pos1]; rfl
theorem parts0 : Parts (bb ar0) ar0.size 2 true := by
  refine ⟨fun i hi => ?_, Or.inl ⟨rfl, by rw [pos2]; exact of_decide_eq_true (by kernel_rfl)⟩⟩
  have : i = 0 ∨ i = 1 := by omega
  rcases this with rfl | rfl
  · refine ⟨by rw [pos0]; exact of_decide_eq_true (by kernel_rfl), ?_⟩
    unfold okP
    rw [pos0, at0, sz8]
    exact ⟨fun h => absurd h (by decide), of_decide_eq_true (by kernel_rfl), ⟨rfl, by kernel_rfl, by kernel_rfl⟩, of_decide_eq_true (by kernel_rfl)⟩
  · refine ⟨by rw [pos1]; exact of_decide_eq_true (by kernel_rfl), ?_⟩
    unfold okP
    rw [pos1, at1, sz78]
    exact ⟨fun h => absurd h (by decide), of_decide_eq_true (by kernel_rfl), ⟨rfl, by kernel_rfl, by kernel_rfl⟩, of_decide_eq_true (by kernel_rfl)⟩
theorem p0 : pcS ar0 0 = ⟨ar0.extract 8 24, 8, ar0.extract 68 78⟩ := by
  unfold pcS
  rw [at0, sz8]
  rfl
theorem p1 : pcS ar0 1 = ⟨ar0.extract 78 94, 78, ar0.extract 138 139⟩ := by
  unfold pcS
  rw [at1, sz78]
  rfl
theorem tr0 : trS (pcS ar0 0).nm = ⟨#[47]⟩ := by
  rw [p0]
  show trS (ar0.extract 8 24) = _
  kernel_rfl
theorem ix0 : ix1 ar0 2 = 1 := by unfold ix1; rw [if_pos ⟨by decide, tr0⟩]
theorem idx0 : IdxGood (pcS ar0 0).body (fun i => (pcS ar0 (i + 1)).at') 1 := by
  rw [p0]
  show IdxGood (ar0.extract 68 78) _ 1
  have e : ar0.extract 68 78 = ⟨#[0, 0, 0, 1, 0, 0, 0, 78, 102, 0]⟩ := by kernel_rfl
  rw [e]
  refine ⟨⟨⟨of_decide_eq_true (by kernel_rfl), of_decide_eq_true (by kernel_rfl)⟩, fun i hi => ?_⟩, by kernel_rfl⟩
  have hc : bigN (bb ⟨#[0, 0, 0, 1, 0, 0, 0, 78, 102, 0]⟩) 0 = 1 := by kernel_rfl
  rw [hc] at hi
  have : i = 0 := by omega
  subst this
  refine ⟨⟨of_decide_eq_true (by kernel_rfl), of_decide_eq_true (by kernel_rfl)⟩, 0, by decide, ?_⟩
  show (pcS ar0 1).at' = _
  rw [p1]
  kernel_rfl
theorem good0 : GoodR ar0 2 := by
  unfold GoodR
  rw [ix0]
  refine ⟨fun i hi => ?_, fun _ => idx0⟩
  obtain rfl : i = 0 := by omega
  refine ⟨?_, fun k hk => absurd hk (by omega)⟩
  show gdS (pcS ar0 1).nm
  rw [p1]
  show gdS (ar0.extract 78 94)
  refine ⟨of_decide_eq_true (by kernel_rfl), by kernel_rfl, ?_⟩
  have e : strN (bb (ar0.extract 78 94)) (trimN (bb (ar0.extract 78 94)) (ar0.extract 78 94).size - 1) = ⟨#[97]⟩ := by kernel_rfl
  rw [e]
  exact (mems0 0 0 (by decide)).1
theorem rgood0 : ReadGood ar0 2 := ⟨of_decide_eq_true (by kernel_rfl), of_decide_eq_true (by kernel_rfl), by kernel_rfl, parts0, good0⟩
theorem cnt0 : cntR ar0 2 = 1 := by
  unfold cntR
  rw [if_pos ix0, p0]
  kernel_rfl
theorem nm0 : nmS (pcS ar0 1).nm = ⟨#[97]⟩ := by rw [p1]; kernel_rfl
theorem body0 : (pcS ar0 1).body = ⟨#[7]⟩ := by rw [p1]; kernel_rfl
end Go.Proofs.YtgmifaadlaigdaaGreatDoor
