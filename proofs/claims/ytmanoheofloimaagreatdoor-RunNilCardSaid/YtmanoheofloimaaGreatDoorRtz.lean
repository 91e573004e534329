import Derived.Test.YtmanoheofloimaaGreatDoorRsz
namespace Go.Proofs.YtmanoheofloimaaGreatDoor
open Go.ChangeShapes Go.WideShapes Go.ChangeAt Go.RowKit
set_option linter.unusedVariables false
set_option maxRecDepth 100000
theorem lit52 (A : Array Value) (h : A.size = 52) : A = #[A.getD 0 undef, A.getD 1 undef, A.getD 2 undef, A.getD 3 undef, A.getD 4 undef, A.getD 5 undef, A.getD 6 undef, A.getD 7 undef, A.getD 8 undef, A.getD 9 undef, A.getD 10 undef, A.getD 11 undef, A.getD 12 undef, A.getD 13 undef, A.getD 14 undef, A.getD 15 undef, A.getD 16 undef, A.getD 17 undef, A.getD 18 undef, A.getD 19 undef, A.getD 20 undef, A.getD 21 undef, A.getD 22 undef, A.getD 23 undef, A.getD 24 undef, A.getD 25 undef, A.getD 26 undef, A.getD 27 undef, A.getD 28 undef, A.getD 29 undef, A.getD 30 undef, A.getD 31 undef, A.getD 32 undef, A.getD 33 undef, A.getD 34 undef, A.getD 35 undef, A.getD 36 undef, A.getD 37 undef, A.getD 38 undef, A.getD 39 undef, A.getD 40 undef, A.getD 41 undef, A.getD 42 undef, A.getD 43 undef, A.getD 44 undef, A.getD 45 undef, A.getD 46 undef, A.getD 47 undef, A.getD 48 undef, A.getD 49 undef, A.getD 50 undef, A.getD 51 undef] := by
  obtain ⟨l⟩ := A
  replace h : l.length = 52 := h
  rcases l with _ | ⟨v0, l⟩
  · cases h
  replace h := Nat.succ.inj h
  rcases l with _ | ⟨v1, l⟩
  · cases h
  replace h := Nat.succ.inj h
  rcases l with _ | ⟨v2, l⟩
  · cases h
  replace h := Nat.succ.inj h
  rcases l with _ | ⟨v3, l⟩
  · cases h
  replace h := Nat.succ.inj h
  rcases l with _ | ⟨v4, l⟩
  · cases h
  replace h := Nat.succ.inj h
  rcases l with _ | ⟨v5, l⟩
  · cases h
  replace h := Nat.succ.inj h
  rcases l with _ | ⟨v6, l⟩
  · cases h
  replace h := Nat.succ.inj h
  rcases l with _ | ⟨v7, l⟩
  · cases h
  replace h := Nat.succ.inj h
  rcases l with _ | ⟨v8, l⟩
  · cases h
  replace h := Nat.succ.inj h
  rcases l with _ | ⟨v9, l⟩
  · cases h
  replace h := Nat.succ.inj h
  rcases l with _ | ⟨v10, l⟩
  · cases h
  replace h := Nat.succ.inj h
  rcases l with _ | ⟨v11, l⟩
  · cases h
  replace h := Nat.succ.inj h
  rcases l with _ | ⟨v12, l⟩
  · cases h
  replace h := Nat.succ.inj h
  rcases l with _ | ⟨v13, l⟩
  · cases h
  replace h := Nat.succ.inj h
  rcases l with _ | ⟨v14, l⟩
  · cases h
  replace h := Nat.succ.inj h
  rcases l with _ | ⟨v15, l⟩
  · cases h
  replace h := Nat.succ.inj h
  rcases l with _ | ⟨v16, l⟩
  · cases h
  replace h := Nat.succ.inj h
  rcases l with _ | ⟨v17, l⟩
  · cases h
  replace h := Nat.succ.inj h
  rcases l with _ | ⟨v18, l⟩
  · cases h
  replace h := Nat.succ.inj h
  rcases l with _ | ⟨v19, l⟩
  · cases h
  replace h := Nat.succ.inj h
  rcases l with _ | ⟨v20, l⟩
  · cases h
  replace h := Nat.succ.inj h
  rcases l with _ | ⟨v21, l⟩
  · cases h
  replace h := Nat.succ.inj h
  rcases l with _ | ⟨v22, l⟩
  · cases h
  replace h := Nat.succ.inj h
  rcases l with _ | ⟨v23, l⟩
  · cases h
  replace h := Nat.succ.inj h
  rcases l with _ | ⟨v24, l⟩
  · cases h
  replace h := Nat.succ.inj h
  rcases l with _ | ⟨v25, l⟩
  · cases h
  replace h := Nat.succ.inj h
  rcases l with _ | ⟨v26, l⟩
  · cases h
  replace h := Nat.succ.inj h
  rcases l with _ | ⟨v27, l⟩
  · cases h
  replace h := Nat.succ.inj h
  rcases l with _ | ⟨v28, l⟩
  · cases h
  replace h := Nat.succ.inj h
  rcases l with _ | ⟨v29, l⟩
  · cases h
  replace h := Nat.succ.inj h
  rcases l with _ | ⟨v30, l⟩
  · cases h
  replace h := Nat.succ.inj h
  rcases l with _ | ⟨v31, l⟩
  · cases h
  replace h := Nat.succ.inj h
  rcases l with _ | ⟨v32, l⟩
  · cases h
  replace h := Nat.succ.inj h
  rcases l with _ | ⟨v33, l⟩
  · cases h
  replace h := Nat.succ.inj h
  rcases l with _ | ⟨v34, l⟩
  · cases h
  replace h := Nat.succ.inj h
  rcases l with _ | ⟨v35, l⟩
  · cases h
  replace h := Nat.succ.inj h
  rcases l with _ | ⟨v36, l⟩
  · cases h
  replace h := Nat.succ.inj h
  rcases l with _ | ⟨v37, l⟩
  · cases h
  replace h := Nat.succ.inj h
  rcases l with _ | ⟨v38, l⟩
  · cases h
  replace h := Nat.succ.inj h
  rcases l with _ | ⟨v39, l⟩
  · cases h
  replace h := Nat.succ.inj h
  rcases l with _ | ⟨v40, l⟩
  · cases h
  replace h := Nat.succ.inj h
  rcases l with _ | ⟨v41, l⟩
  · cases h
  replace h := Nat.succ.inj h
  rcases l with _ | ⟨v42, l⟩
  · cases h
  replace h := Nat.succ.inj h
  rcases l with _ | ⟨v43, l⟩
  · cases h
  replace h := Nat.succ.inj h
  rcases l with _ | ⟨v44, l⟩
  · cases h
  replace h := Nat.succ.inj h
  rcases l with _ | ⟨v45, l⟩
  · cases h
  replace h := Nat.succ.inj h
  rcases l with _ | ⟨v46, l⟩
  · cases h
  replace h := Nat.succ.inj h
  rcases l with _ | ⟨v47, l⟩
  · cases h
  replace h := Nat.succ.inj h
  rcases l with _ | ⟨v48, l⟩
  · cases h
  replace h := Nat.succ.inj h
  rcases l with _ | ⟨v49, l⟩
  · cases h
  replace h := Nat.succ.inj h
  rcases l with _ | ⟨v50, l⟩
  · cases h
  replace h := Nat.succ.inj h
  rcases l with _ | ⟨v51, l⟩
  · cases h
  replace h := Nat.succ.inj h
  rcases l with _ | ⟨v, l⟩
  · rfl
  · cases h
theorem lit36 (A : Array Value) (h : A.size = 36) : A = #[A.getD 0 undef, A.getD 1 undef, A.getD 2 undef, A.getD 3 undef, A.getD 4 undef, A.getD 5 undef, A.getD 6 undef, A.getD 7 undef, A.getD 8 undef, A.getD 9 undef, A.getD 10 undef, A.getD 11 undef, A.getD 12 undef, A.getD 13 undef, A.getD 14 undef, A.getD 15 undef, A.getD 16 undef, A.getD 17 undef, A.getD 18 undef, A.getD 19 undef, A.getD 20 undef, A.getD 21 undef, A.getD 22 undef, A.getD 23 undef, A.getD 24 undef, A.getD 25 undef, A.getD 26 undef, A.getD 27 undef, A.getD 28 undef, A.getD 29 undef, A.getD 30 undef, A.getD 31 undef, A.getD 32 undef, A.getD 33 undef, A.getD 34 undef, A.getD 35 undef] := by
  obtain ⟨l⟩ := A
  replace h : l.length = 36 := h
  rcases l with _ | ⟨v0, l⟩
  · cases h
  replace h := Nat.succ.inj h
  rcases l with _ | ⟨v1, l⟩
  · cases h
  replace h := Nat.succ.inj h
  rcases l with _ | ⟨v2, l⟩
  · cases h
  replace h := Nat.succ.inj h
  rcases l with _ | ⟨v3, l⟩
  · cases h
  replace h := Nat.succ.inj h
  rcases l with _ | ⟨v4, l⟩
  · cases h
  replace h := Nat.succ.inj h
  rcases l with _ | ⟨v5, l⟩
  · cases h
  replace h := Nat.succ.inj h
  rcases l with _ | ⟨v6, l⟩
  · cases h
  replace h := Nat.succ.inj h
  rcases l with _ | ⟨v7, l⟩
  · cases h
  replace h := Nat.succ.inj h
  rcases l with _ | ⟨v8, l⟩
  · cases h
  replace h := Nat.succ.inj h
  rcases l with _ | ⟨v9, l⟩
  · cases h
  replace h := Nat.succ.inj h
  rcases l with _ | ⟨v10, l⟩
  · cases h
  replace h := Nat.succ.inj h
  rcases l with _ | ⟨v11, l⟩
  · cases h
  replace h := Nat.succ.inj h
  rcases l with _ | ⟨v12, l⟩
  · cases h
  replace h := Nat.succ.inj h
  rcases l with _ | ⟨v13, l⟩
  · cases h
  replace h := Nat.succ.inj h
  rcases l with _ | ⟨v14, l⟩
  · cases h
  replace h := Nat.succ.inj h
  rcases l with _ | ⟨v15, l⟩
  · cases h
  replace h := Nat.succ.inj h
  rcases l with _ | ⟨v16, l⟩
  · cases h
  replace h := Nat.succ.inj h
  rcases l with _ | ⟨v17, l⟩
  · cases h
  replace h := Nat.succ.inj h
  rcases l with _ | ⟨v18, l⟩
  · cases h
  replace h := Nat.succ.inj h
  rcases l with _ | ⟨v19, l⟩
  · cases h
  replace h := Nat.succ.inj h
  rcases l with _ | ⟨v20, l⟩
  · cases h
  replace h := Nat.succ.inj h
  rcases l with _ | ⟨v21, l⟩
  · cases h
  replace h := Nat.succ.inj h
  rcases l with _ | ⟨v22, l⟩
  · cases h
  replace h := Nat.succ.inj h
  rcases l with _ | ⟨v23, l⟩
  · cases h
  replace h := Nat.succ.inj h
  rcases l with _ | ⟨v24, l⟩
  · cases h
  replace h := Nat.succ.inj h
  rcases l with _ | ⟨v25, l⟩
  · cases h
  replace h := Nat.succ.inj h
  rcases l with _ | ⟨v26, l⟩
  · cases h
  replace h := Nat.succ.inj h
  rcases l with _ | ⟨v27, l⟩
  · cases h
  replace h := Nat.succ.inj h
  rcases l with _ | ⟨v28, l⟩
  · cases h
  replace h := Nat.succ.inj h
  rcases l with _ | ⟨v29, l⟩
  · cases h
  replace h := Nat.succ.inj h
  rcases l with _ | ⟨v30, l⟩
  · cases h
  replace h := Nat.succ.inj h
  rcases l with _ | ⟨v31, l⟩
  · cases h
  replace h := Nat.succ.inj h
  rcases l with _ | ⟨v32, l⟩
  · cases h
  replace h := Nat.succ.inj h
  rcases l with _ | ⟨v33, l⟩
  · cases h
  replace h := Nat.succ.inj h
  rcases l with _ | ⟨v34, l⟩
  · cases h
  replace h := Nat.succ.inj h
  rcases l with _ | ⟨v35, l⟩
  · cases h
  replace h := Nat.succ.inj h
  rcases l with _ | ⟨v, l⟩
  · rfl
  · cases h
end Go.Proofs.YtmanoheofloimaaGreatDoor
