import Derived.Test.YtgmifaadlaigdaaGreatDoorT
namespace Go.Proofs.YtgmifaadlaigdaaGreatDoor
open Go.ChangeShapes Go.WideShapes Go.ChangeAt Go.RowKit
set_option linter.unusedVariables false
theorem err_ne {s : ByteArray} {er : Nat} (h : ReadErr s er) : ((er : Int) != 0) = true ∧ (er = 3 ∨ er = 4 ∨ er = 5) := by
  have key : er = 3 ∨ er = 4 ∨ er = 5 := by
    rcases h with ⟨_, q⟩ | ⟨_, ⟨_, q⟩ | ⟨_, ⟨_, q⟩ | ⟨_, k, ⟨_, q⟩ | ⟨_, _, q⟩⟩⟩⟩
    · exact Or.inl q
    · exact Or.inr (Or.inl q)
    · exact Or.inr (Or.inr q)
    · unfold erP at q
      split at q
      · exact Or.inr (Or.inr q)
      · split at q
        · exact Or.inr (Or.inl q)
        · split at q
          · exact Or.inr (Or.inr q)
          · exact Or.inr (Or.inl q)
    · exact Or.inr (Or.inr q)
  refine ⟨?_, key⟩
  rcases key with rfl | rfl | rfl <;> rfl
theorem endN_small (g : Nat → Mem) (e0 : Nat) : ∀ k, (∀ i, i < k → (g i).n ≤ 65536) → endN g e0 k ≤ e0 + k * 65600
  | 0, _ => by rw [endN]; omega
  | k + 1, h => by
    have h1 := endN_small g e0 k (fun i hi => h i (by omega))
    have h2 := h k (by omega)
    rw [endN]
    unfold evn
    omega
/-- what is read may be put -/
theorem once_ok {s : ByteArray} {k : Nat} {g : Nat → Mem} {x : Nat → Ix} (hg : ReadGood s k) (hm : MemS (fun i => pcS s (i + ix1 s k)) (k - ix1 s k) g) (hx : ix1 s k = 1 → IxS (pcS s 0).body (fun i => (pcS s (i + 1)).at') (k - 1) (cntR s k) x) :
    (MemsOk g (k - ix1 s k) ∧ IxsOk x (k - ix1 s k) (cntR s k)) ∧ lgN x (cntR s k) ≤ 65536 ∧ cntR s k ≤ 65536 ∧ k - ix1 s k ≤ 65536 ∧ endN g (begN x (cntR s k)) (k - ix1 s k) ≤ 10000000000 := by
  obtain ⟨h6, h8, hmag, hparts, hall, hidx⟩ := hg
  have hk := parts_k h6 hparts
  have hsm := pcs_small h6 hparts
  have hmo : MemsOk g (k - ix1 s k) := fun i hi => by
    obtain ⟨q1, q2, q3, q4⟩ := hm i hi
    obtain ⟨a1, a2⟩ := hall i hi
    refine ⟨by rw [q1]; exact a1.2.2, fun j hj => ?_⟩
    rw [q1, (hm j (by omega)).1]
    exact a2 j hj
  have hbod : ∀ i, i < k - ix1 s k → (g i).n ≤ 65536 := fun i hi => by
    rw [(hm i hi).2.1]
    exact (hsm (i + ix1 s k) (by omega)).2.1
  have key : IxsOk x (k - ix1 s k) (cntR s k) ∧ lgN x (cntR s k) ≤ 65536 ∧ cntR s k ≤ 65536 := by
    by_cases h1 : ix1 s k = 1
    · have hxx := hx h1
      obtain ⟨⟨hc, hok⟩, hend⟩ := hidx h1
      have hk1 : 0 < k := by
        unfold ix1 at h1
        split at h1
        · rename_i h; exact h.1
        · cases h1
      have hcn : cntR s k = bigN (bb (pcS s 0).body) 0 := by unfold cntR; rw [if_pos h1]
      have ht := (hsm 0 hk1).2.1
      rw [hcn] at hxx ⊢
      rw [h1]
      generalize (pcS s 0).body = t at *
      have hnp : ∀ i, i ≤ bigN (bb t) 0 → np (bb t) t.size i = 4 + 4 * bigN (bb t) 0 + lgN x i := by
        intro i
        induction i with
        | zero => intro _; rw [np, lgN]; omega
        | succ i ih =>
          intro hi
          obtain ⟨⟨o1, o2⟩, _⟩ := hok i (by omega)
          have hz := (hxx i (by omega)).1
          have hz2 := congrArg ByteArray.size hz
          rw [ext_size _ _ _ (by omega)] at hz2
          have := ih (by omega)
          rw [np, lgN]
          omega
      have hl := np_le hc _ hok
      rw [hnp _ (Nat.le_refl _)] at hl
      refine ⟨fun i hi => ?_, by omega, by omega⟩
      obtain ⟨⟨o1, o2⟩, _⟩ := hok i hi
      obtain ⟨z1, z2, z3, z4⟩ := zN_spec (bb t) t.size (np (bb t) t.size i) (by omega)
      obtain ⟨e1, j, e2, e3, e4⟩ := hxx i hi
      have hz2 := congrArg ByteArray.size e1
      rw [ext_size _ _ _ (by omega)] at hz2
      refine ⟨by rw [e2]; omega, by rw [e2]; omega, fun q => ?_, ?_⟩
      · rw [q] at hz2
        have h0 : (⟨#[]⟩ : ByteArray).size = 0 := rfl
        omega
      · unfold zeB
        refine decide_eq_false ?_
        rintro ⟨q, q1, q2⟩
        rw [e1, bb_ext _ _ _ _ (by omega) (by omega)] at q2
        exact z3 _ (by omega) (by omega) q2
    · have hcn : cntR s k = 0 := by unfold cntR; rw [if_neg h1]
      rw [hcn]
      exact ⟨fun i hi => absurd hi (by omega), by rw [lgN]; omega, by omega⟩
  obtain ⟨k1, k2, k3⟩ := key
  refine ⟨⟨hmo, k1⟩, k2, k3, by omega, ?_⟩
  have h2 := endN_small g (begN x (cntR s k)) (k - ix1 s k) hbod
  have hb : begN x (cntR s k) ≤ 1000000 := by
    unfold begN
    split
    · omega
    · unfold ixS; omega
  have : (k - ix1 s k) * 65600 ≤ 65536 * 65600 := Nat.mul_le_mul_right _ (by omega)
  omega
end Go.Proofs.YtgmifaadlaigdaaGreatDoor
