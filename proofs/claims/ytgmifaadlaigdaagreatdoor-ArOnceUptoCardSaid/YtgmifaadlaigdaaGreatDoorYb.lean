import Derived.Test.YtgmifaadlaigdaaGreatDoorYa
namespace Go.Proofs.YtgmifaadlaigdaaGreatDoor
open Go.ChangeShapes Go.WideShapes Go.ChangeAt Go.RowKit
set_option linter.unusedVariables false
theorem pad_sits (s : ByteArray) : Sits (padB s) s 0 := by
  unfold padB
  split
  · exact sits_l s _
  · exact sits_self s
theorem out_sits (g : Nat → Mem) (s0 : ByteArray) (k : Nat) : ∀ d, Sits (outB g s0 (k + d)) (outB g s0 k) 0
  | 0 => sits_self _
  | d + 1 => by
    have h : Sits (outB g s0 (k + d + 1)) (outB g s0 (k + d)) 0 := by
      rw [outB, ByteArray.append_assoc]
      exact ((sits_l (padB (outB g s0 (k + d))) _).trans (pad_sits _))
    exact (h.trans (out_sits g s0 k d))
theorem out_sits' (g : Nat → Mem) (s0 : ByteArray) {k n : Nat} (h : k ≤ n) : Sits (outB g s0 n) (outB g s0 k) 0 := by
  obtain ⟨d, rfl⟩ := Nat.exists_eq_add_of_le h
  exact out_sits g s0 k d
/-- a member stands where it should -/
theorem out_piece (g : Nat → Mem) (s0 : ByteArray) (n : Nat) (hsz : ∀ i, i < n → (g i).nm.size ≤ 15 ∧ (g i).n < 10000000000) (k : Nat) (hk : k < n) :
    (endN g s0.size k % 2 = 1 → bb (outB g s0 n) (endN g s0.size k) = 10) ∧ Sits (outB g s0 n) (headB ((g k).nm ++ ⟨#[47]⟩) (g k).n) (evn (endN g s0.size k)) ∧ Sits (outB g s0 n) (strN (g k).f (g k).n) (evn (endN g s0.size k) + 60) := by
  have hz := outB_size g s0 k (fun i hi => hsz i (by omega))
  obtain ⟨z1, z2⟩ := hsz k hk
  have hh : (headB ((g k).nm ++ ⟨#[47]⟩) (g k).n).size = 60 := headB_size _ _ (by rw [ByteArray.size_append, one_size]; omega) z2
  have h := out_sits' g s0 (show k + 1 ≤ n from hk)
  rw [outB] at h
  have hp := h.left.left
  refine ⟨fun ho => ?_, h.left.right (by rw [padB_size, hz, Nat.zero_add]), h.right (by rw [ByteArray.size_append, padB_size, hz, hh, Nat.zero_add])⟩
  have h1 : (outB g s0 k).size % 2 = 1 := by rw [hz]; exact ho
  unfold padB at hp
  rw [if_pos h1] at hp
  have h2 := (hp.right (b := endN g s0.size k) (by rw [hz, Nat.zero_add])).2 0 (by decide)
  rw [Nat.add_zero] at h2
  rw [h2]
  rfl
/-- the pieces end where the members do -/
theorem pos_at (g : Nat → Mem) (s0 : ByteArray) (n D : Nat) (hsz : ∀ i, i < n → (g i).nm.size ≤ 15 ∧ (g i).n < 10000000000) (h0 : posN (bb (outB g s0 n)) D = s0.size) : ∀ k, k ≤ n → posN (bb (outB g s0 n)) (k + D) = endN g s0.size k
  | 0, _ => by rw [Nat.zero_add, h0, endN]
  | k + 1, hk => by
    have ih := pos_at g s0 n D hsz h0 k (by omega)
    obtain ⟨_, hh, _⟩ := out_piece g s0 n hsz k (by omega)
    obtain ⟨z1, z2⟩ := hsz k (by omega)
    have hs := (head_tells _ _ _ _ (by rw [ByteArray.size_append, one_size]; omega) z2 hh).2.1
    have e : k + 1 + D = (k + D) + 1 := by omega
    rw [e, posN, ih, hs, endN]
theorem ok_at (g : Nat → Mem) (s0 : ByteArray) (n D : Nat) (hsz : ∀ i, i < n → (g i).nm.size ≤ 15 ∧ (g i).n < 10000000000) (h0 : posN (bb (outB g s0 n)) D = s0.size) (k : Nat) (hk : k < n) :
    posN (bb (outB g s0 n)) (k + D) < (outB g s0 n).size ∧ okP (bb (outB g s0 n)) (outB g s0 n).size (k + D) ∧ pcS (outB g s0 n) (k + D) = ⟨wideB ((g k).nm ++ ⟨#[47]⟩) 16, evn (endN g s0.size k), strN (g k).f (g k).n⟩ := by
  have hp := pos_at g s0 n D hsz h0 k (by omega)
  have hz := outB_size g s0 n hsz
  have hle := endN_le g s0.size (show k + 1 ≤ n from hk)
  rw [endN] at hle
  obtain ⟨hpad, hh, hb⟩ := out_piece g s0 n hsz k hk
  obtain ⟨z1, z2⟩ := hsz k hk
  obtain ⟨t0, t1, t2, t3, t4⟩ := head_tells _ _ _ _ (by rw [ByteArray.size_append, one_size]; omega) z2 hh
  have hat : atN (bb (outB g s0 n)) (k + D) = evn (endN g s0.size k) := by unfold atN; rw [hp]
  have hev : endN g s0.size k ≤ evn (endN g s0.size k) := by unfold evn; omega
  refine ⟨by rw [hp, hz]; omega, ?_, ?_⟩
  · unfold okP
    rw [hat, hp, t1]
    exact ⟨fun ho => ⟨hpad ho, by omega⟩, t0, ⟨rfl, t2, t3⟩, by rw [hz]; exact hle⟩
  · unfold pcS
    rw [hat, t1, t4]
    show Pc.mk _ _ _ = _
    rw [hb.ext (strN_size _ _)]
theorem places_sits (g : Nat → Mem) (x : Nat → Ix) (e0 k : Nat) : ∀ d, Sits (placesB g x e0 (k + d)) (placesB g x e0 k) 0
  | 0 => sits_self _
  | d + 1 => by
    have h : Sits (placesB g x e0 (k + d + 1)) (placesB g x e0 (k + d)) 0 := by rw [placesB]; exact sits_l _ _
    exact h.trans (places_sits g x e0 k d)
theorem names_sits (x : Nat → Ix) (k : Nat) : ∀ d, Sits (namesB x (k + d)) (namesB x k) 0
  | 0 => sits_self _
  | d + 1 => by
    have h : Sits (namesB x (k + d + 1)) (namesB x (k + d)) 0 := by rw [namesB, ByteArray.append_assoc]; exact sits_l _ _
    exact h.trans (names_sits x k d)
/-- the index, read -/
theorem index_tells (g : Nat → Mem) (x : Nat → Ix) (e0 n m : Nat) (hx : IxsOk x n m) (hm : m < 4294967296) (hpl : ∀ i, i < m → evn (endN g e0 (x i).m.toNat) < 4294967296) :
    bigN (bb (indexB g x e0 m)) 0 = m ∧ Cnt (bb (indexB g x e0 m)) (indexB g x e0 m).size ∧ (∀ i, i ≤ m → np (bb (indexB g x e0 m)) (indexB g x e0 m).size i = 4 + 4 * m + lgN x i) ∧
    (∀ i, i < m → bigN (bb (indexB g x e0 m)) (4 + 4 * i) = evn (endN g e0 (x i).m.toNat) ∧ zN (bb (indexB g x e0 m)) (indexB g x e0 m).size (4 + 4 * m + lgN x i) = 4 + 4 * m + lgN x i + (x i).nm.size ∧ 4 + 4 * m + lgN x i + (x i).nm.size < (indexB g x e0 m).size ∧
      (indexB g x e0 m).extract (4 + 4 * m + lgN x i) (4 + 4 * m + lgN x i + (x i).nm.size) = (x i).nm) := by
  have hz := indexB_size g x e0 m
  unfold ixS at hz
  have hall : Sits (indexB g x e0 m) (fourB m ++ placesB g x e0 m ++ namesB x m) 0 := sits_self _
  have h0 := big_four _ m 0 hall.left.left hm
  have hpls : Sits (indexB g x e0 m) (placesB g x e0 m) 4 := hall.left.right (by rw [fourB_size])
  have hnms : Sits (indexB g x e0 m) (namesB x m) (4 + 4 * m) := hall.right (by rw [ByteArray.size_append, fourB_size, placesB_size]; omega)
  have hcnt : Cnt (bb (indexB g x e0 m)) (indexB g x e0 m).size := ⟨by omega, by rw [h0]; omega⟩
  have hi : ∀ i, i < m → bigN (bb (indexB g x e0 m)) (4 + 4 * i) = evn (endN g e0 (x i).m.toNat) ∧ zN (bb (indexB g x e0 m)) (indexB g x e0 m).size (4 + 4 * m + lgN x i) = 4 + 4 * m + lgN x i + (x i).nm.size ∧ 4 + 4 * m + lgN x i + (x i).nm.size < (indexB g x e0 m).size ∧
      (indexB g x e0 m).extract (4 + 4 * m + lgN x i) (4 + 4 * m + lgN x i + (x i).nm.size) = (x i).nm := fun i hi => by
    obtain ⟨d, hd⟩ := Nat.exists_eq_add_of_le (show i + 1 ≤ m from hi)
    have s1 := places_sits g x e0 (i + 1) d
    have s2 := names_sits x (i + 1) d
    rw [← hd] at s1 s2
    rw [placesB] at s1
    rw [namesB] at s2
    have p1 := hpls.trans (s1.right (b := 4 * i) (by rw [placesB_size, Nat.zero_add]))
    have p2 := hnms.trans (s2.left.right (b := lgN x i) (by rw [namesB_size, Nat.zero_add]))
    have p3 := hnms.trans (s2.right (b := lgN x i + (x i).nm.size) (by rw [ByteArray.size_append, namesB_size, Nat.zero_add]))
    obtain ⟨x1, x2, x3, x4⟩ := hx i hi
    have hze : ∀ q, q < (x i).nm.size → bb (x i).nm q ≠ 0 := fun q hq e => by
      unfold zeB at x4
      exact of_decide_eq_false x4 ⟨q, hq, e⟩
    have hl1 : (⟨#[0]⟩ : ByteArray).size = 1 := rfl
    have hle := p3.1
    rw [hl1] at hle
    refine ⟨big_four _ _ _ p1 (hpl i hi), zN_eq (by omega) (by omega) (fun p q1 q2 => ?_) (fun _ => ?_), by omega, p2.ext rfl⟩
    · have h := p2.2 (p - (4 + 4 * m + lgN x i)) (by omega)
      have e : 4 + 4 * m + lgN x i + (p - (4 + 4 * m + lgN x i)) = p := by omega
      rw [e] at h
      rw [h]
      exact hze _ (by omega)
    · have h := p3.2 0 (by decide)
      have e : 4 + 4 * m + (lgN x i + (x i).nm.size) + 0 = 4 + 4 * m + lgN x i + (x i).nm.size := by omega
      rw [e] at h
      rw [h]
      rfl
  refine ⟨h0, hcnt, fun i hi2 => ?_, hi⟩
  induction i with
  | zero => rw [np, h0, lgN]; omega
  | succ i ih =>
    rw [np, ih (by omega), (hi i (by omega)).2.1, lgN]
    omega
/-- how many pieces stand ahead of the members -/
def hasI (m : Nat) : Nat := if m = 0 then 0 else 1
/-- the archive, read -/
theorem ar_good (g : Nat → Mem) (x : Nat → Ix) (n m : Nat) (hok : MemsOk g n ∧ IxsOk x n m) (hen : endN g (begN x m) n ≤ 65536) :
    ReadGood (arB g x n m) (n + hasI m) ∧ ix1 (arB g x n m) (n + hasI m) = hasI m ∧ cntR (arB g x n m) (n + hasI m) = m ∧
    (∀ i, i < n → nmS (pcS (arB g x n m) (i + hasI m)).nm = (g i).nm ∧ (pcS (arB g x n m) (i + hasI m)).body = strN (g i).f (g i).n) ∧
    (0 < m → ∀ i, i < m → (pcS (arB g x n m) 0).body.extract (np (bb (pcS (arB g x n m) 0).body) (pcS (arB g x n m) 0).body.size i) (zN (bb (pcS (arB g x n m) 0).body) (pcS (arB g x n m) 0).body.size (np (bb (pcS (arB g x n m) 0).body) (pcS (arB g x n m) 0).body.size i)) = (x i).nm ∧
      (pcS (arB g x n m) ((x i).m.toNat + 1)).at' = bigN (bb (pcS (arB g x n m) 0).body) (4 + 4 * i)) := by
  have hbe := endN_le g (begN x m) (Nat.zero_le n)
  rw [endN] at hbe
  have hsz : ∀ i, i < n → (g i).nm.size ≤ 15 ∧ (g i).n < 10000000000 := fun i hi => by
    have q1 := (hok.1 i hi).1
    unfold nmB at q1
    have q2 := endN_le g (begN x m) (show i + 1 ≤ n from hi)
    rw [endN] at q2
    exact ⟨(of_decide_eq_true q1).1.2, by omega⟩
  have hix : m ≠ 0 → ixS x m ≤ 65536 := fun h => by
    have hb2 : begN x m = 68 + ixS x m := by unfold begN; rw [if_neg h]
    omega
  have hs0 : (startB g x m).size = begN x m := by
    by_cases h : m = 0
    · unfold startB begN; rw [if_pos h, if_pos h]; rfl
    · exact startB_size g x m (by have := hix h; omega)
  have hN : (arB g x n m).size = endN g (begN x m) n := by unfold arB; rw [outB_size g _ n hsz, hs0]
  have h8 : Sits (arB g x n m) (startB g x m) 0 := out_sits' g (startB g x m) (Nat.zero_le n)
  have hmag : Sits (arB g x n m) magicB 0 := by
    unfold startB at h8
    split at h8
    · exact h8
    · exact h8.left.left
  have hm8 : strN (bb (arB g x n m)) 8 = magicB := by
    have := strN_bb magicB
    rw [← this]
    exact strN_congr (fun k hk => by have := hmag.2 k hk; rw [Nat.zero_add] at this; exact this)
  have h8le : 8 ≤ (arB g x n m).size := hmag.1
  -- where the members begin
  have hidx : m ≠ 0 → szF (bb (arB g x n m)) 8 = (ixS x m, true) ∧ bb (arB g x n m) (8 + 58) = 96 ∧ bb (arB g x n m) (8 + 59) = 10 ∧ (arB g x n m).extract 8 (8 + 16) = wideB ⟨#[47]⟩ 16 ∧ Sits (arB g x n m) (indexB g x (begN x m) m) 68 := fun h => by
    have hq := h8
    unfold startB at hq
    rw [if_neg h, indexB_size] at hq
    have hh := hq.left.right (b := 8) rfl
    have hlt : ixS x m < 10000000000 := by have := hix h; omega
    obtain ⟨_, t1, t2, t3, t4⟩ := head_tells _ _ _ _ (by decide) hlt hh
    exact ⟨t1, t2, t3, t4, hq.right (by rw [ByteArray.size_append, headB_size _ _ (by decide) hlt]; rfl)⟩
  have hpos : posN (bb (arB g x n m)) (hasI m) = (startB g x m).size := by
    rw [hs0]
    unfold hasI begN
    by_cases h : m = 0
    · rw [if_pos h, if_pos h]; rfl
    · rw [if_neg h, if_neg h, posN, posN]
      show 8 + 60 + (szF (bb (arB g x n m)) 8).1 = _
      rw [(hidx h).1]
  have hok2 := fun k hk => ok_at g (startB g x m) n (hasI m) hsz hpos k hk
  have hpn := pos_at g (startB g x m) n (hasI m) hsz hpos n (Nat.le_refl _)
  rw [hs0] at hok2 hpn
  have hp0 : m ≠ 0 → posN (bb (arB g x n m)) 0 < (arB g x n m).size ∧ okP (bb (arB g x n m)) (arB g x n m).size 0 ∧ pcS (arB g x n m) 0 = ⟨wideB ⟨#[47]⟩ 16, 8, indexB g x (begN x m) m⟩ := fun h => by
    obtain ⟨t1, t2, t3, t4, t5⟩ := hidx h
    have hle := t5.1
    rw [indexB_size] at hle
    have h4 : 4 ≤ ixS x m := by unfold ixS; omega
    have hpp : posN (bb (arB g x n m)) 0 = 8 := by rw [posN]
    have hat : atN (bb (arB g x n m)) 0 = 8 := by unfold atN; rw [hpp]; rfl
    refine ⟨by rw [hpp]; omega, ?_, ?_⟩
    · unfold okP
      rw [hat, hpp, t1]
      exact ⟨fun q => absurd q (by decide), by omega, ⟨rfl, t2, t3⟩, by show 8 + 60 + ixS x m ≤ _; omega⟩
    · unfold pcS
      rw [hat, t1, t4]
      show Pc.mk _ _ ((arB g x n m).extract 68 (68 + ixS x m)) = _
      rw [t5.ext (indexB_size g x (begN x m) m)]
  have hparts : Parts (bb (arB g x n m)) (arB g x n m).size (n + hasI m) true := by
    refine ⟨fun i hi => ?_, Or.inl ⟨rfl, ?_⟩⟩
    · unfold hasI at hi hok2
      by_cases h : m = 0
      · rw [if_pos h] at hi hok2
        exact ⟨(hok2 i hi).1, (hok2 i hi).2.1⟩
      · rw [if_neg h] at hi hok2
        by_cases h0 : i = 0
        · rw [h0]; exact ⟨(hp0 h).1, (hp0 h).2.1⟩
        · obtain ⟨k, rfl⟩ := Nat.exists_eq_add_of_le (show 1 ≤ i by omega)
          rw [Nat.add_comm 1 k] at hi ⊢
          exact ⟨(hok2 k (by omega)).1, (hok2 k (by omega)).2.1⟩
    · rw [hN]
      exact Nat.le_of_eq hpn.symm
  have hpc : ∀ i, i < n → nmS (pcS (arB g x n m) (i + hasI m)).nm = (g i).nm ∧ (pcS (arB g x n m) (i + hasI m)).body = strN (g i).f (g i).n ∧ gdS (pcS (arB g x n m) (i + hasI m)).nm ∧ trS (pcS (arB g x n m) (i + hasI m)).nm ≠ ⟨#[47]⟩ ∧ (pcS (arB g x n m) (i + hasI m)).at' = evn (endN g (begN x m) i) := fun i hi => by
    have e : pcS (arB g x n m) (i + hasI m) = _ := (hok2 i hi).2.2
    obtain ⟨w1, w2, w3⟩ := wide_nm (g i).nm (hok.1 i hi).1
    rw [e]
    exact ⟨w1, rfl, w2, w3, rfl⟩
  have hi1 : ix1 (arB g x n m) (n + hasI m) = hasI m := by
    unfold ix1
    by_cases h : m = 0
    · rw [if_neg (fun q => ?_)]
      · unfold hasI; rw [if_pos h]
      · obtain ⟨q1, q2⟩ := q
        have hz : hasI m = 0 := by unfold hasI; rw [if_pos h]
        rw [hz] at q1
        have := (hpc 0 (by omega)).2.2.2.1
        rw [hz] at this
        exact this q2
    · have hz : hasI m = 1 := by unfold hasI; rw [if_neg h]
      rw [if_pos ⟨by omega, by rw [(hp0 h).2.2]; exact wide_stroke⟩, hz]
  have hxt : m ≠ 0 → _ := fun h => index_tells g x (begN x m) n m hok.2 (by have := hix h; unfold ixS at this; omega) (fun i hi => by
    obtain ⟨x1, x2, _⟩ := hok.2 i hi
    have q := endN_le g (begN x m) (show (x i).m.toNat + 1 ≤ n by omega)
    rw [endN] at q
    omega)
  have hall : AllS (fun i => pcS (arB g x n m) (i + hasI m)) n := fun i hi => by
    refine ⟨(hpc i hi).2.2.1, fun k hk => ?_⟩
    show nmS (pcS (arB g x n m) (k + hasI m)).nm ≠ nmS (pcS (arB g x n m) (i + hasI m)).nm
    rw [(hpc i hi).1, (hpc k (by omega)).1]
    exact (hok.1 i hi).2 k hk
  have hbodies : m ≠ 0 → (pcS (arB g x n m) 0).body = indexB g x (begN x m) m := fun h => by rw [(hp0 h).2.2]
  have hplace : m ≠ 0 → ∀ i, i < m → (pcS (arB g x n m) ((x i).m.toNat + 1)).at' = bigN (bb (indexB g x (begN x m) m)) (4 + 4 * i) ∧ (x i).m.toNat < n := fun h i hi => by
    obtain ⟨x1, x2, _⟩ := hok.2 i hi
    have hlt : (x i).m.toNat < n := by omega
    have hz : hasI m = 1 := by unfold hasI; rw [if_neg h]
    have e := (hpc _ hlt).2.2.2.2
    rw [hz] at e
    exact ⟨by rw [e, ((hxt h).2.2.2 i hi).1], hlt⟩
  refine ⟨⟨by omega, h8le, hm8, hparts, ?_⟩, hi1, ?_, fun i hi => ⟨(hpc i hi).1, (hpc i hi).2.1⟩, fun h0 i hi => ?_⟩
  · unfold GoodR
    rw [hi1]
    have e : n + hasI m - hasI m = n := by omega
    rw [e]
    refine ⟨hall, fun h1 => ?_⟩
    have h : m ≠ 0 := fun q => by unfold hasI at h1; rw [if_pos q] at h1; cases h1
    rw [hbodies h, h1]
    obtain ⟨t1, t2, t3, t4⟩ := hxt h
    refine ⟨⟨t2, ?_⟩, ?_⟩
    · rw [t1]
      intro i hi
      obtain ⟨p1, p2⟩ := hplace h i hi
      rw [t3 i (by omega), (t4 i hi).2.1]
      obtain ⟨_, _, x3, _⟩ := hok.2 i hi
      have hnz : 0 < (x i).nm.size := by
        refine Nat.pos_of_ne_zero (fun q => x3 ?_)
        have := strN_bb (x i).nm
        rw [q] at this
        rw [← this]
        rfl
      exact ⟨⟨by omega, (t4 i hi).2.2.1⟩, (x i).m.toNat, by omega, p1⟩
    · rw [t1, t3 m (Nat.le_refl _), indexB_size]
      rfl
  · unfold cntR
    rw [hi1]
    by_cases h : m = 0
    · have hz : hasI m = 0 := by unfold hasI; rw [if_pos h]
      rw [hz, if_neg (by decide), h]
    · have hz : hasI m = 1 := by unfold hasI; rw [if_neg h]
      rw [hz, if_pos rfl, hbodies h, (hxt h).1]
  · have h : m ≠ 0 := by omega
    obtain ⟨t1, t2, t3, t4⟩ := hxt h
    rw [hbodies h, t3 i (by omega), (t4 i hi).2.1]
    exact ⟨(t4 i hi).2.2.2, (hplace h i hi).1⟩
end Go.Proofs.YtgmifaadlaigdaaGreatDoor
