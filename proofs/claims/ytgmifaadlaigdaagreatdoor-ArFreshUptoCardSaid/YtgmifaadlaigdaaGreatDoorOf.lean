import Derived.Test.YtgmifaadlaigdaaGreatDoorOe
namespace Go.Proofs.YtgmifaadlaigdaaGreatDoor
open Go.ChangeShapes Go.WideShapes Go.ChangeAt Go.RowKit
set_option linter.unusedVariables false
/-- where the heads stand: a row of numbers -/
def At (w : World) (A : Option Addr) (n : Nat) (f : Nat → Nat) : Prop := 0 < n → ∃ b, A = some ⟨b, 0, none⟩ ∧ b < w.heap.size ∧ ∀ k, k < n → w.cell? ⟨b, k, none⟩ = some (.int .i64 (f k : Int)) ∧ f k < 4294967296
def R23a (N : Nat) (w0 : World) (p : ByteArray) (g : Nat → Mem) (x : Nat → Ix) (e0 m : Nat) (v i : Value) (wr : World) : Prop := ∃ k : Nat, k ≤ m ∧ i = .int .i64 (k : Int) ∧ Bu N w0 wr (p ++ placesB g x e0 k)
def R23b (N : Nat) (w0 : World) (p : ByteArray) (x : Nat → Ix) (m : Nat) (v i : Value) (wr : World) : Prop := ∃ k : Nat, k ≤ m ∧ i = .int .i64 (k : Int) ∧ Bu N w0 wr (p ++ namesB x k)
theorem index_sum (t : ByteArray) (g : Nat → Mem) (x : Nat → Ix) (e0 m : Nat) : padB t ++ headB ⟨#[47]⟩ (ixS x m) ++ indexB g x e0 m = padB t ++ headB ⟨#[47]⟩ (ixS x m) ++ fourB m ++ placesB g x e0 m ++ namesB x m := by
  unfold indexB
  simp only [ba_assoc]
set_option maxRecDepth 100000 in
set_option maxHeartbeats 8000000 in
/-- index -/
theorem c23 {N : Nat} {w0 w : World} {t : ByteArray} (h : Bu N w0 w t) (A B : Option Addr) (n c m d : Nat) (g : Nat → Mem) (x : Nat → Ix) (e0 : Nat) (ht : t.size ≤ 65536) (hB : Is w0 B m x) (hA : At w0 A n (fun j => evn (endN g e0 j)))
    (hx : IxsOk x n m) (hz : ixS x m ≤ 65536) (hg : Gl w0) (hNw : N = w0.heap.size) :
    Calls Tryz.prog 23 #[.pointer (some ⟨N, 0, none⟩), .slice B m d, .slice A n c] w fun e w' => e = .returned (.tuple #[]) ∧ Bu N w0 w' (padB t ++ headB ⟨#[47]⟩ (ixS x m) ++ indexB g x e0 m) := by
  have HI := Lib.hid (index_sum t g x e0 m)
  have hlm : lgN x m ≤ 65536 ∧ m ≤ 65536 := by unfold ixS at hz; omega
  have HBW : Hid (∀ w' r, Bu N w0 w' r → Below w0.heap.size w0 w') := Lib.hid (fun w' r hu => by rw [← hNw]; exact hu.2)
  have HIS : Hid (∀ w' r, Bu N w0 w' r → Is w' B m x) := Lib.hid (fun w' r hu => hB.below (HBW.out _ _ hu))
  have K40 : Hid (∀ w' r, Bu N w0 w' r → Calls Tryz.prog 40 #[.slice B m d] w' fun e w'' => e = .returned (.int .i64 (ixS x m : Int)) ∧ Below w'.heap.size w' w'') := Lib.hid (fun w' r hu => c40 B m d x w' (HIS.out _ _ hu) (by omega))
  have K24 : Hid (∀ w', Bu N w0 w' t → Calls Tryz.prog 24 #[.pointer (some ⟨N, 0, none⟩), .string ⟨#[47]⟩, .int .i64 (ixS x m : Int)] w' fun e w'' => e = .returned (.tuple #[]) ∧ Bu N w0 w'' (padB t ++ headB ⟨#[47]⟩ (ixS x m))) := Lib.hid (fun w' hu => c24 hu ⟨#[47]⟩ (ixS x m) (by omega) (by decide) (by omega) hg hNw)
  have HP0 : Hid ((padB t ++ headB ⟨#[47]⟩ (ixS x m)).size ≤ t.size + 61) := Lib.hid (by rw [ByteArray.size_append, headB_size _ _ (by decide) (by omega), padB_size]; unfold evn; omega)
  have HU := Lib.hid h
  have HA := Lib.hid hA
  have HB := Lib.hid hB
  have HX := Lib.hid hx
  have HLG := Lib.hid (fun k (hk : k ≤ m) => lgN_le x hk)
  obtain ⟨hl, hm⟩ := hlm
  generalize ixS x m = is at *
  generalize padB t ++ headB ⟨#[47]⟩ is = p0 at *
  clear h hB hA hx hg hNw
  go_enter Tryz.func23, Tryz.ntmps23
  go_wp2_with fail
  refine (K40.out _ _ HU.out).mono ?_
  rintro _ w1 ⟨rfl, hb1⟩
  have HU1 := Lib.hid (bu_below HU.out hb1)
  clear hb1
  go_wp2_with fail
  refine (K24.out _ HU1.out).mono ?_
  rintro _ w2 ⟨rfl, hu2⟩
  have K43 := Lib.hid (c43 hu2 m (by have := HP0.out; omega) (by omega))
  clear hu2
  go_wp2_with fail
  refine K43.out.mono ?_
  rintro _ w3 ⟨rfl, hu3⟩
  have HU3 := Lib.hid hu3
  clear hu3
  have HP1 : Hid ((p0 ++ fourB m).size ≤ t.size + 65) := Lib.hid (by rw [ByteArray.size_append, fourB_size]; have := HP0.out; omega)
  generalize p0 ++ fourB m = p1 at *
  have HPL : Hid (∀ k, k ≤ m → (p1 ++ placesB g x e0 k).size ≤ 400000) := Lib.hid (fun k hk => by rw [ByteArray.size_append, placesB_size]; have := HP1.out; omega)
  have HST : Hid (∀ k, placesB g x e0 (k + 1) = placesB g x e0 k ++ fourB (evn (endN g e0 (x k).m.toNat))) := Lib.hid (fun _ => rfl)
  have H0 : Hid (p1 ++ placesB g x e0 0 = p1) := Lib.hid (ba_empty p1)
  go_wp2_with fail
  go_loopw [20] (fun i wr => R23a N w0 p1 g x e0 m i i wr) (fun i _ => m - (intOf i).toNat)
  case atStart => exact ⟨0, Nat.zero_le _, rfl, by rw [H0.out]; exact HU3.out⟩
  case round =>
    obtain ⟨k, hk, rfl, hu⟩ := hrel
    have HU4 := Lib.hid hu
    clear hu
    by_cases hlt : k < m
    · obtain ⟨b, o, rfl, hbl, hc⟩ := HIS.out _ _ HU4.out (by omega)
      obtain ⟨q0, q1, hs1, hs2, hs3⟩ := hc k hlt
      obtain ⟨x1, x2, x3, x4⟩ := HX.out k hlt
      obtain ⟨j, hj⟩ : ∃ j : Nat, (x k).m = (j : Int) := ⟨(x k).m.toNat, by omega⟩
      have HJ : Hid ((x k).m.toNat = j) := Lib.hid (by omega)
      have HLT := Lib.hid hlt
      rw [hj] at q1
      have hjn : j < n := by omega
      obtain ⟨ba, rfl, hbl2, hc2⟩ := HA.out (by omega)
      obtain ⟨q2, hq2⟩ := hc2 j hjn
      have HC2 := Lib.hid q2
      have HBL2 := Lib.hid hbl2
      have q3 : (wr.alloc (.cells #[.string (x k).nm, .int .i64 (j : Int)] 58)).cell? ⟨ba, j, none⟩ = some (.int .i64 (evn (endN g e0 j) : Int)) := by
        rw [← HC2.out]
        exact (HBW.out _ _ (bu_alloc HU4.out _)).cell (p := ⟨ba, j, none⟩) hbl2
      have HSK := Lib.hid (HST.out k)
      rw [HJ.out] at HSK
      have K5 := Lib.hid (c43 (bu_alloc HU4.out (.cells #[.string (x k).nm, .int .i64 (j : Int)] 58)) (evn (endN g e0 j)) (by have := HPL.out k hk; omega) hq2)
      clear x1 x2 x3 x4 hc hc2 hs1 hs2 hs3 q2 hbl2 hj
      generalize evn (endN g e0 j) = pl at *
      generalize (x k).nm = nm at *
      go_wp2_with fail
      refine K5.out.mono ?_
      rintro _ w5 ⟨rfl, hu5⟩
      rw [ba_assoc, ← HSK.out] at hu5
      have HU5 := Lib.hid hu5
      clear hu5
      go_wp2_with fail
      go_roundw
      case rel => exact ⟨k + 1, HLT.out, by go_num, HU5.out⟩
      case measure => simp [intOf]; have := HLT.out; omega
    · obtain rfl : k = m := by omega
      have H1 : Hid (p1 ++ placesB g x e0 k ++ namesB x 0 = p1 ++ placesB g x e0 k) := Lib.hid (ba_empty _)
      have HN : Hid (∀ j, namesB x (j + 1) = namesB x j ++ (x j).nm ++ ⟨#[0]⟩) := Lib.hid (fun _ => rfl)
      have HNS : Hid (∀ j, j ≤ k → (p1 ++ placesB g x e0 k ++ namesB x j).size ≤ 500000) := Lib.hid (fun j hj => by rw [ByteArray.size_append, namesB_size]; have := HPL.out k (Nat.le_refl _); have := HLG.out j hj; omega)
      have HNN : Hid (∀ j, j < k → (x j).nm.size ≤ 65536) := Lib.hid (fun j hj => by have := HLG.out (j + 1) hj; rw [lgN] at this; omega)
      generalize p1 ++ placesB g x e0 k = p2 at *
      go_wp2_with fail
      go_loopw [34] (fun i wr => R23b N w0 p2 x k i i wr) (fun i _ => k - (intOf i).toNat)
      case atStart => exact ⟨0, Nat.zero_le _, rfl, by rw [H1.out]; exact HU4.out⟩
      case round =>
        obtain ⟨j, hj, rfl, hu⟩ := hrel
        have HU6 := Lib.hid hu
        clear hu
        by_cases hlt2 : j < k
        · obtain ⟨b, o, rfl, hbl, hc⟩ := HIS.out _ _ HU6.out (by omega)
          obtain ⟨q0, q1, hs1, hs2, hs3⟩ := hc j hlt2
          have HLT := Lib.hid hlt2
          have HSJ := Lib.hid (HN.out j)
          have z1 := HNN.out j hlt2
          have K7 := Lib.hid (bw22 (bu_alloc HU6.out (.cells #[.string (x j).nm, .int .i64 (x j).m] 58)) (x j).nm (by have := HNS.out j hj; omega) (by omega))
          have K7' := Lib.hid (bw22 (bu_drew (bu_alloc HU6.out (.cells #[.string (x j).nm, .int .i64 (x j).m] 58))) (x j).nm (by have := HNS.out j hj; omega) (by omega))
          clear hc hs1
          generalize (x j).nm = nm at *
          generalize (x j).m = xm at *
          go_wp2_with fail
          go_region_law (go_simp; go_at_call 22; (first | (refine K7'.out.mono ?_) | (refine K7.out.mono ?_)); rintro _ w7 ⟨rfl, hu7⟩)
          all_goals
            have K8 := Lib.hid (bw44 hu7 0 (by rw [ByteArray.size_append]; have := HNS.out j hj; omega) (by decide))
            clear hu7
            go_wp2_with fail
            refine K8.out.mono ?_
            rintro _ w8 ⟨rfl, hu8⟩
            have HU8 : Hid (Bu N w0 w8 (p2 ++ namesB x (j + 1))) := Lib.hid (by rw [HSJ.out, ← ba_assoc, ← ba_assoc]; exact hu8)
            clear hu8
            go_wp2_with fail
            go_roundw
            case rel => exact ⟨j + 1, HLT.out, by go_num, HU8.out⟩
            case measure => simp [intOf]; have := HLT.out; omega
        · obtain rfl : j = k := by omega
          go_wp2_with fail
          go_end0
          exact ⟨rfl, by rw [HI.out]; exact HU6.out⟩
end Go.Proofs.YtgmifaadlaigdaaGreatDoor
