import Derived.Test.YtbclgkjljgcfbaaA
namespace Go.Proofs.Ytbclgkjljgcfbaa
open Go.ChangeShapes Go.WideShapes Go.ChangeAt Go.RowKit
open Cp (Blk cp bs ln ex ex_err rootV set7 set7a bcell cellAlloc)
set_option linter.unusedVariables false
set_option maxHeartbeats 4000000 in
theorem c8 (k : Nat) (o : Int) (a n m d : Nat) (ha : a < 4294967296) (hn : n < 4294967296) (hm : m < 256) (hd : d < 4294967296) (w : World) :
    Calls Try.prog 8 #[rg k o a n, .int .u8 (m : Int), .int .u32 (d : Int)] w fun en w' => en = .returned (cpV a n m d) ∧ Below w.heap.size w w' := by
  have k1 := Cp.c33 a (a + n) m (by omega) (by omega) hm
  have e1 := u64id a (by omega)
  have e2 := u64id n (by omega)
  unfold rootV at k1
  unfold cpV
  obtain ⟨t, ht⟩ : ∃ t : Nat, t = a + n := ⟨_, rfl⟩
  have e3 : (a : Int) + (n : Int) = (t : Int) := by omega
  have e4 : t < 8589934592 := by omega
  rw [← ht] at k1 ⊢
  clear ht
  rcases ex_err a t with ⟨h0, h1, h2, h3, h4, h5⟩ | ⟨h1, h2, h3, h4⟩
  · rw [if_pos h0]
    simp only [h0, if_true] at k1
    generalize (ex a t).1 = E at *
    generalize (ex a t).2.1 = B at *
    generalize (ex a t).2.2.1 = T at *
    have k3 := Cp.c19r true a m 0 E B T d ha (by omega) (by omega) (by omega) (by omega) hd
    have K1 := Lib.hid k1
    clear k1 h0
    by_cases hk : bs (E % 16) (B % 512) a = bs (E % 16) (B % 512) d
    · rw [if_pos hk]
      rw [decide_eq_true hk] at k3
      have k3' : ∀ w, Calls Try.prog 22 #[cp true a m 0 E B T, .int .u32 (d : Int)] w fun en w' => en = .returned (cp true d m 0 E B T) ∧ Below w.heap.size w w' := k3
      have K3 := Lib.hid k3'
      clear k3 k3' hk
      go_enter Try.func8, Try.ntmps8
      go_wp2_with fail
      refine (K1.out _).mono ?_
      rintro en w1 ⟨rfl, hb1⟩
      have hB1 : Below w.heap.size w w1 := (((Below.refl _ _).alloc (Nat.le_refl _) _).alloc (by simp) _).trans (hb1.mono (by simp; omega))
      have hz1 : w.heap.size + 1 < w1.heap.size := by have := hb1.size; simp at this; omega
      go_wp2_with fail
      refine (K3.out _).mono ?_
      rintro en w4 ⟨rfl, hb4⟩
      have hz4 : w1.heap.size < w4.heap.size := by have := hb4.size; simp at this; omega
      have hB4 : Below w.heap.size w w4 := (hB1.alloc (by omega) _).trans (hb4.mono (by simp; omega))
      have HC : Blk w4 w1.heap.size 34 #[.bool true, .int .u32 (a : Int), .int .u8 (m : Int), .int .u8 0, .int .u8 (E : Int), .int .u16 (B : Int), .int .u16 (T : Int)] := (Blk.new w1 34 _).below hb4 (by simp)
      have HZ : Blk w4 (w.heap.size + 1) 34 #[.bool false, .int .u32 0, .int .u8 0, .int .u8 0, .int .u8 0, .int .u16 0, .int .u16 0] :=
        (((new2 w _ 34 _).below hb1 (by simp)).alloc _).below hb4 (by simp; omega)
      obtain ⟨x0, x1, x2, x3, x4, x5, x6⟩ := HC.cells7
      obtain ⟨v0, v1, v2, v3, v4, v5, v6⟩ := HC.frozen7
      obtain ⟨z0, z1, z2, z3, z4, z5, z6⟩ := HZ.cells7
      obtain ⟨y0, y1, y2, y3, y4, y5, y6⟩ := HZ.frozen7
      have hne : ¬ w1.heap.size = w.heap.size + 1 := by omega
      have hne' : ¬ w.heap.size + 1 = w1.heap.size := by omega
      go_wp2_with fail
      exact bodyPost_ret (v := .tuple #[cp true d m 0 E B T, .int .i64 0]) (by simp [results, Try.results8, go_sem, z0, z1, z2, z3, z4, z5, z6]) rfl ⟨rfl, set7 (set7 hB4 (by omega) _ _ _ _ _ _ _) (by omega) _ _ _ _ _ _ _⟩
    · rw [if_neg hk]
      rw [decide_eq_false hk] at k3
      have k3' : ∀ w, Calls Try.prog 22 #[cp true a m 0 E B T, .int .u32 (d : Int)] w fun en w' => en = .returned (cp false d m 0 E B T) ∧ Below w.heap.size w w' := k3
      have K3 := Lib.hid k3'
      clear k3 k3' hk
      go_enter Try.func8, Try.ntmps8
      go_wp2_with fail
      refine (K1.out _).mono ?_
      rintro en w1 ⟨rfl, hb1⟩
      have hB1 : Below w.heap.size w w1 := (((Below.refl _ _).alloc (Nat.le_refl _) _).alloc (by simp) _).trans (hb1.mono (by simp; omega))
      have hz1 : w.heap.size + 1 < w1.heap.size := by have := hb1.size; simp at this; omega
      go_wp2_with fail
      refine (K3.out _).mono ?_
      rintro en w4 ⟨rfl, hb4⟩
      have hz4 : w1.heap.size < w4.heap.size := by have := hb4.size; simp at this; omega
      have hB4 : Below w.heap.size w w4 := (hB1.alloc (by omega) _).trans (hb4.mono (by simp; omega))
      have HC : Blk w4 w1.heap.size 34 #[.bool true, .int .u32 (a : Int), .int .u8 (m : Int), .int .u8 0, .int .u8 (E : Int), .int .u16 (B : Int), .int .u16 (T : Int)] := (Blk.new w1 34 _).below hb4 (by simp)
      have HZ : Blk w4 (w.heap.size + 1) 34 #[.bool false, .int .u32 0, .int .u8 0, .int .u8 0, .int .u8 0, .int .u16 0, .int .u16 0] :=
        (((new2 w _ 34 _).below hb1 (by simp)).alloc _).below hb4 (by simp; omega)
      obtain ⟨x0, x1, x2, x3, x4, x5, x6⟩ := HC.cells7
      obtain ⟨v0, v1, v2, v3, v4, v5, v6⟩ := HC.frozen7
      obtain ⟨z0, z1, z2, z3, z4, z5, z6⟩ := HZ.cells7
      obtain ⟨y0, y1, y2, y3, y4, y5, y6⟩ := HZ.frozen7
      have hne : ¬ w1.heap.size = w.heap.size + 1 := by omega
      have hne' : ¬ w.heap.size + 1 = w1.heap.size := by omega
      go_wp2_with fail
      exact bodyPost_ret (v := .tuple #[cp false 0 0 0 0 0 0, .int .i64 2]) (by simp [results, Try.results8, go_sem, z0, z1, z2, z3, z4, z5, z6]) rfl ⟨rfl, set7 (set7 hB4 (by omega) _ _ _ _ _ _ _) (by omega) _ _ _ _ _ _ _⟩
  · have h5 : (ex a t).2.2.2 ≠ 0 := by omega
    rw [if_neg h5]
    simp only [if_neg h5] at k1
    generalize (ex a t).2.2.2 = R at *
    have h6 : ((R : Int) != 0) = true := by simp; omega
    have K1 := Lib.hid k1
    clear k1 h1 h2 h3
    go_enter Try.func8, Try.ntmps8
    go_wp2_with fail
    refine (K1.out _).mono ?_
    rintro en w1 ⟨rfl, hb1⟩
    have hB1 : Below w.heap.size w w1 := (((Below.refl _ _).alloc (Nat.le_refl _) _).alloc (by simp) _).trans (hb1.mono (by simp; omega))
    have hz1 : w.heap.size + 1 < w1.heap.size := by have := hb1.size; simp at this; omega
    have HZ : Blk w1 (w.heap.size + 1) 34 #[.bool false, .int .u32 0, .int .u8 0, .int .u8 0, .int .u8 0, .int .u16 0, .int .u16 0] := (new2 w _ 34 _).below hb1 (by simp)
    obtain ⟨z0, z1, z2, z3, z4, z5, z6⟩ := HZ.cells7
    obtain ⟨y0, y1, y2, y3, y4, y5, y6⟩ := HZ.frozen7
    go_wp2_with fail
    exact bodyPost_ret (v := .tuple #[cp false 0 0 0 0 0 0, .int .i64 5]) (by simp [results, Try.results8, go_sem, cellAlloc, hz1, z0, z1, z2, z3, z4, z5, z6]) rfl ⟨rfl, set7a hB1 (by omega) _ _ _ _ _ _ _ _⟩
theorem cpV_self (a n m : Nat) : cpV a n m a = rtV a n m := by unfold cpV rtV; rw [if_pos rfl]
/-- a result of a capability and an error number, as a value -/
theorem rtV_form (a n m : Nat) (ha : a < 4294967296) (hm : m < 256) : ∃ (g : Bool) (a' p e b t r : Nat), rtV a n m = .tuple #[cp g a' p 0 e b t, .int .i64 (r : Int)] ∧ a' < 4294967296 ∧ p < 256 ∧ e < 256 ∧ b < 65536 ∧ t < 65536 := by
  unfold rtV
  rcases ex_err a (a + n) with ⟨h0, h1, h2, h3, h4, h5⟩ | ⟨h1, h2, h3, h4⟩
  · rw [if_pos h0]; exact ⟨_, _, _, _, _, _, 0, rfl, ha, hm, by omega, by omega, by omega⟩
  · rw [if_neg (by omega)]; exact ⟨_, _, _, _, _, _, 5, rfl, by omega, by omega, by omega, by omega, by omega⟩
set_option maxHeartbeats 4000000 in
theorem c9 (s : ByteArray) (a n : Nat) (ha : a < 4294967296) (hn : n < 4294967296) (w : World) :
    Calls Try.prog 9 #[.agg #[.string s, .int .u32 (a : Int), .int .u32 (n : Int)]] w fun en w' => en = .returned (rtV a n 19) ∧ Below w.heap.size w w' := by
  have k0 := c23s s a n ha hn
  have k1' := c17 a n 19 ha hn (by omega)
  have k1 : ∀ w, Calls Try.prog 17 #[sp a n, .int .u8 19] w fun en w' => en = .returned (rtV a n 19) ∧ Below w.heap.size w w' := k1'
  clear k1'
  obtain ⟨g, a', p, e, b, t, r, hv, -⟩ := rtV_form a n 19 ha (by omega)
  rw [hv] at k1 ⊢
  clear hv
  have K0 := Lib.hid k0
  have K1 := Lib.hid k1
  clear k0 k1
  go_enter Try.func9, Try.ntmps9
  go_wp2_with fail
  refine (K0.out _).mono ?_
  rintro en w1 ⟨rfl, hb1⟩
  have hB1 : Below w.heap.size w w1 := (((Below.refl _ _).alloc (Nat.le_refl _) _).alloc (by simp) _).trans (hb1.mono (by simp; omega))
  have hz1 : w.heap.size + 1 < w1.heap.size := by have := hb1.size; simp at this; omega
  go_wp2_with fail
  refine (K1.out _).mono ?_
  rintro en w4 ⟨rfl, hb4⟩
  have hz4 : w1.heap.size ≤ w4.heap.size := hb4.size
  have hB4 : Below w.heap.size w w4 := hB1.trans (hb4.mono (by omega))
  have HZ : Blk w4 (w.heap.size + 1) 34 #[.bool false, .int .u32 0, .int .u8 0, .int .u8 0, .int .u8 0, .int .u16 0, .int .u16 0] := ((new2 w _ 34 _).below hb1 (by simp)).below hb4 (by omega)
  obtain ⟨z0, z1, z2, z3, z4, z5, z6⟩ := HZ.cells7
  obtain ⟨y0, y1, y2, y3, y4, y5, y6⟩ := HZ.frozen7
  go_wp2_with fail
  exact bodyPost_ret (v := .tuple #[cp g a' p 0 e b t, .int .i64 (r : Int)]) (by simp [results, Try.results9, go_sem, z0, z1, z2, z3, z4, z5, z6]) rfl ⟨rfl, set7 hB4 (by omega) _ _ _ _ _ _ _⟩
set_option maxHeartbeats 4000000 in
theorem c10 (s : ByteArray) (a n : Nat) (ha : a < 4294967296) (hn : n < 4294967296) (w : World) :
    Calls Try.prog 10 #[.agg #[.string s, .int .u32 (a : Int), .int .u32 (n : Int)]] w fun en w' => en = .returned (rtV a n 19) ∧ Below w.heap.size w w' := by
  have k1' := c8 0 0 a n 19 a ha hn (by omega) ha
  rw [cpV_self] at k1'
  have k1 : ∀ w, Calls Try.prog 8 #[.agg #[.int .u8 0, .int .i64 0, .int .u32 (a : Int), .int .u32 (n : Int)], .int .u8 19, .int .u32 (a : Int)] w fun en w' => en = .returned (rtV a n 19) ∧ Below w.heap.size w w' := k1'
  clear k1'
  obtain ⟨g, a', p, e, b, t, r, hv, -⟩ := rtV_form a n 19 ha (by omega)
  rw [hv] at k1 ⊢
  clear hv
  have K1 := Lib.hid k1
  clear k1
  go_enter Try.func10, Try.ntmps10
  go_wp2_with fail
  refine (K1.out _).mono ?_
  rintro en w4 ⟨rfl, hb4⟩
  have hB4 : Below w.heap.size w w4 := (((Below.refl _ _).alloc (Nat.le_refl _) _).alloc (by simp) _).trans (hb4.mono (by simp; omega))
  have HZ : Blk w4 (w.heap.size + 1) 34 #[.bool false, .int .u32 0, .int .u8 0, .int .u8 0, .int .u8 0, .int .u16 0, .int .u16 0] := (new2 w _ 34 _).below hb4 (by simp)
  obtain ⟨z0, z1, z2, z3, z4, z5, z6⟩ := HZ.cells7
  obtain ⟨y0, y1, y2, y3, y4, y5, y6⟩ := HZ.frozen7
  go_wp2_with fail
  exact bodyPost_ret (v := .tuple #[cp g a' p 0 e b t, .int .i64 (r : Int)]) (by simp [results, Try.results10, go_sem, z0, z1, z2, z3, z4, z5, z6]) rfl ⟨rfl, set7 hB4 (by omega) _ _ _ _ _ _ _⟩
end Go.Proofs.Ytbclgkjljgcfbaa
