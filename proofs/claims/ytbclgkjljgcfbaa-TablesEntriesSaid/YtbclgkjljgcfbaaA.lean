import Derived.Test.YtbclgkjljgcfbaaKV
import Derived.Test.YtbclgkjljgcfbaaKX
import Derived.Test.YtbclgkjljgcfbaaKS9
namespace Go.Proofs.Ytbclgkjljgcfbaa
open Go.ChangeShapes Go.WideShapes Go.ChangeAt Go.RowKit
open Cp (Blk cp bs ln ex ex_err rootV set7 set7a bcell cellAlloc)
set_option linter.unusedVariables false
abbrev rg (k : Nat) (o : Int) (a n : Nat) : Value := .agg #[.int .u8 (k : Int), .int .i64 o, .int .u32 (a : Int), .int .u32 (n : Int)]
abbrev sp (a n : Nat) : Value := .agg #[.int .u64 (a : Int), .int .u64 (n : Int)]
theorem u64id (a : Nat) (ha : a < 18446744073709551616) : IntKind.u64.wrap (a : Int) = (a : Int) := by rw [IntKind.wrap_u64]; omega
theorem set2 {w w1 : World} {k : Nat} (h : Below w.heap.size w w1) (hk : w.heap.size ≤ k) (v0 v1 : Value) :
    Below w.heap.size w ((w1.setCell ⟨k, 0, none⟩ v0).setCell ⟨k, 1, none⟩ v1) := (h.setCell (p := ⟨k, 0, none⟩) hk _).setCell (p := ⟨k, 1, none⟩) hk _
theorem c18s (k : Nat) (o : Int) (a n : Nat) (ha : a < 4294967296) (hn : n < 4294967296) (w : World) :
    Calls Try.prog 18 #[rg k o a n] w fun en w' => en = .returned (sp a n) ∧ Below w.heap.size w w' := by
  have e1 := u64id a (by omega)
  have e2 := u64id n (by omega)
  go_enter Try.func18, Try.ntmps18
  go_wp2
  exact bodyPost_ret (v := sp a n) (by simp [results, Try.results18, go_sem]) rfl ⟨rfl, ((Below.refl _ _).alloc (Nat.le_refl _) _).alloc (by simp) _⟩
theorem c23s (s : ByteArray) (a n : Nat) (ha : a < 4294967296) (hn : n < 4294967296) (w : World) :
    Calls Try.prog 23 #[.agg #[.string s, .int .u32 (a : Int), .int .u32 (n : Int)]] w fun en w' => en = .returned (sp a n) ∧ Below w.heap.size w w' := by
  have e1 := u64id a (by omega)
  have e2 := u64id n (by omega)
  go_enter Try.func23, Try.ntmps23
  go_wp2
  exact bodyPost_ret (v := sp a n) (by simp [results, Try.results23, go_sem]) rfl ⟨rfl, ((Below.refl _ _).alloc (Nat.le_refl _) _).alloc (by simp) _⟩
/-- a span's capability, or ErrForm -/
def rtV (a n m : Nat) : Value := if (ex a (a + n)).2.2.2 = 0 then .tuple #[cp true a m 0 (ex a (a + n)).1 (ex a (a + n)).2.1 (ex a (a + n)).2.2.1, .int .i64 0] else .tuple #[cp false 0 0 0 0 0 0, .int .i64 5]
set_option maxHeartbeats 2000000 in
theorem c17 (a n m : Nat) (ha : a < 4294967296) (hn : n < 4294967296) (hm : m < 256) (w : World) :
    Calls Try.prog 17 #[sp a n, .int .u8 (m : Int)] w fun en w' => en = .returned (rtV a n m) ∧ Below w.heap.size w w' := by
  have k1 := Cp.c32 a (a + n) m (by omega) (by omega) hm
  unfold rootV at k1
  unfold rtV
  obtain ⟨t, ht⟩ : ∃ t : Nat, t = a + n := ⟨_, rfl⟩
  have e1 : (a : Int) + (n : Int) = (t : Int) := by omega
  have e2 : t < 8589934592 := by omega
  rw [← ht] at k1 ⊢
  clear ht
  rcases ex_err a t with ⟨h0, h1, h2, h3, h4, h5⟩ | ⟨h1, h2, h3, h4⟩
  · rw [if_pos h0]
    simp only [h0, if_true] at k1
    generalize (ex a t).1 = E at *
    generalize (ex a t).2.1 = B at *
    generalize (ex a t).2.2.1 = T at *
    have K1 := Lib.hid k1
    clear k1 h0
    go_enter Try.func17, Try.ntmps17
    go_wp2_with fail
    refine (K1.out _).mono ?_
    rintro en w1 ⟨rfl, hb1⟩
    obtain ⟨hc, hf⟩ := bcell hb1
    have hz : w.heap.size + 1 < w1.heap.size := by have := hb1.size; simp at this; omega
    have hB : Below w.heap.size w w1 := (((Below.refl _ _).alloc (Nat.le_refl _) _).alloc (by simp) _).trans (hb1.mono (by simp; omega))
    clear hb1
    go_wp2_with fail
    exact bodyPost_ret (v := .tuple #[cp true a m 0 E B T, .int .i64 0]) (by simp [results, Try.results17, go_sem, cellAlloc, hz, hc]) rfl ⟨rfl, set7a hB (by omega) _ _ _ _ _ _ _ _⟩
  · have h5 : (ex a t).2.2.2 ≠ 0 := by omega
    rw [if_neg h5]
    simp only [if_neg h5] at k1
    generalize (ex a t).2.2.2 = R at *
    have h6 : ((R : Int) != 0) = true := by simp; omega
    have K1 := Lib.hid k1
    clear k1 h1 h2 h3
    go_enter Try.func17, Try.ntmps17
    go_wp2_with fail
    refine (K1.out _).mono ?_
    rintro en w1 ⟨rfl, hb1⟩
    obtain ⟨hc, hf⟩ := bcell hb1
    have hz : w.heap.size + 1 < w1.heap.size := by have := hb1.size; simp at this; omega
    have hB : Below w.heap.size w w1 := (((Below.refl _ _).alloc (Nat.le_refl _) _).alloc (by simp) _).trans (hb1.mono (by simp; omega))
    clear hb1
    go_wp2_with fail
    exact bodyPost_ret (v := .tuple #[cp false 0 0 0 0 0 0, .int .i64 5]) (by simp [results, Try.results17, go_sem, cellAlloc, hz, hc]) rfl ⟨rfl, set7a hB (by omega) _ _ _ _ _ _ _ _⟩

theorem new2 (w : World) (o : Obj) (t : TypeId) (cs : Array Value) : Blk ((w.alloc o).alloc (.cells cs t)) (w.heap.size + 1) t cs := by
  have := Blk.new (w.alloc o) t cs
  simpa using this
/-- a region's capability at an address, or its error -/
def cpV (a n m d : Nat) : Value := if (ex a (a + n)).2.2.2 = 0 then (if bs ((ex a (a + n)).1 % 16) ((ex a (a + n)).2.1 % 512) a = bs ((ex a (a + n)).1 % 16) ((ex a (a + n)).2.1 % 512) d then .tuple #[cp true d m 0 (ex a (a + n)).1 (ex a (a + n)).2.1 (ex a (a + n)).2.2.1, .int .i64 0] else .tuple #[cp false 0 0 0 0 0 0, .int .i64 2]) else .tuple #[cp false 0 0 0 0 0 0, .int .i64 5]
set_option maxHeartbeats 4000000 in
theorem c7 (k : Nat) (o : Int) (a n m d : Nat) (ha : a < 4294967296) (hn : n < 4294967296) (hm : m < 256) (hd : d < 4294967296) (w : World) :
    Calls Try.prog 7 #[rg k o a n, .int .u8 (m : Int), .int .u32 (d : Int)] w fun en w' => en = .returned (cpV a n m d) ∧ Below w.heap.size w w' := by
  have k1 := c17 a n m ha hn hm
  have k0 := c18s k o a n ha hn
  unfold rtV at k1
  unfold cpV
  obtain ⟨t, ht⟩ : ∃ t : Nat, t = a + n := ⟨_, rfl⟩
  rw [← ht] at k1 ⊢
  clear ht
  rcases ex_err a t with ⟨h0, h1, h2, h3, h4, h5⟩ | ⟨h1, h2, h3, h4⟩
  · rw [if_pos h0]
    simp only [h0, if_true] at k1
    generalize (ex a t).1 = E at *
    generalize (ex a t).2.1 = B at *
    generalize (ex a t).2.2.1 = T at *
    have k2 := Cp.c13 E B T a d (by omega) (by omega) (by omega) ha hd
    have k3 := Cp.c18b true a m 0 E B T d ha (by omega) (by omega) (by omega) (by omega) hd
    by_cases hk : bs (E % 16) (B % 512) a = bs (E % 16) (B % 512) d
    · rw [if_pos hk]
      rw [decide_eq_true hk] at k2 k3
      have k3' : ∀ w, Calls Try.prog 20 #[cp true a m 0 E B T, .int .u32 (d : Int)] w fun en w' => en = .returned (cp true d m 0 E B T) ∧ Below w.heap.size w w' := k3
      clear k3 hk h0
      have K0 := Lib.hid k0
      have K1 := Lib.hid k1
      have K2 := Lib.hid k2
      have K3 := Lib.hid k3'
      clear k0 k1 k2 k3'
      go_enter Try.func7, Try.ntmps7
      go_wp2_with fail
      refine (K0.out _).mono ?_
      rintro en w1 ⟨rfl, hb1⟩
      have hB1 : Below w.heap.size w w1 := (((Below.refl _ _).alloc (Nat.le_refl _) _).alloc (by simp) _).trans (hb1.mono (by simp; omega))
      obtain ⟨hc1, hf1⟩ := bcell hb1
      have hz1 : w.heap.size + 1 < w1.heap.size := by have := hb1.size; simp at this; omega
      go_wp2_with fail
      refine (K1.out _).mono ?_
      rintro en w2 ⟨rfl, hb2⟩
      obtain ⟨hc2, hf2⟩ := bcell hb2
      have hz2 : w.heap.size + 1 < w2.heap.size := by have := hb2.size; omega
      have hz2' : w.heap.size < w2.heap.size := by omega
      have hB2 : Below w.heap.size w w2 := hB1.trans (hb2.mono (by omega))
      have r2 : w2.cell? ⟨w.heap.size, 2, none⟩ = some (.int .u32 (a : Int)) := by rw [hc2 _ _ (by omega), hc1 _ _ (by simp; omega)]; go_simp
      go_wp2_with fail
      refine (K2.out _).mono ?_
      rintro en w3 ⟨rfl, hb3⟩
      have HZ3 : Blk w3 (w.heap.size + 1) 34 #[.bool false, .int .u32 0, .int .u8 0, .int .u8 0, .int .u8 0, .int .u16 0, .int .u16 0] :=
        ((((new2 w _ 34 _).below hb1 (by simp)).below hb2 (by omega)).alloc _).below hb3 (by simp; omega)
      obtain ⟨z0, z1, z2, z3, z4, z5, z6⟩ := HZ3.cells7
      obtain ⟨y0, y1, y2, y3, y4, y5, y6⟩ := HZ3.frozen7
      obtain ⟨hc3, hf3⟩ := bcell hb3
      have hz3 : w2.heap.size < w3.heap.size := by have := hb3.size; simp at this; omega
      have hB3 : Below w.heap.size w w3 := (hB2.alloc (by omega) _).trans (hb3.mono (by simp; omega))
      have q0 : w3.cell? ⟨w2.heap.size, 0, none⟩ = some (.bool true) := by rw [hc3 _ _ (by simp)]; go_simp
      have q1 : w3.cell? ⟨w2.heap.size, 1, none⟩ = some (.int .u32 (a : Int)) := by rw [hc3 _ _ (by simp)]; go_simp
      have q2 : w3.cell? ⟨w2.heap.size, 2, none⟩ = some (.int .u8 (m : Int)) := by rw [hc3 _ _ (by simp)]; go_simp
      have q3 : w3.cell? ⟨w2.heap.size, 3, none⟩ = some (.int .u8 0) := by rw [hc3 _ _ (by simp)]; go_simp
      have q4 : w3.cell? ⟨w2.heap.size, 4, none⟩ = some (.int .u8 (E : Int)) := by rw [hc3 _ _ (by simp)]; go_simp
      have q5 : w3.cell? ⟨w2.heap.size, 5, none⟩ = some (.int .u16 (B : Int)) := by rw [hc3 _ _ (by simp)]; go_simp
      have q6 : w3.cell? ⟨w2.heap.size, 6, none⟩ = some (.int .u16 (T : Int)) := by rw [hc3 _ _ (by simp)]; go_simp
      go_wp2_with fail
      refine (K3.out _).mono ?_
      rintro en w4 ⟨rfl, hb4⟩
      have hB4 : Below w.heap.size w w4 := hB3.trans (hb4.mono (by omega))
      have HZ : Blk w4 (w.heap.size + 1) 34 #[.bool false, .int .u32 0, .int .u8 0, .int .u8 0, .int .u8 0, .int .u16 0, .int .u16 0] :=
        (((((new2 w _ 34 _).below hb1 (by simp)).below hb2 (by omega)).alloc _).below hb3 (by simp; omega)).below hb4 (by omega)
      obtain ⟨z0, z1, z2, z3, z4, z5, z6⟩ := HZ.cells7
      obtain ⟨y0, y1, y2, y3, y4, y5, y6⟩ := HZ.frozen7
      go_wp2_with fail
      exact bodyPost_ret (v := .tuple #[cp true d m 0 E B T, .int .i64 0]) (by simp [results, Try.results7, go_sem, z0, z1, z2, z3, z4, z5, z6]) rfl ⟨rfl, set7 hB4 (by omega) _ _ _ _ _ _ _⟩
    · rw [if_neg hk]
      rw [decide_eq_false hk] at k2
      have K0 := Lib.hid k0
      have K1 := Lib.hid k1
      have K2 := Lib.hid k2
      clear k0 k1 k2 k3 hk h0
      go_enter Try.func7, Try.ntmps7
      go_wp2_with fail
      refine (K0.out _).mono ?_
      rintro en w1 ⟨rfl, hb1⟩
      have hB1 : Below w.heap.size w w1 := (((Below.refl _ _).alloc (Nat.le_refl _) _).alloc (by simp) _).trans (hb1.mono (by simp; omega))
      obtain ⟨hc1, hf1⟩ := bcell hb1
      have hz1 : w.heap.size + 1 < w1.heap.size := by have := hb1.size; simp at this; omega
      go_wp2_with fail
      refine (K1.out _).mono ?_
      rintro en w2 ⟨rfl, hb2⟩
      obtain ⟨hc2, hf2⟩ := bcell hb2
      have hz2 : w.heap.size + 1 < w2.heap.size := by have := hb2.size; omega
      have hz2' : w.heap.size < w2.heap.size := by omega
      have hB2 : Below w.heap.size w w2 := hB1.trans (hb2.mono (by omega))
      have r2 : w2.cell? ⟨w.heap.size, 2, none⟩ = some (.int .u32 (a : Int)) := by rw [hc2 _ _ (by omega), hc1 _ _ (by simp; omega)]; go_simp
      go_wp2_with fail
      refine (K2.out _).mono ?_
      rintro en w3 ⟨rfl, hb3⟩
      have HZ3 : Blk w3 (w.heap.size + 1) 34 #[.bool false, .int .u32 0, .int .u8 0, .int .u8 0, .int .u8 0, .int .u16 0, .int .u16 0] :=
        ((((new2 w _ 34 _).below hb1 (by simp)).below hb2 (by omega)).alloc _).below hb3 (by simp; omega)
      obtain ⟨z0, z1, z2, z3, z4, z5, z6⟩ := HZ3.cells7
      obtain ⟨y0, y1, y2, y3, y4, y5, y6⟩ := HZ3.frozen7
      obtain ⟨hc3, hf3⟩ := bcell hb3
      have hz3 : w2.heap.size < w3.heap.size := by have := hb3.size; simp at this; omega
      have hB3 : Below w.heap.size w w3 := (hB2.alloc (by omega) _).trans (hb3.mono (by simp; omega))
      have q0 : w3.cell? ⟨w2.heap.size, 0, none⟩ = some (.bool true) := by rw [hc3 _ _ (by simp)]; go_simp
      have q1 : w3.cell? ⟨w2.heap.size, 1, none⟩ = some (.int .u32 (a : Int)) := by rw [hc3 _ _ (by simp)]; go_simp
      have q2 : w3.cell? ⟨w2.heap.size, 2, none⟩ = some (.int .u8 (m : Int)) := by rw [hc3 _ _ (by simp)]; go_simp
      have q3 : w3.cell? ⟨w2.heap.size, 3, none⟩ = some (.int .u8 0) := by rw [hc3 _ _ (by simp)]; go_simp
      have q4 : w3.cell? ⟨w2.heap.size, 4, none⟩ = some (.int .u8 (E : Int)) := by rw [hc3 _ _ (by simp)]; go_simp
      have q5 : w3.cell? ⟨w2.heap.size, 5, none⟩ = some (.int .u16 (B : Int)) := by rw [hc3 _ _ (by simp)]; go_simp
      have q6 : w3.cell? ⟨w2.heap.size, 6, none⟩ = some (.int .u16 (T : Int)) := by rw [hc3 _ _ (by simp)]; go_simp
      go_wp2_with fail
      exact bodyPost_ret (v := .tuple #[cp false 0 0 0 0 0 0, .int .i64 2]) (by simp [results, Try.results7, go_sem, z0, z1, z2, z3, z4, z5, z6]) rfl ⟨rfl, set7 hB3 (by omega) _ _ _ _ _ _ _⟩
  · have h5 : (ex a t).2.2.2 ≠ 0 := by omega
    rw [if_neg h5]
    simp only [if_neg h5] at k1
    have K0 := Lib.hid k0
    have K1 := Lib.hid k1
    clear k0 k1 h1 h2 h3 h4 h5
    go_enter Try.func7, Try.ntmps7
    go_wp2_with fail
    refine (K0.out _).mono ?_
    rintro en w1 ⟨rfl, hb1⟩
    have hB1 : Below w.heap.size w w1 := (((Below.refl _ _).alloc (Nat.le_refl _) _).alloc (by simp) _).trans (hb1.mono (by simp; omega))
    obtain ⟨hc1, hf1⟩ := bcell hb1
    have hz1 : w.heap.size + 1 < w1.heap.size := by have := hb1.size; simp at this; omega
    go_wp2_with fail
    refine (K1.out _).mono ?_
    rintro en w2 ⟨rfl, hb2⟩
    obtain ⟨hc2, hf2⟩ := bcell hb2
    have hz2 : w.heap.size + 1 < w2.heap.size := by have := hb2.size; omega
    have hz2' : w.heap.size < w2.heap.size := by omega
    have hB2 : Below w.heap.size w w2 := hB1.trans (hb2.mono (by omega))
    have HZ : Blk w2 (w.heap.size + 1) 34 #[.bool false, .int .u32 0, .int .u8 0, .int .u8 0, .int .u8 0, .int .u16 0, .int .u16 0] :=
      ((new2 w _ 34 _).below hb1 (by simp)).below hb2 (by omega)
    obtain ⟨z0, z1, z2, z3, z4, z5, z6⟩ := HZ.cells7
    obtain ⟨y0, y1, y2, y3, y4, y5, y6⟩ := HZ.frozen7
    go_wp2_with fail
    exact bodyPost_ret (v := .tuple #[cp false 0 0 0 0 0 0, .int .i64 5]) (by simp [results, Try.results7, go_sem, cellAlloc, hz2, z0, z1, z2, z3, z4, z5, z6]) rfl ⟨rfl, set7a hB2 (by omega) _ _ _ _ _ _ _ _⟩
end Go.Proofs.Ytbclgkjljgcfbaa
