import Derived.Test.YtgmifaadlaigdaaGreatDoorOd
namespace Go.Proofs.YtgmifaadlaigdaaGreatDoor
open Go.ChangeShapes Go.WideShapes Go.ChangeAt Go.RowKit
set_option linter.unusedVariables false
/-- a head, so many of its noughts written -/
def hz (p : ByteArray) : Nat → ByteArray
  | 0 => p
  | 1 => p ++ wideB ⟨#[48]⟩ 12
  | 2 => p ++ wideB ⟨#[48]⟩ 12 ++ wideB ⟨#[48]⟩ 6
  | 3 => p ++ wideB ⟨#[48]⟩ 12 ++ wideB ⟨#[48]⟩ 6 ++ wideB ⟨#[48]⟩ 6
  | _ => p ++ wideB ⟨#[48]⟩ 12 ++ wideB ⟨#[48]⟩ 6 ++ wideB ⟨#[48]⟩ 6 ++ wideB ⟨#[48]⟩ 8
theorem hz_size (p : ByteArray) (k : Nat) : (hz p k).size ≤ p.size + 32 := by
  have z2 : (wideB ⟨#[48]⟩ 12).size = 12 := wideB_size _ _
  have z3 : (wideB ⟨#[48]⟩ 6).size = 6 := wideB_size _ _
  have z4 : (wideB ⟨#[48]⟩ 8).size = 8 := wideB_size _ _
  unfold hz
  split <;> (try simp only [ByteArray.size_append, z2, z3, z4]) <;> omega
theorem head_hz (t s : ByteArray) (n : Nat) : padB t ++ headB s n = hz (padB t ++ wideB s 16) 4 ++ wideB (tens n) 10 ++ ⟨#[96, 10]⟩ := by
  unfold headB hz
  simp only [ba_assoc]
theorem tens_ten (n : Nat) (hn : n < 10000000000) : (tens n).size ≤ 10 := by
  have key : ∀ k n, n < 10 ^ (k + 1) → (tens n).size ≤ k + 1 := by
    intro k
    induction k with
    | zero => intro n h; rw [tens_lt (by omega), one_size]; omega
    | succ k ih =>
      intro n h
      by_cases h10 : n < 10
      · rw [tens_lt h10, one_size]; omega
      · rw [tens_ge h10, ByteArray.size_append, one_size]
        have := ih (n / 10) (by rw [Nat.pow_succ] at h; omega)
        omega
  exact key 9 n (by omega)
def R24 (N : Nat) (w0 w : World) (p : ByteArray) (b : Nat) (v i : Value) (wr : World) : Prop := ∃ k : Nat, k ≤ 4 ∧ i = .int .i64 (k : Int) ∧ Bu N w0 wr (hz p k) ∧ Kx N w wr ∧ wr.heap[b]? = some (.cells #[.int .i64 12, .int .i64 6, .int .i64 6, .int .i64 8] 3 (0, 0))
set_option maxRecDepth 100000 in
set_option maxHeartbeats 8000000 in
/-- head -/
theorem c24k {N : Nat} {w0 w : World} {t : ByteArray} (h : Bu N w0 w t) (s : ByteArray) (n : Nat) (ht : t.size ≤ 4194304) (hs : s.size ≤ 16) (hn : n ≤ 16777215) (hg : Gl w0) (hNw : N = w0.heap.size) :
    Calls Tryz.prog 24 #[.pointer (some ⟨N, 0, none⟩), .string s, .int .i64 (n : Int)] w fun e w' => e = .returned (.tuple #[]) ∧ Bu N w0 w' (padB t ++ headB s n) ∧ Kx N w w' := by
  have HH := Lib.hid (head_hz t s n)
  have HG : Hid (∀ w' r, Bu N w0 w' r → Gl w') := Lib.hid (fun w' r hu => hg.below (by rw [← hNw]; exact hu.2))
  have HP : Hid ((padB t).size ≤ t.size + 1) := Lib.hid (by rw [padB_size]; unfold evn; omega)
  have HW : Hid ((padB t ++ wideB s 16).size ≤ t.size + 17) := Lib.hid (by rw [ByteArray.size_append, wideB_size]; have := HP.out; omega)
  have HZ := Lib.hid (hz_size (padB t ++ wideB s 16))
  have HT := Lib.hid (tens_ten n (by omega))
  have K45 := Lib.hid (bw45 h)
  have HU := Lib.hid h
  have HO : Hid (t.size % 2 = 1 → padB t = t ++ ⟨#[UInt8.ofNat 10]⟩) := Lib.hid (fun hp => by unfold padB; rw [if_pos hp]; rfl)
  have HE : Hid (¬ t.size % 2 = 1 → padB t = t) := Lib.hid (fun hp => by unfold padB; rw [if_neg hp])
  clear h hg hNw
  go_enter Tryz.func24, Tryz.ntmps24
  go_wp2_with fail
  refine K45.out.mono ?_
  rintro _ w1 ⟨rfl, rfl⟩
  by_cases hp : t.size % 2 = 1
  · have HQ := Lib.hid (HO.out hp)
    go_wp2_with fail
    have K44 := Lib.hid (bw44k HU.out 10 (by omega) (by decide))
    refine K44.out.mono ?_
    rintro _ w2 ⟨rfl, hu2, hk2⟩
    have HK2 := Lib.hid hk2
    clear hk2
    rw [← HQ.out] at hu2
    have K46 := Lib.hid (c46k hu2 s 16 (by have := HP.out; omega) hs (by decide))
    clear hu2
    go_wp2_with fail
    refine K46.out.mono ?_
    rintro _ w3 ⟨rfl, hu3, hk3⟩
    have HK3 : Hid (Kx N w1 (w3.alloc (.cells #[.int .i64 12, .int .i64 6, .int .i64 6, .int .i64 8] 3))) := Lib.hid (kx_trans (kx_trans HK2.out hk3) (kx_below N ((Below.refl _ w3).alloc (Nat.le_refl _) _)))
    clear hk3
    have HU3 := Lib.hid hu3
    have HB3 := Lib.hid (heap_alloc_new w3 (.cells #[.int .i64 12, .int .i64 6, .int .i64 6, .int .i64 8] 3))
    have HL3 := Lib.hid (is_lt hu3.1)
    have HA3 := Lib.hid (bu_alloc hu3 (.cells #[.int .i64 12, .int .i64 6, .int .i64 6, .int .i64 8] 3))
    clear hu3
    have HPE : Hid (hz (padB t ++ wideB s 16) 0 = padB t ++ wideB s 16) := Lib.hid rfl
    generalize padB t ++ wideB s 16 = p at *
    go_wp2_with fail
    go_loopw [23] (fun i wr => R24 N w0 w1 p w3.heap.size i i wr) (fun i _ => 4 - (intOf i).toNat)
    case atStart => exact ⟨0, by decide, rfl, by rw [HPE.out]; exact HA3.out, HK3.out, HB3.out⟩
    case round =>
      obtain ⟨k, hk, rfl, hu, hkx, hb⟩ := hrel
      have HKX := Lib.hid hkx
      have HU4 := Lib.hid hu
      have HB4 := Lib.hid hb
      clear hu hb hkx
      have HZK := HZ.out k
      by_cases hlt : k < 4
      · have hk4 : k = 0 ∨ k = 1 ∨ k = 2 ∨ k = 3 := by omega
        rcases hk4 with rfl | rfl | rfl | rfl
        · have q0 : wr.cell? ⟨w3.heap.size, 0, none⟩ = some (.int .i64 12) := by rw [Lib.cell_of_heap HB4.out]; rfl
          have K5 : Hid (∀ w1, Bu N w0 w1 (hz p 0) → Calls Tryz.prog 46 #[.pointer (some ⟨N, 0, none⟩), .string ⟨#[48]⟩, .int .i64 12] w1 fun e w' => e = .returned (.tuple #[]) ∧ Bu N w0 w' (hz p 1) ∧ Kx N w1 w') := Lib.hid (fun w1 hu => c46k hu ⟨#[48]⟩ 12 (by have := HW.out; omega) (by decide) (by decide))
          go_wp2_with fail
          refine (K5.out _ (by first | exact HU4.out | exact bu_drew HU4.out)).mono ?_
          rintro _ w5 ⟨rfl, hu5, hk5⟩
          have HU5 := Lib.hid hu5
          have HK5 : Hid (Kx N w1 w5) := Lib.hid (kx_trans HKX.out hk5)
          have HB5 : Hid (w5.heap[w3.heap.size]? = some (.cells #[.int .i64 12, .int .i64 6, .int .i64 6, .int .i64 8] 3 (0, 0))) := Lib.hid (hk5 _ _ _ _ (by have := HL3.out; omega) (by decide) HB4.out)
          clear hu5 hk5
          go_wp2_with fail
          go_roundw
          case rel => exact ⟨1, by decide, by first | rfl | go_num, HU5.out, HK5.out, HB5.out⟩
          case measure => simp [intOf]
        · have q0 : wr.cell? ⟨w3.heap.size, 1, none⟩ = some (.int .i64 6) := by rw [Lib.cell_of_heap HB4.out]; rfl
          have K5 : Hid (∀ w1, Bu N w0 w1 (hz p 1) → Calls Tryz.prog 46 #[.pointer (some ⟨N, 0, none⟩), .string ⟨#[48]⟩, .int .i64 6] w1 fun e w' => e = .returned (.tuple #[]) ∧ Bu N w0 w' (hz p 2) ∧ Kx N w1 w') := Lib.hid (fun w1 hu => c46k hu ⟨#[48]⟩ 6 (by have := HW.out; omega) (by decide) (by decide))
          go_wp2_with fail
          refine (K5.out _ (by first | exact HU4.out | exact bu_drew HU4.out)).mono ?_
          rintro _ w5 ⟨rfl, hu5, hk5⟩
          have HU5 := Lib.hid hu5
          have HK5 : Hid (Kx N w1 w5) := Lib.hid (kx_trans HKX.out hk5)
          have HB5 : Hid (w5.heap[w3.heap.size]? = some (.cells #[.int .i64 12, .int .i64 6, .int .i64 6, .int .i64 8] 3 (0, 0))) := Lib.hid (hk5 _ _ _ _ (by have := HL3.out; omega) (by decide) HB4.out)
          clear hu5 hk5
          go_wp2_with fail
          go_roundw
          case rel => exact ⟨2, by decide, by first | rfl | go_num, HU5.out, HK5.out, HB5.out⟩
          case measure => simp [intOf]
        · have q0 : wr.cell? ⟨w3.heap.size, 2, none⟩ = some (.int .i64 6) := by rw [Lib.cell_of_heap HB4.out]; rfl
          have K5 : Hid (∀ w1, Bu N w0 w1 (hz p 2) → Calls Tryz.prog 46 #[.pointer (some ⟨N, 0, none⟩), .string ⟨#[48]⟩, .int .i64 6] w1 fun e w' => e = .returned (.tuple #[]) ∧ Bu N w0 w' (hz p 3) ∧ Kx N w1 w') := Lib.hid (fun w1 hu => c46k hu ⟨#[48]⟩ 6 (by have := HW.out; omega) (by decide) (by decide))
          go_wp2_with fail
          refine (K5.out _ (by first | exact HU4.out | exact bu_drew HU4.out)).mono ?_
          rintro _ w5 ⟨rfl, hu5, hk5⟩
          have HU5 := Lib.hid hu5
          have HK5 : Hid (Kx N w1 w5) := Lib.hid (kx_trans HKX.out hk5)
          have HB5 : Hid (w5.heap[w3.heap.size]? = some (.cells #[.int .i64 12, .int .i64 6, .int .i64 6, .int .i64 8] 3 (0, 0))) := Lib.hid (hk5 _ _ _ _ (by have := HL3.out; omega) (by decide) HB4.out)
          clear hu5 hk5
          go_wp2_with fail
          go_roundw
          case rel => exact ⟨3, by decide, by first | rfl | go_num, HU5.out, HK5.out, HB5.out⟩
          case measure => simp [intOf]
        · have q0 : wr.cell? ⟨w3.heap.size, 3, none⟩ = some (.int .i64 8) := by rw [Lib.cell_of_heap HB4.out]; rfl
          have K5 : Hid (∀ w1, Bu N w0 w1 (hz p 3) → Calls Tryz.prog 46 #[.pointer (some ⟨N, 0, none⟩), .string ⟨#[48]⟩, .int .i64 8] w1 fun e w' => e = .returned (.tuple #[]) ∧ Bu N w0 w' (hz p 4) ∧ Kx N w1 w') := Lib.hid (fun w1 hu => c46k hu ⟨#[48]⟩ 8 (by have := HW.out; omega) (by decide) (by decide))
          go_wp2_with fail
          refine (K5.out _ (by first | exact HU4.out | exact bu_drew HU4.out)).mono ?_
          rintro _ w5 ⟨rfl, hu5, hk5⟩
          have HU5 := Lib.hid hu5
          have HK5 : Hid (Kx N w1 w5) := Lib.hid (kx_trans HKX.out hk5)
          have HB5 : Hid (w5.heap[w3.heap.size]? = some (.cells #[.int .i64 12, .int .i64 6, .int .i64 6, .int .i64 8] 3 (0, 0))) := Lib.hid (hk5 _ _ _ _ (by have := HL3.out; omega) (by decide) HB4.out)
          clear hu5 hk5
          go_wp2_with fail
          go_roundw
          case rel => exact ⟨4, by decide, by first | rfl | go_num, HU5.out, HK5.out, HB5.out⟩
          case measure => simp [intOf]
      · obtain rfl : k = 4 := by omega
        have K47 := Lib.hid (c47 n (by omega))
        go_wp2_with fail
        refine (K47.out _ (HG.out _ _ HU4.out)).mono ?_
        rintro _ w6 ⟨rfl, hb6⟩
        have HU6 := Lib.hid (bu_below HU4.out hb6)
        have HK6 : Hid (Kx N w1 w6) := Lib.hid (kx_trans HKX.out (kx_below N hb6))
        clear hb6
        have K7 := Lib.hid (c46k HU6.out (tens n) 10 (by have := HW.out; omega) HT.out (by decide))
        go_wp2_with fail
        refine K7.out.mono ?_
        rintro _ w7 ⟨rfl, hu7, hk7⟩
        have HK7 : Hid (Kx N w1 w7) := Lib.hid (kx_trans HK6.out hk7)
        clear hk7
        have K8 := Lib.hid (bw22k hu7 ⟨#[96, 10]⟩ (by rw [ByteArray.size_append, wideB_size]; have := HW.out; have := HT.out; omega) (by decide))
        clear hu7
        go_wp2_with fail
        refine K8.out.mono ?_
        rintro _ w8 ⟨rfl, hu8, hk8⟩
        have HU8 := Lib.hid hu8
        have HK8 : Hid (Kx N w1 w8) := Lib.hid (kx_trans HK7.out hk8)
        clear hu8 hk8
        go_wp2_with fail
        go_end0
        exact ⟨rfl, by rw [HH.out]; exact HU8.out, HK8.out⟩
  · have HQ := Lib.hid (HE.out hp)
    have K46 := Lib.hid (c46k (HQ.out.symm ▸ HU.out) s 16 (by have := HP.out; omega) hs (by decide))
    go_wp2_with fail
    refine K46.out.mono ?_
    rintro _ w3 ⟨rfl, hu3, hk3⟩
    have HK3 : Hid (Kx N w1 (w3.alloc (.cells #[.int .i64 12, .int .i64 6, .int .i64 6, .int .i64 8] 3))) := Lib.hid (kx_trans (hk3) (kx_below N ((Below.refl _ w3).alloc (Nat.le_refl _) _)))
    clear hk3
    have HU3 := Lib.hid hu3
    have HB3 := Lib.hid (heap_alloc_new w3 (.cells #[.int .i64 12, .int .i64 6, .int .i64 6, .int .i64 8] 3))
    have HL3 := Lib.hid (is_lt hu3.1)
    have HA3 := Lib.hid (bu_alloc hu3 (.cells #[.int .i64 12, .int .i64 6, .int .i64 6, .int .i64 8] 3))
    clear hu3
    have HPE : Hid (hz (padB t ++ wideB s 16) 0 = padB t ++ wideB s 16) := Lib.hid rfl
    generalize padB t ++ wideB s 16 = p at *
    go_wp2_with fail
    go_loopw [23] (fun i wr => R24 N w0 w1 p w3.heap.size i i wr) (fun i _ => 4 - (intOf i).toNat)
    case atStart => exact ⟨0, by decide, rfl, by rw [HPE.out]; exact HA3.out, HK3.out, HB3.out⟩
    case round =>
      obtain ⟨k, hk, rfl, hu, hkx, hb⟩ := hrel
      have HKX := Lib.hid hkx
      have HU4 := Lib.hid hu
      have HB4 := Lib.hid hb
      clear hu hb hkx
      have HZK := HZ.out k
      by_cases hlt : k < 4
      · have hk4 : k = 0 ∨ k = 1 ∨ k = 2 ∨ k = 3 := by omega
        rcases hk4 with rfl | rfl | rfl | rfl
        · have q0 : wr.cell? ⟨w3.heap.size, 0, none⟩ = some (.int .i64 12) := by rw [Lib.cell_of_heap HB4.out]; rfl
          have K5 : Hid (∀ w1, Bu N w0 w1 (hz p 0) → Calls Tryz.prog 46 #[.pointer (some ⟨N, 0, none⟩), .string ⟨#[48]⟩, .int .i64 12] w1 fun e w' => e = .returned (.tuple #[]) ∧ Bu N w0 w' (hz p 1) ∧ Kx N w1 w') := Lib.hid (fun w1 hu => c46k hu ⟨#[48]⟩ 12 (by have := HW.out; omega) (by decide) (by decide))
          go_wp2_with fail
          refine (K5.out _ (by first | exact HU4.out | exact bu_drew HU4.out)).mono ?_
          rintro _ w5 ⟨rfl, hu5, hk5⟩
          have HU5 := Lib.hid hu5
          have HK5 : Hid (Kx N w1 w5) := Lib.hid (kx_trans HKX.out hk5)
          have HB5 : Hid (w5.heap[w3.heap.size]? = some (.cells #[.int .i64 12, .int .i64 6, .int .i64 6, .int .i64 8] 3 (0, 0))) := Lib.hid (hk5 _ _ _ _ (by have := HL3.out; omega) (by decide) HB4.out)
          clear hu5 hk5
          go_wp2_with fail
          go_roundw
          case rel => exact ⟨1, by decide, by first | rfl | go_num, HU5.out, HK5.out, HB5.out⟩
          case measure => simp [intOf]
        · have q0 : wr.cell? ⟨w3.heap.size, 1, none⟩ = some (.int .i64 6) := by rw [Lib.cell_of_heap HB4.out]; rfl
          have K5 : Hid (∀ w1, Bu N w0 w1 (hz p 1) → Calls Tryz.prog 46 #[.pointer (some ⟨N, 0, none⟩), .string ⟨#[48]⟩, .int .i64 6] w1 fun e w' => e = .returned (.tuple #[]) ∧ Bu N w0 w' (hz p 2) ∧ Kx N w1 w') := Lib.hid (fun w1 hu => c46k hu ⟨#[48]⟩ 6 (by have := HW.out; omega) (by decide) (by decide))
          go_wp2_with fail
          refine (K5.out _ (by first | exact HU4.out | exact bu_drew HU4.out)).mono ?_
          rintro _ w5 ⟨rfl, hu5, hk5⟩
          have HU5 := Lib.hid hu5
          have HK5 : Hid (Kx N w1 w5) := Lib.hid (kx_trans HKX.out hk5)
          have HB5 : Hid (w5.heap[w3.heap.size]? = some (.cells #[.int .i64 12, .int .i64 6, .int .i64 6, .int .i64 8] 3 (0, 0))) := Lib.hid (hk5 _ _ _ _ (by have := HL3.out; omega) (by decide) HB4.out)
          clear hu5 hk5
          go_wp2_with fail
          go_roundw
          case rel => exact ⟨2, by decide, by first | rfl | go_num, HU5.out, HK5.out, HB5.out⟩
          case measure => simp [intOf]
        · have q0 : wr.cell? ⟨w3.heap.size, 2, none⟩ = some (.int .i64 6) := by rw [Lib.cell_of_heap HB4.out]; rfl
          have K5 : Hid (∀ w1, Bu N w0 w1 (hz p 2) → Calls Tryz.prog 46 #[.pointer (some ⟨N, 0, none⟩), .string ⟨#[48]⟩, .int .i64 6] w1 fun e w' => e = .returned (.tuple #[]) ∧ Bu N w0 w' (hz p 3) ∧ Kx N w1 w') := Lib.hid (fun w1 hu => c46k hu ⟨#[48]⟩ 6 (by have := HW.out; omega) (by decide) (by decide))
          go_wp2_with fail
          refine (K5.out _ (by first | exact HU4.out | exact bu_drew HU4.out)).mono ?_
          rintro _ w5 ⟨rfl, hu5, hk5⟩
          have HU5 := Lib.hid hu5
          have HK5 : Hid (Kx N w1 w5) := Lib.hid (kx_trans HKX.out hk5)
          have HB5 : Hid (w5.heap[w3.heap.size]? = some (.cells #[.int .i64 12, .int .i64 6, .int .i64 6, .int .i64 8] 3 (0, 0))) := Lib.hid (hk5 _ _ _ _ (by have := HL3.out; omega) (by decide) HB4.out)
          clear hu5 hk5
          go_wp2_with fail
          go_roundw
          case rel => exact ⟨3, by decide, by first | rfl | go_num, HU5.out, HK5.out, HB5.out⟩
          case measure => simp [intOf]
        · have q0 : wr.cell? ⟨w3.heap.size, 3, none⟩ = some (.int .i64 8) := by rw [Lib.cell_of_heap HB4.out]; rfl
          have K5 : Hid (∀ w1, Bu N w0 w1 (hz p 3) → Calls Tryz.prog 46 #[.pointer (some ⟨N, 0, none⟩), .string ⟨#[48]⟩, .int .i64 8] w1 fun e w' => e = .returned (.tuple #[]) ∧ Bu N w0 w' (hz p 4) ∧ Kx N w1 w') := Lib.hid (fun w1 hu => c46k hu ⟨#[48]⟩ 8 (by have := HW.out; omega) (by decide) (by decide))
          go_wp2_with fail
          refine (K5.out _ (by first | exact HU4.out | exact bu_drew HU4.out)).mono ?_
          rintro _ w5 ⟨rfl, hu5, hk5⟩
          have HU5 := Lib.hid hu5
          have HK5 : Hid (Kx N w1 w5) := Lib.hid (kx_trans HKX.out hk5)
          have HB5 : Hid (w5.heap[w3.heap.size]? = some (.cells #[.int .i64 12, .int .i64 6, .int .i64 6, .int .i64 8] 3 (0, 0))) := Lib.hid (hk5 _ _ _ _ (by have := HL3.out; omega) (by decide) HB4.out)
          clear hu5 hk5
          go_wp2_with fail
          go_roundw
          case rel => exact ⟨4, by decide, by first | rfl | go_num, HU5.out, HK5.out, HB5.out⟩
          case measure => simp [intOf]
      · obtain rfl : k = 4 := by omega
        have K47 := Lib.hid (c47 n (by omega))
        go_wp2_with fail
        refine (K47.out _ (HG.out _ _ HU4.out)).mono ?_
        rintro _ w6 ⟨rfl, hb6⟩
        have HU6 := Lib.hid (bu_below HU4.out hb6)
        have HK6 : Hid (Kx N w1 w6) := Lib.hid (kx_trans HKX.out (kx_below N hb6))
        clear hb6
        have K7 := Lib.hid (c46k HU6.out (tens n) 10 (by have := HW.out; omega) HT.out (by decide))
        go_wp2_with fail
        refine K7.out.mono ?_
        rintro _ w7 ⟨rfl, hu7, hk7⟩
        have HK7 : Hid (Kx N w1 w7) := Lib.hid (kx_trans HK6.out hk7)
        clear hk7
        have K8 := Lib.hid (bw22k hu7 ⟨#[96, 10]⟩ (by rw [ByteArray.size_append, wideB_size]; have := HW.out; have := HT.out; omega) (by decide))
        clear hu7
        go_wp2_with fail
        refine K8.out.mono ?_
        rintro _ w8 ⟨rfl, hu8, hk8⟩
        have HU8 := Lib.hid hu8
        have HK8 : Hid (Kx N w1 w8) := Lib.hid (kx_trans HK7.out hk8)
        clear hu8 hk8
        go_wp2_with fail
        go_end0
        exact ⟨rfl, by rw [HH.out]; exact HU8.out, HK8.out⟩
theorem c24 {N : Nat} {w0 w : World} {t : ByteArray} (h : Bu N w0 w t) (s : ByteArray) (n : Nat) (ht : t.size ≤ 4194304) (hs : s.size ≤ 16) (hn : n ≤ 16777215) (hg : Gl w0) (hNw : N = w0.heap.size) :
    Calls Tryz.prog 24 #[.pointer (some ⟨N, 0, none⟩), .string s, .int .i64 (n : Int)] w fun e w' => e = .returned (.tuple #[]) ∧ Bu N w0 w' (padB t ++ headB s n) :=
  (c24k h s n ht hs hn hg hNw).mono fun _ _ ⟨h1, h2, _⟩ => ⟨h1, h2⟩
end Go.Proofs.YtgmifaadlaigdaaGreatDoor
