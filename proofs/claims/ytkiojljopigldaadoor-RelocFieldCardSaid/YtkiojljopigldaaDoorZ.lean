import Derived.Test.YtkiojljopigldaaDoorZa
namespace Go.Proofs.YtkiojljopigldaaDoor
open Go.ChangeShapes Go.WideShapes Go.ChangeAt Go.RowKit
set_option linter.unusedVariables false
theorem keepR {B b0 : Nat} {W1 w w' : World} {v0 : Value} (h : Below B W1 w ∧ w.cell? ⟨b0, 0, none⟩ = some v0 ∧ b0 < B ∧ B ≤ w.heap.size)
    (hb : Below B w w') : Below B W1 w' ∧ w'.cell? ⟨b0, 0, none⟩ = some v0 ∧ b0 < B ∧ B ≤ w'.heap.size := by
  obtain ⟨k, e0, l0, l⟩ := h
  exact ⟨k.trans hb, by rw [hb.cell l0]; exact e0, l0, Nat.le_trans l hb.size⟩
theorem RQ_form : ∀ q : Fin 68, (RQ q.val).2.1 = FL q.val := by decide +kernel
theorem noStep {n k W E : Nat} (h : ∀ q, q < k → (dec q n).put ≠ (n, 0)) (hp : (dec k n).put = (W, E)) (hne : (W, E) ≠ (n, 0)) : ∀ q, q < k + 1 → (dec q n).put ≠ (n, 0) := by
  intro q hq
  by_cases e : q = k
  · rw [e, hp]; exact hne
  · exact h q (by omega)
theorem dec_get {n k : Nat} (hn : n < 4294967296) (h : (dec k n).put = (n, 0)) : get n = (dec k n, 0) :=
  (put_get (dec k n).o (dec k n).d (dec k n).a (dec k n).b (dec k n).m (getF_b _ _ hn) n h).2
def Put8 : Prop := ∀ (o d a b : Nat) (n : Int), o < 256 → d < 256 → a < 256 → b < 256 → i32 n → ∀ w : World, Calls Tryd.prog 8 #[insV o d a b n] w fun en w' => en = .returned (weV (put o d a b n)) ∧ Below w.heap.size w w'
set_option maxRecDepth 100000 in
set_option maxHeartbeats 8000000 in
theorem c10 (H8 : Put8) (n : Nat) (hn : n < 4294967296) (w : World) : Calls Tryd.prog 9 #[.int .u32 (n : Int)] w fun en w' => en = .returned (ieV (get n)) ∧ Below w.heap.size w w' := by
  obtain ⟨D, hD, lD, kD⟩ : ∃ D : Nat, D = n / 128 % 32 ∧ D < 32 ∧ ∀ w : World, Calls Tryd.prog 19 #[.int .u32 (n : Int), .int .u64 7, .int .u64 5] w fun en w' => en = .returned (.int .u32 (D : Int)) ∧ w = w' := ⟨_, rfl, Nat.mod_lt _ (by omega), fun w => bs_7_5 n hn w⟩
  obtain ⟨A, hA, lA, kA⟩ : ∃ A : Nat, A = n / 32768 % 32 ∧ A < 32 ∧ ∀ w : World, Calls Tryd.prog 19 #[.int .u32 (n : Int), .int .u64 15, .int .u64 5] w fun en w' => en = .returned (.int .u32 (A : Int)) ∧ w = w' := ⟨_, rfl, Nat.mod_lt _ (by omega), fun w => bs_15_5 n hn w⟩
  obtain ⟨B, hB, lB, kB⟩ : ∃ B : Nat, B = n / 1048576 % 32 ∧ B < 32 ∧ ∀ w : World, Calls Tryd.prog 19 #[.int .u32 (n : Int), .int .u64 20, .int .u64 5] w fun en w' => en = .returned (.int .u32 (B : Int)) ∧ w = w' := ⟨_, rfl, Nat.mod_lt _ (by omega), fun w => bs_20_5 n hn w⟩
  have HDAB : Hid (n / 2 ^ 7 % 32 = D ∧ n / 2 ^ 15 % 32 = A ∧ n / 2 ^ 20 % 32 = B) := Lib.hid ⟨by rw [hD, show (2 : Nat) ^ 7 = 128 from rfl], by rw [hA, show (2 : Nat) ^ 15 = 32768 from rfl], by rw [hB, show (2 : Nat) ^ 20 = 1048576 from rfl]⟩
  have KD := Lib.hid kD
  have KA := Lib.hid kA
  have KB := Lib.hid kB
  clear hD hA hB kD kA kB
  have K8 := Lib.hid H8
  clear H8
  have v1 : IntKind.u8.wrap (D : Int) = D := by rw [IntKind.wrap_u8']; omega
  have v2 : IntKind.u8.wrap (A : Int) = A := by rw [IntKind.wrap_u8']; omega
  have v3 : IntKind.u8.wrap (B : Int) = B := by rw [IntKind.wrap_u8']; omega
  go_enter Tryd.func9, Tryd.ntmps9
  go_wp2_with fail
  refine (c23 _).mono ?_
  rintro _ w1 ⟨rfl, hw1⟩
  have hcell : ∀ k j v, k < 68 → j < 6 → (rowL (k + 1) (RQ k))[j]? = some v → w1.cell? ⟨w.heap.size + 1, k * 6 + j, none⟩ = some v := by
    intro k j v hk hj hv
    rw [hw1, ← hv, ← TA_at k j hk hj]
    simp
  have hB : Below w.heap.size w w1 := by
    rw [hw1]
    exact ((Below.refl _ _).alloc (Nat.le_refl _) _).alloc (by simp) _
  have hR : Below (w.heap.size + 1) (w.alloc (.cells #[.int .u8 0, .int .u8 0, .int .u8 0, .int .u8 0, .int .i32 0] 30)) w1 := by
    rw [hw1]
    exact (Below.refl _ _).alloc (by simp) _
  have hz : w.heap.size + 1 < w1.heap.size := by rw [hw1]; simp
  have HC := Lib.hid hcell
  have HB := Lib.hid hB
  have HR := Lib.hid hR
  clear hw1 hcell hB hR
  go_wp2_with fail
  go_loopw [5, 6, 7, 8, 9] (fun i _ _ _ _ wr => ∃ k : Nat, k ≤ 68 ∧ i = .int .i64 (k : Int) ∧ Below w1.heap.size w1 wr ∧ Hid (∀ q, q < k → (dec q n).put ≠ (n, 0))) (fun i _ _ _ _ _ => 68 - (intOf i).toNat)
  case atStart => exact ⟨0, by omega, rfl, Below.refl _ _, Lib.hid fun q h => by omega⟩
  case round =>
    obtain ⟨k, hk, rfl, hbel, hno⟩ := hrel
    have hzr : w1.heap.size ≤ wr.heap.size := hbel.size
    have hRr : Below (w.heap.size + 1) (w.alloc (.cells #[.int .u8 0, .int .u8 0, .int .u8 0, .int .u8 0, .int .i32 0] 30)) wr := HR.out.trans (hbel.mono (by omega))
    have hBr : Below w.heap.size w wr := HB.out.trans (hbel.mono (by omega))
    have hz0 : w.heap.size < w.heap.size + 1 := by omega
    have hz1 : w.heap.size < wr.heap.size := by omega
    by_cases hlt : k < 68
    · obtain ⟨rn, rf, rc, r3, rx, hRQ⟩ : ∃ (rn : List UInt8) (rf rc r3 rx : Nat), RQ k = (rn, rf, rc, r3, rx) := ⟨_, _, _, _, _, rfl⟩
      have d0 : wr.cell? ⟨w.heap.size + 1, k * 6, none⟩ = some (.int .u8 ((k : Int) + 1)) := by rw [hbel.cell hz]; exact HC.out k 0 _ hlt (by omega) (by rw [hRQ]; rfl)
      have d1 : wr.cell? ⟨w.heap.size + 1, k * 6 + 1, none⟩ = some (.string ⟨rn.toArray⟩) := by rw [hbel.cell hz]; exact HC.out k 1 _ hlt (by omega) (by rw [hRQ]; rfl)
      have d2 : wr.cell? ⟨w.heap.size + 1, k * 6 + 2, none⟩ = some (.int .i64 (rf : Int)) := by rw [hbel.cell hz]; exact HC.out k 2 _ hlt (by omega) (by rw [hRQ]; rfl)
      have d3 : wr.cell? ⟨w.heap.size + 1, k * 6 + 3, none⟩ = some (.int .u32 (rc : Int)) := by rw [hbel.cell hz]; exact HC.out k 3 _ hlt (by omega) (by rw [hRQ]; rfl)
      have d4 : wr.cell? ⟨w.heap.size + 1, k * 6 + 4, none⟩ = some (.int .u32 (r3 : Int)) := by rw [hbel.cell hz]; exact HC.out k 4 _ hlt (by omega) (by rw [hRQ]; rfl)
      have d5 : wr.cell? ⟨w.heap.size + 1, k * 6 + 5, none⟩ = some (.int .u32 (rx : Int)) := by rw [hbel.cell hz]; exact HC.out k 5 _ hlt (by omega) (by rw [hRQ]; rfl)
      have hz2 : w.heap.size + 1 < wr.heap.size := by omega
      have HRQ := Lib.hid hRQ
      clear hRQ
      go_upto_region 6 with fail
      have g0 : (wr.alloc (.cells #[.int .u8 ((k : Int) + 1), .string ⟨rn.toArray⟩, .int .i64 (rf : Int), .int .u32 (rc : Int), .int .u32 (r3 : Int), .int .u32 (rx : Int)] 40)).cell? ⟨wr.heap.size, 0, none⟩ = some (.int .u8 ((k : Int) + 1)) := by simp
      have HT : Below (wr.heap.size + 1) (wr.alloc (.cells #[.int .u8 ((k : Int) + 1), .string ⟨rn.toArray⟩, .int .i64 (rf : Int), .int .u32 (rc : Int), .int .u32 (r3 : Int), .int .u32 (rx : Int)] 40)) (wr.alloc (.cells #[.int .u8 ((k : Int) + 1), .string ⟨rn.toArray⟩, .int .i64 (rf : Int), .int .u32 (rc : Int), .int .u32 (r3 : Int), .int .u32 (rx : Int)] 40)) ∧ _ ∧ _ ∧ _ := ⟨Below.refl _ _, g0, (by omega : wr.heap.size < wr.heap.size + 1), (by simp : wr.heap.size + 1 ≤ (wr.alloc (.cells #[.int .u8 ((k : Int) + 1), .string ⟨rn.toArray⟩, .int .i64 (rf : Int), .int .u32 (rc : Int), .int .u32 (r3 : Int), .int .u32 (rx : Int)] 40)).heap.size)⟩
      clear g0
      go_cut [7] from 11 to 137 (fun v wx => v = .pointer (some ⟨wr.heap.size + 1, 0, none⟩) ∧ wx = ((wr.alloc (.cells #[.int .u8 ((k : Int) + 1), .string ⟨rn.toArray⟩, .int .i64 (rf : Int), .int .u32 (rc : Int), .int .u32 (r3 : Int), .int .u32 (rx : Int)] 40)).alloc (.cells #[.int .u8 ((k : Int) + 1), .int .u8 (D : Int), .int .u8 (A : Int), .int .u8 (B : Int), .int .i32 0] 30)).drew)
      case first =>
        go_region_held3 (fun w' => Below (wr.heap.size + 1) (wr.alloc (.cells #[.int .u8 ((k : Int) + 1), .string ⟨rn.toArray⟩, .int .i64 (rf : Int), .int .u32 (rc : Int), .int .u32 (r3 : Int), .int .u32 (rx : Int)] 40)) w' ∧ w'.cell? ⟨wr.heap.size, 0, none⟩ = some (.int .u8 ((k : Int) + 1)) ∧ wr.heap.size < wr.heap.size + 1 ∧ wr.heap.size + 1 ≤ w'.heap.size)
          (first | assumption | exact keepR (by assumption) ((Below.refl _ _).drew) | (refine keepR (by assumption) ((Below.refl _ _).alloc ?_ _); simp; done) | (refine keepR (by assumption) (((Below.refl _ _).alloc ?_ _).drew); simp; done))
          (first | (go_at_call 19; (with_reducible refine (KD.out _).mono ?_); rintro _ _ ⟨rfl, rfl⟩) | (go_at_call 19; (with_reducible refine (KA.out _).mono ?_); rintro _ _ ⟨rfl, rfl⟩) | (go_at_call 19; (with_reducible refine (KB.out _).mono ?_); rintro _ _ ⟨rfl, rfl⟩))
        all_goals
          go_wp2_with fail
          go_meet
          case rel => exact ⟨rfl, rfl⟩
      case rest =>
        obtain ⟨rfl, rfl⟩ := hcut
        clear HT KD KA KB
        have hrf : rf = FL k := by have := RQ_form ⟨k, hlt⟩; simp only at this; rw [HRQ.out] at this; exact this
        have hle := (FL_free ⟨k, hlt⟩).2
        simp only at hle
        have hc : rf = 0 ∨ rf = 1 ∨ rf = 2 ∨ rf = 3 ∨ rf = 4 ∨ rf = 5 ∨ rf = 6 ∨ rf = 7 ∨ rf = 8 ∨ rf = 9 ∨ rf = 10 := by omega
        clear hle d0 d1 d2 d3 d4 d5
        rcases hc with rfl | rfl | rfl | rfl | rfl | rfl | rfl | rfl | rfl | rfl | rfl
        · -- form 0
          have hdec : dec k n = ⟨k + 1, D, 0, 0, getF 0 n⟩ := by
            show (⟨k + 1, regN (hasD (FL k)) n 7, regN (hasA (FL k)) n 15, regN (hasB (FL k)) n 20, getF (FL k) n⟩ : Ins) = _
            rw [← hrf]
            show (⟨k + 1, regN true n 7, regN false n 15, regN false n 20, getF 0 n⟩ : Ins) = _
            simp only [regN_t, regN_f, HDAB.out.1]
          have h8 := K8.out (k + 1) D 0 0 (getF 0 n) (by omega) (by omega) (by omega) (by omega) (getF_b 0 n hn)
          obtain ⟨W, E, hWE⟩ : ∃ W E, put (k + 1) D 0 0 (getF 0 n) = (W, E) := ⟨_, _, rfl⟩
          rw [hWE] at h8
          have h8 : ∀ w : World, Calls Tryd.prog 8 #[.agg #[.int .u8 ((k : Int) + 1), .int .u8 (D : Int), .int .u8 0, .int .u8 0, .int .i32 (getF 0 n)]] w fun en w' => en = .returned (.tuple #[.int .u32 (W : Int), .int .i64 (E : Int)]) ∧ Below w.heap.size w w' := fun w => by have := h8 w; unfold insV weV at this; rw [Int.natCast_add] at this; exact this
          have hput : (dec k n).put = (W, E) := by rw [hdec]; exact hWE
          have HP := Lib.hid hput; have HD := Lib.hid hdec; have H8 := Lib.hid h8
          clear hput hdec h8 hWE hrf
          have e := andNot n hn
          have l0 : n / 4096 * 4096 ≤ n := Nat.div_mul_le_self _ _
          have z : wrap32 ((n / 4096 * 4096 : Nat) : Int) = getF 0 n := by simp only [getF, sgn, wrap32]; split <;> omega
          generalize n / 4096 * 4096 = U at *
          generalize getF 0 n = M at *
          go_wp2_with fail
          refine (H8.out _).mono ?_
          rintro _ w2 ⟨rfl, b2⟩
          have hz3 : wr.heap.size + 1 + 1 ≤ w2.heap.size := by have := b2.size; simpa using this
          have hbel2 : Below w1.heap.size w1 w2 := (((hbel.alloc (by omega) _).alloc (by simp; omega) _).drew).trans (b2.mono (by simp; omega))
          have hB2 : Below w.heap.size w w2 := HB.out.trans (hbel2.mono (by omega))
          have hR2 : Below (w.heap.size + 1) (w.alloc (.cells #[.int .u8 0, .int .u8 0, .int .u8 0, .int .u8 0, .int .i32 0] 30)) w2 := HR.out.trans (hbel2.mono (by omega))
          obtain ⟨hc4, hf4⟩ := bcell b2
          obtain ⟨hc5, hf5⟩ := bcell hR2
          have hz4 : w.heap.size < w2.heap.size := by omega
          have hz5 : wr.heap.size + 1 < wr.heap.size + 1 + 1 := by omega
          clear b2 hR2
          by_cases hE : E = 0
          · subst hE
            by_cases hWn : W = n
            · subst hWn
              go_wp2_with fail
              exact bodyPost_ret (v := .tuple #[.agg #[.int .u8 ((k : Int) + 1), .int .u8 (D : Int), .int .u8 0, .int .u8 0, .int .i32 M], .int .i64 0]) (by simp [results, Tryd.results9, go_sem, hc5, hz0]) rfl ⟨by rw [dec_get hn HP.out, HD.out]; rfl, ((((hB2.setCell (Nat.le_refl _) _).setCell (Nat.le_refl _) _).setCell (Nat.le_refl _) _).setCell (Nat.le_refl _) _).setCell (Nat.le_refl _) _⟩
            · have hne : ((W : Int) == (n : Int)) = false := by simp; omega
              go_wp2_with fail
              go_roundw
              case rel => exact ⟨k + 1, by omega, by go_num, hbel2, Lib.hid (noStep hno.out HP.out <| fun h => hWn (Prod.mk.inj h).1)⟩
              case measure => simp [intOf]; omega
          · have hne : ((E : Int) == 0) = false := by simp; omega
            go_wp2_with fail
            go_roundw
            case rel => exact ⟨k + 1, by omega, by go_num, hbel2, Lib.hid (noStep hno.out HP.out <| fun h => hE (Prod.mk.inj h).2)⟩
            case measure => simp [intOf]; omega
        · -- form 1
          have hdec : dec k n = ⟨k + 1, D, 0, 0, getF 1 n⟩ := by
            show (⟨k + 1, regN (hasD (FL k)) n 7, regN (hasA (FL k)) n 15, regN (hasB (FL k)) n 20, getF (FL k) n⟩ : Ins) = _
            rw [← hrf]
            show (⟨k + 1, regN true n 7, regN false n 15, regN false n 20, getF 1 n⟩ : Ins) = _
            simp only [regN_t, regN_f, HDAB.out.1]
          have h8 := K8.out (k + 1) D 0 0 (getF 1 n) (by omega) (by omega) (by omega) (by omega) (getF_b 1 n hn)
          obtain ⟨W, E, hWE⟩ : ∃ W E, put (k + 1) D 0 0 (getF 1 n) = (W, E) := ⟨_, _, rfl⟩
          rw [hWE] at h8
          have h8 : ∀ w : World, Calls Tryd.prog 8 #[.agg #[.int .u8 ((k : Int) + 1), .int .u8 (D : Int), .int .u8 0, .int .u8 0, .int .i32 (getF 1 n)]] w fun en w' => en = .returned (.tuple #[.int .u32 (W : Int), .int .i64 (E : Int)]) ∧ Below w.heap.size w w' := fun w => by have := h8 w; unfold insV weV at this; rw [Int.natCast_add] at this; exact this
          have hput : (dec k n).put = (W, E) := by rw [hdec]; exact hWE
          have HP := Lib.hid hput; have HD := Lib.hid hdec; have H8 := Lib.hid h8
          clear hput hdec h8 hWE hrf
          obtain ⟨X0, hX0, lX0, cX0⟩ : ∃ m : Nat, m = n / 2147483648 % 2 ∧ m < 2 ∧ ∀ w : World, Calls Tryd.prog 19 #[.int .u32 (n : Int), .int .u64 31, .int .u64 1] w fun en w' => en = .returned (.int .u32 (m : Int)) ∧ w = w' := ⟨_, rfl, Nat.mod_lt _ (by omega), fun w => bs_31_1 n hn w⟩
          have H0 := Lib.hid hX0; clear hX0; have C0 := Lib.hid cX0; clear cX0
          have y0 : (X0 : Int) * 1048576 % 4294967296 = X0 * 1048576 := by omega
          obtain ⟨X1, hX1, lX1, cX1⟩ : ∃ m : Nat, m = n / 4096 % 256 ∧ m < 256 ∧ ∀ w : World, Calls Tryd.prog 19 #[.int .u32 (n : Int), .int .u64 12, .int .u64 8] w fun en w' => en = .returned (.int .u32 (m : Int)) ∧ w = w' := ⟨_, rfl, Nat.mod_lt _ (by omega), fun w => bs_12_8 n hn w⟩
          have H1 := Lib.hid hX1; clear hX1; have C1 := Lib.hid cX1; clear cX1
          have y1 : (X1 : Int) * 4096 % 4294967296 = X1 * 4096 := by omega
          obtain ⟨X2, hX2, lX2, cX2⟩ : ∃ m : Nat, m = n / 1048576 % 2 ∧ m < 2 ∧ ∀ w : World, Calls Tryd.prog 19 #[.int .u32 (n : Int), .int .u64 20, .int .u64 1] w fun en w' => en = .returned (.int .u32 (m : Int)) ∧ w = w' := ⟨_, rfl, Nat.mod_lt _ (by omega), fun w => bs_20_1 n hn w⟩
          have H2 := Lib.hid hX2; clear hX2; have C2 := Lib.hid cX2; clear cX2
          have y2 : (X2 : Int) * 2048 % 4294967296 = X2 * 2048 := by omega
          obtain ⟨X3, hX3, lX3, cX3⟩ : ∃ m : Nat, m = n / 2097152 % 1024 ∧ m < 1024 ∧ ∀ w : World, Calls Tryd.prog 19 #[.int .u32 (n : Int), .int .u64 21, .int .u64 10] w fun en w' => en = .returned (.int .u32 (m : Int)) ∧ w = w' := ⟨_, rfl, Nat.mod_lt _ (by omega), fun w => bs_21_10 n hn w⟩
          have H3 := Lib.hid hX3; clear hX3; have C3 := Lib.hid cX3; clear cX3
          have y3 : (X3 : Int) * 2 % 4294967296 = X3 * 2 := by omega
          obtain ⟨S0, s0, e0⟩ : ∃ S : Nat, S = X0 * 1048576 ∧ (X0 : Int) * 1048576 = (S : Int) := ⟨_, rfl, by simp⟩
          obtain ⟨S1, s1, e1⟩ := or32' S0 X1 12 8 4096 256 (X1 * 4096) rfl rfl rfl (by omega) lX1 (by omega)
          rw [Int.natCast_mul] at e1
          have e1 : bits .or .u32 (S0 : Int) ((X1 : Int) * 4096) = (S1 : Int) := e1
          obtain ⟨S2, s2, e2⟩ := or32' S1 X2 11 1 2048 2 (X2 * 2048) rfl rfl rfl (by omega) lX2 (by omega)
          rw [Int.natCast_mul] at e2
          have e2 : bits .or .u32 (S1 : Int) ((X2 : Int) * 2048) = (S2 : Int) := e2
          obtain ⟨S3, s3, e3⟩ := or32' S2 X3 1 10 2 1024 (X3 * 2) rfl rfl rfl (by omega) lX3 (by omega)
          rw [Int.natCast_mul] at e3
          have e3 : bits .or .u32 (S2 : Int) ((X3 : Int) * 2) = (S3 : Int) := e3
          have kS := fun w => sg21 S3 (by omega) w
          have hX0 := H0.out; have hX1 := H1.out; have hX2 := H2.out; have hX3 := H3.out
          have hM : sgn S3 1048576 = getF 1 n := by
            simp only [getF]
            congr 1
            omega
          rw [hM] at kS
          have KS := Lib.hid kS
          clear kS hM hX0 H0 hX1 H1 hX2 H2 hX3 H3 s0 s1 s2 s3
          generalize getF 1 n = M at *
          go_wp2_with fail
          refine (C0.out _).mono ?_
          rintro _ _ ⟨rfl, rfl⟩
          go_wp2_with fail
          refine (C1.out _).mono ?_
          rintro _ _ ⟨rfl, rfl⟩
          go_wp2_with fail
          refine (C2.out _).mono ?_
          rintro _ _ ⟨rfl, rfl⟩
          go_wp2_with fail
          refine (C3.out _).mono ?_
          rintro _ _ ⟨rfl, rfl⟩
          go_wp2_with fail
          refine (KS.out _).mono ?_
          rintro _ _ ⟨rfl, rfl⟩
          go_wp2_with fail
          refine (H8.out _).mono ?_
          rintro _ w2 ⟨rfl, b2⟩
          have hz3 : wr.heap.size + 1 + 1 ≤ w2.heap.size := by have := b2.size; simpa using this
          have hbel2 : Below w1.heap.size w1 w2 := (((hbel.alloc (by omega) _).alloc (by simp; omega) _).drew).trans (b2.mono (by simp; omega))
          have hB2 : Below w.heap.size w w2 := HB.out.trans (hbel2.mono (by omega))
          have hR2 : Below (w.heap.size + 1) (w.alloc (.cells #[.int .u8 0, .int .u8 0, .int .u8 0, .int .u8 0, .int .i32 0] 30)) w2 := HR.out.trans (hbel2.mono (by omega))
          obtain ⟨hc4, hf4⟩ := bcell b2
          obtain ⟨hc5, hf5⟩ := bcell hR2
          have hz4 : w.heap.size < w2.heap.size := by omega
          have hz5 : wr.heap.size + 1 < wr.heap.size + 1 + 1 := by omega
          clear b2 hR2
          by_cases hE : E = 0
          · subst hE
            by_cases hWn : W = n
            · subst hWn
              go_wp2_with fail
              exact bodyPost_ret (v := .tuple #[.agg #[.int .u8 ((k : Int) + 1), .int .u8 (D : Int), .int .u8 0, .int .u8 0, .int .i32 M], .int .i64 0]) (by simp [results, Tryd.results9, go_sem, hc5, hz0]) rfl ⟨by rw [dec_get hn HP.out, HD.out]; rfl, ((((hB2.setCell (Nat.le_refl _) _).setCell (Nat.le_refl _) _).setCell (Nat.le_refl _) _).setCell (Nat.le_refl _) _).setCell (Nat.le_refl _) _⟩
            · have hne : ((W : Int) == (n : Int)) = false := by simp; omega
              go_wp2_with fail
              go_roundw
              case rel => exact ⟨k + 1, by omega, by go_num, hbel2, Lib.hid (noStep hno.out HP.out <| fun h => hWn (Prod.mk.inj h).1)⟩
              case measure => simp [intOf]; omega
          · have hne : ((E : Int) == 0) = false := by simp; omega
            go_wp2_with fail
            go_roundw
            case rel => exact ⟨k + 1, by omega, by go_num, hbel2, Lib.hid (noStep hno.out HP.out <| fun h => hE (Prod.mk.inj h).2)⟩
            case measure => simp [intOf]; omega
        · -- form 2
          have hdec : dec k n = ⟨k + 1, D, A, 0, getF 2 n⟩ := by
            show (⟨k + 1, regN (hasD (FL k)) n 7, regN (hasA (FL k)) n 15, regN (hasB (FL k)) n 20, getF (FL k) n⟩ : Ins) = _
            rw [← hrf]
            show (⟨k + 1, regN true n 7, regN true n 15, regN false n 20, getF 2 n⟩ : Ins) = _
            simp only [regN_t, regN_f, HDAB.out.1, HDAB.out.2.1]
          have h8 := K8.out (k + 1) D A 0 (getF 2 n) (by omega) (by omega) (by omega) (by omega) (getF_b 2 n hn)
          obtain ⟨W, E, hWE⟩ : ∃ W E, put (k + 1) D A 0 (getF 2 n) = (W, E) := ⟨_, _, rfl⟩
          rw [hWE] at h8
          have h8 : ∀ w : World, Calls Tryd.prog 8 #[.agg #[.int .u8 ((k : Int) + 1), .int .u8 (D : Int), .int .u8 (A : Int), .int .u8 0, .int .i32 (getF 2 n)]] w fun en w' => en = .returned (.tuple #[.int .u32 (W : Int), .int .i64 (E : Int)]) ∧ Below w.heap.size w w' := fun w => by have := h8 w; unfold insV weV at this; rw [Int.natCast_add] at this; exact this
          have hput : (dec k n).put = (W, E) := by rw [hdec]; exact hWE
          have HP := Lib.hid hput; have HD := Lib.hid hdec; have H8 := Lib.hid h8
          clear hput hdec h8 hWE hrf
          have hq : n / 1048576 % 4096 = n / 1048576 := by omega
          have l0 : n / 1048576 < 4096 := by omega
          have k20 := fun w => bs_20_12 n hn w
          rw [hq] at k20
          have kS := fun w => sg12 (n / 1048576) l0 w
          rw [show sgn (n / 1048576) 2048 = getF 2 n from rfl] at kS
          generalize n / 1048576 = X at *
          have C0 := Lib.hid k20; clear k20
          have KS := Lib.hid kS; clear kS hq
          generalize getF 2 n = M at *
          go_wp2_with fail
          refine (C0.out _).mono ?_
          rintro _ _ ⟨rfl, rfl⟩
          go_wp2_with fail
          refine (KS.out _).mono ?_
          rintro _ _ ⟨rfl, rfl⟩
          go_wp2_with fail
          refine (H8.out _).mono ?_
          rintro _ w2 ⟨rfl, b2⟩
          have hz3 : wr.heap.size + 1 + 1 ≤ w2.heap.size := by have := b2.size; simpa using this
          have hbel2 : Below w1.heap.size w1 w2 := (((hbel.alloc (by omega) _).alloc (by simp; omega) _).drew).trans (b2.mono (by simp; omega))
          have hB2 : Below w.heap.size w w2 := HB.out.trans (hbel2.mono (by omega))
          have hR2 : Below (w.heap.size + 1) (w.alloc (.cells #[.int .u8 0, .int .u8 0, .int .u8 0, .int .u8 0, .int .i32 0] 30)) w2 := HR.out.trans (hbel2.mono (by omega))
          obtain ⟨hc4, hf4⟩ := bcell b2
          obtain ⟨hc5, hf5⟩ := bcell hR2
          have hz4 : w.heap.size < w2.heap.size := by omega
          have hz5 : wr.heap.size + 1 < wr.heap.size + 1 + 1 := by omega
          clear b2 hR2
          by_cases hE : E = 0
          · subst hE
            by_cases hWn : W = n
            · subst hWn
              go_wp2_with fail
              exact bodyPost_ret (v := .tuple #[.agg #[.int .u8 ((k : Int) + 1), .int .u8 (D : Int), .int .u8 (A : Int), .int .u8 0, .int .i32 M], .int .i64 0]) (by simp [results, Tryd.results9, go_sem, hc5, hz0]) rfl ⟨by rw [dec_get hn HP.out, HD.out]; rfl, ((((hB2.setCell (Nat.le_refl _) _).setCell (Nat.le_refl _) _).setCell (Nat.le_refl _) _).setCell (Nat.le_refl _) _).setCell (Nat.le_refl _) _⟩
            · have hne : ((W : Int) == (n : Int)) = false := by simp; omega
              go_wp2_with fail
              go_roundw
              case rel => exact ⟨k + 1, by omega, by go_num, hbel2, Lib.hid (noStep hno.out HP.out <| fun h => hWn (Prod.mk.inj h).1)⟩
              case measure => simp [intOf]; omega
          · have hne : ((E : Int) == 0) = false := by simp; omega
            go_wp2_with fail
            go_roundw
            case rel => exact ⟨k + 1, by omega, by go_num, hbel2, Lib.hid (noStep hno.out HP.out <| fun h => hE (Prod.mk.inj h).2)⟩
            case measure => simp [intOf]; omega
        · -- form 3
          have hdec : dec k n = ⟨k + 1, D, A, 0, getF 3 n⟩ := by
            show (⟨k + 1, regN (hasD (FL k)) n 7, regN (hasA (FL k)) n 15, regN (hasB (FL k)) n 20, getF (FL k) n⟩ : Ins) = _
            rw [← hrf]
            show (⟨k + 1, regN true n 7, regN true n 15, regN false n 20, getF 3 n⟩ : Ins) = _
            simp only [regN_t, regN_f, HDAB.out.1, HDAB.out.2.1]
          have h8 := K8.out (k + 1) D A 0 (getF 3 n) (by omega) (by omega) (by omega) (by omega) (getF_b 3 n hn)
          obtain ⟨W, E, hWE⟩ : ∃ W E, put (k + 1) D A 0 (getF 3 n) = (W, E) := ⟨_, _, rfl⟩
          rw [hWE] at h8
          have h8 : ∀ w : World, Calls Tryd.prog 8 #[.agg #[.int .u8 ((k : Int) + 1), .int .u8 (D : Int), .int .u8 (A : Int), .int .u8 0, .int .i32 (getF 3 n)]] w fun en w' => en = .returned (.tuple #[.int .u32 (W : Int), .int .i64 (E : Int)]) ∧ Below w.heap.size w w' := fun w => by have := h8 w; unfold insV weV at this; rw [Int.natCast_add] at this; exact this
          have hput : (dec k n).put = (W, E) := by rw [hdec]; exact hWE
          have HP := Lib.hid hput; have HD := Lib.hid hdec; have H8 := Lib.hid h8
          clear hput hdec h8 hWE hrf
          have hq : n / 1048576 % 4096 = n / 1048576 := by omega
          have l0 : n / 1048576 < 4096 := by omega
          have k20 := fun w => bs_20_12 n hn w
          rw [hq] at k20
          have z : getF 3 n = ((n / 1048576 : Nat) : Int) := rfl
          rw [z] at H8 HD
          clear z hq
          generalize n / 1048576 = X at *
          have C0 := Lib.hid k20; clear k20
          go_wp2_with fail
          refine (C0.out _).mono ?_
          rintro _ _ ⟨rfl, rfl⟩
          go_wp2_with fail
          refine (H8.out _).mono ?_
          rintro _ w2 ⟨rfl, b2⟩
          have hz3 : wr.heap.size + 1 + 1 ≤ w2.heap.size := by have := b2.size; simpa using this
          have hbel2 : Below w1.heap.size w1 w2 := (((hbel.alloc (by omega) _).alloc (by simp; omega) _).drew).trans (b2.mono (by simp; omega))
          have hB2 : Below w.heap.size w w2 := HB.out.trans (hbel2.mono (by omega))
          have hR2 : Below (w.heap.size + 1) (w.alloc (.cells #[.int .u8 0, .int .u8 0, .int .u8 0, .int .u8 0, .int .i32 0] 30)) w2 := HR.out.trans (hbel2.mono (by omega))
          obtain ⟨hc4, hf4⟩ := bcell b2
          obtain ⟨hc5, hf5⟩ := bcell hR2
          have hz4 : w.heap.size < w2.heap.size := by omega
          have hz5 : wr.heap.size + 1 < wr.heap.size + 1 + 1 := by omega
          clear b2 hR2
          by_cases hE : E = 0
          · subst hE
            by_cases hWn : W = n
            · subst hWn
              go_wp2_with fail
              exact bodyPost_ret (v := .tuple #[.agg #[.int .u8 ((k : Int) + 1), .int .u8 (D : Int), .int .u8 (A : Int), .int .u8 0, .int .i32 (X : Int)], .int .i64 0]) (by simp [results, Tryd.results9, go_sem, hc5, hz0]) rfl ⟨by rw [dec_get hn HP.out, HD.out]; rfl, ((((hB2.setCell (Nat.le_refl _) _).setCell (Nat.le_refl _) _).setCell (Nat.le_refl _) _).setCell (Nat.le_refl _) _).setCell (Nat.le_refl _) _⟩
            · have hne : ((W : Int) == (n : Int)) = false := by simp; omega
              go_wp2_with fail
              go_roundw
              case rel => exact ⟨k + 1, by omega, by go_num, hbel2, Lib.hid (noStep hno.out HP.out <| fun h => hWn (Prod.mk.inj h).1)⟩
              case measure => simp [intOf]; omega
          · have hne : ((E : Int) == 0) = false := by simp; omega
            go_wp2_with fail
            go_roundw
            case rel => exact ⟨k + 1, by omega, by go_num, hbel2, Lib.hid (noStep hno.out HP.out <| fun h => hE (Prod.mk.inj h).2)⟩
            case measure => simp [intOf]; omega
        · -- form 4
          have hdec : dec k n = ⟨k + 1, D, A, 0, getF 4 n⟩ := by
            show (⟨k + 1, regN (hasD (FL k)) n 7, regN (hasA (FL k)) n 15, regN (hasB (FL k)) n 20, getF (FL k) n⟩ : Ins) = _
            rw [← hrf]
            show (⟨k + 1, regN true n 7, regN true n 15, regN false n 20, getF 4 n⟩ : Ins) = _
            simp only [regN_t, regN_f, HDAB.out.1, HDAB.out.2.1]
          have h8 := K8.out (k + 1) D A 0 (getF 4 n) (by omega) (by omega) (by omega) (by omega) (getF_b 4 n hn)
          obtain ⟨W, E, hWE⟩ : ∃ W E, put (k + 1) D A 0 (getF 4 n) = (W, E) := ⟨_, _, rfl⟩
          rw [hWE] at h8
          have h8 : ∀ w : World, Calls Tryd.prog 8 #[.agg #[.int .u8 ((k : Int) + 1), .int .u8 (D : Int), .int .u8 (A : Int), .int .u8 0, .int .i32 (getF 4 n)]] w fun en w' => en = .returned (.tuple #[.int .u32 (W : Int), .int .i64 (E : Int)]) ∧ Below w.heap.size w w' := fun w => by have := h8 w; unfold insV weV at this; rw [Int.natCast_add] at this; exact this
          have hput : (dec k n).put = (W, E) := by rw [hdec]; exact hWE
          have HP := Lib.hid hput; have HD := Lib.hid hdec; have H8 := Lib.hid h8
          clear hput hdec h8 hWE hrf
          have l0 : n / 1048576 % 32 < 32 := Nat.mod_lt _ (by omega)
          have k20 := fun w => bs_20_5 n hn w
          have z : getF 4 n = ((n / 1048576 % 32 : Nat) : Int) := rfl
          rw [z] at H8 HD
          clear z
          generalize n / 1048576 % 32 = X at *
          have C0 := Lib.hid k20; clear k20
          go_wp2_with fail
          refine (C0.out _).mono ?_
          rintro _ _ ⟨rfl, rfl⟩
          go_wp2_with fail
          refine (H8.out _).mono ?_
          rintro _ w2 ⟨rfl, b2⟩
          have hz3 : wr.heap.size + 1 + 1 ≤ w2.heap.size := by have := b2.size; simpa using this
          have hbel2 : Below w1.heap.size w1 w2 := (((hbel.alloc (by omega) _).alloc (by simp; omega) _).drew).trans (b2.mono (by simp; omega))
          have hB2 : Below w.heap.size w w2 := HB.out.trans (hbel2.mono (by omega))
          have hR2 : Below (w.heap.size + 1) (w.alloc (.cells #[.int .u8 0, .int .u8 0, .int .u8 0, .int .u8 0, .int .i32 0] 30)) w2 := HR.out.trans (hbel2.mono (by omega))
          obtain ⟨hc4, hf4⟩ := bcell b2
          obtain ⟨hc5, hf5⟩ := bcell hR2
          have hz4 : w.heap.size < w2.heap.size := by omega
          have hz5 : wr.heap.size + 1 < wr.heap.size + 1 + 1 := by omega
          clear b2 hR2
          by_cases hE : E = 0
          · subst hE
            by_cases hWn : W = n
            · subst hWn
              go_wp2_with fail
              exact bodyPost_ret (v := .tuple #[.agg #[.int .u8 ((k : Int) + 1), .int .u8 (D : Int), .int .u8 (A : Int), .int .u8 0, .int .i32 (X : Int)], .int .i64 0]) (by simp [results, Tryd.results9, go_sem, hc5, hz0]) rfl ⟨by rw [dec_get hn HP.out, HD.out]; rfl, ((((hB2.setCell (Nat.le_refl _) _).setCell (Nat.le_refl _) _).setCell (Nat.le_refl _) _).setCell (Nat.le_refl _) _).setCell (Nat.le_refl _) _⟩
            · have hne : ((W : Int) == (n : Int)) = false := by simp; omega
              go_wp2_with fail
              go_roundw
              case rel => exact ⟨k + 1, by omega, by go_num, hbel2, Lib.hid (noStep hno.out HP.out <| fun h => hWn (Prod.mk.inj h).1)⟩
              case measure => simp [intOf]; omega
          · have hne : ((E : Int) == 0) = false := by simp; omega
            go_wp2_with fail
            go_roundw
            case rel => exact ⟨k + 1, by omega, by go_num, hbel2, Lib.hid (noStep hno.out HP.out <| fun h => hE (Prod.mk.inj h).2)⟩
            case measure => simp [intOf]; omega
        · -- form 5
          have hdec : dec k n = ⟨k + 1, 0, A, B, getF 5 n⟩ := by
            show (⟨k + 1, regN (hasD (FL k)) n 7, regN (hasA (FL k)) n 15, regN (hasB (FL k)) n 20, getF (FL k) n⟩ : Ins) = _
            rw [← hrf]
            show (⟨k + 1, regN false n 7, regN true n 15, regN true n 20, getF 5 n⟩ : Ins) = _
            simp only [regN_f, regN_t, HDAB.out.2.1, HDAB.out.2.2]
          have h8 := K8.out (k + 1) 0 A B (getF 5 n) (by omega) (by omega) (by omega) (by omega) (getF_b 5 n hn)
          obtain ⟨W, E, hWE⟩ : ∃ W E, put (k + 1) 0 A B (getF 5 n) = (W, E) := ⟨_, _, rfl⟩
          rw [hWE] at h8
          have h8 : ∀ w : World, Calls Tryd.prog 8 #[.agg #[.int .u8 ((k : Int) + 1), .int .u8 0, .int .u8 (A : Int), .int .u8 (B : Int), .int .i32 (getF 5 n)]] w fun en w' => en = .returned (.tuple #[.int .u32 (W : Int), .int .i64 (E : Int)]) ∧ Below w.heap.size w w' := fun w => by have := h8 w; unfold insV weV at this; rw [Int.natCast_add] at this; exact this
          have hput : (dec k n).put = (W, E) := by rw [hdec]; exact hWE
          have HP := Lib.hid hput; have HD := Lib.hid hdec; have H8 := Lib.hid h8
          clear hput hdec h8 hWE hrf
          obtain ⟨X0, hX0, lX0, cX0⟩ : ∃ m : Nat, m = n / 33554432 % 128 ∧ m < 128 ∧ ∀ w : World, Calls Tryd.prog 19 #[.int .u32 (n : Int), .int .u64 25, .int .u64 7] w fun en w' => en = .returned (.int .u32 (m : Int)) ∧ w = w' := ⟨_, rfl, Nat.mod_lt _ (by omega), fun w => bs_25_7 n hn w⟩
          have H0 := Lib.hid hX0; clear hX0; have C0 := Lib.hid cX0; clear cX0
          have y0 : (X0 : Int) * 32 % 4294967296 = X0 * 32 := by omega
          obtain ⟨X1, hX1, lX1, cX1⟩ : ∃ m : Nat, m = n / 128 % 32 ∧ m < 32 ∧ ∀ w : World, Calls Tryd.prog 19 #[.int .u32 (n : Int), .int .u64 7, .int .u64 5] w fun en w' => en = .returned (.int .u32 (m : Int)) ∧ w = w' := ⟨_, rfl, Nat.mod_lt _ (by omega), fun w => bs_7_5 n hn w⟩
          have H1 := Lib.hid hX1; clear hX1; have C1 := Lib.hid cX1; clear cX1
          obtain ⟨S0, s0, e0⟩ : ∃ S : Nat, S = X0 * 32 ∧ (X0 : Int) * 32 = (S : Int) := ⟨_, rfl, by simp⟩
          obtain ⟨S1, s1, e1⟩ := or32' S0 X1 0 5 1 32 (X1 * 1) rfl rfl rfl (by omega) lX1 (by omega)
          rw [Nat.mul_one] at e1 s1
          have kS := fun w => sg12 S1 (by omega) w
          have hX0 := H0.out; have hX1 := H1.out
          have hM : sgn S1 2048 = getF 5 n := by
            simp only [getF]
            congr 1
            omega
          rw [hM] at kS
          have KS := Lib.hid kS
          clear kS hM hX0 H0 hX1 H1 s0 s1
          generalize getF 5 n = M at *
          go_wp2_with fail
          refine (C0.out _).mono ?_
          rintro _ _ ⟨rfl, rfl⟩
          go_wp2_with fail
          refine (C1.out _).mono ?_
          rintro _ _ ⟨rfl, rfl⟩
          go_wp2_with fail
          refine (KS.out _).mono ?_
          rintro _ _ ⟨rfl, rfl⟩
          go_wp2_with fail
          refine (H8.out _).mono ?_
          rintro _ w2 ⟨rfl, b2⟩
          have hz3 : wr.heap.size + 1 + 1 ≤ w2.heap.size := by have := b2.size; simpa using this
          have hbel2 : Below w1.heap.size w1 w2 := (((hbel.alloc (by omega) _).alloc (by simp; omega) _).drew).trans (b2.mono (by simp; omega))
          have hB2 : Below w.heap.size w w2 := HB.out.trans (hbel2.mono (by omega))
          have hR2 : Below (w.heap.size + 1) (w.alloc (.cells #[.int .u8 0, .int .u8 0, .int .u8 0, .int .u8 0, .int .i32 0] 30)) w2 := HR.out.trans (hbel2.mono (by omega))
          obtain ⟨hc4, hf4⟩ := bcell b2
          obtain ⟨hc5, hf5⟩ := bcell hR2
          have hz4 : w.heap.size < w2.heap.size := by omega
          have hz5 : wr.heap.size + 1 < wr.heap.size + 1 + 1 := by omega
          clear b2 hR2
          by_cases hE : E = 0
          · subst hE
            by_cases hWn : W = n
            · subst hWn
              go_wp2_with fail
              exact bodyPost_ret (v := .tuple #[.agg #[.int .u8 ((k : Int) + 1), .int .u8 0, .int .u8 (A : Int), .int .u8 (B : Int), .int .i32 M], .int .i64 0]) (by simp [results, Tryd.results9, go_sem, hc5, hz0]) rfl ⟨by rw [dec_get hn HP.out, HD.out]; rfl, ((((hB2.setCell (Nat.le_refl _) _).setCell (Nat.le_refl _) _).setCell (Nat.le_refl _) _).setCell (Nat.le_refl _) _).setCell (Nat.le_refl _) _⟩
            · have hne : ((W : Int) == (n : Int)) = false := by simp; omega
              go_wp2_with fail
              go_roundw
              case rel => exact ⟨k + 1, by omega, by go_num, hbel2, Lib.hid (noStep hno.out HP.out <| fun h => hWn (Prod.mk.inj h).1)⟩
              case measure => simp [intOf]; omega
          · have hne : ((E : Int) == 0) = false := by simp; omega
            go_wp2_with fail
            go_roundw
            case rel => exact ⟨k + 1, by omega, by go_num, hbel2, Lib.hid (noStep hno.out HP.out <| fun h => hE (Prod.mk.inj h).2)⟩
            case measure => simp [intOf]; omega
        · -- form 6
          have hdec : dec k n = ⟨k + 1, 0, A, B, getF 6 n⟩ := by
            show (⟨k + 1, regN (hasD (FL k)) n 7, regN (hasA (FL k)) n 15, regN (hasB (FL k)) n 20, getF (FL k) n⟩ : Ins) = _
            rw [← hrf]
            show (⟨k + 1, regN false n 7, regN true n 15, regN true n 20, getF 6 n⟩ : Ins) = _
            simp only [regN_f, regN_t, HDAB.out.2.1, HDAB.out.2.2]
          have h8 := K8.out (k + 1) 0 A B (getF 6 n) (by omega) (by omega) (by omega) (by omega) (getF_b 6 n hn)
          obtain ⟨W, E, hWE⟩ : ∃ W E, put (k + 1) 0 A B (getF 6 n) = (W, E) := ⟨_, _, rfl⟩
          rw [hWE] at h8
          have h8 : ∀ w : World, Calls Tryd.prog 8 #[.agg #[.int .u8 ((k : Int) + 1), .int .u8 0, .int .u8 (A : Int), .int .u8 (B : Int), .int .i32 (getF 6 n)]] w fun en w' => en = .returned (.tuple #[.int .u32 (W : Int), .int .i64 (E : Int)]) ∧ Below w.heap.size w w' := fun w => by have := h8 w; unfold insV weV at this; rw [Int.natCast_add] at this; exact this
          have hput : (dec k n).put = (W, E) := by rw [hdec]; exact hWE
          have HP := Lib.hid hput; have HD := Lib.hid hdec; have H8 := Lib.hid h8
          clear hput hdec h8 hWE hrf
          obtain ⟨X0, hX0, lX0, cX0⟩ : ∃ m : Nat, m = n / 2147483648 % 2 ∧ m < 2 ∧ ∀ w : World, Calls Tryd.prog 19 #[.int .u32 (n : Int), .int .u64 31, .int .u64 1] w fun en w' => en = .returned (.int .u32 (m : Int)) ∧ w = w' := ⟨_, rfl, Nat.mod_lt _ (by omega), fun w => bs_31_1 n hn w⟩
          have H0 := Lib.hid hX0; clear hX0; have C0 := Lib.hid cX0; clear cX0
          have y0 : (X0 : Int) * 4096 % 4294967296 = X0 * 4096 := by omega
          obtain ⟨X1, hX1, lX1, cX1⟩ : ∃ m : Nat, m = n / 128 % 2 ∧ m < 2 ∧ ∀ w : World, Calls Tryd.prog 19 #[.int .u32 (n : Int), .int .u64 7, .int .u64 1] w fun en w' => en = .returned (.int .u32 (m : Int)) ∧ w = w' := ⟨_, rfl, Nat.mod_lt _ (by omega), fun w => bs_7_1 n hn w⟩
          have H1 := Lib.hid hX1; clear hX1; have C1 := Lib.hid cX1; clear cX1
          have y1 : (X1 : Int) * 2048 % 4294967296 = X1 * 2048 := by omega
          obtain ⟨X2, hX2, lX2, cX2⟩ : ∃ m : Nat, m = n / 33554432 % 64 ∧ m < 64 ∧ ∀ w : World, Calls Tryd.prog 19 #[.int .u32 (n : Int), .int .u64 25, .int .u64 6] w fun en w' => en = .returned (.int .u32 (m : Int)) ∧ w = w' := ⟨_, rfl, Nat.mod_lt _ (by omega), fun w => bs_25_6 n hn w⟩
          have H2 := Lib.hid hX2; clear hX2; have C2 := Lib.hid cX2; clear cX2
          have y2 : (X2 : Int) * 32 % 4294967296 = X2 * 32 := by omega
          obtain ⟨X3, hX3, lX3, cX3⟩ : ∃ m : Nat, m = n / 256 % 16 ∧ m < 16 ∧ ∀ w : World, Calls Tryd.prog 19 #[.int .u32 (n : Int), .int .u64 8, .int .u64 4] w fun en w' => en = .returned (.int .u32 (m : Int)) ∧ w = w' := ⟨_, rfl, Nat.mod_lt _ (by omega), fun w => bs_8_4 n hn w⟩
          have H3 := Lib.hid hX3; clear hX3; have C3 := Lib.hid cX3; clear cX3
          have y3 : (X3 : Int) * 2 % 4294967296 = X3 * 2 := by omega
          obtain ⟨S0, s0, e0⟩ : ∃ S : Nat, S = X0 * 4096 ∧ (X0 : Int) * 4096 = (S : Int) := ⟨_, rfl, by simp⟩
          obtain ⟨S1, s1, e1⟩ := or32' S0 X1 11 1 2048 2 (X1 * 2048) rfl rfl rfl (by omega) lX1 (by omega)
          rw [Int.natCast_mul] at e1
          have e1 : bits .or .u32 (S0 : Int) ((X1 : Int) * 2048) = (S1 : Int) := e1
          obtain ⟨S2, s2, e2⟩ := or32' S1 X2 5 6 32 64 (X2 * 32) rfl rfl rfl (by omega) lX2 (by omega)
          rw [Int.natCast_mul] at e2
          have e2 : bits .or .u32 (S1 : Int) ((X2 : Int) * 32) = (S2 : Int) := e2
          obtain ⟨S3, s3, e3⟩ := or32' S2 X3 1 4 2 16 (X3 * 2) rfl rfl rfl (by omega) lX3 (by omega)
          rw [Int.natCast_mul] at e3
          have e3 : bits .or .u32 (S2 : Int) ((X3 : Int) * 2) = (S3 : Int) := e3
          have kS := fun w => sg13 S3 (by omega) w
          have hX0 := H0.out; have hX1 := H1.out; have hX2 := H2.out; have hX3 := H3.out
          have hM : sgn S3 4096 = getF 6 n := by
            simp only [getF]
            congr 1
            omega
          rw [hM] at kS
          have KS := Lib.hid kS
          clear kS hM hX0 H0 hX1 H1 hX2 H2 hX3 H3 s0 s1 s2 s3
          generalize getF 6 n = M at *
          go_wp2_with fail
          refine (C0.out _).mono ?_
          rintro _ _ ⟨rfl, rfl⟩
          go_wp2_with fail
          refine (C1.out _).mono ?_
          rintro _ _ ⟨rfl, rfl⟩
          go_wp2_with fail
          refine (C2.out _).mono ?_
          rintro _ _ ⟨rfl, rfl⟩
          go_wp2_with fail
          refine (C3.out _).mono ?_
          rintro _ _ ⟨rfl, rfl⟩
          go_wp2_with fail
          refine (KS.out _).mono ?_
          rintro _ _ ⟨rfl, rfl⟩
          go_wp2_with fail
          refine (H8.out _).mono ?_
          rintro _ w2 ⟨rfl, b2⟩
          have hz3 : wr.heap.size + 1 + 1 ≤ w2.heap.size := by have := b2.size; simpa using this
          have hbel2 : Below w1.heap.size w1 w2 := (((hbel.alloc (by omega) _).alloc (by simp; omega) _).drew).trans (b2.mono (by simp; omega))
          have hB2 : Below w.heap.size w w2 := HB.out.trans (hbel2.mono (by omega))
          have hR2 : Below (w.heap.size + 1) (w.alloc (.cells #[.int .u8 0, .int .u8 0, .int .u8 0, .int .u8 0, .int .i32 0] 30)) w2 := HR.out.trans (hbel2.mono (by omega))
          obtain ⟨hc4, hf4⟩ := bcell b2
          obtain ⟨hc5, hf5⟩ := bcell hR2
          have hz4 : w.heap.size < w2.heap.size := by omega
          have hz5 : wr.heap.size + 1 < wr.heap.size + 1 + 1 := by omega
          clear b2 hR2
          by_cases hE : E = 0
          · subst hE
            by_cases hWn : W = n
            · subst hWn
              go_wp2_with fail
              exact bodyPost_ret (v := .tuple #[.agg #[.int .u8 ((k : Int) + 1), .int .u8 0, .int .u8 (A : Int), .int .u8 (B : Int), .int .i32 M], .int .i64 0]) (by simp [results, Tryd.results9, go_sem, hc5, hz0]) rfl ⟨by rw [dec_get hn HP.out, HD.out]; rfl, ((((hB2.setCell (Nat.le_refl _) _).setCell (Nat.le_refl _) _).setCell (Nat.le_refl _) _).setCell (Nat.le_refl _) _).setCell (Nat.le_refl _) _⟩
            · have hne : ((W : Int) == (n : Int)) = false := by simp; omega
              go_wp2_with fail
              go_roundw
              case rel => exact ⟨k + 1, by omega, by go_num, hbel2, Lib.hid (noStep hno.out HP.out <| fun h => hWn (Prod.mk.inj h).1)⟩
              case measure => simp [intOf]; omega
          · have hne : ((E : Int) == 0) = false := by simp; omega
            go_wp2_with fail
            go_roundw
            case rel => exact ⟨k + 1, by omega, by go_num, hbel2, Lib.hid (noStep hno.out HP.out <| fun h => hE (Prod.mk.inj h).2)⟩
            case measure => simp [intOf]; omega
        · -- form 7
          have hdec : dec k n = ⟨k + 1, D, A, B, getF 7 n⟩ := by
            show (⟨k + 1, regN (hasD (FL k)) n 7, regN (hasA (FL k)) n 15, regN (hasB (FL k)) n 20, getF (FL k) n⟩ : Ins) = _
            rw [← hrf]
            show (⟨k + 1, regN true n 7, regN true n 15, regN true n 20, getF 7 n⟩ : Ins) = _
            simp only [regN_t, HDAB.out.1, HDAB.out.2.1, HDAB.out.2.2]
          have h8 := K8.out (k + 1) D A B (getF 7 n) (by omega) (by omega) (by omega) (by omega) (getF_b 7 n hn)
          obtain ⟨W, E, hWE⟩ : ∃ W E, put (k + 1) D A B (getF 7 n) = (W, E) := ⟨_, _, rfl⟩
          rw [hWE] at h8
          have h8 : ∀ w : World, Calls Tryd.prog 8 #[.agg #[.int .u8 ((k : Int) + 1), .int .u8 (D : Int), .int .u8 (A : Int), .int .u8 (B : Int), .int .i32 (getF 7 n)]] w fun en w' => en = .returned (.tuple #[.int .u32 (W : Int), .int .i64 (E : Int)]) ∧ Below w.heap.size w w' := fun w => by have := h8 w; unfold insV weV at this; rw [Int.natCast_add] at this; exact this
          have hput : (dec k n).put = (W, E) := by rw [hdec]; exact hWE
          have HP := Lib.hid hput; have HD := Lib.hid hdec; have H8 := Lib.hid h8
          clear hput hdec h8 hWE hrf
          have z : getF 7 n = 0 := rfl
          rw [z] at H8 HD
          clear z
          go_wp2_with fail
          refine (H8.out _).mono ?_
          rintro _ w2 ⟨rfl, b2⟩
          have hz3 : wr.heap.size + 1 + 1 ≤ w2.heap.size := by have := b2.size; simpa using this
          have hbel2 : Below w1.heap.size w1 w2 := (((hbel.alloc (by omega) _).alloc (by simp; omega) _).drew).trans (b2.mono (by simp; omega))
          have hB2 : Below w.heap.size w w2 := HB.out.trans (hbel2.mono (by omega))
          have hR2 : Below (w.heap.size + 1) (w.alloc (.cells #[.int .u8 0, .int .u8 0, .int .u8 0, .int .u8 0, .int .i32 0] 30)) w2 := HR.out.trans (hbel2.mono (by omega))
          obtain ⟨hc4, hf4⟩ := bcell b2
          obtain ⟨hc5, hf5⟩ := bcell hR2
          have hz4 : w.heap.size < w2.heap.size := by omega
          have hz5 : wr.heap.size + 1 < wr.heap.size + 1 + 1 := by omega
          clear b2 hR2
          by_cases hE : E = 0
          · subst hE
            by_cases hWn : W = n
            · subst hWn
              go_wp2_with fail
              exact bodyPost_ret (v := .tuple #[.agg #[.int .u8 ((k : Int) + 1), .int .u8 (D : Int), .int .u8 (A : Int), .int .u8 (B : Int), .int .i32 0], .int .i64 0]) (by simp [results, Tryd.results9, go_sem, hc5, hz0]) rfl ⟨by rw [dec_get hn HP.out, HD.out]; rfl, ((((hB2.setCell (Nat.le_refl _) _).setCell (Nat.le_refl _) _).setCell (Nat.le_refl _) _).setCell (Nat.le_refl _) _).setCell (Nat.le_refl _) _⟩
            · have hne : ((W : Int) == (n : Int)) = false := by simp; omega
              go_wp2_with fail
              go_roundw
              case rel => exact ⟨k + 1, by omega, by go_num, hbel2, Lib.hid (noStep hno.out HP.out <| fun h => hWn (Prod.mk.inj h).1)⟩
              case measure => simp [intOf]; omega
          · have hne : ((E : Int) == 0) = false := by simp; omega
            go_wp2_with fail
            go_roundw
            case rel => exact ⟨k + 1, by omega, by go_num, hbel2, Lib.hid (noStep hno.out HP.out <| fun h => hE (Prod.mk.inj h).2)⟩
            case measure => simp [intOf]; omega
        · -- form 8
          have hdec : dec k n = ⟨k + 1, D, A, 0, getF 8 n⟩ := by
            show (⟨k + 1, regN (hasD (FL k)) n 7, regN (hasA (FL k)) n 15, regN (hasB (FL k)) n 20, getF (FL k) n⟩ : Ins) = _
            rw [← hrf]
            show (⟨k + 1, regN true n 7, regN true n 15, regN false n 20, getF 8 n⟩ : Ins) = _
            simp only [regN_t, regN_f, HDAB.out.1, HDAB.out.2.1]
          have h8 := K8.out (k + 1) D A 0 (getF 8 n) (by omega) (by omega) (by omega) (by omega) (getF_b 8 n hn)
          obtain ⟨W, E, hWE⟩ : ∃ W E, put (k + 1) D A 0 (getF 8 n) = (W, E) := ⟨_, _, rfl⟩
          rw [hWE] at h8
          have h8 : ∀ w : World, Calls Tryd.prog 8 #[.agg #[.int .u8 ((k : Int) + 1), .int .u8 (D : Int), .int .u8 (A : Int), .int .u8 0, .int .i32 (getF 8 n)]] w fun en w' => en = .returned (.tuple #[.int .u32 (W : Int), .int .i64 (E : Int)]) ∧ Below w.heap.size w w' := fun w => by have := h8 w; unfold insV weV at this; rw [Int.natCast_add] at this; exact this
          have hput : (dec k n).put = (W, E) := by rw [hdec]; exact hWE
          have HP := Lib.hid hput; have HD := Lib.hid hdec; have H8 := Lib.hid h8
          clear hput hdec h8 hWE hrf
          have z : getF 8 n = 0 := rfl
          rw [z] at H8 HD
          clear z
          go_wp2_with fail
          refine (H8.out _).mono ?_
          rintro _ w2 ⟨rfl, b2⟩
          have hz3 : wr.heap.size + 1 + 1 ≤ w2.heap.size := by have := b2.size; simpa using this
          have hbel2 : Below w1.heap.size w1 w2 := (((hbel.alloc (by omega) _).alloc (by simp; omega) _).drew).trans (b2.mono (by simp; omega))
          have hB2 : Below w.heap.size w w2 := HB.out.trans (hbel2.mono (by omega))
          have hR2 : Below (w.heap.size + 1) (w.alloc (.cells #[.int .u8 0, .int .u8 0, .int .u8 0, .int .u8 0, .int .i32 0] 30)) w2 := HR.out.trans (hbel2.mono (by omega))
          obtain ⟨hc4, hf4⟩ := bcell b2
          obtain ⟨hc5, hf5⟩ := bcell hR2
          have hz4 : w.heap.size < w2.heap.size := by omega
          have hz5 : wr.heap.size + 1 < wr.heap.size + 1 + 1 := by omega
          clear b2 hR2
          by_cases hE : E = 0
          · subst hE
            by_cases hWn : W = n
            · subst hWn
              go_wp2_with fail
              exact bodyPost_ret (v := .tuple #[.agg #[.int .u8 ((k : Int) + 1), .int .u8 (D : Int), .int .u8 (A : Int), .int .u8 0, .int .i32 0], .int .i64 0]) (by simp [results, Tryd.results9, go_sem, hc5, hz0]) rfl ⟨by rw [dec_get hn HP.out, HD.out]; rfl, ((((hB2.setCell (Nat.le_refl _) _).setCell (Nat.le_refl _) _).setCell (Nat.le_refl _) _).setCell (Nat.le_refl _) _).setCell (Nat.le_refl _) _⟩
            · have hne : ((W : Int) == (n : Int)) = false := by simp; omega
              go_wp2_with fail
              go_roundw
              case rel => exact ⟨k + 1, by omega, by go_num, hbel2, Lib.hid (noStep hno.out HP.out <| fun h => hWn (Prod.mk.inj h).1)⟩
              case measure => simp [intOf]; omega
          · have hne : ((E : Int) == 0) = false := by simp; omega
            go_wp2_with fail
            go_roundw
            case rel => exact ⟨k + 1, by omega, by go_num, hbel2, Lib.hid (noStep hno.out HP.out <| fun h => hE (Prod.mk.inj h).2)⟩
            case measure => simp [intOf]; omega
        · -- form 9
          have hdec : dec k n = ⟨k + 1, D, A, 0, getF 9 n⟩ := by
            show (⟨k + 1, regN (hasD (FL k)) n 7, regN (hasA (FL k)) n 15, regN (hasB (FL k)) n 20, getF (FL k) n⟩ : Ins) = _
            rw [← hrf]
            show (⟨k + 1, regN true n 7, regN true n 15, regN false n 20, getF 9 n⟩ : Ins) = _
            simp only [regN_t, regN_f, HDAB.out.1, HDAB.out.2.1]
          have h8 := K8.out (k + 1) D A 0 (getF 9 n) (by omega) (by omega) (by omega) (by omega) (getF_b 9 n hn)
          obtain ⟨W, E, hWE⟩ : ∃ W E, put (k + 1) D A 0 (getF 9 n) = (W, E) := ⟨_, _, rfl⟩
          rw [hWE] at h8
          have h8 : ∀ w : World, Calls Tryd.prog 8 #[.agg #[.int .u8 ((k : Int) + 1), .int .u8 (D : Int), .int .u8 (A : Int), .int .u8 0, .int .i32 (getF 9 n)]] w fun en w' => en = .returned (.tuple #[.int .u32 (W : Int), .int .i64 (E : Int)]) ∧ Below w.heap.size w w' := fun w => by have := h8 w; unfold insV weV at this; rw [Int.natCast_add] at this; exact this
          have hput : (dec k n).put = (W, E) := by rw [hdec]; exact hWE
          have HP := Lib.hid hput; have HD := Lib.hid hdec; have H8 := Lib.hid h8
          clear hput hdec h8 hWE hrf
          have l0 : n / 1048576 % 32 < 32 := Nat.mod_lt _ (by omega)
          have k20 := fun w => bs_20_5 n hn w
          have z : getF 9 n = ((n / 1048576 % 32 : Nat) : Int) := rfl
          rw [z] at H8 HD
          clear z
          generalize n / 1048576 % 32 = X at *
          have C0 := Lib.hid k20; clear k20
          go_wp2_with fail
          refine (C0.out _).mono ?_
          rintro _ _ ⟨rfl, rfl⟩
          go_wp2_with fail
          refine (H8.out _).mono ?_
          rintro _ w2 ⟨rfl, b2⟩
          have hz3 : wr.heap.size + 1 + 1 ≤ w2.heap.size := by have := b2.size; simpa using this
          have hbel2 : Below w1.heap.size w1 w2 := (((hbel.alloc (by omega) _).alloc (by simp; omega) _).drew).trans (b2.mono (by simp; omega))
          have hB2 : Below w.heap.size w w2 := HB.out.trans (hbel2.mono (by omega))
          have hR2 : Below (w.heap.size + 1) (w.alloc (.cells #[.int .u8 0, .int .u8 0, .int .u8 0, .int .u8 0, .int .i32 0] 30)) w2 := HR.out.trans (hbel2.mono (by omega))
          obtain ⟨hc4, hf4⟩ := bcell b2
          obtain ⟨hc5, hf5⟩ := bcell hR2
          have hz4 : w.heap.size < w2.heap.size := by omega
          have hz5 : wr.heap.size + 1 < wr.heap.size + 1 + 1 := by omega
          clear b2 hR2
          by_cases hE : E = 0
          · subst hE
            by_cases hWn : W = n
            · subst hWn
              go_wp2_with fail
              exact bodyPost_ret (v := .tuple #[.agg #[.int .u8 ((k : Int) + 1), .int .u8 (D : Int), .int .u8 (A : Int), .int .u8 0, .int .i32 (X : Int)], .int .i64 0]) (by simp [results, Tryd.results9, go_sem, hc5, hz0]) rfl ⟨by rw [dec_get hn HP.out, HD.out]; rfl, ((((hB2.setCell (Nat.le_refl _) _).setCell (Nat.le_refl _) _).setCell (Nat.le_refl _) _).setCell (Nat.le_refl _) _).setCell (Nat.le_refl _) _⟩
            · have hne : ((W : Int) == (n : Int)) = false := by simp; omega
              go_wp2_with fail
              go_roundw
              case rel => exact ⟨k + 1, by omega, by go_num, hbel2, Lib.hid (noStep hno.out HP.out <| fun h => hWn (Prod.mk.inj h).1)⟩
              case measure => simp [intOf]; omega
          · have hne : ((E : Int) == 0) = false := by simp; omega
            go_wp2_with fail
            go_roundw
            case rel => exact ⟨k + 1, by omega, by go_num, hbel2, Lib.hid (noStep hno.out HP.out <| fun h => hE (Prod.mk.inj h).2)⟩
            case measure => simp [intOf]; omega
        · -- form 10
          have hdec : dec k n = ⟨k + 1, 0, 0, 0, getF 10 n⟩ := by
            show (⟨k + 1, regN (hasD (FL k)) n 7, regN (hasA (FL k)) n 15, regN (hasB (FL k)) n 20, getF (FL k) n⟩ : Ins) = _
            rw [← hrf]
            show (⟨k + 1, regN false n 7, regN false n 15, regN false n 20, getF 10 n⟩ : Ins) = _
            simp only [regN_f]
          have h8 := K8.out (k + 1) 0 0 0 (getF 10 n) (by omega) (by omega) (by omega) (by omega) (getF_b 10 n hn)
          obtain ⟨W, E, hWE⟩ : ∃ W E, put (k + 1) 0 0 0 (getF 10 n) = (W, E) := ⟨_, _, rfl⟩
          rw [hWE] at h8
          have h8 : ∀ w : World, Calls Tryd.prog 8 #[.agg #[.int .u8 ((k : Int) + 1), .int .u8 0, .int .u8 0, .int .u8 0, .int .i32 (getF 10 n)]] w fun en w' => en = .returned (.tuple #[.int .u32 (W : Int), .int .i64 (E : Int)]) ∧ Below w.heap.size w w' := fun w => by have := h8 w; unfold insV weV at this; rw [Int.natCast_add] at this; exact this
          have hput : (dec k n).put = (W, E) := by rw [hdec]; exact hWE
          have HP := Lib.hid hput; have HD := Lib.hid hdec; have H8 := Lib.hid h8
          clear hput hdec h8 hWE hrf
          have z : getF 10 n = 0 := rfl
          rw [z] at H8 HD
          clear z
          go_wp2_with fail
          refine (H8.out _).mono ?_
          rintro _ w2 ⟨rfl, b2⟩
          have hz3 : wr.heap.size + 1 + 1 ≤ w2.heap.size := by have := b2.size; simpa using this
          have hbel2 : Below w1.heap.size w1 w2 := (((hbel.alloc (by omega) _).alloc (by simp; omega) _).drew).trans (b2.mono (by simp; omega))
          have hB2 : Below w.heap.size w w2 := HB.out.trans (hbel2.mono (by omega))
          have hR2 : Below (w.heap.size + 1) (w.alloc (.cells #[.int .u8 0, .int .u8 0, .int .u8 0, .int .u8 0, .int .i32 0] 30)) w2 := HR.out.trans (hbel2.mono (by omega))
          obtain ⟨hc4, hf4⟩ := bcell b2
          obtain ⟨hc5, hf5⟩ := bcell hR2
          have hz4 : w.heap.size < w2.heap.size := by omega
          have hz5 : wr.heap.size + 1 < wr.heap.size + 1 + 1 := by omega
          clear b2 hR2
          by_cases hE : E = 0
          · subst hE
            by_cases hWn : W = n
            · subst hWn
              go_wp2_with fail
              exact bodyPost_ret (v := .tuple #[.agg #[.int .u8 ((k : Int) + 1), .int .u8 0, .int .u8 0, .int .u8 0, .int .i32 0], .int .i64 0]) (by simp [results, Tryd.results9, go_sem, hc5, hz0]) rfl ⟨by rw [dec_get hn HP.out, HD.out]; rfl, ((((hB2.setCell (Nat.le_refl _) _).setCell (Nat.le_refl _) _).setCell (Nat.le_refl _) _).setCell (Nat.le_refl _) _).setCell (Nat.le_refl _) _⟩
            · have hne : ((W : Int) == (n : Int)) = false := by simp; omega
              go_wp2_with fail
              go_roundw
              case rel => exact ⟨k + 1, by omega, by go_num, hbel2, Lib.hid (noStep hno.out HP.out <| fun h => hWn (Prod.mk.inj h).1)⟩
              case measure => simp [intOf]; omega
          · have hne : ((E : Int) == 0) = false := by simp; omega
            go_wp2_with fail
            go_roundw
            case rel => exact ⟨k + 1, by omega, by go_num, hbel2, Lib.hid (noStep hno.out HP.out <| fun h => hE (Prod.mk.inj h).2)⟩
            case measure => simp [intOf]; omega
    · obtain rfl : k = 68 := by omega
      obtain ⟨hcr, hfr⟩ := bcell hRr
      have hE : get n = (Ins.zero, 5) := by
        rcases get_err n with ⟨i, hi⟩ | hi
        · exfalso
          have h2 := hi
          unfold get at h2
          split at h2
          · exact absurd (Prod.mk.inj h2).2 (by decide)
          · rename_i h3
            split at h2
            · rename_i h4
              exact hno.out _ (hit_opL n 68 (by omega) h3).2 h4
            · exact absurd (Prod.mk.inj h2).2 (by decide)
        · exact hi
      have HE := Lib.hid hE
      clear hE hno
      go_wp2_with fail
      exact bodyPost_ret (v := ieV (Ins.zero, 5)) (by simp [ieV, Ins.val, insV, Ins.zero, results, Tryd.results9, go_sem, hcr, hz0]) rfl ⟨by rw [HE.out], ((((hBr.setCell (Nat.le_refl _) _).setCell (Nat.le_refl _) _).setCell (Nat.le_refl _) _).setCell (Nat.le_refl _) _).setCell (Nat.le_refl _) _⟩
end Go.Proofs.YtkiojljopigldaaDoor
