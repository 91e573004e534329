import Derived.Test.YtnkoknfihhdelaaGreatDoorKA
namespace Go.Proofs.YtnkoknfihhdelaaGreatDoor.Ca
open Go.ChangeShapes Go.WideShapes Go.ChangeAt Go.RowKit
set_option linter.unusedVariables false
set_option maxRecDepth 100000
theorem c11 (e b t : Nat) (he : e < 256) (hb : b < 65536) (ht : t < 65536) (w : World) :
    Calls Tryz.prog 152 #[bnd e b t] w fun en w' => en = .returned (.int .u64 ((ln (e % 16) (b % 512) (t % 512) : Nat) : Int)) ∧ Below w.heap.size w w' := by
  obtain ⟨x, hx⟩ : ∃ x, e % 16 = x := ⟨_, rfl⟩
  obtain ⟨y, hy⟩ : ∃ y, b % 512 = y := ⟨_, rfl⟩
  obtain ⟨z, hz⟩ : ∃ z, t % 512 = z := ⟨_, rfl⟩
  have h16 : x < 16 := by omega
  have h512 : y < 512 := by omega
  have h513 : z < 512 := by omega
  have hc := c20 e b t he hb ht
  rw [hx, hy, hz] at hc
  rw [hx, hy, hz]
  clear hx hy hz
  have HC := Lib.hid hc
  clear hc
  have k1 : bits BinOp.and IntKind.u32 (((z : Int) - (y : Int)) % 4294967296) 511 = (((z + 512 - y) % 512 : Nat) : Int) := by
    rw [show (((z : Int) - (y : Int)) % 4294967296) = (((z + 4294967296 - y) % 4294967296 : Nat) : Int) by omega, and511_32 _ (by omega)]; omega
  have l1 : (z + 512 - y) % 512 < 512 := by omega
  have fin : IntKind.u64.wrap ((((z + 512 - y) % 512 : Nat) : Int) * 2 ^ x) = ((ln x y z : Nat) : Int) := by
    have h := ln_le x y z h16
    rw [IntKind.wrap_u64]
    unfold ln at *
    rw [show (((z + 512 - y) % 512 : Nat) : Int) * 2 ^ x = (((z + 512 - y) % 512 * 2 ^ x : Nat) : Int) by simp]
    generalize (z + 512 - y) % 512 * 2 ^ x = q at *
    omega
  generalize (z + 512 - y) % 512 = d at *
  have Fin := Lib.hid fin
  clear fin
  go_enter Tryz.func152, Tryz.ntmps152
  go_wp2_with fail
  refine (HC.out _).mono ?_
  rintro en w1 ⟨rfl, hb1⟩
  have hB : Below w.heap.size w w1 := ((Below.refl _ _).alloc (Nat.le_refl _) _).trans (hb1.mono (by simp))
  clear hb1
  go_wp2_with fail
  go_ret
  exact ⟨ret1 Fin.out, hB⟩
theorem c12 (e b t : Nat) (he : e < 256) (hb : b < 65536) (ht : t < 65536) (w : World) :
    Calls Tryz.prog 86 #[bnd e b t] w fun en w' => en = .returned (.int .u64 ((ln (e % 16) (b % 512) (t % 512) : Nat) : Int)) ∧ Below w.heap.size w w' := by
  obtain ⟨x, hx⟩ : ∃ x, e % 16 = x := ⟨_, rfl⟩
  obtain ⟨y, hy⟩ : ∃ y, b % 512 = y := ⟨_, rfl⟩
  obtain ⟨z, hz⟩ : ∃ z, t % 512 = z := ⟨_, rfl⟩
  have h16 : x < 16 := by omega
  have h512 : y < 512 := by omega
  have h513 : z < 512 := by omega
  rw [hx, hy, hz]
  have rx : (e : Int) % 16 = (x : Int) := by omega
  have ry : (b : Int) % 512 = (y : Int) := by omega
  have rz : (t : Int) % 512 = (z : Int) := by omega
  clear hx hy hz
  have hP := c21 x (by omega)
  have fin : IntKind.u64.wrap ((if (z : Int) - (y : Int) < 0 then (z : Int) - (y : Int) + 512 else (z : Int) - (y : Int)) * ((2 ^ x : Nat) : Int)) = ((ln x y z : Nat) : Int) := by
    have h := ln_le x y z h16
    rw [IntKind.wrap_u64, show (if (z : Int) - (y : Int) < 0 then (z : Int) - (y : Int) + 512 else (z : Int) - (y : Int)) = (((z + 512 - y) % 512 : Nat) : Int) by split <;> omega]
    unfold ln at *
    rw [← Int.natCast_mul]
    generalize (z + 512 - y) % 512 * 2 ^ x = q at *
    omega
  have ⟨p1, p2⟩ := p40 x h16
  generalize (2 : Nat) ^ x = p at *
  have HP := Lib.hid hP
  clear hP
  by_cases hlt : (z : Int) - (y : Int) < 0
  · rw [if_pos hlt] at fin
    have Fin := Lib.hid fin
    clear fin
    go_enter Tryz.func86, Tryz.ntmps86
    go_wp2
    go_quiet (fail)
    go_wp2_with fail
    refine (HP.out _).mono ?_
    rintro en w1 ⟨rfl, rfl⟩
    go_wp2_with fail
    go_ret
    exact ⟨ret1 Fin.out, below_drewN ((Below.refl _ _).alloc (Nat.le_refl _) _) _⟩
  · rw [if_neg hlt] at fin
    have Fin := Lib.hid fin
    clear fin
    go_enter Tryz.func86, Tryz.ntmps86
    go_wp2
    go_quiet (fail)
    go_wp2_with fail
    refine (HP.out _).mono ?_
    rintro en w1 ⟨rfl, rfl⟩
    go_wp2_with fail
    go_ret
    exact ⟨ret1 Fin.out, below_drewN ((Below.refl _ _).alloc (Nat.le_refl _) _) _⟩
theorem bcell {W w1 : World} (hb : Below W.heap.size W w1) : (∀ b o, b < W.heap.size → w1.cell? ⟨b, o, none⟩ = W.cell? ⟨b, o, none⟩) ∧ (∀ b o, b < W.heap.size → w1.frozen? ⟨b, o, none⟩ = W.frozen? ⟨b, o, none⟩) :=
  ⟨fun b o h => hb.cell (p := ⟨b, o, none⟩) h, fun b o h => hb.frozen (p := ⟨b, o, none⟩) h⟩
def At3 (w : World) (k : Nat) (e b t : Nat) : Prop := w.cell? ⟨k, 0, none⟩ = some (.int .u8 (e : Int)) ∧ w.cell? ⟨k, 1, none⟩ = some (.int .u16 (b : Int)) ∧ w.cell? ⟨k, 2, none⟩ = some (.int .u16 (t : Int))
theorem retb {a b : Bool} (h : a = b) : Ending.returned (.bool a) = .returned (.bool b) := by rw [h]
theorem ofbool {A C : Nat} : ((A : Int) == (C : Int)) = decide (A = C) := by
  rw [Bool.eq_iff_iff]; simp; omega
theorem keep3 {w0 wp w1 : World} {k : Nat} {v0 v1 v2 : Value} (h : Below w0.heap.size w0 wp ∧ k < wp.heap.size ∧ wp.cell? ⟨k, 0, none⟩ = some v0 ∧ wp.cell? ⟨k, 1, none⟩ = some v1 ∧ wp.cell? ⟨k, 2, none⟩ = some v2) (hb : Below wp.heap.size wp w1) :
    Below w0.heap.size w0 w1 ∧ k < w1.heap.size ∧ w1.cell? ⟨k, 0, none⟩ = some v0 ∧ w1.cell? ⟨k, 1, none⟩ = some v1 ∧ w1.cell? ⟨k, 2, none⟩ = some v2 := by
  obtain ⟨h1, h2, h3, h4, h5⟩ := h
  refine ⟨h1.trans (hb.mono h1.size), Nat.lt_of_lt_of_le h2 hb.size, ?_, ?_, ?_⟩
  · rw [hb.cell (p := ⟨k, 0, none⟩) h2]; exact h3
  · rw [hb.cell (p := ⟨k, 1, none⟩) h2]; exact h4
  · rw [hb.cell (p := ⟨k, 2, none⟩) h2]; exact h5
set_option maxHeartbeats 1000000 in
theorem c13 (e b t a c : Nat) (he : e < 256) (hb : b < 65536) (ht : t < 65536) (ha : a < 4294967296) (hc : c < 4294967296) (w : World) :
    Calls Tryz.prog 130 #[bnd e b t, .int .u32 (a : Int), .int .u32 (c : Int)] w fun en w' => en = .returned (.bool (decide (bs (e % 16) (b % 512) a = bs (e % 16) (b % 512) c))) ∧ Below w.heap.size w w' := by
  have h1 := c9 e b t a he hb ht ha
  have h2 := c9 e b t c he hb ht hc
  generalize bs (e % 16) (b % 512) a = A at *
  generalize bs (e % 16) (b % 512) c = C at *
  have H1 := Lib.hid h1
  have H2 := Lib.hid h2
  clear h1 h2
  go_enter Tryz.func130, Tryz.ntmps130
  go_wp2
  go_region_held3 (fun w' => Below w.heap.size w w' ∧ w.heap.size < w'.heap.size ∧ w'.cell? ⟨w.heap.size, 0, none⟩ = some (.int .u8 (e : Int)) ∧ w'.cell? ⟨w.heap.size, 1, none⟩ = some (.int .u16 (b : Int)) ∧ w'.cell? ⟨w.heap.size, 2, none⟩ = some (.int .u16 (t : Int)))
    (first | exact ⟨((Below.refl _ _).alloc (Nat.le_refl _) _).drew, by simp, by simp, by simp, by simp⟩ | exact keep3 (by assumption) hbx)
    (first | (go_at_call 151; (with_reducible refine (H1.out _).mono ?_); rintro e1 w1 ⟨rfl, hbx⟩) | (go_at_call 151; (with_reducible refine (H2.out _).mono ?_); rintro e2 w2 ⟨rfl, hbx⟩))
  have hB : Below w.heap.size w w2 := And.left (by assumption)
  go_wp2
  go_ret
  exact ⟨retb ofbool, hB⟩
set_option maxHeartbeats 1000000 in
theorem c14 (e b t a c : Nat) (he : e < 256) (hb : b < 65536) (ht : t < 65536) (ha : a < 4294967296) (hc : c < 4294967296) (w : World) :
    Calls Tryz.prog 66 #[bnd e b t, .int .u32 (a : Int), .int .u32 (c : Int)] w fun en w' => en = .returned (.bool (decide (bs (e % 16) (b % 512) a = bs (e % 16) (b % 512) c))) ∧ Below w.heap.size w w' := by
  have h1 := c10 e b t a he hb ht ha
  have h2 := c10 e b t c he hb ht hc
  generalize bs (e % 16) (b % 512) a = A at *
  generalize bs (e % 16) (b % 512) c = C at *
  have H1 := Lib.hid h1
  have H2 := Lib.hid h2
  clear h1 h2
  go_enter Tryz.func66, Tryz.ntmps66
  go_wp2
  go_region_held3 (fun w' => Below w.heap.size w w' ∧ w.heap.size < w'.heap.size ∧ w'.cell? ⟨w.heap.size, 0, none⟩ = some (.int .u8 (e : Int)) ∧ w'.cell? ⟨w.heap.size, 1, none⟩ = some (.int .u16 (b : Int)) ∧ w'.cell? ⟨w.heap.size, 2, none⟩ = some (.int .u16 (t : Int)))
    (first | exact ⟨((Below.refl _ _).alloc (Nat.le_refl _) _).drew, by simp, by simp, by simp, by simp⟩ | exact keep3 (by assumption) hbx)
    (first | (go_at_call 85; (with_reducible refine (H1.out _).mono ?_); rintro e1 w1 ⟨rfl, hbx⟩) | (go_at_call 85; (with_reducible refine (H2.out _).mono ?_); rintro e2 w2 ⟨rfl, hbx⟩))
  have hB : Below w.heap.size w w2 := And.left (by assumption)
  go_wp2
  go_ret
  exact ⟨retb ofbool, hB⟩

theorem init3 {w w1 : World} {v0 v1 v2 : Value} {T : TypeId} (hb : Below (w.alloc (.cells #[v0, v1, v2] T)).heap.size (w.alloc (.cells #[v0, v1, v2] T)) w1) :
    Below w.heap.size w w1 ∧ w.heap.size < w1.heap.size ∧ w1.cell? ⟨w.heap.size, 0, none⟩ = some v0 ∧ w1.cell? ⟨w.heap.size, 1, none⟩ = some v1 ∧ w1.cell? ⟨w.heap.size, 2, none⟩ = some v2 :=
  keep3 ⟨(Below.refl _ _).alloc (Nat.le_refl _) _, by simp, by simp, by simp, by simp⟩ hb
theorem wi_no1 {x y z a at' n : Nat} (h : 1099511627776 < at') : wi x y z a at' n = false := by unfold wi; simp; omega
theorem wi_no2 {x y z a at' n : Nat} (h : 1099511627776 < n) : wi x y z a at' n = false := by unfold wi; simp; omega
set_option maxHeartbeats 1000000 in
theorem c15 (e b t a at' n : Nat) (he : e < 256) (hb : b < 65536) (ht : t < 65536) (ha : a < 4294967296) (h1 : at' < 18446744073709551616) (h2 : n < 18446744073709551616) (w : World) :
    Calls Tryz.prog 125 #[bnd e b t, .int .u32 (a : Int), .int .u64 (at' : Int), .int .u64 (n : Int)] w fun en w' => en = .returned (.bool (wi (e % 16) (b % 512) (t % 512) a at' n)) ∧ Below w.heap.size w w' := by
  by_cases g1 : 1099511627776 < at'
  · rw [wi_no1 g1]
    go_enter Tryz.func125, Tryz.ntmps125
    go_wp2
    go_ret
    exact ⟨rfl, (Below.refl _ _).alloc (Nat.le_refl _) _⟩
  by_cases g2 : 1099511627776 < n
  · rw [wi_no2 g2]
    go_enter Tryz.func125, Tryz.ntmps125
    go_wp2
    go_ret
    exact ⟨rfl, (Below.refl _ _).alloc (Nat.le_refl _) _⟩
  have hA := bs_lt (e % 16) (b % 512) a (by omega) (by omega) ha
  have hL := ln_le (e % 16) (b % 512) (t % 512) (by omega)
  have k1 := c9 e b t a he hb ht ha
  have k2 := c11 e b t he hb ht
  have kw : wi (e % 16) (b % 512) (t % 512) a at' n = decide (bs (e % 16) (b % 512) a ≤ at' ∧ at' + n ≤ bs (e % 16) (b % 512) a + ln (e % 16) (b % 512) (t % 512)) := by unfold wi; exact decide_eq_decide.2 (by omega)
  rw [kw]
  clear kw
  generalize bs (e % 16) (b % 512) a = A at *
  generalize ln (e % 16) (b % 512) (t % 512) = L at *
  have K1 := Lib.hid k1
  have K2 := Lib.hid k2
  clear k1 k2
  by_cases g3 : A ≤ at'
  · go_enter Tryz.func125, Tryz.ntmps125
    go_wp2_with fail
    refine (K1.out _).mono ?_
    rintro en w1 ⟨rfl, hb1⟩
    obtain ⟨hB, hz, c0, c1, c2⟩ := init3 hb1
    clear hb1
    go_wp2_with fail
    refine (K2.out _).mono ?_
    rintro en w2 ⟨rfl, hb2⟩
    have hB2 := hB.trans (hb2.mono hB.size)
    clear hb2
    go_wp2
    go_ret
    exact ⟨retb (by rw [Bool.eq_iff_iff]; simp; omega), hB2⟩
  · go_enter Tryz.func125, Tryz.ntmps125
    go_wp2_with fail
    refine (K1.out _).mono ?_
    rintro en w1 ⟨rfl, hb1⟩
    obtain ⟨hB, hz, c0, c1, c2⟩ := init3 hb1
    clear hb1
    go_wp2_with fail
    go_ret
    exact ⟨retb (by rw [Bool.eq_iff_iff]; simp; omega), hB⟩
set_option maxHeartbeats 1000000 in
theorem c16 (e b t a at' n : Nat) (he : e < 256) (hb : b < 65536) (ht : t < 65536) (ha : a < 4294967296) (h1 : at' < 18446744073709551616) (h2 : n < 18446744073709551616) (w : World) :
    Calls Tryz.prog 63 #[bnd e b t, .int .u32 (a : Int), .int .u64 (at' : Int), .int .u64 (n : Int)] w fun en w' => en = .returned (.bool (wi (e % 16) (b % 512) (t % 512) a at' n)) ∧ Below w.heap.size w w' := by
  by_cases g1 : 1099511627776 < at'
  · rw [wi_no1 g1]
    go_enter Tryz.func63, Tryz.ntmps63
    go_wp2
    go_ret
    exact ⟨rfl, (Below.refl _ _).alloc (Nat.le_refl _) _⟩
  by_cases g2 : 1099511627776 < n
  · rw [wi_no2 g2]
    go_enter Tryz.func63, Tryz.ntmps63
    go_wp2
    go_ret
    exact ⟨rfl, (Below.refl _ _).alloc (Nat.le_refl _) _⟩
  have hA := bs_lt (e % 16) (b % 512) a (by omega) (by omega) ha
  have hL := ln_le (e % 16) (b % 512) (t % 512) (by omega)
  have k1 := c10 e b t a he hb ht ha
  have k2 := c12 e b t he hb ht
  have kw : wi (e % 16) (b % 512) (t % 512) a at' n = decide (bs (e % 16) (b % 512) a ≤ at' ∧ at' + n ≤ bs (e % 16) (b % 512) a + ln (e % 16) (b % 512) (t % 512)) := by unfold wi; exact decide_eq_decide.2 (by omega)
  rw [kw]
  clear kw
  generalize bs (e % 16) (b % 512) a = A at *
  generalize ln (e % 16) (b % 512) (t % 512) = L at *
  have K1 := Lib.hid k1
  have K2 := Lib.hid k2
  clear k1 k2
  by_cases g3 : A ≤ at'
  · by_cases g4 : at' ≤ A + L
    all_goals
      go_enter Tryz.func63, Tryz.ntmps63
      go_wp2_with fail
      refine (K1.out _).mono ?_
      rintro en w1 ⟨rfl, hb1⟩
      obtain ⟨hB, hz, c0, c1, c2⟩ := init3 hb1
      clear hb1
      go_wp2_with fail
      refine (K2.out _).mono ?_
      rintro en w2 ⟨rfl, hb2⟩
      have hB2 := hB.trans (hb2.mono hB.size)
      clear hb2
      go_wp2
      go_ret
      exact ⟨retb (by rw [Bool.eq_iff_iff]; simp; omega), hB2⟩
  · go_enter Tryz.func63, Tryz.ntmps63
    go_wp2_with fail
    refine (K1.out _).mono ?_
    rintro en w1 ⟨rfl, hb1⟩
    obtain ⟨hB, hz, c0, c1, c2⟩ := init3 hb1
    clear hb1
    go_wp2_with fail
    refine (K2.out _).mono ?_
    rintro en w2 ⟨rfl, hb2⟩
    have hB2 := hB.trans (hb2.mono hB.size)
    clear hb2
    go_wp2
    go_ret
    exact ⟨retb (by rw [Bool.eq_iff_iff]; simp; omega), hB2⟩
end Go.Proofs.YtnkoknfihhdelaaGreatDoor.Ca
