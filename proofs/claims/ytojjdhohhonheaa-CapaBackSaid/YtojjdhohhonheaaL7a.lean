import Derived.Test.YtojjdhohhonheaaG
import Derived.Test.YtojjdhohhonheaaM
import Derived.Test.YtojjdhohhonheaaR
namespace Go.Proofs.Ytojjdhohhonheaa
open Go.ChangeShapes Go.WideShapes Go.ChangeAt Go.RowKit
set_option linter.unusedVariables false
theorem keepo {w0 wp w1 : World} {k o0 o1 o2 o3 o4 o5 o6 : Nat} {v0 v1 v2 v3 v4 v5 v6 : Value} (h : Below w0.heap.size w0 wp ∧ k < wp.heap.size ∧ wp.cell? ⟨k, o0, none⟩ = some v0 ∧ wp.cell? ⟨k, o1, none⟩ = some v1 ∧ wp.cell? ⟨k, o2, none⟩ = some v2 ∧ wp.cell? ⟨k, o3, none⟩ = some v3 ∧ wp.cell? ⟨k, o4, none⟩ = some v4 ∧ wp.cell? ⟨k, o5, none⟩ = some v5 ∧ wp.cell? ⟨k, o6, none⟩ = some v6) (hb : Below wp.heap.size wp w1) :
    Below w0.heap.size w0 w1 ∧ k < w1.heap.size ∧ w1.cell? ⟨k, o0, none⟩ = some v0 ∧ w1.cell? ⟨k, o1, none⟩ = some v1 ∧ w1.cell? ⟨k, o2, none⟩ = some v2 ∧ w1.cell? ⟨k, o3, none⟩ = some v3 ∧ w1.cell? ⟨k, o4, none⟩ = some v4 ∧ w1.cell? ⟨k, o5, none⟩ = some v5 ∧ w1.cell? ⟨k, o6, none⟩ = some v6 := by
  obtain ⟨h1, h2, q0, q1, q2, q3, q4, q5, q6⟩ := h
  have hc : ∀ o, w1.cell? ⟨k, o, none⟩ = wp.cell? ⟨k, o, none⟩ := fun o => hb.cell (p := ⟨k, o, none⟩) h2
  exact ⟨h1.trans (hb.mono h1.size), Nat.lt_of_lt_of_le h2 hb.size, by rw [hc]; exact q0, by rw [hc]; exact q1, by rw [hc]; exact q2, by rw [hc]; exact q3, by rw [hc]; exact q4, by rw [hc]; exact q5, by rw [hc]; exact q6⟩
theorem keep1o {w0 wp w1 : World} {k o0 : Nat} {v0 : Value} (h : Below w0.heap.size w0 wp ∧ k < wp.heap.size ∧ wp.cell? ⟨k, o0, none⟩ = some v0) (hb : Below wp.heap.size wp w1) :
    Below w0.heap.size w0 w1 ∧ k < w1.heap.size ∧ w1.cell? ⟨k, o0, none⟩ = some v0 := by
  obtain ⟨h1, h2, q0⟩ := h
  have hc : ∀ o, w1.cell? ⟨k, o, none⟩ = wp.cell? ⟨k, o, none⟩ := fun o => hb.cell (p := ⟨k, o, none⟩) h2
  exact ⟨h1.trans (hb.mono h1.size), Nat.lt_of_lt_of_le h2 hb.size, by rw [hc]; exact q0⟩
theorem keep7o {A1 A2 : World} {k1 k2 o0 o1 o2 o3 o4 o5 o6 : Nat} {u0 u1 u2 u3 u4 u5 u6 v0 v1 v2 v3 v4 v5 v6 : Value} {wp w1 : World}
    (h : (Below A1.heap.size A1 wp ∧ k1 < wp.heap.size ∧ wp.cell? ⟨k1, 0, none⟩ = some u0 ∧ wp.cell? ⟨k1, 1, none⟩ = some u1 ∧ wp.cell? ⟨k1, 2, none⟩ = some u2 ∧ wp.cell? ⟨k1, 3, none⟩ = some u3 ∧ wp.cell? ⟨k1, 4, none⟩ = some u4 ∧ wp.cell? ⟨k1, 5, none⟩ = some u5 ∧ wp.cell? ⟨k1, 6, none⟩ = some u6) ∧ (Below A2.heap.size A2 wp ∧ k2 < wp.heap.size ∧ wp.cell? ⟨k2, o0, none⟩ = some v0 ∧ wp.cell? ⟨k2, o1, none⟩ = some v1 ∧ wp.cell? ⟨k2, o2, none⟩ = some v2 ∧ wp.cell? ⟨k2, o3, none⟩ = some v3 ∧ wp.cell? ⟨k2, o4, none⟩ = some v4 ∧ wp.cell? ⟨k2, o5, none⟩ = some v5 ∧ wp.cell? ⟨k2, o6, none⟩ = some v6)) (hb : Below wp.heap.size wp w1) : (Below A1.heap.size A1 w1 ∧ k1 < w1.heap.size ∧ w1.cell? ⟨k1, 0, none⟩ = some u0 ∧ w1.cell? ⟨k1, 1, none⟩ = some u1 ∧ w1.cell? ⟨k1, 2, none⟩ = some u2 ∧ w1.cell? ⟨k1, 3, none⟩ = some u3 ∧ w1.cell? ⟨k1, 4, none⟩ = some u4 ∧ w1.cell? ⟨k1, 5, none⟩ = some u5 ∧ w1.cell? ⟨k1, 6, none⟩ = some u6) ∧ (Below A2.heap.size A2 w1 ∧ k2 < w1.heap.size ∧ w1.cell? ⟨k2, o0, none⟩ = some v0 ∧ w1.cell? ⟨k2, o1, none⟩ = some v1 ∧ w1.cell? ⟨k2, o2, none⟩ = some v2 ∧ w1.cell? ⟨k2, o3, none⟩ = some v3 ∧ w1.cell? ⟨k2, o4, none⟩ = some v4 ∧ w1.cell? ⟨k2, o5, none⟩ = some v5 ∧ w1.cell? ⟨k2, o6, none⟩ = some v6) :=
  ⟨keep7 h.1 hb, keepo h.2 hb⟩
set_option maxHeartbeats 8000000 in
theorem less7 (g : Bool) (a p y e b t : Nat) (g0 g1 g2 g3 g4 g5 : Bool) (p2 e1 b1 t1 q8 : Nat) (n l s q : Nat) (w : World)
  (K1 : ∀ w : World, Calls Try.prog 18 #[cp g a p y e b t, .int .u32 (n : Int)] w fun en w' => en = .returned (cp g0 n p y e b t) ∧ Below w.heap.size w w')
  (K2 : ∀ w : World, Calls Try.prog 20 #[cp g a p y e b t, .int .u32 (l : Int)] w fun en w' => en = .returned (cp g1 a p y e1 b1 t1) ∧ Below w.heap.size w w')
  (K3 : ∀ w : World, Calls Try.prog 22 #[cp g a p y e b t, .int .u32 (s : Int)] w fun en w' => en = .returned (cp g2 a p2 y e b t) ∧ Below w.heap.size w w')
  (K4 : ∀ w : World, Calls Try.prog 26 #[cp g a p y e b t] w fun en w' => en = .returned (cp g3 a p 1 e b t) ∧ Below w.heap.size w w')
  (K5 : ∀ w : World, Calls Try.prog 28 #[cp g a p y e b t, .int .u32 (q : Int)] w fun en w' => en = .returned (cp g4 a p q8 e b t) ∧ Below w.heap.size w w')
  (K6 : ∀ w : World, Calls Try.prog 24 #[cp g a p y e b t] w fun en w' => en = .returned (cp false a p y e b t) ∧ Below w.heap.size w w')
  (K7 : ∀ w : World, Calls Try.prog 30 #[cp g a p y e b t] w fun en w' => en = .returned (cp g5 a p 0 e b t) ∧ Below w.heap.size w w')
  (F0 : g0 = true → g = true ∧ ((y : Int) != 0) = false ∧ ∀ w : World, Calls Try.prog 34 #[cp true n p y e b t, cp true a p y e b t] w fun en w' => en = .returned (.bool true) ∧ Below w.heap.size w w')
  (F1 : g1 = true → g = true ∧ ((y : Int) != 0) = false ∧ ∀ w : World, Calls Try.prog 34 #[cp true a p y e1 b1 t1, cp true a p y e b t] w fun en w' => en = .returned (.bool true) ∧ Below w.heap.size w w')
  (F2 : g2 = true → g = true ∧ ((y : Int) != 0) = false ∧ ∀ w : World, Calls Try.prog 34 #[cp true a p2 y e b t, cp true a p y e b t] w fun en w' => en = .returned (.bool true) ∧ Below w.heap.size w w')
  (F3 : g3 = true → g = true ∧ ((y : Int) != 0) = false ∧ ∀ w : World, Calls Try.prog 34 #[cp true a p 1 e b t, cp true a p y e b t] w fun en w' => en = .returned (.bool true) ∧ Below w.heap.size w w')
  (F4 : g4 = true → g = true ∧ ((y : Int) != 0) = false ∧ ∀ w : World, Calls Try.prog 34 #[cp true a p q8 e b t, cp true a p y e b t] w fun en w' => en = .returned (.bool true) ∧ Below w.heap.size w w')
  (F5 : g5 = true → g = true ∧ ((y : Int) != 0) = true)
  :
    Calls Try.prog 7 #[cp g a p y e b t, .int .u32 (n : Int), .int .u32 (l : Int), .int .u32 (s : Int), .int .u32 (q : Int)] w fun en w' => en = .returned (.bool true) ∧ Below w.heap.size w w' := by
  have hS := start7 w (.bool g) (.int .u32 (a : Int)) (.int .u8 (p : Int)) (.int .u8 (y : Int)) (.int .u8 (e : Int)) (.int .u16 (b : Int)) (.int .u16 (t : Int)) 27
  have HS := Lib.hid hS
  clear hS
  go_enter Try.func7, Try.ntmps7
  go_wp2_with fail
  have hS := HS.out
  go_region_held3 (fun w' => Below w.heap.size w w' ∧ w.heap.size < w'.heap.size ∧ w'.cell? ⟨w.heap.size, 0, none⟩ = some (.bool g) ∧ w'.cell? ⟨w.heap.size, 1, none⟩ = some (.int .u32 (a : Int)) ∧ w'.cell? ⟨w.heap.size, 2, none⟩ = some (.int .u8 (p : Int)) ∧ w'.cell? ⟨w.heap.size, 3, none⟩ = some (.int .u8 (y : Int)) ∧ w'.cell? ⟨w.heap.size, 4, none⟩ = some (.int .u8 (e : Int)) ∧ w'.cell? ⟨w.heap.size, 5, none⟩ = some (.int .u16 (b : Int)) ∧ w'.cell? ⟨w.heap.size, 6, none⟩ = some (.int .u16 (t : Int)))
    (first | exact keep7 (by assumption) ((Below.refl _ _).drew) | exact keep7 (by assumption) hbx | exact keep7 (by assumption) ((Below.refl _ _).alloc (Nat.le_refl _) _))
    (first | (go_at_call 18; (with_reducible refine (K1 _).mono ?_); rintro _ wx ⟨rfl, hbx⟩) | (go_at_call 20; (with_reducible refine (K2 _).mono ?_); rintro _ wx ⟨rfl, hbx⟩) | (go_at_call 22; (with_reducible refine (K3 _).mono ?_); rintro _ wx ⟨rfl, hbx⟩) | (go_at_call 26; (with_reducible refine (K4 _).mono ?_); rintro _ wx ⟨rfl, hbx⟩) | (go_at_call 28; (with_reducible refine (K5 _).mono ?_); rintro _ wx ⟨rfl, hbx⟩) | (go_at_call 24; (with_reducible refine (K6 _).mono ?_); rintro _ wx ⟨rfl, hbx⟩))
  rename_i hH
  have hC : ∀ (j : Nat) (v : Value), (#[.bool g0, .int .u32 (n : Int), .int .u8 (p : Int), .int .u8 (y : Int), .int .u8 (e : Int), .int .u16 (b : Int), .int .u16 (t : Int), .bool g1, .int .u32 (a : Int), .int .u8 (p : Int), .int .u8 (y : Int), .int .u8 (e1 : Int), .int .u16 (b1 : Int), .int .u16 (t1 : Int), .bool g2, .int .u32 (a : Int), .int .u8 (p2 : Int), .int .u8 (y : Int), .int .u8 (e : Int), .int .u16 (b : Int), .int .u16 (t : Int), .bool g3, .int .u32 (a : Int), .int .u8 (p : Int), .int .u8 1, .int .u8 (e : Int), .int .u16 (b : Int), .int .u16 (t : Int), .bool g4, .int .u32 (a : Int), .int .u8 (p : Int), .int .u8 (q8 : Int), .int .u8 (e : Int), .int .u16 (b : Int), .int .u16 (t : Int), .bool false, .int .u32 (a : Int), .int .u8 (p : Int), .int .u8 (y : Int), .int .u8 (e : Int), .int .u16 (b : Int), .int .u16 (t : Int)] : Array Value)[j]? = some v → (wx.alloc (.cells #[.bool g0, .int .u32 (n : Int), .int .u8 (p : Int), .int .u8 (y : Int), .int .u8 (e : Int), .int .u16 (b : Int), .int .u16 (t : Int), .bool g1, .int .u32 (a : Int), .int .u8 (p : Int), .int .u8 (y : Int), .int .u8 (e1 : Int), .int .u16 (b1 : Int), .int .u16 (t1 : Int), .bool g2, .int .u32 (a : Int), .int .u8 (p2 : Int), .int .u8 (y : Int), .int .u8 (e : Int), .int .u16 (b : Int), .int .u16 (t : Int), .bool g3, .int .u32 (a : Int), .int .u8 (p : Int), .int .u8 1, .int .u8 (e : Int), .int .u16 (b : Int), .int .u16 (t : Int), .bool g4, .int .u32 (a : Int), .int .u8 (p : Int), .int .u8 (q8 : Int), .int .u8 (e : Int), .int .u16 (b : Int), .int .u16 (t : Int), .bool false, .int .u32 (a : Int), .int .u8 (p : Int), .int .u8 (y : Int), .int .u8 (e : Int), .int .u16 (b : Int), .int .u16 (t : Int)] 27)).cell? ⟨wx.heap.size, j, none⟩ = some v := fun j v h => by simpa using h
  have hB : wx.heap.size < (wx.alloc (.cells #[.bool g0, .int .u32 (n : Int), .int .u8 (p : Int), .int .u8 (y : Int), .int .u8 (e : Int), .int .u16 (b : Int), .int .u16 (t : Int), .bool g1, .int .u32 (a : Int), .int .u8 (p : Int), .int .u8 (y : Int), .int .u8 (e1 : Int), .int .u16 (b1 : Int), .int .u16 (t1 : Int), .bool g2, .int .u32 (a : Int), .int .u8 (p2 : Int), .int .u8 (y : Int), .int .u8 (e : Int), .int .u16 (b : Int), .int .u16 (t : Int), .bool g3, .int .u32 (a : Int), .int .u8 (p : Int), .int .u8 1, .int .u8 (e : Int), .int .u16 (b : Int), .int .u16 (t : Int), .bool g4, .int .u32 (a : Int), .int .u8 (p : Int), .int .u8 (q8 : Int), .int .u8 (e : Int), .int .u16 (b : Int), .int .u16 (t : Int), .bool false, .int .u32 (a : Int), .int .u8 (p : Int), .int .u8 (y : Int), .int .u8 (e : Int), .int .u16 (b : Int), .int .u16 (t : Int)] 27)).heap.size := by simp
  have hH' := Lib.hid hH
  have hC' := Lib.hid hC
  have hB' := Lib.hid hB
  clear hS hH hC hB
  go_wp2
  generalize wx.alloc (.cells #[.bool g0, .int .u32 (n : Int), .int .u8 (p : Int), .int .u8 (y : Int), .int .u8 (e : Int), .int .u16 (b : Int), .int .u16 (t : Int), .bool g1, .int .u32 (a : Int), .int .u8 (p : Int), .int .u8 (y : Int), .int .u8 (e1 : Int), .int .u16 (b1 : Int), .int .u16 (t1 : Int), .bool g2, .int .u32 (a : Int), .int .u8 (p2 : Int), .int .u8 (y : Int), .int .u8 (e : Int), .int .u16 (b : Int), .int .u16 (t : Int), .bool g3, .int .u32 (a : Int), .int .u8 (p : Int), .int .u8 1, .int .u8 (e : Int), .int .u16 (b : Int), .int .u16 (t : Int), .bool g4, .int .u32 (a : Int), .int .u8 (p : Int), .int .u8 (q8 : Int), .int .u8 (e : Int), .int .u16 (b : Int), .int .u16 (t : Int), .bool false, .int .u32 (a : Int), .int .u8 (p : Int), .int .u8 (y : Int), .int .u8 (e : Int), .int .u16 (b : Int), .int .u16 (t : Int)] 27) = wl at hH' hC' hB' ⊢
  go_loopw [12] (fun i wr => ∃ k : Nat, k ≤ 6 ∧ i = .int .i64 (k : Int) ∧ Below wl.heap.size wl wr) (fun i _ => 6 - (intOf i).toNat)
  case atStart => exact ⟨0, by omega, rfl, Below.refl _ _⟩
  case round =>
    obtain ⟨k, hk, rfl, hbw⟩ := hrel
    have hS9 := keep7 hH'.out hbw
    have hcell := fun j v h => (hbw.cell (p := ⟨_, j, none⟩) hB'.out).trans (hC'.out j v h)
    have hBw : wx.heap.size < wr.heap.size := Nat.lt_of_lt_of_le hB'.out hbw.size
    clear K1 K2 K3 K4 K5 K6 HS
    have hk' : k = 6 ∨ k = 0 ∨ k = 1 ∨ k = 2 ∨ k = 3 ∨ k = 4 ∨ k = 5 := by omega
    rcases hk' with rfl | rfl | rfl | rfl | rfl | rfl | rfl
    · obtain ⟨hb0, hz0, c0, c1, c2, c3, c4, c5, c6⟩ := hS9
      have hS9 := Lib.hid (And.intro hb0 (And.intro hz0 (And.intro c0 (And.intro c1 (And.intro c2 (And.intro c3 (And.intro c4 (And.intro c5 c6))))))))
      have K7h := Lib.hid K7
      clear hcell F0 F1 F2 F3 F4 K7 hb0 hz0 hbw hBw hH' hC' hB'
      go_wp2_with fail
      refine (K7h.out _).mono ?_
      rintro _ w3 ⟨rfl, hb3⟩
      clear c0 c1 c2 c3 c4 c5 c6
      cases hg5 : g5 with
      | false =>
        subst hg5
        go_wp2_with fail
        refine (lives _).mono ?_
        rintro _ w4 ⟨rfl, hb4⟩
        have hE := (keep7 (keep7 (keep7 hS9.out hb3) ((Below.refl _ _).alloc (Nat.le_refl _) _)) hb4).1
        go_wp2
        go_ret
        exact ⟨rfl, hE⟩
      | true =>
        subst hg5
        obtain ⟨rfl, hyb⟩ := F5 rfl
        clear F5
        obtain ⟨_, q9, q0, _, _, q3, _⟩ := keep7 hS9.out hb3
        go_wp2_with fail
        refine (lives _).mono ?_
        rintro _ w4 ⟨rfl, hb4⟩
        have hE := (keep7 (keep7 (keep7 hS9.out hb3) ((Below.refl _ _).alloc (Nat.le_refl _) _)) hb4).1
        go_wp2
        go_ret
        exact ⟨rfl, hE⟩
    · cases hg : g0 with
      | false =>
        subst hg
        have z0 := hcell 0 _ rfl
        have hz : Below wl.heap.size wl wr ∧ wx.heap.size < wr.heap.size ∧ wr.cell? ⟨wx.heap.size, 0, none⟩ = some (.bool false) := ⟨hbw, hBw, z0⟩
        have HZ := Lib.hid hz
        clear hcell z0 hz F0 F1 F2 F3 F4 F5 K7 hS9
        go_wp2_with fail
        refine wp_region_held_drew (S := fun w' => Below wl.heap.size wl w' ∧ wx.heap.size < w'.heap.size ∧ w'.cell? ⟨wx.heap.size, 0, none⟩ = some (.bool false)) (by kernel_rfl) ?_ (fun hHeld => ?_)
        · exact keep1o HZ.out ((Below.refl _ _).drew)
        refine wpAnyH_take (i := 0) (v := ?vZ0_1) rfl (by kernel_rfl) (by kernel_rfl) (by kernel_rfl) (fun _ _ _ h => h) (Or.inl ⟨by rfl, ?hyZ0_1⟩) (by assumption) ?restZ0_1
        case hyZ0_1 => (intro w' hSw; go_split_ands; go_simp; try with_reducible rfl)
        simp only [Act.put, List.getElem_toArray, List.getElem_cons_zero, List.setIfInBounds_toArray, List.set_cons_zero, List.set_cons_succ]
        refine wpAnyH_take (i := 1) (v := ?vZ0_2) rfl (by kernel_rfl) (by kernel_rfl) (by kernel_rfl) (fun _ _ _ h => h) (Or.inl ⟨by rfl, ?hyZ0_2⟩) (by assumption) ?restZ0_2
        case hyZ0_2 => (intro w' hSw; go_split_ands; go_simp; try with_reducible rfl)
        simp only [Act.put, List.getElem_toArray, List.getElem_cons_succ, List.getElem_cons_zero, List.setIfInBounds_toArray, List.set_cons_zero, List.set_cons_succ]
        refine wpAnyH_take (i := 2) (v := ?vZ0_3) rfl (by kernel_rfl) (by kernel_rfl) (by kernel_rfl) (fun _ _ _ h => h) (Or.inl ⟨by rfl, ?hyZ0_3⟩) (by assumption) ?restZ0_3
        case hyZ0_3 => (intro w' hSw; go_split_ands; go_simp; try with_reducible rfl)
        simp only [Act.put, List.getElem_toArray, List.getElem_cons_succ, List.getElem_cons_zero, List.setIfInBounds_toArray, List.set_cons_zero, List.set_cons_succ]
        refine wpAnyH_take (i := 3) (v := ?vZ0_4) rfl (by kernel_rfl) (by kernel_rfl) (by kernel_rfl) (fun _ _ _ h => h) (Or.inl ⟨by rfl, ?hyZ0_4⟩) (by assumption) ?restZ0_4
        case hyZ0_4 => (intro w' hSw; go_split_ands; go_simp; try with_reducible rfl)
        simp only [Act.put, List.getElem_toArray, List.getElem_cons_succ, List.getElem_cons_zero, List.setIfInBounds_toArray, List.set_cons_zero, List.set_cons_succ]
        refine wpAnyH_take (i := 4) (v := ?vZ0_5) rfl (by kernel_rfl) (by kernel_rfl) (by kernel_rfl) (fun _ _ _ h => h) (Or.inl ⟨by rfl, ?hyZ0_5⟩) (by assumption) ?restZ0_5
        case hyZ0_5 => (intro w' hSw; go_split_ands; go_simp; try with_reducible rfl)
        simp only [Act.put, List.getElem_toArray, List.getElem_cons_succ, List.getElem_cons_zero, List.setIfInBounds_toArray, List.set_cons_zero, List.set_cons_succ]
        refine wpAnyH_take (i := 5) (v := ?vZ0_6) rfl (by kernel_rfl) (by kernel_rfl) (by kernel_rfl) (fun _ _ _ h => h) (Or.inl ⟨by rfl, ?hyZ0_6⟩) (by assumption) ?restZ0_6
        case hyZ0_6 => (intro w' hSw; go_split_ands; go_simp; try with_reducible rfl)
        simp only [Act.put, List.getElem_toArray, List.getElem_cons_succ, List.getElem_cons_zero, List.setIfInBounds_toArray, List.set_cons_zero, List.set_cons_succ]
        refine wpAnyH_take (i := 6) (v := undef) rfl (by kernel_rfl) (by kernel_rfl) (by kernel_rfl) (fun _ _ _ h => h) (Or.inr ⟨by rfl, rfl⟩) (by assumption) ?_
        simp only [Act.put, List.getElem_toArray, List.getElem_cons_succ, List.getElem_cons_zero, List.setIfInBounds_toArray, List.set_cons_zero, List.set_cons_succ]
        refine wpAnyH_take (i := 7) (v := undef) rfl (by kernel_rfl) (by kernel_rfl) (by kernel_rfl) (fun _ _ _ h => h) (Or.inr ⟨by rfl, rfl⟩) (by assumption) ?_
        simp only [Act.put, List.getElem_toArray, List.getElem_cons_succ, List.getElem_cons_zero, List.setIfInBounds_toArray, List.set_cons_zero, List.set_cons_succ]
        refine wpAnyH_take (i := 8) (v := undef) rfl (by kernel_rfl) (by kernel_rfl) (by kernel_rfl) (fun _ _ _ h => h) (Or.inr ⟨by rfl, rfl⟩) (by assumption) ?_
        simp only [Act.put, List.getElem_toArray, List.getElem_cons_succ, List.getElem_cons_zero, List.setIfInBounds_toArray, List.set_cons_zero, List.set_cons_succ]
        refine wpAnyH_take (i := 9) (v := undef) rfl (by kernel_rfl) (by kernel_rfl) (by kernel_rfl) (fun _ _ _ h => h) (Or.inr ⟨by rfl, rfl⟩) (by assumption) ?_
        simp only [Act.put, List.getElem_toArray, List.getElem_cons_succ, List.getElem_cons_zero, List.setIfInBounds_toArray, List.set_cons_zero, List.set_cons_succ]
        refine wpAnyH_take (i := 10) (v := undef) rfl (by kernel_rfl) (by kernel_rfl) (by kernel_rfl) (fun _ _ _ h => h) (Or.inr ⟨by rfl, rfl⟩) (by assumption) ?_
        simp only [Act.put, List.getElem_toArray, List.getElem_cons_succ, List.getElem_cons_zero, List.setIfInBounds_toArray, List.set_cons_zero, List.set_cons_succ]
        refine wpAnyH_take (i := 11) (v := undef) rfl (by kernel_rfl) (by kernel_rfl) (by kernel_rfl) (fun _ _ _ h => h) (Or.inr ⟨by rfl, rfl⟩) (by assumption) ?_
        simp only [Act.put, List.getElem_toArray, List.getElem_cons_succ, List.getElem_cons_zero, List.setIfInBounds_toArray, List.set_cons_zero, List.set_cons_succ]
        refine wpAnyH_take (i := 12) (v := undef) rfl (by kernel_rfl) (by kernel_rfl) (by kernel_rfl) (fun _ _ _ h => h) (Or.inr ⟨by rfl, rfl⟩) (by assumption) ?_
        simp only [Act.put, List.getElem_toArray, List.getElem_cons_succ, List.getElem_cons_zero, List.setIfInBounds_toArray, List.set_cons_zero, List.set_cons_succ]
        refine wpAnyH_take (i := 13) (v := undef) rfl (by kernel_rfl) (by kernel_rfl) (by kernel_rfl) (fun _ _ _ h => h) (Or.inr ⟨by rfl, rfl⟩) (by assumption) ?_
        simp only [Act.put, List.getElem_toArray, List.getElem_cons_succ, List.getElem_cons_zero, List.setIfInBounds_toArray, List.set_cons_zero, List.set_cons_succ]
        refine wpAnyH_take (i := 14) (v := undef) rfl (by kernel_rfl) (by kernel_rfl) (by kernel_rfl) (fun _ _ _ h => h) (Or.inr ⟨by rfl, rfl⟩) (by assumption) ?_
        simp only [Act.put, List.getElem_toArray, List.getElem_cons_succ, List.getElem_cons_zero, List.setIfInBounds_toArray, List.set_cons_zero, List.set_cons_succ]
        refine wpAnyH_take (i := 15) (v := undef) rfl (by kernel_rfl) (by kernel_rfl) (by kernel_rfl) (fun _ _ _ h => h) (Or.inr ⟨by rfl, rfl⟩) (by assumption) ?_
        simp only [Act.put, List.getElem_toArray, List.getElem_cons_succ, List.getElem_cons_zero, List.setIfInBounds_toArray, List.set_cons_zero, List.set_cons_succ]
        refine wpAnyH_take (i := 16) (v := undef) rfl (by kernel_rfl) (by kernel_rfl) (by kernel_rfl) (fun _ _ _ h => h) (Or.inr ⟨by rfl, rfl⟩) (by assumption) ?_
        simp only [Act.put, List.getElem_toArray, List.getElem_cons_succ, List.getElem_cons_zero, List.setIfInBounds_toArray, List.set_cons_zero, List.set_cons_succ]
        refine wpAnyH_take (i := 17) (v := undef) rfl (by kernel_rfl) (by kernel_rfl) (by kernel_rfl) (fun _ _ _ h => h) (Or.inr ⟨by rfl, rfl⟩) (by assumption) ?_
        simp only [Act.put, List.getElem_toArray, List.getElem_cons_succ, List.getElem_cons_zero, List.setIfInBounds_toArray, List.set_cons_zero, List.set_cons_succ]
        refine wpAnyH_take (i := 18) (v := undef) rfl (by kernel_rfl) (by kernel_rfl) (by kernel_rfl) (fun _ _ _ h => h) (Or.inr ⟨by rfl, rfl⟩) (by assumption) ?_
        simp only [Act.put, List.getElem_toArray, List.getElem_cons_succ, List.getElem_cons_zero, List.setIfInBounds_toArray, List.set_cons_zero, List.set_cons_succ]
        refine wpAnyH_take (i := 19) (v := undef) rfl (by kernel_rfl) (by kernel_rfl) (by kernel_rfl) (fun _ _ _ h => h) (Or.inr ⟨by rfl, rfl⟩) (by assumption) ?_
        simp only [Act.put, List.getElem_toArray, List.getElem_cons_succ, List.getElem_cons_zero, List.setIfInBounds_toArray, List.set_cons_zero, List.set_cons_succ]
        refine wpAnyH_take (i := 20) (v := undef) rfl (by kernel_rfl) (by kernel_rfl) (by kernel_rfl) (fun _ _ _ h => h) (Or.inr ⟨by rfl, rfl⟩) (by assumption) ?_
        simp only [Act.put, List.getElem_toArray, List.getElem_cons_succ, List.getElem_cons_zero, List.setIfInBounds_toArray, List.set_cons_zero, List.set_cons_succ]
        refine wpAnyH_take (i := 21) (v := undef) rfl (by kernel_rfl) (by kernel_rfl) (by kernel_rfl) (fun _ _ _ h => h) (Or.inr ⟨by rfl, rfl⟩) (by assumption) ?_
        simp only [Act.put, List.getElem_toArray, List.getElem_cons_succ, List.getElem_cons_zero, List.setIfInBounds_toArray, List.set_cons_zero, List.set_cons_succ]
        refine wpAnyH_take (i := 22) (v := undef) rfl (by kernel_rfl) (by kernel_rfl) (by kernel_rfl) (fun _ _ _ h => h) (Or.inr ⟨by rfl, rfl⟩) (by assumption) ?_
        simp only [Act.put, List.getElem_toArray, List.getElem_cons_succ, List.getElem_cons_zero, List.setIfInBounds_toArray, List.set_cons_zero, List.set_cons_succ]
        refine wpAnyH_take (i := 23) (v := ?vZ0_7) rfl (by kernel_rfl) (by kernel_rfl) (by kernel_rfl) (fun _ _ _ h => h) (Or.inl ⟨by rfl, ?hyZ0_7⟩) (by assumption) ?restZ0_7
        case hyZ0_7 => (intro w' hSw; go_split_ands; go_simp; try with_reducible rfl)
        simp only [Act.put, List.getElem_toArray, List.getElem_cons_succ, List.getElem_cons_zero, List.setIfInBounds_toArray, List.set_cons_zero, List.set_cons_succ]
        refine wpAnyH_done (by kernel_rfl) ?_ _
        have hE : Below wl.heap.size wl _ := hHeld.1
        go_wp2
        go_roundw
        case rel => exact ⟨1, by omega, rfl, hE⟩
        case measure => simp [intOf]
      | true =>
        subst hg
        obtain ⟨rfl, hyb, k34⟩ := F0 rfl
        have K34 := Lib.hid k34
        have hT := And.intro hS9 (And.intro hbw (And.intro hBw (And.intro (hcell 0 _ rfl) (And.intro (hcell 1 _ rfl) (And.intro (hcell 2 _ rfl) (And.intro (hcell 3 _ rfl) (And.intro (hcell 4 _ rfl) (And.intro (hcell 5 _ rfl) (hcell 6 _ rfl)))))))))
        have HT := Lib.hid hT
        clear hT hcell hS9 k34 F0 F1 F2 F3 F4 F5 K7
        go_wp2_with fail
        have hT := HT.out
        go_region_held3 (fun w' => (Below w.heap.size w w' ∧ w.heap.size < w'.heap.size ∧ w'.cell? ⟨w.heap.size, 0, none⟩ = some (.bool true) ∧ w'.cell? ⟨w.heap.size, 1, none⟩ = some (.int .u32 (a : Int)) ∧ w'.cell? ⟨w.heap.size, 2, none⟩ = some (.int .u8 (p : Int)) ∧ w'.cell? ⟨w.heap.size, 3, none⟩ = some (.int .u8 (y : Int)) ∧ w'.cell? ⟨w.heap.size, 4, none⟩ = some (.int .u8 (e : Int)) ∧ w'.cell? ⟨w.heap.size, 5, none⟩ = some (.int .u16 (b : Int)) ∧ w'.cell? ⟨w.heap.size, 6, none⟩ = some (.int .u16 (t : Int))) ∧ (Below wl.heap.size wl w' ∧ wx.heap.size < w'.heap.size ∧ w'.cell? ⟨wx.heap.size, 0, none⟩ = some (.bool true) ∧ w'.cell? ⟨wx.heap.size, 1, none⟩ = some (.int .u32 (n : Int)) ∧ w'.cell? ⟨wx.heap.size, 2, none⟩ = some (.int .u8 (p : Int)) ∧ w'.cell? ⟨wx.heap.size, 3, none⟩ = some (.int .u8 (y : Int)) ∧ w'.cell? ⟨wx.heap.size, 4, none⟩ = some (.int .u8 (e : Int)) ∧ w'.cell? ⟨wx.heap.size, 5, none⟩ = some (.int .u16 (b : Int)) ∧ w'.cell? ⟨wx.heap.size, 6, none⟩ = some (.int .u16 (t : Int))))
          (first | exact keep7o (by assumption) ((Below.refl _ _).drew) | exact keep7o (by assumption) hbx)
          (first | (go_at_call 34; (with_reducible refine (K34.out _).mono ?_); rintro _ wy ⟨rfl, hbx⟩))
        all_goals
          have hE : Below wl.heap.size wl wy := And.left (And.right (by assumption))
          go_wp2
          go_roundw
          case rel => exact ⟨1, by omega, rfl, hE⟩
          case measure => simp [intOf]
    · cases hg : g1 with
      | false =>
        subst hg
        have z0 := hcell 7 _ rfl
        have hz : Below wl.heap.size wl wr ∧ wx.heap.size < wr.heap.size ∧ wr.cell? ⟨wx.heap.size, 7, none⟩ = some (.bool false) := ⟨hbw, hBw, z0⟩
        have HZ := Lib.hid hz
        clear hcell z0 hz F0 F1 F2 F3 F4 F5 K7 hS9
        go_wp2_with fail
        refine wp_region_held_drew (S := fun w' => Below wl.heap.size wl w' ∧ wx.heap.size < w'.heap.size ∧ w'.cell? ⟨wx.heap.size, 7, none⟩ = some (.bool false)) (by kernel_rfl) ?_ (fun hHeld => ?_)
        · exact keep1o HZ.out ((Below.refl _ _).drew)
        refine wpAnyH_take (i := 0) (v := ?vZ1_1) rfl (by kernel_rfl) (by kernel_rfl) (by kernel_rfl) (fun _ _ _ h => h) (Or.inl ⟨by rfl, ?hyZ1_1⟩) (by assumption) ?restZ1_1
        case hyZ1_1 => (intro w' hSw; go_split_ands; go_simp; try with_reducible rfl)
        simp only [Act.put, List.getElem_toArray, List.getElem_cons_zero, List.setIfInBounds_toArray, List.set_cons_zero, List.set_cons_succ]
        refine wpAnyH_take (i := 1) (v := ?vZ1_2) rfl (by kernel_rfl) (by kernel_rfl) (by kernel_rfl) (fun _ _ _ h => h) (Or.inl ⟨by rfl, ?hyZ1_2⟩) (by assumption) ?restZ1_2
        case hyZ1_2 => (intro w' hSw; go_split_ands; go_simp; try with_reducible rfl)
        simp only [Act.put, List.getElem_toArray, List.getElem_cons_succ, List.getElem_cons_zero, List.setIfInBounds_toArray, List.set_cons_zero, List.set_cons_succ]
        refine wpAnyH_take (i := 2) (v := ?vZ1_3) rfl (by kernel_rfl) (by kernel_rfl) (by kernel_rfl) (fun _ _ _ h => h) (Or.inl ⟨by rfl, ?hyZ1_3⟩) (by assumption) ?restZ1_3
        case hyZ1_3 => (intro w' hSw; go_split_ands; go_simp; try with_reducible rfl)
        simp only [Act.put, List.getElem_toArray, List.getElem_cons_succ, List.getElem_cons_zero, List.setIfInBounds_toArray, List.set_cons_zero, List.set_cons_succ]
        refine wpAnyH_take (i := 3) (v := ?vZ1_4) rfl (by kernel_rfl) (by kernel_rfl) (by kernel_rfl) (fun _ _ _ h => h) (Or.inl ⟨by rfl, ?hyZ1_4⟩) (by assumption) ?restZ1_4
        case hyZ1_4 => (intro w' hSw; go_split_ands; go_simp; try with_reducible rfl)
        simp only [Act.put, List.getElem_toArray, List.getElem_cons_succ, List.getElem_cons_zero, List.setIfInBounds_toArray, List.set_cons_zero, List.set_cons_succ]
        refine wpAnyH_take (i := 4) (v := ?vZ1_5) rfl (by kernel_rfl) (by kernel_rfl) (by kernel_rfl) (fun _ _ _ h => h) (Or.inl ⟨by rfl, ?hyZ1_5⟩) (by assumption) ?restZ1_5
        case hyZ1_5 => (intro w' hSw; go_split_ands; go_simp; try with_reducible rfl)
        simp only [Act.put, List.getElem_toArray, List.getElem_cons_succ, List.getElem_cons_zero, List.setIfInBounds_toArray, List.set_cons_zero, List.set_cons_succ]
        refine wpAnyH_take (i := 5) (v := ?vZ1_6) rfl (by kernel_rfl) (by kernel_rfl) (by kernel_rfl) (fun _ _ _ h => h) (Or.inl ⟨by rfl, ?hyZ1_6⟩) (by assumption) ?restZ1_6
        case hyZ1_6 => (intro w' hSw; go_split_ands; go_simp; try with_reducible rfl)
        simp only [Act.put, List.getElem_toArray, List.getElem_cons_succ, List.getElem_cons_zero, List.setIfInBounds_toArray, List.set_cons_zero, List.set_cons_succ]
        refine wpAnyH_take (i := 6) (v := undef) rfl (by kernel_rfl) (by kernel_rfl) (by kernel_rfl) (fun _ _ _ h => h) (Or.inr ⟨by rfl, rfl⟩) (by assumption) ?_
        simp only [Act.put, List.getElem_toArray, List.getElem_cons_succ, List.getElem_cons_zero, List.setIfInBounds_toArray, List.set_cons_zero, List.set_cons_succ]
        refine wpAnyH_take (i := 7) (v := undef) rfl (by kernel_rfl) (by kernel_rfl) (by kernel_rfl) (fun _ _ _ h => h) (Or.inr ⟨by rfl, rfl⟩) (by assumption) ?_
        simp only [Act.put, List.getElem_toArray, List.getElem_cons_succ, List.getElem_cons_zero, List.setIfInBounds_toArray, List.set_cons_zero, List.set_cons_succ]
        refine wpAnyH_take (i := 8) (v := undef) rfl (by kernel_rfl) (by kernel_rfl) (by kernel_rfl) (fun _ _ _ h => h) (Or.inr ⟨by rfl, rfl⟩) (by assumption) ?_
        simp only [Act.put, List.getElem_toArray, List.getElem_cons_succ, List.getElem_cons_zero, List.setIfInBounds_toArray, List.set_cons_zero, List.set_cons_succ]
        refine wpAnyH_take (i := 9) (v := undef) rfl (by kernel_rfl) (by kernel_rfl) (by kernel_rfl) (fun _ _ _ h => h) (Or.inr ⟨by rfl, rfl⟩) (by assumption) ?_
        simp only [Act.put, List.getElem_toArray, List.getElem_cons_succ, List.getElem_cons_zero, List.setIfInBounds_toArray, List.set_cons_zero, List.set_cons_succ]
        refine wpAnyH_take (i := 10) (v := undef) rfl (by kernel_rfl) (by kernel_rfl) (by kernel_rfl) (fun _ _ _ h => h) (Or.inr ⟨by rfl, rfl⟩) (by assumption) ?_
        simp only [Act.put, List.getElem_toArray, List.getElem_cons_succ, List.getElem_cons_zero, List.setIfInBounds_toArray, List.set_cons_zero, List.set_cons_succ]
        refine wpAnyH_take (i := 11) (v := undef) rfl (by kernel_rfl) (by kernel_rfl) (by kernel_rfl) (fun _ _ _ h => h) (Or.inr ⟨by rfl, rfl⟩) (by assumption) ?_
        simp only [Act.put, List.getElem_toArray, List.getElem_cons_succ, List.getElem_cons_zero, List.setIfInBounds_toArray, List.set_cons_zero, List.set_cons_succ]
        refine wpAnyH_take (i := 12) (v := undef) rfl (by kernel_rfl) (by kernel_rfl) (by kernel_rfl) (fun _ _ _ h => h) (Or.inr ⟨by rfl, rfl⟩) (by assumption) ?_
        simp only [Act.put, List.getElem_toArray, List.getElem_cons_succ, List.getElem_cons_zero, List.setIfInBounds_toArray, List.set_cons_zero, List.set_cons_succ]
        refine wpAnyH_take (i := 13) (v := undef) rfl (by kernel_rfl) (by kernel_rfl) (by kernel_rfl) (fun _ _ _ h => h) (Or.inr ⟨by rfl, rfl⟩) (by assumption) ?_
        simp only [Act.put, List.getElem_toArray, List.getElem_cons_succ, List.getElem_cons_zero, List.setIfInBounds_toArray, List.set_cons_zero, List.set_cons_succ]
        refine wpAnyH_take (i := 14) (v := undef) rfl (by kernel_rfl) (by kernel_rfl) (by kernel_rfl) (fun _ _ _ h => h) (Or.inr ⟨by rfl, rfl⟩) (by assumption) ?_
        simp only [Act.put, List.getElem_toArray, List.getElem_cons_succ, List.getElem_cons_zero, List.setIfInBounds_toArray, List.set_cons_zero, List.set_cons_succ]
        refine wpAnyH_take (i := 15) (v := undef) rfl (by kernel_rfl) (by kernel_rfl) (by kernel_rfl) (fun _ _ _ h => h) (Or.inr ⟨by rfl, rfl⟩) (by assumption) ?_
        simp only [Act.put, List.getElem_toArray, List.getElem_cons_succ, List.getElem_cons_zero, List.setIfInBounds_toArray, List.set_cons_zero, List.set_cons_succ]
        refine wpAnyH_take (i := 16) (v := undef) rfl (by kernel_rfl) (by kernel_rfl) (by kernel_rfl) (fun _ _ _ h => h) (Or.inr ⟨by rfl, rfl⟩) (by assumption) ?_
        simp only [Act.put, List.getElem_toArray, List.getElem_cons_succ, List.getElem_cons_zero, List.setIfInBounds_toArray, List.set_cons_zero, List.set_cons_succ]
        refine wpAnyH_take (i := 17) (v := undef) rfl (by kernel_rfl) (by kernel_rfl) (by kernel_rfl) (fun _ _ _ h => h) (Or.inr ⟨by rfl, rfl⟩) (by assumption) ?_
        simp only [Act.put, List.getElem_toArray, List.getElem_cons_succ, List.getElem_cons_zero, List.setIfInBounds_toArray, List.set_cons_zero, List.set_cons_succ]
        refine wpAnyH_take (i := 18) (v := undef) rfl (by kernel_rfl) (by kernel_rfl) (by kernel_rfl) (fun _ _ _ h => h) (Or.inr ⟨by rfl, rfl⟩) (by assumption) ?_
        simp only [Act.put, List.getElem_toArray, List.getElem_cons_succ, List.getElem_cons_zero, List.setIfInBounds_toArray, List.set_cons_zero, List.set_cons_succ]
        refine wpAnyH_take (i := 19) (v := undef) rfl (by kernel_rfl) (by kernel_rfl) (by kernel_rfl) (fun _ _ _ h => h) (Or.inr ⟨by rfl, rfl⟩) (by assumption) ?_
        simp only [Act.put, List.getElem_toArray, List.getElem_cons_succ, List.getElem_cons_zero, List.setIfInBounds_toArray, List.set_cons_zero, List.set_cons_succ]
        refine wpAnyH_take (i := 20) (v := undef) rfl (by kernel_rfl) (by kernel_rfl) (by kernel_rfl) (fun _ _ _ h => h) (Or.inr ⟨by rfl, rfl⟩) (by assumption) ?_
        simp only [Act.put, List.getElem_toArray, List.getElem_cons_succ, List.getElem_cons_zero, List.setIfInBounds_toArray, List.set_cons_zero, List.set_cons_succ]
        refine wpAnyH_take (i := 21) (v := undef) rfl (by kernel_rfl) (by kernel_rfl) (by kernel_rfl) (fun _ _ _ h => h) (Or.inr ⟨by rfl, rfl⟩) (by assumption) ?_
        simp only [Act.put, List.getElem_toArray, List.getElem_cons_succ, List.getElem_cons_zero, List.setIfInBounds_toArray, List.set_cons_zero, List.set_cons_succ]
        refine wpAnyH_take (i := 22) (v := undef) rfl (by kernel_rfl) (by kernel_rfl) (by kernel_rfl) (fun _ _ _ h => h) (Or.inr ⟨by rfl, rfl⟩) (by assumption) ?_
        simp only [Act.put, List.getElem_toArray, List.getElem_cons_succ, List.getElem_cons_zero, List.setIfInBounds_toArray, List.set_cons_zero, List.set_cons_succ]
        refine wpAnyH_take (i := 23) (v := ?vZ1_7) rfl (by kernel_rfl) (by kernel_rfl) (by kernel_rfl) (fun _ _ _ h => h) (Or.inl ⟨by rfl, ?hyZ1_7⟩) (by assumption) ?restZ1_7
        case hyZ1_7 => (intro w' hSw; go_split_ands; go_simp; try with_reducible rfl)
        simp only [Act.put, List.getElem_toArray, List.getElem_cons_succ, List.getElem_cons_zero, List.setIfInBounds_toArray, List.set_cons_zero, List.set_cons_succ]
        refine wpAnyH_done (by kernel_rfl) ?_ _
        have hE : Below wl.heap.size wl _ := hHeld.1
        go_wp2
        go_roundw
        case rel => exact ⟨2, by omega, rfl, hE⟩
        case measure => simp [intOf]
      | true =>
        subst hg
        obtain ⟨rfl, hyb, k34⟩ := F1 rfl
        have K34 := Lib.hid k34
        have hT := And.intro hS9 (And.intro hbw (And.intro hBw (And.intro (hcell 7 _ rfl) (And.intro (hcell 8 _ rfl) (And.intro (hcell 9 _ rfl) (And.intro (hcell 10 _ rfl) (And.intro (hcell 11 _ rfl) (And.intro (hcell 12 _ rfl) (hcell 13 _ rfl)))))))))
        have HT := Lib.hid hT
        clear hT hcell hS9 k34 F0 F1 F2 F3 F4 F5 K7
        go_wp2_with fail
        have hT := HT.out
        go_region_held3 (fun w' => (Below w.heap.size w w' ∧ w.heap.size < w'.heap.size ∧ w'.cell? ⟨w.heap.size, 0, none⟩ = some (.bool true) ∧ w'.cell? ⟨w.heap.size, 1, none⟩ = some (.int .u32 (a : Int)) ∧ w'.cell? ⟨w.heap.size, 2, none⟩ = some (.int .u8 (p : Int)) ∧ w'.cell? ⟨w.heap.size, 3, none⟩ = some (.int .u8 (y : Int)) ∧ w'.cell? ⟨w.heap.size, 4, none⟩ = some (.int .u8 (e : Int)) ∧ w'.cell? ⟨w.heap.size, 5, none⟩ = some (.int .u16 (b : Int)) ∧ w'.cell? ⟨w.heap.size, 6, none⟩ = some (.int .u16 (t : Int))) ∧ (Below wl.heap.size wl w' ∧ wx.heap.size < w'.heap.size ∧ w'.cell? ⟨wx.heap.size, 7, none⟩ = some (.bool true) ∧ w'.cell? ⟨wx.heap.size, 8, none⟩ = some (.int .u32 (a : Int)) ∧ w'.cell? ⟨wx.heap.size, 9, none⟩ = some (.int .u8 (p : Int)) ∧ w'.cell? ⟨wx.heap.size, 10, none⟩ = some (.int .u8 (y : Int)) ∧ w'.cell? ⟨wx.heap.size, 11, none⟩ = some (.int .u8 (e1 : Int)) ∧ w'.cell? ⟨wx.heap.size, 12, none⟩ = some (.int .u16 (b1 : Int)) ∧ w'.cell? ⟨wx.heap.size, 13, none⟩ = some (.int .u16 (t1 : Int))))
          (first | exact keep7o (by assumption) ((Below.refl _ _).drew) | exact keep7o (by assumption) hbx)
          (first | (go_at_call 34; (with_reducible refine (K34.out _).mono ?_); rintro _ wy ⟨rfl, hbx⟩))
        all_goals
          have hE : Below wl.heap.size wl wy := And.left (And.right (by assumption))
          go_wp2
          go_roundw
          case rel => exact ⟨2, by omega, rfl, hE⟩
          case measure => simp [intOf]
    · cases hg : g2 with
      | false =>
        subst hg
        have z0 := hcell 14 _ rfl
        have hz : Below wl.heap.size wl wr ∧ wx.heap.size < wr.heap.size ∧ wr.cell? ⟨wx.heap.size, 14, none⟩ = some (.bool false) := ⟨hbw, hBw, z0⟩
        have HZ := Lib.hid hz
        clear hcell z0 hz F0 F1 F2 F3 F4 F5 K7 hS9
        go_wp2_with fail
        refine wp_region_held_drew (S := fun w' => Below wl.heap.size wl w' ∧ wx.heap.size < w'.heap.size ∧ w'.cell? ⟨wx.heap.size, 14, none⟩ = some (.bool false)) (by kernel_rfl) ?_ (fun hHeld => ?_)
        · exact keep1o HZ.out ((Below.refl _ _).drew)
        refine wpAnyH_take (i := 0) (v := ?vZ2_1) rfl (by kernel_rfl) (by kernel_rfl) (by kernel_rfl) (fun _ _ _ h => h) (Or.inl ⟨by rfl, ?hyZ2_1⟩) (by assumption) ?restZ2_1
        case hyZ2_1 => (intro w' hSw; go_split_ands; go_simp; try with_reducible rfl)
        simp only [Act.put, List.getElem_toArray, List.getElem_cons_zero, List.setIfInBounds_toArray, List.set_cons_zero, List.set_cons_succ]
        refine wpAnyH_take (i := 1) (v := ?vZ2_2) rfl (by kernel_rfl) (by kernel_rfl) (by kernel_rfl) (fun _ _ _ h => h) (Or.inl ⟨by rfl, ?hyZ2_2⟩) (by assumption) ?restZ2_2
        case hyZ2_2 => (intro w' hSw; go_split_ands; go_simp; try with_reducible rfl)
        simp only [Act.put, List.getElem_toArray, List.getElem_cons_succ, List.getElem_cons_zero, List.setIfInBounds_toArray, List.set_cons_zero, List.set_cons_succ]
        refine wpAnyH_take (i := 2) (v := ?vZ2_3) rfl (by kernel_rfl) (by kernel_rfl) (by kernel_rfl) (fun _ _ _ h => h) (Or.inl ⟨by rfl, ?hyZ2_3⟩) (by assumption) ?restZ2_3
        case hyZ2_3 => (intro w' hSw; go_split_ands; go_simp; try with_reducible rfl)
        simp only [Act.put, List.getElem_toArray, List.getElem_cons_succ, List.getElem_cons_zero, List.setIfInBounds_toArray, List.set_cons_zero, List.set_cons_succ]
        refine wpAnyH_take (i := 3) (v := ?vZ2_4) rfl (by kernel_rfl) (by kernel_rfl) (by kernel_rfl) (fun _ _ _ h => h) (Or.inl ⟨by rfl, ?hyZ2_4⟩) (by assumption) ?restZ2_4
        case hyZ2_4 => (intro w' hSw; go_split_ands; go_simp; try with_reducible rfl)
        simp only [Act.put, List.getElem_toArray, List.getElem_cons_succ, List.getElem_cons_zero, List.setIfInBounds_toArray, List.set_cons_zero, List.set_cons_succ]
        refine wpAnyH_take (i := 4) (v := ?vZ2_5) rfl (by kernel_rfl) (by kernel_rfl) (by kernel_rfl) (fun _ _ _ h => h) (Or.inl ⟨by rfl, ?hyZ2_5⟩) (by assumption) ?restZ2_5
        case hyZ2_5 => (intro w' hSw; go_split_ands; go_simp; try with_reducible rfl)
        simp only [Act.put, List.getElem_toArray, List.getElem_cons_succ, List.getElem_cons_zero, List.setIfInBounds_toArray, List.set_cons_zero, List.set_cons_succ]
        refine wpAnyH_take (i := 5) (v := ?vZ2_6) rfl (by kernel_rfl) (by kernel_rfl) (by kernel_rfl) (fun _ _ _ h => h) (Or.inl ⟨by rfl, ?hyZ2_6⟩) (by assumption) ?restZ2_6
        case hyZ2_6 => (intro w' hSw; go_split_ands; go_simp; try with_reducible rfl)
        simp only [Act.put, List.getElem_toArray, List.getElem_cons_succ, List.getElem_cons_zero, List.setIfInBounds_toArray, List.set_cons_zero, List.set_cons_succ]
        refine wpAnyH_take (i := 6) (v := undef) rfl (by kernel_rfl) (by kernel_rfl) (by kernel_rfl) (fun _ _ _ h => h) (Or.inr ⟨by rfl, rfl⟩) (by assumption) ?_
        simp only [Act.put, List.getElem_toArray, List.getElem_cons_succ, List.getElem_cons_zero, List.setIfInBounds_toArray, List.set_cons_zero, List.set_cons_succ]
        refine wpAnyH_take (i := 7) (v := undef) rfl (by kernel_rfl) (by kernel_rfl) (by kernel_rfl) (fun _ _ _ h => h) (Or.inr ⟨by rfl, rfl⟩) (by assumption) ?_
        simp only [Act.put, List.getElem_toArray, List.getElem_cons_succ, List.getElem_cons_zero, List.setIfInBounds_toArray, List.set_cons_zero, List.set_cons_succ]
        refine wpAnyH_take (i := 8) (v := undef) rfl (by kernel_rfl) (by kernel_rfl) (by kernel_rfl) (fun _ _ _ h => h) (Or.inr ⟨by rfl, rfl⟩) (by assumption) ?_
        simp only [Act.put, List.getElem_toArray, List.getElem_cons_succ, List.getElem_cons_zero, List.setIfInBounds_toArray, List.set_cons_zero, List.set_cons_succ]
        refine wpAnyH_take (i := 9) (v := undef) rfl (by kernel_rfl) (by kernel_rfl) (by kernel_rfl) (fun _ _ _ h => h) (Or.inr ⟨by rfl, rfl⟩) (by assumption) ?_
        simp only [Act.put, List.getElem_toArray, List.getElem_cons_succ, List.getElem_cons_zero, List.setIfInBounds_toArray, List.set_cons_zero, List.set_cons_succ]
        refine wpAnyH_take (i := 10) (v := undef) rfl (by kernel_rfl) (by kernel_rfl) (by kernel_rfl) (fun _ _ _ h => h) (Or.inr ⟨by rfl, rfl⟩) (by assumption) ?_
        simp only [Act.put, List.getElem_toArray, List.getElem_cons_succ, List.getElem_cons_zero, List.setIfInBounds_toArray, List.set_cons_zero, List.set_cons_succ]
        refine wpAnyH_take (i := 11) (v := undef) rfl (by kernel_rfl) (by kernel_rfl) (by kernel_rfl) (fun _ _ _ h => h) (Or.inr ⟨by rfl, rfl⟩) (by assumption) ?_
        simp only [Act.put, List.getElem_toArray, List.getElem_cons_succ, List.getElem_cons_zero, List.setIfInBounds_toArray, List.set_cons_zero, List.set_cons_succ]
        refine wpAnyH_take (i := 12) (v := undef) rfl (by kernel_rfl) (by kernel_rfl) (by kernel_rfl) (fun _ _ _ h => h) (Or.inr ⟨by rfl, rfl⟩) (by assumption) ?_
        simp only [Act.put, List.getElem_toArray, List.getElem_cons_succ, List.getElem_cons_zero, List.setIfInBounds_toArray, List.set_cons_zero, List.set_cons_succ]
        refine wpAnyH_take (i := 13) (v := undef) rfl (by kernel_rfl) (by kernel_rfl) (by kernel_rfl) (fun _ _ _ h => h) (Or.inr ⟨by rfl, rfl⟩) (by assumption) ?_
        simp only [Act.put, List.getElem_toArray, List.getElem_cons_succ, List.getElem_cons_zero, List.setIfInBounds_toArray, List.set_cons_zero, List.set_cons_succ]
        refine wpAnyH_take (i := 14) (v := undef) rfl (by kernel_rfl) (by kernel_rfl) (by kernel_rfl) (fun _ _ _ h => h) (Or.inr ⟨by rfl, rfl⟩) (by assumption) ?_
        simp only [Act.put, List.getElem_toArray, List.getElem_cons_succ, List.getElem_cons_zero, List.setIfInBounds_toArray, List.set_cons_zero, List.set_cons_succ]
        refine wpAnyH_take (i := 15) (v := undef) rfl (by kernel_rfl) (by kernel_rfl) (by kernel_rfl) (fun _ _ _ h => h) (Or.inr ⟨by rfl, rfl⟩) (by assumption) ?_
        simp only [Act.put, List.getElem_toArray, List.getElem_cons_succ, List.getElem_cons_zero, List.setIfInBounds_toArray, List.set_cons_zero, List.set_cons_succ]
        refine wpAnyH_take (i := 16) (v := undef) rfl (by kernel_rfl) (by kernel_rfl) (by kernel_rfl) (fun _ _ _ h => h) (Or.inr ⟨by rfl, rfl⟩) (by assumption) ?_
        simp only [Act.put, List.getElem_toArray, List.getElem_cons_succ, List.getElem_cons_zero, List.setIfInBounds_toArray, List.set_cons_zero, List.set_cons_succ]
        refine wpAnyH_take (i := 17) (v := undef) rfl (by kernel_rfl) (by kernel_rfl) (by kernel_rfl) (fun _ _ _ h => h) (Or.inr ⟨by rfl, rfl⟩) (by assumption) ?_
        simp only [Act.put, List.getElem_toArray, List.getElem_cons_succ, List.getElem_cons_zero, List.setIfInBounds_toArray, List.set_cons_zero, List.set_cons_succ]
        refine wpAnyH_take (i := 18) (v := undef) rfl (by kernel_rfl) (by kernel_rfl) (by kernel_rfl) (fun _ _ _ h => h) (Or.inr ⟨by rfl, rfl⟩) (by assumption) ?_
        simp only [Act.put, List.getElem_toArray, List.getElem_cons_succ, List.getElem_cons_zero, List.setIfInBounds_toArray, List.set_cons_zero, List.set_cons_succ]
        refine wpAnyH_take (i := 19) (v := undef) rfl (by kernel_rfl) (by kernel_rfl) (by kernel_rfl) (fun _ _ _ h => h) (Or.inr ⟨by rfl, rfl⟩) (by assumption) ?_
        simp only [Act.put, List.getElem_toArray, List.getElem_cons_succ, List.getElem_cons_zero, List.setIfInBounds_toArray, List.set_cons_zero, List.set_cons_succ]
        refine wpAnyH_take (i := 20) (v := undef) rfl (by kernel_rfl) (by kernel_rfl) (by kernel_rfl) (fun _ _ _ h => h) (Or.inr ⟨by rfl, rfl⟩) (by assumption) ?_
        simp only [Act.put, List.getElem_toArray, List.getElem_cons_succ, List.getElem_cons_zero, List.setIfInBounds_toArray, List.set_cons_zero, List.set_cons_succ]
        refine wpAnyH_take (i := 21) (v := undef) rfl (by kernel_rfl) (by kernel_rfl) (by kernel_rfl) (fun _ _ _ h => h) (Or.inr ⟨by rfl, rfl⟩) (by assumption) ?_
        simp only [Act.put, List.getElem_toArray, List.getElem_cons_succ, List.getElem_cons_zero, List.setIfInBounds_toArray, List.set_cons_zero, List.set_cons_succ]
        refine wpAnyH_take (i := 22) (v := undef) rfl (by kernel_rfl) (by kernel_rfl) (by kernel_rfl) (fun _ _ _ h => h) (Or.inr ⟨by rfl, rfl⟩) (by assumption) ?_
        simp only [Act.put, List.getElem_toArray, List.getElem_cons_succ, List.getElem_cons_zero, List.setIfInBounds_toArray, List.set_cons_zero, List.set_cons_succ]
        refine wpAnyH_take (i := 23) (v := ?vZ2_7) rfl (by kernel_rfl) (by kernel_rfl) (by kernel_rfl) (fun _ _ _ h => h) (Or.inl ⟨by rfl, ?hyZ2_7⟩) (by assumption) ?restZ2_7
        case hyZ2_7 => (intro w' hSw; go_split_ands; go_simp; try with_reducible rfl)
        simp only [Act.put, List.getElem_toArray, List.getElem_cons_succ, List.getElem_cons_zero, List.setIfInBounds_toArray, List.set_cons_zero, List.set_cons_succ]
        refine wpAnyH_done (by kernel_rfl) ?_ _
        have hE : Below wl.heap.size wl _ := hHeld.1
        go_wp2
        go_roundw
        case rel => exact ⟨3, by omega, rfl, hE⟩
        case measure => simp [intOf]
      | true =>
        subst hg
        obtain ⟨rfl, hyb, k34⟩ := F2 rfl
        have K34 := Lib.hid k34
        have hT := And.intro hS9 (And.intro hbw (And.intro hBw (And.intro (hcell 14 _ rfl) (And.intro (hcell 15 _ rfl) (And.intro (hcell 16 _ rfl) (And.intro (hcell 17 _ rfl) (And.intro (hcell 18 _ rfl) (And.intro (hcell 19 _ rfl) (hcell 20 _ rfl)))))))))
        have HT := Lib.hid hT
        clear hT hcell hS9 k34 F0 F1 F2 F3 F4 F5 K7
        go_wp2_with fail
        have hT := HT.out
        go_region_held3 (fun w' => (Below w.heap.size w w' ∧ w.heap.size < w'.heap.size ∧ w'.cell? ⟨w.heap.size, 0, none⟩ = some (.bool true) ∧ w'.cell? ⟨w.heap.size, 1, none⟩ = some (.int .u32 (a : Int)) ∧ w'.cell? ⟨w.heap.size, 2, none⟩ = some (.int .u8 (p : Int)) ∧ w'.cell? ⟨w.heap.size, 3, none⟩ = some (.int .u8 (y : Int)) ∧ w'.cell? ⟨w.heap.size, 4, none⟩ = some (.int .u8 (e : Int)) ∧ w'.cell? ⟨w.heap.size, 5, none⟩ = some (.int .u16 (b : Int)) ∧ w'.cell? ⟨w.heap.size, 6, none⟩ = some (.int .u16 (t : Int))) ∧ (Below wl.heap.size wl w' ∧ wx.heap.size < w'.heap.size ∧ w'.cell? ⟨wx.heap.size, 14, none⟩ = some (.bool true) ∧ w'.cell? ⟨wx.heap.size, 15, none⟩ = some (.int .u32 (a : Int)) ∧ w'.cell? ⟨wx.heap.size, 16, none⟩ = some (.int .u8 (p2 : Int)) ∧ w'.cell? ⟨wx.heap.size, 17, none⟩ = some (.int .u8 (y : Int)) ∧ w'.cell? ⟨wx.heap.size, 18, none⟩ = some (.int .u8 (e : Int)) ∧ w'.cell? ⟨wx.heap.size, 19, none⟩ = some (.int .u16 (b : Int)) ∧ w'.cell? ⟨wx.heap.size, 20, none⟩ = some (.int .u16 (t : Int))))
          (first | exact keep7o (by assumption) ((Below.refl _ _).drew) | exact keep7o (by assumption) hbx)
          (first | (go_at_call 34; (with_reducible refine (K34.out _).mono ?_); rintro _ wy ⟨rfl, hbx⟩))
        all_goals
          have hE : Below wl.heap.size wl wy := And.left (And.right (by assumption))
          go_wp2
          go_roundw
          case rel => exact ⟨3, by omega, rfl, hE⟩
          case measure => simp [intOf]
    · cases hg : g3 with
      | false =>
        subst hg
        have z0 := hcell 21 _ rfl
        have hz : Below wl.heap.size wl wr ∧ wx.heap.size < wr.heap.size ∧ wr.cell? ⟨wx.heap.size, 21, none⟩ = some (.bool false) := ⟨hbw, hBw, z0⟩
        have HZ := Lib.hid hz
        clear hcell z0 hz F0 F1 F2 F3 F4 F5 K7 hS9
        go_wp2_with fail
        refine wp_region_held_drew (S := fun w' => Below wl.heap.size wl w' ∧ wx.heap.size < w'.heap.size ∧ w'.cell? ⟨wx.heap.size, 21, none⟩ = some (.bool false)) (by kernel_rfl) ?_ (fun hHeld => ?_)
        · exact keep1o HZ.out ((Below.refl _ _).drew)
        refine wpAnyH_take (i := 0) (v := ?vZ3_1) rfl (by kernel_rfl) (by kernel_rfl) (by kernel_rfl) (fun _ _ _ h => h) (Or.inl ⟨by rfl, ?hyZ3_1⟩) (by assumption) ?restZ3_1
        case hyZ3_1 => (intro w' hSw; go_split_ands; go_simp; try with_reducible rfl)
        simp only [Act.put, List.getElem_toArray, List.getElem_cons_zero, List.setIfInBounds_toArray, List.set_cons_zero, List.set_cons_succ]
        refine wpAnyH_take (i := 1) (v := ?vZ3_2) rfl (by kernel_rfl) (by kernel_rfl) (by kernel_rfl) (fun _ _ _ h => h) (Or.inl ⟨by rfl, ?hyZ3_2⟩) (by assumption) ?restZ3_2
        case hyZ3_2 => (intro w' hSw; go_split_ands; go_simp; try with_reducible rfl)
        simp only [Act.put, List.getElem_toArray, List.getElem_cons_succ, List.getElem_cons_zero, List.setIfInBounds_toArray, List.set_cons_zero, List.set_cons_succ]
        refine wpAnyH_take (i := 2) (v := ?vZ3_3) rfl (by kernel_rfl) (by kernel_rfl) (by kernel_rfl) (fun _ _ _ h => h) (Or.inl ⟨by rfl, ?hyZ3_3⟩) (by assumption) ?restZ3_3
        case hyZ3_3 => (intro w' hSw; go_split_ands; go_simp; try with_reducible rfl)
        simp only [Act.put, List.getElem_toArray, List.getElem_cons_succ, List.getElem_cons_zero, List.setIfInBounds_toArray, List.set_cons_zero, List.set_cons_succ]
        refine wpAnyH_take (i := 3) (v := ?vZ3_4) rfl (by kernel_rfl) (by kernel_rfl) (by kernel_rfl) (fun _ _ _ h => h) (Or.inl ⟨by rfl, ?hyZ3_4⟩) (by assumption) ?restZ3_4
        case hyZ3_4 => (intro w' hSw; go_split_ands; go_simp; try with_reducible rfl)
        simp only [Act.put, List.getElem_toArray, List.getElem_cons_succ, List.getElem_cons_zero, List.setIfInBounds_toArray, List.set_cons_zero, List.set_cons_succ]
        refine wpAnyH_take (i := 4) (v := ?vZ3_5) rfl (by kernel_rfl) (by kernel_rfl) (by kernel_rfl) (fun _ _ _ h => h) (Or.inl ⟨by rfl, ?hyZ3_5⟩) (by assumption) ?restZ3_5
        case hyZ3_5 => (intro w' hSw; go_split_ands; go_simp; try with_reducible rfl)
        simp only [Act.put, List.getElem_toArray, List.getElem_cons_succ, List.getElem_cons_zero, List.setIfInBounds_toArray, List.set_cons_zero, List.set_cons_succ]
        refine wpAnyH_take (i := 5) (v := ?vZ3_6) rfl (by kernel_rfl) (by kernel_rfl) (by kernel_rfl) (fun _ _ _ h => h) (Or.inl ⟨by rfl, ?hyZ3_6⟩) (by assumption) ?restZ3_6
        case hyZ3_6 => (intro w' hSw; go_split_ands; go_simp; try with_reducible rfl)
        simp only [Act.put, List.getElem_toArray, List.getElem_cons_succ, List.getElem_cons_zero, List.setIfInBounds_toArray, List.set_cons_zero, List.set_cons_succ]
        refine wpAnyH_take (i := 6) (v := undef) rfl (by kernel_rfl) (by kernel_rfl) (by kernel_rfl) (fun _ _ _ h => h) (Or.inr ⟨by rfl, rfl⟩) (by assumption) ?_
        simp only [Act.put, List.getElem_toArray, List.getElem_cons_succ, List.getElem_cons_zero, List.setIfInBounds_toArray, List.set_cons_zero, List.set_cons_succ]
        refine wpAnyH_take (i := 7) (v := undef) rfl (by kernel_rfl) (by kernel_rfl) (by kernel_rfl) (fun _ _ _ h => h) (Or.inr ⟨by rfl, rfl⟩) (by assumption) ?_
        simp only [Act.put, List.getElem_toArray, List.getElem_cons_succ, List.getElem_cons_zero, List.setIfInBounds_toArray, List.set_cons_zero, List.set_cons_succ]
        refine wpAnyH_take (i := 8) (v := undef) rfl (by kernel_rfl) (by kernel_rfl) (by kernel_rfl) (fun _ _ _ h => h) (Or.inr ⟨by rfl, rfl⟩) (by assumption) ?_
        simp only [Act.put, List.getElem_toArray, List.getElem_cons_succ, List.getElem_cons_zero, List.setIfInBounds_toArray, List.set_cons_zero, List.set_cons_succ]
        refine wpAnyH_take (i := 9) (v := undef) rfl (by kernel_rfl) (by kernel_rfl) (by kernel_rfl) (fun _ _ _ h => h) (Or.inr ⟨by rfl, rfl⟩) (by assumption) ?_
        simp only [Act.put, List.getElem_toArray, List.getElem_cons_succ, List.getElem_cons_zero, List.setIfInBounds_toArray, List.set_cons_zero, List.set_cons_succ]
        refine wpAnyH_take (i := 10) (v := undef) rfl (by kernel_rfl) (by kernel_rfl) (by kernel_rfl) (fun _ _ _ h => h) (Or.inr ⟨by rfl, rfl⟩) (by assumption) ?_
        simp only [Act.put, List.getElem_toArray, List.getElem_cons_succ, List.getElem_cons_zero, List.setIfInBounds_toArray, List.set_cons_zero, List.set_cons_succ]
        refine wpAnyH_take (i := 11) (v := undef) rfl (by kernel_rfl) (by kernel_rfl) (by kernel_rfl) (fun _ _ _ h => h) (Or.inr ⟨by rfl, rfl⟩) (by assumption) ?_
        simp only [Act.put, List.getElem_toArray, List.getElem_cons_succ, List.getElem_cons_zero, List.setIfInBounds_toArray, List.set_cons_zero, List.set_cons_succ]
        refine wpAnyH_take (i := 12) (v := undef) rfl (by kernel_rfl) (by kernel_rfl) (by kernel_rfl) (fun _ _ _ h => h) (Or.inr ⟨by rfl, rfl⟩) (by assumption) ?_
        simp only [Act.put, List.getElem_toArray, List.getElem_cons_succ, List.getElem_cons_zero, List.setIfInBounds_toArray, List.set_cons_zero, List.set_cons_succ]
        refine wpAnyH_take (i := 13) (v := undef) rfl (by kernel_rfl) (by kernel_rfl) (by kernel_rfl) (fun _ _ _ h => h) (Or.inr ⟨by rfl, rfl⟩) (by assumption) ?_
        simp only [Act.put, List.getElem_toArray, List.getElem_cons_succ, List.getElem_cons_zero, List.setIfInBounds_toArray, List.set_cons_zero, List.set_cons_succ]
        refine wpAnyH_take (i := 14) (v := undef) rfl (by kernel_rfl) (by kernel_rfl) (by kernel_rfl) (fun _ _ _ h => h) (Or.inr ⟨by rfl, rfl⟩) (by assumption) ?_
        simp only [Act.put, List.getElem_toArray, List.getElem_cons_succ, List.getElem_cons_zero, List.setIfInBounds_toArray, List.set_cons_zero, List.set_cons_succ]
        refine wpAnyH_take (i := 15) (v := undef) rfl (by kernel_rfl) (by kernel_rfl) (by kernel_rfl) (fun _ _ _ h => h) (Or.inr ⟨by rfl, rfl⟩) (by assumption) ?_
        simp only [Act.put, List.getElem_toArray, List.getElem_cons_succ, List.getElem_cons_zero, List.setIfInBounds_toArray, List.set_cons_zero, List.set_cons_succ]
        refine wpAnyH_take (i := 16) (v := undef) rfl (by kernel_rfl) (by kernel_rfl) (by kernel_rfl) (fun _ _ _ h => h) (Or.inr ⟨by rfl, rfl⟩) (by assumption) ?_
        simp only [Act.put, List.getElem_toArray, List.getElem_cons_succ, List.getElem_cons_zero, List.setIfInBounds_toArray, List.set_cons_zero, List.set_cons_succ]
        refine wpAnyH_take (i := 17) (v := undef) rfl (by kernel_rfl) (by kernel_rfl) (by kernel_rfl) (fun _ _ _ h => h) (Or.inr ⟨by rfl, rfl⟩) (by assumption) ?_
        simp only [Act.put, List.getElem_toArray, List.getElem_cons_succ, List.getElem_cons_zero, List.setIfInBounds_toArray, List.set_cons_zero, List.set_cons_succ]
        refine wpAnyH_take (i := 18) (v := undef) rfl (by kernel_rfl) (by kernel_rfl) (by kernel_rfl) (fun _ _ _ h => h) (Or.inr ⟨by rfl, rfl⟩) (by assumption) ?_
        simp only [Act.put, List.getElem_toArray, List.getElem_cons_succ, List.getElem_cons_zero, List.setIfInBounds_toArray, List.set_cons_zero, List.set_cons_succ]
        refine wpAnyH_take (i := 19) (v := undef) rfl (by kernel_rfl) (by kernel_rfl) (by kernel_rfl) (fun _ _ _ h => h) (Or.inr ⟨by rfl, rfl⟩) (by assumption) ?_
        simp only [Act.put, List.getElem_toArray, List.getElem_cons_succ, List.getElem_cons_zero, List.setIfInBounds_toArray, List.set_cons_zero, List.set_cons_succ]
        refine wpAnyH_take (i := 20) (v := undef) rfl (by kernel_rfl) (by kernel_rfl) (by kernel_rfl) (fun _ _ _ h => h) (Or.inr ⟨by rfl, rfl⟩) (by assumption) ?_
        simp only [Act.put, List.getElem_toArray, List.getElem_cons_succ, List.getElem_cons_zero, List.setIfInBounds_toArray, List.set_cons_zero, List.set_cons_succ]
        refine wpAnyH_take (i := 21) (v := undef) rfl (by kernel_rfl) (by kernel_rfl) (by kernel_rfl) (fun _ _ _ h => h) (Or.inr ⟨by rfl, rfl⟩) (by assumption) ?_
        simp only [Act.put, List.getElem_toArray, List.getElem_cons_succ, List.getElem_cons_zero, List.setIfInBounds_toArray, List.set_cons_zero, List.set_cons_succ]
        refine wpAnyH_take (i := 22) (v := undef) rfl (by kernel_rfl) (by kernel_rfl) (by kernel_rfl) (fun _ _ _ h => h) (Or.inr ⟨by rfl, rfl⟩) (by assumption) ?_
        simp only [Act.put, List.getElem_toArray, List.getElem_cons_succ, List.getElem_cons_zero, List.setIfInBounds_toArray, List.set_cons_zero, List.set_cons_succ]
        refine wpAnyH_take (i := 23) (v := ?vZ3_7) rfl (by kernel_rfl) (by kernel_rfl) (by kernel_rfl) (fun _ _ _ h => h) (Or.inl ⟨by rfl, ?hyZ3_7⟩) (by assumption) ?restZ3_7
        case hyZ3_7 => (intro w' hSw; go_split_ands; go_simp; try with_reducible rfl)
        simp only [Act.put, List.getElem_toArray, List.getElem_cons_succ, List.getElem_cons_zero, List.setIfInBounds_toArray, List.set_cons_zero, List.set_cons_succ]
        refine wpAnyH_done (by kernel_rfl) ?_ _
        have hE : Below wl.heap.size wl _ := hHeld.1
        go_wp2
        go_roundw
        case rel => exact ⟨4, by omega, rfl, hE⟩
        case measure => simp [intOf]
      | true =>
        subst hg
        obtain ⟨rfl, hyb, k34⟩ := F3 rfl
        have k34 : ∀ w : World, Calls Try.prog 34 #[.agg #[.bool true, .int .u32 (a : Int), .int .u8 (p : Int), .int .u8 1, .int .u8 (e : Int), .int .u16 (b : Int), .int .u16 (t : Int)], cp true a p y e b t] w fun en w' => en = .returned (.bool true) ∧ Below w.heap.size w w' := fun w => k34 w
        have K34 := Lib.hid k34
        have hT := And.intro hS9 (And.intro hbw (And.intro hBw (And.intro (hcell 21 _ rfl) (And.intro (hcell 22 _ rfl) (And.intro (hcell 23 _ rfl) (And.intro (hcell 24 _ rfl) (And.intro (hcell 25 _ rfl) (And.intro (hcell 26 _ rfl) (hcell 27 _ rfl)))))))))
        have HT := Lib.hid hT
        clear hT hcell hS9 k34 F0 F1 F2 F3 F4 F5 K7
        go_wp2_with fail
        have hT := HT.out
        go_region_held3 (fun w' => (Below w.heap.size w w' ∧ w.heap.size < w'.heap.size ∧ w'.cell? ⟨w.heap.size, 0, none⟩ = some (.bool true) ∧ w'.cell? ⟨w.heap.size, 1, none⟩ = some (.int .u32 (a : Int)) ∧ w'.cell? ⟨w.heap.size, 2, none⟩ = some (.int .u8 (p : Int)) ∧ w'.cell? ⟨w.heap.size, 3, none⟩ = some (.int .u8 (y : Int)) ∧ w'.cell? ⟨w.heap.size, 4, none⟩ = some (.int .u8 (e : Int)) ∧ w'.cell? ⟨w.heap.size, 5, none⟩ = some (.int .u16 (b : Int)) ∧ w'.cell? ⟨w.heap.size, 6, none⟩ = some (.int .u16 (t : Int))) ∧ (Below wl.heap.size wl w' ∧ wx.heap.size < w'.heap.size ∧ w'.cell? ⟨wx.heap.size, 21, none⟩ = some (.bool true) ∧ w'.cell? ⟨wx.heap.size, 22, none⟩ = some (.int .u32 (a : Int)) ∧ w'.cell? ⟨wx.heap.size, 23, none⟩ = some (.int .u8 (p : Int)) ∧ w'.cell? ⟨wx.heap.size, 24, none⟩ = some (.int .u8 1) ∧ w'.cell? ⟨wx.heap.size, 25, none⟩ = some (.int .u8 (e : Int)) ∧ w'.cell? ⟨wx.heap.size, 26, none⟩ = some (.int .u16 (b : Int)) ∧ w'.cell? ⟨wx.heap.size, 27, none⟩ = some (.int .u16 (t : Int))))
          (first | exact keep7o (by assumption) ((Below.refl _ _).drew) | exact keep7o (by assumption) hbx)
          (first | (go_at_call 34; (with_reducible refine (K34.out _).mono ?_); rintro _ wy ⟨rfl, hbx⟩))
        all_goals
          have hE : Below wl.heap.size wl wy := And.left (And.right (by assumption))
          go_wp2
          go_roundw
          case rel => exact ⟨4, by omega, rfl, hE⟩
          case measure => simp [intOf]
    · cases hg : g4 with
      | false =>
        subst hg
        have z0 := hcell 28 _ rfl
        have hz : Below wl.heap.size wl wr ∧ wx.heap.size < wr.heap.size ∧ wr.cell? ⟨wx.heap.size, 28, none⟩ = some (.bool false) := ⟨hbw, hBw, z0⟩
        have HZ := Lib.hid hz
        clear hcell z0 hz F0 F1 F2 F3 F4 F5 K7 hS9
        go_wp2_with fail
        refine wp_region_held_drew (S := fun w' => Below wl.heap.size wl w' ∧ wx.heap.size < w'.heap.size ∧ w'.cell? ⟨wx.heap.size, 28, none⟩ = some (.bool false)) (by kernel_rfl) ?_ (fun hHeld => ?_)
        · exact keep1o HZ.out ((Below.refl _ _).drew)
        refine wpAnyH_take (i := 0) (v := ?vZ4_1) rfl (by kernel_rfl) (by kernel_rfl) (by kernel_rfl) (fun _ _ _ h => h) (Or.inl ⟨by rfl, ?hyZ4_1⟩) (by assumption) ?restZ4_1
        case hyZ4_1 => (intro w' hSw; go_split_ands; go_simp; try with_reducible rfl)
        simp only [Act.put, List.getElem_toArray, List.getElem_cons_zero, List.setIfInBounds_toArray, List.set_cons_zero, List.set_cons_succ]
        refine wpAnyH_take (i := 1) (v := ?vZ4_2) rfl (by kernel_rfl) (by kernel_rfl) (by kernel_rfl) (fun _ _ _ h => h) (Or.inl ⟨by rfl, ?hyZ4_2⟩) (by assumption) ?restZ4_2
        case hyZ4_2 => (intro w' hSw; go_split_ands; go_simp; try with_reducible rfl)
        simp only [Act.put, List.getElem_toArray, List.getElem_cons_succ, List.getElem_cons_zero, List.setIfInBounds_toArray, List.set_cons_zero, List.set_cons_succ]
        refine wpAnyH_take (i := 2) (v := ?vZ4_3) rfl (by kernel_rfl) (by kernel_rfl) (by kernel_rfl) (fun _ _ _ h => h) (Or.inl ⟨by rfl, ?hyZ4_3⟩) (by assumption) ?restZ4_3
        case hyZ4_3 => (intro w' hSw; go_split_ands; go_simp; try with_reducible rfl)
        simp only [Act.put, List.getElem_toArray, List.getElem_cons_succ, List.getElem_cons_zero, List.setIfInBounds_toArray, List.set_cons_zero, List.set_cons_succ]
        refine wpAnyH_take (i := 3) (v := ?vZ4_4) rfl (by kernel_rfl) (by kernel_rfl) (by kernel_rfl) (fun _ _ _ h => h) (Or.inl ⟨by rfl, ?hyZ4_4⟩) (by assumption) ?restZ4_4
        case hyZ4_4 => (intro w' hSw; go_split_ands; go_simp; try with_reducible rfl)
        simp only [Act.put, List.getElem_toArray, List.getElem_cons_succ, List.getElem_cons_zero, List.setIfInBounds_toArray, List.set_cons_zero, List.set_cons_succ]
        refine wpAnyH_take (i := 4) (v := ?vZ4_5) rfl (by kernel_rfl) (by kernel_rfl) (by kernel_rfl) (fun _ _ _ h => h) (Or.inl ⟨by rfl, ?hyZ4_5⟩) (by assumption) ?restZ4_5
        case hyZ4_5 => (intro w' hSw; go_split_ands; go_simp; try with_reducible rfl)
        simp only [Act.put, List.getElem_toArray, List.getElem_cons_succ, List.getElem_cons_zero, List.setIfInBounds_toArray, List.set_cons_zero, List.set_cons_succ]
        refine wpAnyH_take (i := 5) (v := ?vZ4_6) rfl (by kernel_rfl) (by kernel_rfl) (by kernel_rfl) (fun _ _ _ h => h) (Or.inl ⟨by rfl, ?hyZ4_6⟩) (by assumption) ?restZ4_6
        case hyZ4_6 => (intro w' hSw; go_split_ands; go_simp; try with_reducible rfl)
        simp only [Act.put, List.getElem_toArray, List.getElem_cons_succ, List.getElem_cons_zero, List.setIfInBounds_toArray, List.set_cons_zero, List.set_cons_succ]
        refine wpAnyH_take (i := 6) (v := undef) rfl (by kernel_rfl) (by kernel_rfl) (by kernel_rfl) (fun _ _ _ h => h) (Or.inr ⟨by rfl, rfl⟩) (by assumption) ?_
        simp only [Act.put, List.getElem_toArray, List.getElem_cons_succ, List.getElem_cons_zero, List.setIfInBounds_toArray, List.set_cons_zero, List.set_cons_succ]
        refine wpAnyH_take (i := 7) (v := undef) rfl (by kernel_rfl) (by kernel_rfl) (by kernel_rfl) (fun _ _ _ h => h) (Or.inr ⟨by rfl, rfl⟩) (by assumption) ?_
        simp only [Act.put, List.getElem_toArray, List.getElem_cons_succ, List.getElem_cons_zero, List.setIfInBounds_toArray, List.set_cons_zero, List.set_cons_succ]
        refine wpAnyH_take (i := 8) (v := undef) rfl (by kernel_rfl) (by kernel_rfl) (by kernel_rfl) (fun _ _ _ h => h) (Or.inr ⟨by rfl, rfl⟩) (by assumption) ?_
        simp only [Act.put, List.getElem_toArray, List.getElem_cons_succ, List.getElem_cons_zero, List.setIfInBounds_toArray, List.set_cons_zero, List.set_cons_succ]
        refine wpAnyH_take (i := 9) (v := undef) rfl (by kernel_rfl) (by kernel_rfl) (by kernel_rfl) (fun _ _ _ h => h) (Or.inr ⟨by rfl, rfl⟩) (by assumption) ?_
        simp only [Act.put, List.getElem_toArray, List.getElem_cons_succ, List.getElem_cons_zero, List.setIfInBounds_toArray, List.set_cons_zero, List.set_cons_succ]
        refine wpAnyH_take (i := 10) (v := undef) rfl (by kernel_rfl) (by kernel_rfl) (by kernel_rfl) (fun _ _ _ h => h) (Or.inr ⟨by rfl, rfl⟩) (by assumption) ?_
        simp only [Act.put, List.getElem_toArray, List.getElem_cons_succ, List.getElem_cons_zero, List.setIfInBounds_toArray, List.set_cons_zero, List.set_cons_succ]
        refine wpAnyH_take (i := 11) (v := undef) rfl (by kernel_rfl) (by kernel_rfl) (by kernel_rfl) (fun _ _ _ h => h) (Or.inr ⟨by rfl, rfl⟩) (by assumption) ?_
        simp only [Act.put, List.getElem_toArray, List.getElem_cons_succ, List.getElem_cons_zero, List.setIfInBounds_toArray, List.set_cons_zero, List.set_cons_succ]
        refine wpAnyH_take (i := 12) (v := undef) rfl (by kernel_rfl) (by kernel_rfl) (by kernel_rfl) (fun _ _ _ h => h) (Or.inr ⟨by rfl, rfl⟩) (by assumption) ?_
        simp only [Act.put, List.getElem_toArray, List.getElem_cons_succ, List.getElem_cons_zero, List.setIfInBounds_toArray, List.set_cons_zero, List.set_cons_succ]
        refine wpAnyH_take (i := 13) (v := undef) rfl (by kernel_rfl) (by kernel_rfl) (by kernel_rfl) (fun _ _ _ h => h) (Or.inr ⟨by rfl, rfl⟩) (by assumption) ?_
        simp only [Act.put, List.getElem_toArray, List.getElem_cons_succ, List.getElem_cons_zero, List.setIfInBounds_toArray, List.set_cons_zero, List.set_cons_succ]
        refine wpAnyH_take (i := 14) (v := undef) rfl (by kernel_rfl) (by kernel_rfl) (by kernel_rfl) (fun _ _ _ h => h) (Or.inr ⟨by rfl, rfl⟩) (by assumption) ?_
        simp only [Act.put, List.getElem_toArray, List.getElem_cons_succ, List.getElem_cons_zero, List.setIfInBounds_toArray, List.set_cons_zero, List.set_cons_succ]
        refine wpAnyH_take (i := 15) (v := undef) rfl (by kernel_rfl) (by kernel_rfl) (by kernel_rfl) (fun _ _ _ h => h) (Or.inr ⟨by rfl, rfl⟩) (by assumption) ?_
        simp only [Act.put, List.getElem_toArray, List.getElem_cons_succ, List.getElem_cons_zero, List.setIfInBounds_toArray, List.set_cons_zero, List.set_cons_succ]
        refine wpAnyH_take (i := 16) (v := undef) rfl (by kernel_rfl) (by kernel_rfl) (by kernel_rfl) (fun _ _ _ h => h) (Or.inr ⟨by rfl, rfl⟩) (by assumption) ?_
        simp only [Act.put, List.getElem_toArray, List.getElem_cons_succ, List.getElem_cons_zero, List.setIfInBounds_toArray, List.set_cons_zero, List.set_cons_succ]
        refine wpAnyH_take (i := 17) (v := undef) rfl (by kernel_rfl) (by kernel_rfl) (by kernel_rfl) (fun _ _ _ h => h) (Or.inr ⟨by rfl, rfl⟩) (by assumption) ?_
        simp only [Act.put, List.getElem_toArray, List.getElem_cons_succ, List.getElem_cons_zero, List.setIfInBounds_toArray, List.set_cons_zero, List.set_cons_succ]
        refine wpAnyH_take (i := 18) (v := undef) rfl (by kernel_rfl) (by kernel_rfl) (by kernel_rfl) (fun _ _ _ h => h) (Or.inr ⟨by rfl, rfl⟩) (by assumption) ?_
        simp only [Act.put, List.getElem_toArray, List.getElem_cons_succ, List.getElem_cons_zero, List.setIfInBounds_toArray, List.set_cons_zero, List.set_cons_succ]
        refine wpAnyH_take (i := 19) (v := undef) rfl (by kernel_rfl) (by kernel_rfl) (by kernel_rfl) (fun _ _ _ h => h) (Or.inr ⟨by rfl, rfl⟩) (by assumption) ?_
        simp only [Act.put, List.getElem_toArray, List.getElem_cons_succ, List.getElem_cons_zero, List.setIfInBounds_toArray, List.set_cons_zero, List.set_cons_succ]
        refine wpAnyH_take (i := 20) (v := undef) rfl (by kernel_rfl) (by kernel_rfl) (by kernel_rfl) (fun _ _ _ h => h) (Or.inr ⟨by rfl, rfl⟩) (by assumption) ?_
        simp only [Act.put, List.getElem_toArray, List.getElem_cons_succ, List.getElem_cons_zero, List.setIfInBounds_toArray, List.set_cons_zero, List.set_cons_succ]
        refine wpAnyH_take (i := 21) (v := undef) rfl (by kernel_rfl) (by kernel_rfl) (by kernel_rfl) (fun _ _ _ h => h) (Or.inr ⟨by rfl, rfl⟩) (by assumption) ?_
        simp only [Act.put, List.getElem_toArray, List.getElem_cons_succ, List.getElem_cons_zero, List.setIfInBounds_toArray, List.set_cons_zero, List.set_cons_succ]
        refine wpAnyH_take (i := 22) (v := undef) rfl (by kernel_rfl) (by kernel_rfl) (by kernel_rfl) (fun _ _ _ h => h) (Or.inr ⟨by rfl, rfl⟩) (by assumption) ?_
        simp only [Act.put, List.getElem_toArray, List.getElem_cons_succ, List.getElem_cons_zero, List.setIfInBounds_toArray, List.set_cons_zero, List.set_cons_succ]
        refine wpAnyH_take (i := 23) (v := ?vZ4_7) rfl (by kernel_rfl) (by kernel_rfl) (by kernel_rfl) (fun _ _ _ h => h) (Or.inl ⟨by rfl, ?hyZ4_7⟩) (by assumption) ?restZ4_7
        case hyZ4_7 => (intro w' hSw; go_split_ands; go_simp; try with_reducible rfl)
        simp only [Act.put, List.getElem_toArray, List.getElem_cons_succ, List.getElem_cons_zero, List.setIfInBounds_toArray, List.set_cons_zero, List.set_cons_succ]
        refine wpAnyH_done (by kernel_rfl) ?_ _
        have hE : Below wl.heap.size wl _ := hHeld.1
        go_wp2
        go_roundw
        case rel => exact ⟨5, by omega, rfl, hE⟩
        case measure => simp [intOf]
      | true =>
        subst hg
        obtain ⟨rfl, hyb, k34⟩ := F4 rfl
        have K34 := Lib.hid k34
        have hT := And.intro hS9 (And.intro hbw (And.intro hBw (And.intro (hcell 28 _ rfl) (And.intro (hcell 29 _ rfl) (And.intro (hcell 30 _ rfl) (And.intro (hcell 31 _ rfl) (And.intro (hcell 32 _ rfl) (And.intro (hcell 33 _ rfl) (hcell 34 _ rfl)))))))))
        have HT := Lib.hid hT
        clear hT hcell hS9 k34 F0 F1 F2 F3 F4 F5 K7
        go_wp2_with fail
        have hT := HT.out
        go_region_held3 (fun w' => (Below w.heap.size w w' ∧ w.heap.size < w'.heap.size ∧ w'.cell? ⟨w.heap.size, 0, none⟩ = some (.bool true) ∧ w'.cell? ⟨w.heap.size, 1, none⟩ = some (.int .u32 (a : Int)) ∧ w'.cell? ⟨w.heap.size, 2, none⟩ = some (.int .u8 (p : Int)) ∧ w'.cell? ⟨w.heap.size, 3, none⟩ = some (.int .u8 (y : Int)) ∧ w'.cell? ⟨w.heap.size, 4, none⟩ = some (.int .u8 (e : Int)) ∧ w'.cell? ⟨w.heap.size, 5, none⟩ = some (.int .u16 (b : Int)) ∧ w'.cell? ⟨w.heap.size, 6, none⟩ = some (.int .u16 (t : Int))) ∧ (Below wl.heap.size wl w' ∧ wx.heap.size < w'.heap.size ∧ w'.cell? ⟨wx.heap.size, 28, none⟩ = some (.bool true) ∧ w'.cell? ⟨wx.heap.size, 29, none⟩ = some (.int .u32 (a : Int)) ∧ w'.cell? ⟨wx.heap.size, 30, none⟩ = some (.int .u8 (p : Int)) ∧ w'.cell? ⟨wx.heap.size, 31, none⟩ = some (.int .u8 (q8 : Int)) ∧ w'.cell? ⟨wx.heap.size, 32, none⟩ = some (.int .u8 (e : Int)) ∧ w'.cell? ⟨wx.heap.size, 33, none⟩ = some (.int .u16 (b : Int)) ∧ w'.cell? ⟨wx.heap.size, 34, none⟩ = some (.int .u16 (t : Int))))
          (first | exact keep7o (by assumption) ((Below.refl _ _).drew) | exact keep7o (by assumption) hbx)
          (first | (go_at_call 34; (with_reducible refine (K34.out _).mono ?_); rintro _ wy ⟨rfl, hbx⟩))
        all_goals
          have hE : Below wl.heap.size wl wy := And.left (And.right (by assumption))
          go_wp2
          go_roundw
          case rel => exact ⟨5, by omega, rfl, hE⟩
          case measure => simp [intOf]
    · have z0 := hcell 35 _ rfl
      have hz : Below wl.heap.size wl wr ∧ wx.heap.size < wr.heap.size ∧ wr.cell? ⟨wx.heap.size, 35, none⟩ = some (.bool false) := ⟨hbw, hBw, z0⟩
      have HZ := Lib.hid hz
      clear hcell z0 hz F0 F1 F2 F3 F4 F5 K7 hS9
      go_wp2_with fail
      refine wp_region_held_drew (S := fun w' => Below wl.heap.size wl w' ∧ wx.heap.size < w'.heap.size ∧ w'.cell? ⟨wx.heap.size, 35, none⟩ = some (.bool false)) (by kernel_rfl) ?_ (fun hHeld => ?_)
      · exact keep1o HZ.out ((Below.refl _ _).drew)
      refine wpAnyH_take (i := 0) (v := ?vZ5_1) rfl (by kernel_rfl) (by kernel_rfl) (by kernel_rfl) (fun _ _ _ h => h) (Or.inl ⟨by rfl, ?hyZ5_1⟩) (by assumption) ?restZ5_1
      case hyZ5_1 => (intro w' hSw; go_split_ands; go_simp; try with_reducible rfl)
      simp only [Act.put, List.getElem_toArray, List.getElem_cons_zero, List.setIfInBounds_toArray, List.set_cons_zero, List.set_cons_succ]
      refine wpAnyH_take (i := 1) (v := ?vZ5_2) rfl (by kernel_rfl) (by kernel_rfl) (by kernel_rfl) (fun _ _ _ h => h) (Or.inl ⟨by rfl, ?hyZ5_2⟩) (by assumption) ?restZ5_2
      case hyZ5_2 => (intro w' hSw; go_split_ands; go_simp; try with_reducible rfl)
      simp only [Act.put, List.getElem_toArray, List.getElem_cons_succ, List.getElem_cons_zero, List.setIfInBounds_toArray, List.set_cons_zero, List.set_cons_succ]
      refine wpAnyH_take (i := 2) (v := ?vZ5_3) rfl (by kernel_rfl) (by kernel_rfl) (by kernel_rfl) (fun _ _ _ h => h) (Or.inl ⟨by rfl, ?hyZ5_3⟩) (by assumption) ?restZ5_3
      case hyZ5_3 => (intro w' hSw; go_split_ands; go_simp; try with_reducible rfl)
      simp only [Act.put, List.getElem_toArray, List.getElem_cons_succ, List.getElem_cons_zero, List.setIfInBounds_toArray, List.set_cons_zero, List.set_cons_succ]
      refine wpAnyH_take (i := 3) (v := ?vZ5_4) rfl (by kernel_rfl) (by kernel_rfl) (by kernel_rfl) (fun _ _ _ h => h) (Or.inl ⟨by rfl, ?hyZ5_4⟩) (by assumption) ?restZ5_4
      case hyZ5_4 => (intro w' hSw; go_split_ands; go_simp; try with_reducible rfl)
      simp only [Act.put, List.getElem_toArray, List.getElem_cons_succ, List.getElem_cons_zero, List.setIfInBounds_toArray, List.set_cons_zero, List.set_cons_succ]
      refine wpAnyH_take (i := 4) (v := ?vZ5_5) rfl (by kernel_rfl) (by kernel_rfl) (by kernel_rfl) (fun _ _ _ h => h) (Or.inl ⟨by rfl, ?hyZ5_5⟩) (by assumption) ?restZ5_5
      case hyZ5_5 => (intro w' hSw; go_split_ands; go_simp; try with_reducible rfl)
      simp only [Act.put, List.getElem_toArray, List.getElem_cons_succ, List.getElem_cons_zero, List.setIfInBounds_toArray, List.set_cons_zero, List.set_cons_succ]
      refine wpAnyH_take (i := 5) (v := ?vZ5_6) rfl (by kernel_rfl) (by kernel_rfl) (by kernel_rfl) (fun _ _ _ h => h) (Or.inl ⟨by rfl, ?hyZ5_6⟩) (by assumption) ?restZ5_6
      case hyZ5_6 => (intro w' hSw; go_split_ands; go_simp; try with_reducible rfl)
      simp only [Act.put, List.getElem_toArray, List.getElem_cons_succ, List.getElem_cons_zero, List.setIfInBounds_toArray, List.set_cons_zero, List.set_cons_succ]
      refine wpAnyH_take (i := 6) (v := undef) rfl (by kernel_rfl) (by kernel_rfl) (by kernel_rfl) (fun _ _ _ h => h) (Or.inr ⟨by rfl, rfl⟩) (by assumption) ?_
      simp only [Act.put, List.getElem_toArray, List.getElem_cons_succ, List.getElem_cons_zero, List.setIfInBounds_toArray, List.set_cons_zero, List.set_cons_succ]
      refine wpAnyH_take (i := 7) (v := undef) rfl (by kernel_rfl) (by kernel_rfl) (by kernel_rfl) (fun _ _ _ h => h) (Or.inr ⟨by rfl, rfl⟩) (by assumption) ?_
      simp only [Act.put, List.getElem_toArray, List.getElem_cons_succ, List.getElem_cons_zero, List.setIfInBounds_toArray, List.set_cons_zero, List.set_cons_succ]
      refine wpAnyH_take (i := 8) (v := undef) rfl (by kernel_rfl) (by kernel_rfl) (by kernel_rfl) (fun _ _ _ h => h) (Or.inr ⟨by rfl, rfl⟩) (by assumption) ?_
      simp only [Act.put, List.getElem_toArray, List.getElem_cons_succ, List.getElem_cons_zero, List.setIfInBounds_toArray, List.set_cons_zero, List.set_cons_succ]
      refine wpAnyH_take (i := 9) (v := undef) rfl (by kernel_rfl) (by kernel_rfl) (by kernel_rfl) (fun _ _ _ h => h) (Or.inr ⟨by rfl, rfl⟩) (by assumption) ?_
      simp only [Act.put, List.getElem_toArray, List.getElem_cons_succ, List.getElem_cons_zero, List.setIfInBounds_toArray, List.set_cons_zero, List.set_cons_succ]
      refine wpAnyH_take (i := 10) (v := undef) rfl (by kernel_rfl) (by kernel_rfl) (by kernel_rfl) (fun _ _ _ h => h) (Or.inr ⟨by rfl, rfl⟩) (by assumption) ?_
      simp only [Act.put, List.getElem_toArray, List.getElem_cons_succ, List.getElem_cons_zero, List.setIfInBounds_toArray, List.set_cons_zero, List.set_cons_succ]
      refine wpAnyH_take (i := 11) (v := undef) rfl (by kernel_rfl) (by kernel_rfl) (by kernel_rfl) (fun _ _ _ h => h) (Or.inr ⟨by rfl, rfl⟩) (by assumption) ?_
      simp only [Act.put, List.getElem_toArray, List.getElem_cons_succ, List.getElem_cons_zero, List.setIfInBounds_toArray, List.set_cons_zero, List.set_cons_succ]
      refine wpAnyH_take (i := 12) (v := undef) rfl (by kernel_rfl) (by kernel_rfl) (by kernel_rfl) (fun _ _ _ h => h) (Or.inr ⟨by rfl, rfl⟩) (by assumption) ?_
      simp only [Act.put, List.getElem_toArray, List.getElem_cons_succ, List.getElem_cons_zero, List.setIfInBounds_toArray, List.set_cons_zero, List.set_cons_succ]
      refine wpAnyH_take (i := 13) (v := undef) rfl (by kernel_rfl) (by kernel_rfl) (by kernel_rfl) (fun _ _ _ h => h) (Or.inr ⟨by rfl, rfl⟩) (by assumption) ?_
      simp only [Act.put, List.getElem_toArray, List.getElem_cons_succ, List.getElem_cons_zero, List.setIfInBounds_toArray, List.set_cons_zero, List.set_cons_succ]
      refine wpAnyH_take (i := 14) (v := undef) rfl (by kernel_rfl) (by kernel_rfl) (by kernel_rfl) (fun _ _ _ h => h) (Or.inr ⟨by rfl, rfl⟩) (by assumption) ?_
      simp only [Act.put, List.getElem_toArray, List.getElem_cons_succ, List.getElem_cons_zero, List.setIfInBounds_toArray, List.set_cons_zero, List.set_cons_succ]
      refine wpAnyH_take (i := 15) (v := undef) rfl (by kernel_rfl) (by kernel_rfl) (by kernel_rfl) (fun _ _ _ h => h) (Or.inr ⟨by rfl, rfl⟩) (by assumption) ?_
      simp only [Act.put, List.getElem_toArray, List.getElem_cons_succ, List.getElem_cons_zero, List.setIfInBounds_toArray, List.set_cons_zero, List.set_cons_succ]
      refine wpAnyH_take (i := 16) (v := undef) rfl (by kernel_rfl) (by kernel_rfl) (by kernel_rfl) (fun _ _ _ h => h) (Or.inr ⟨by rfl, rfl⟩) (by assumption) ?_
      simp only [Act.put, List.getElem_toArray, List.getElem_cons_succ, List.getElem_cons_zero, List.setIfInBounds_toArray, List.set_cons_zero, List.set_cons_succ]
      refine wpAnyH_take (i := 17) (v := undef) rfl (by kernel_rfl) (by kernel_rfl) (by kernel_rfl) (fun _ _ _ h => h) (Or.inr ⟨by rfl, rfl⟩) (by assumption) ?_
      simp only [Act.put, List.getElem_toArray, List.getElem_cons_succ, List.getElem_cons_zero, List.setIfInBounds_toArray, List.set_cons_zero, List.set_cons_succ]
      refine wpAnyH_take (i := 18) (v := undef) rfl (by kernel_rfl) (by kernel_rfl) (by kernel_rfl) (fun _ _ _ h => h) (Or.inr ⟨by rfl, rfl⟩) (by assumption) ?_
      simp only [Act.put, List.getElem_toArray, List.getElem_cons_succ, List.getElem_cons_zero, List.setIfInBounds_toArray, List.set_cons_zero, List.set_cons_succ]
      refine wpAnyH_take (i := 19) (v := undef) rfl (by kernel_rfl) (by kernel_rfl) (by kernel_rfl) (fun _ _ _ h => h) (Or.inr ⟨by rfl, rfl⟩) (by assumption) ?_
      simp only [Act.put, List.getElem_toArray, List.getElem_cons_succ, List.getElem_cons_zero, List.setIfInBounds_toArray, List.set_cons_zero, List.set_cons_succ]
      refine wpAnyH_take (i := 20) (v := undef) rfl (by kernel_rfl) (by kernel_rfl) (by kernel_rfl) (fun _ _ _ h => h) (Or.inr ⟨by rfl, rfl⟩) (by assumption) ?_
      simp only [Act.put, List.getElem_toArray, List.getElem_cons_succ, List.getElem_cons_zero, List.setIfInBounds_toArray, List.set_cons_zero, List.set_cons_succ]
      refine wpAnyH_take (i := 21) (v := undef) rfl (by kernel_rfl) (by kernel_rfl) (by kernel_rfl) (fun _ _ _ h => h) (Or.inr ⟨by rfl, rfl⟩) (by assumption) ?_
      simp only [Act.put, List.getElem_toArray, List.getElem_cons_succ, List.getElem_cons_zero, List.setIfInBounds_toArray, List.set_cons_zero, List.set_cons_succ]
      refine wpAnyH_take (i := 22) (v := undef) rfl (by kernel_rfl) (by kernel_rfl) (by kernel_rfl) (fun _ _ _ h => h) (Or.inr ⟨by rfl, rfl⟩) (by assumption) ?_
      simp only [Act.put, List.getElem_toArray, List.getElem_cons_succ, List.getElem_cons_zero, List.setIfInBounds_toArray, List.set_cons_zero, List.set_cons_succ]
      refine wpAnyH_take (i := 23) (v := ?vZ5_7) rfl (by kernel_rfl) (by kernel_rfl) (by kernel_rfl) (fun _ _ _ h => h) (Or.inl ⟨by rfl, ?hyZ5_7⟩) (by assumption) ?restZ5_7
      case hyZ5_7 => (intro w' hSw; go_split_ands; go_simp; try with_reducible rfl)
      simp only [Act.put, List.getElem_toArray, List.getElem_cons_succ, List.getElem_cons_zero, List.setIfInBounds_toArray, List.set_cons_zero, List.set_cons_succ]
      refine wpAnyH_done (by kernel_rfl) ?_ _
      have hE : Below wl.heap.size wl _ := hHeld.1
      go_wp2
      go_roundw
      case rel => exact ⟨6, by omega, rfl, hE⟩
      case measure => simp [intOf]
end Go.Proofs.Ytojjdhohhonheaa
