import Derived.Test.YtjcoidpajcichaaG
namespace Go.Proofs.Ytjcoidpajcichaa
open Go.ChangeShapes Go.WideShapes Go.ChangeAt Go.RowKit
set_option linter.unusedVariables false
theorem z20 (A : Option Addr) (n c p s : Nat) (f : Nat → Nat) (w : World) (hn : n ≤ c) (hc : c ≤ 9223372036854775807) (hA : Rd w A n f) (hA0 : A = none → c = 0) (hp : p + s ≤ n) (hz : allz s (fun j => f (p + j))) :
    Calls Try.prog 20 #[.slice A n c, .int .i64 (p : Int), .int .i64 (s : Int)] w fun e w' => e = .returned (.bool true) ∧ w = w' :=
  (c20 A n c p s f w hn hc hA hA0 hp).mono fun e w' ⟨x, h1, h2, h3⟩ => by
    have hx : x = true := h2.2 hz
    rw [hx] at h1
    exact ⟨h1, h3⟩
theorem Rd.low {w : World} {A : Option Addr} {n m : Nat} {f : Nat → Nat} (h : Rd w A n f) (hm : m ≤ n) : Rd w A m f := fun h0 => by
  obtain ⟨b, o, e, h1, h2⟩ := h (by omega)
  exact ⟨b, o, e, h1, fun j hj => h2 j (by omega)⟩
set_option maxHeartbeats 2000000 in
theorem walk7 (A : Option Addr) (n c N q : Nat) (f : Nat → Nat) (w : World) (hn : n ≤ c) (hc : c ≤ 140737488351300) (hA : Rd w A n f) (hN : N = n + q) (hq : q ≤ 7) (h8 : N % 8 = 0)
    (K18 : Calls Try.prog 18 #[.slice A n c] w (PadOut w N (padF n f))) :
    Calls Try.prog 7 #[.slice A n c] w fun e w' => e = .returned (.bool true) ∧ Below w.heap.size w w' := by
  have t1 : ((N : Int) % 8 != 0) = false := by simp; omega
  have t2 : ((N : Int).tmod 8 != 0) = false := by rw [Int.tmod_eq_emod_of_nonneg (by omega)]; exact t1
  have t3 : decide (N < n) = false := by simp; omega
  have t4 : decide ((8 : Int) ≤ (N : Int) - (n : Int)) = false := by simp; omega
  have t5 : (N : Int) - (n : Int) = (q : Int) := by omega
  have t6 : n ≤ N := by omega
  have HA := Lib.hid hA
  have HN := Lib.hid hN
  have HK := Lib.hid K18
  clear hA hN K18 h8
  go_enter Try.func7, Try.ntmps7
  go_wp2_with fail
  refine HK.out.mono ?_
  rintro _ w1 ⟨v, rfl, hb, hown⟩
  obtain ⟨A', c', rfl, hR, hc1, hc2, hc3⟩ := own_rd hown
  have HR := Lib.hid hR
  have HB := Lib.hid hb
  have HA' := Lib.hid (HA.out.below hb)
  have HC := Lib.hid hc3
  have f1 : (n : Int) ≤ (c' : Int) := by omega
  clear hR hb HA hown hc3
  go_wp2_with fail
  refine (s11 A' A n c' c (padF n f) f _ (by omega) (HR.out.low t6) HA'.out (fun j hj => by unfold padF; rw [if_pos hj])).mono ?_
  rintro _ w2 ⟨rfl, hb2⟩
  have HR2 := Lib.hid (HR.out.below hb2)
  have HB2 := Lib.hid (HB.out.trans (hb2.mono HB.out.size))
  clear hb2 HR HA'
  go_wp2_with fail
  refine (z20 A' N c' n q (padF n f) _ (by omega) (by omega) HR2.out HC.out (by rw [HN.out]; exact Nat.le_refl _) (fun j _ => by show padF n f (n + j) = 0; unfold padF; rw [if_neg (by omega)])).mono ?_
  rintro _ _ ⟨rfl, rfl⟩
  go_wp2_with fail
  refine (lives _).mono ?_
  rintro _ w3 ⟨rfl, hb3⟩
  have HB3 := Lib.hid (HB2.out.trans (hb3.mono HB2.out.size))
  clear hb3
  go_wp2_with fail
  go_ret
  exact ⟨rfl, HB3.out⟩
theorem law7 (A : Option Addr) (len cap : Nat) (zs : List Int) {w : World} (h : IsRow .u8 w A len cap zs) (hc : cap * 1 ≤ 140737488351232) (_W : World) :
    Calls Try.prog 7 #[.slice A len cap] w fun e w' => e = .returned (.bool true) ∧ Below w.heap.size w w' := by
  obtain ⟨f, hf, hR, h1, h2, h3⟩ := h.rd
  exact walk7 A len cap (padN len) ((8 - len % 8) % 8) f w h1 (by omega) hR rfl (by omega) (by unfold padN; omega) (c18 A len cap f w h1 (by omega) hR)
end Go.Proofs.Ytjcoidpajcichaa
