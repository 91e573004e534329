import Derived.Test.YtkiojljopigldaaD
namespace Go.Proofs.Ytkiojljopigldaa
open Go.ChangeShapes Go.WideShapes Go.ChangeAt Go.RowKit
set_option linter.unusedVariables false
theorem tm0 (x : Int) : (x * 4096).tmod 4096 = 0 := Int.mul_tmod_left _ _
theorem w32mod (x : Int) : wrap32 x % 4294967296 = x % 4294967296 := by unfold wrap32; omega
theorem H_mod (n : Nat) : ∃ k : Nat, H n = k * 4096 ∧ k < 1048576 := ⟨(n + 2048) % 4294967296 / 4096, by rfl, by omega⟩
theorem H_mul (n : Nat) : ∃ k : Int, wrap32 (H n : Int) = k * 4096 := by
  obtain ⟨k, hk, hl⟩ := H_mod n
  rw [hk]
  unfold wrap32
  by_cases g : k < 524288
  · exact ⟨k, by omega⟩
  · exact ⟨(k : Int) - 1048576, by omega⟩
theorem H_case (n : Nat) (hn : n < 4294967296) : (H n ≤ n + 2048 ∧ n ≤ H n + 2047) ∨ (H n = 0 ∧ 4294965248 ≤ n) := by
  unfold H
  by_cases g : n + 2048 < 4294967296
  · rw [Nat.mod_eq_of_lt g]; omega
  · have : (n + 2048) % 4294967296 = n + 2048 - 4294967296 := by omega
    rw [this]; omega
theorem w32b (x : Int) : -2147483648 ≤ wrap32 x ∧ wrap32 x ≤ 2147483647 := by unfold wrap32; omega
theorem w32s (x : Int) (h1 : -2147483648 ≤ x) (h2 : x ≤ 2147483647) : wrap32 x = x := by unfold wrap32; omega
theorem w32t (x : Int) (h1 : 2147483648 ≤ x) (h2 : x < 4294967296) : wrap32 x = x - 4294967296 := by unfold wrap32; omega
theorem w32d (n : Nat) (hn : n < 4294967296) : -2048 ≤ wrap32 ((n : Int) - (H n : Int)) ∧ wrap32 ((n : Int) - (H n : Int)) < 2048 := by
  rcases H_case n hn with ⟨h1, h2⟩ | ⟨h1, h2⟩
  · rw [w32s _ (by omega) (by omega)]; omega
  · rw [h1, w32t _ (by omega) (by omega)]; omega
theorem w32e (x : Int) : wrap32 (x % 4294967296) = wrap32 x := by unfold wrap32; omega
set_option maxHeartbeats 2000000 in
theorem law4 (s a p : Nat) (hs : s < 4294967296) (ha : a < 4294967296) (hp : p < 4294967296) (w : World) : Calls Try.prog 4 #[.int .u32 (s : Int), .int .u32 (a : Int), .int .u32 (p : Int)] w fun en w' => en = .returned (.bool true) ∧ Below w.heap.size w w' := by
  have k1 := val26 s a p 0 hs ha hp (by omega)
  have k2 := val27 s a p 0 hs ha hp (by omega)
  have k3 := val28 s a p 0 hs ha hp (by omega)
  have k4 := val23 s a p 0 hs ha hp (by omega)
  rw [show ((0 : Nat) : Int) = 0 from rfl] at k1 k2 k3 k4
  have r1 : ((s : Int) + (a : Int)) % 4294967296 = (((s + a) % 4294967296 : Nat) : Int) := by omega
  have l1 : (s + a) % 4294967296 < 4294967296 := by omega
  generalize (s + a) % 4294967296 = n at *
  have r2 : ((n : Int) - (p : Int)) % 4294967296 = (((n + 4294967296 - p) % 4294967296 : Nat) : Int) := by omega
  have l2 : (n + 4294967296 - p) % 4294967296 < 4294967296 := by omega
  generalize (n + 4294967296 - p) % 4294967296 = d at *
  obtain ⟨x, hx⟩ := H_mul n
  obtain ⟨y, hy⟩ := H_mul d
  have hl := H_lt n
  have hl2 := H_lt d
  have f1 : (wrap32 (H n : Int) % 4294967296 + wrap32 ((n : Int) - (H n : Int)) % 4294967296) % 4294967296 = (n : Int) := by rw [w32mod, w32mod]; omega
  have f2 := w32d n l1
  have f3 : -2048 ≤ wrap32 (((d : Int) - wrap32 (H d : Int) % 4294967296) % 4294967296) ∧ wrap32 (((d : Int) - wrap32 (H d : Int) % 4294967296) % 4294967296) < 2048 := by
    rw [w32mod, w32e, show (H d : Int) % 4294967296 = (H d : Int) by omega]
    exact w32d d l2
  have t1 := tm0 x
  have t2 := tm0 y
  rw [← hx] at t1
  rw [← hy] at t2
  have b1 := w32b (H n : Int)
  have b2 := w32b (H d : Int)
  clear hx hy
  generalize wrap32 ((n : Int) - (H n : Int)) = l at *
  generalize wrap32 (H n : Int) = h at *
  generalize wrap32 (H d : Int) = q at *
  obtain ⟨f2, f2'⟩ := f2
  obtain ⟨b1, b1'⟩ := b1
  obtain ⟨b2, b2'⟩ := b2
  obtain ⟨f3, f3'⟩ := f3
  obtain ⟨h', eh⟩ : ∃ x : Nat, h % 4294967296 = (x : Int) := ⟨(h % 4294967296).toNat, by omega⟩
  obtain ⟨l', el⟩ : ∃ x : Nat, l % 4294967296 = (x : Int) := ⟨(l % 4294967296).toNat, by omega⟩
  obtain ⟨q', eq⟩ : ∃ x : Nat, q % 4294967296 = (x : Int) := ⟨(q % 4294967296).toNat, by omega⟩
  rw [eh, el] at f1
  rw [eq] at f3 f3'
  obtain ⟨z, ez⟩ : ∃ x : Nat, ((d : Int) - (q' : Int)) % 4294967296 = (x : Int) := ⟨(((d : Int) - (q' : Int)) % 4294967296).toNat, by omega⟩
  rw [ez] at f3 f3'
  generalize hzz : wrap32 (z : Int) = zz at *
  have t1' : (h.tmod 4096 == 0) = true := by rw [t1]; rfl
  have t2' : (q.tmod 4096 == 0) = true := by rw [t2]; rfl
  clear t1 t2 hl hl2
  have K1 := Lib.hid k1
  have K2 := Lib.hid k2
  have K3 := Lib.hid k3
  have K4 := Lib.hid k4
  clear k1 k2 k3 k4
  go_enter Try.func4, Try.ntmps4
  go_wp2_with fail
  refine (K1.out _).mono ?_
  rintro _ _ ⟨rfl, rfl⟩
  go_wp2_with fail
  refine (K2.out _).mono ?_
  rintro _ _ ⟨rfl, rfl⟩
  go_wp2_with fail
  refine (K3.out _).mono ?_
  rintro _ _ ⟨rfl, rfl⟩
  go_wp2_with fail
  refine (K4.out _).mono ?_
  rintro _ _ ⟨rfl, rfl⟩
  go_wp2_with fail
  refine (works _).mono ?_
  rintro _ _ ⟨rfl, rfl⟩
  go_wp2_with fail
  go_ret
  exact ⟨rfl, Below.refl _ _⟩
end Go.Proofs.Ytkiojljopigldaa
