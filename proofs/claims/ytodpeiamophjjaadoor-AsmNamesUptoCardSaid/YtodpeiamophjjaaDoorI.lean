import Derived.Test.YtodpeiamophjjaaDoorH
namespace Go.Proofs.YtodpeiamophjjaaDoor
open Go.ChangeShapes Go.WideShapes Go.ChangeAt Go.RowKit
open In (i32)
set_option linter.unusedVariables false
theorem gl2_of {w : World} (h : In.Glob w) : Gl2 w := ⟨h.1, h.2.1, h.size⟩
theorem fm_len (F : Nat → List Value) (hF : ∀ k, (F k).length = 7) : ∀ n, ((List.range n).flatMap F).length = n * 7
  | 0 => rfl
  | n + 1 => by
    rw [List.range_succ, List.flatMap_append, List.length_append, fm_len F hF n]
    simp [hF]
    omega
theorem fm7 (F : Nat → List Value) (hF : ∀ k, (F k).length = 7) : ∀ (n k i : Nat), k < n → i < 7 → ((List.range n).flatMap F)[k * 7 + i]? = (F k)[i]?
  | 0, k, i, hk, _ => absurd hk (by omega)
  | n + 1, k, i, hk, hi => by
    rw [List.range_succ, List.flatMap_append]
    by_cases h : k < n
    · rw [List.getElem?_append_left (by rw [fm_len F hF]; omega)]
      exact fm7 F hF n k i h hi
    · obtain rfl : k = n := by omega
      rw [List.getElem?_append_right (by rw [fm_len F hF]; omega), fm_len F hF]
      simp
/-- lines of the call's own -/
theorem own_ls {w : World} {B : Nat} {V : Value} {n : Nat} {g : Nat → Ln} (h : w.ownsRow B 37 7 V n ((List.range n).flatMap fun k => lcells (g k))) (hok : ∀ k, k < n → (g k).ok) : ∃ A c, V = .slice A n c ∧ Ls w A n g := by
  obtain ⟨A, c, rfl, -⟩ := own_slice h
  refine ⟨A, c, rfl, fun h0 => ?_⟩
  have hA : ∃ b, A = some ⟨b, 0, none⟩ := by
    rcases h.2 with ⟨q, q'⟩ | ⟨b, cap, cur, q, _⟩
    · omega
    · simp at q; exact ⟨b, q.1⟩
  obtain ⟨b, rfl⟩ := hA
  refine ⟨b, 0, rfl, (h.lt b rfl).2, fun k hk => ?_⟩
  have ea : ∀ j, (⟨b, 0, none⟩ : Addr).add j = ⟨b, j, none⟩ := fun j => by
    unfold Addr.add
    split <;> simp_all
  have z : ∀ i v, i < 7 → (lcells (g k))[i]? = some v → w.cell? ⟨b, k * 7 + i, none⟩ = some v := fun i v hi hv => by
    have := h.cells (g := b) rfl (k * 7 + i) v (by rw [fm7 (fun k => lcells (g k)) (fun _ => rfl) n k i hk hi]; exact hv)
    rw [ea] at this
    exact this
  rw [Nat.zero_add]
  exact ⟨hok k hk, z 0 _ (by omega) rfl, z 1 _ (by omega) rfl, z 2 _ (by omega) rfl, z 3 _ (by omega) rfl, z 4 _ (by omega) rfl, z 5 _ (by omega) rfl, z 6 _ (by omega) rfl⟩
theorem get_ok (v : Nat) (hv : v < 4294967296) : (In.get v).1.o < 256 ∧ (In.get v).1.d < 256 ∧ (In.get v).1.a < 256 ∧ (In.get v).1.b < 256 ∧ i32 (In.get v).1.m := by
  have hz : (0 : Nat) < 256 ∧ (0 : Nat) < 256 ∧ (0 : Nat) < 256 ∧ (0 : Nat) < 256 ∧ i32 0 := ⟨by decide, by decide, by decide, by decide, by decide, by decide⟩
  have hob := In.opL_b v 68 (by omega)
  unfold In.get
  split
  · exact hz
  · split
    · refine ⟨?_, In.regN_lt _ _ _, In.regN_lt _ _ _, In.regN_lt _ _ _, In.getF_b _ _ hv⟩
      show In.opL v 68 - 1 + 1 < 256
      omega
    · exact hz
theorem got_ok (f : Nat → Nat) (k : Nat) (hv : f k < 4294967296) : (gotL f k).ok := by
  obtain ⟨h1, h2, h3, h4, h5⟩ := get_ok (f k) hv
  exact ⟨h1, h2, h3, h4, h5, by show (0 : Nat) ≤ _; omega, by show (0 : Nat) ≤ _; omega⟩
theorem got_put (f : Nat → Nat) (n k : Nat) (h : (In.get (f k)).2 = 0) : putK (gotL f) n k = (f k, 0) := by
  unfold putK effm
  rw [if_pos (show (gotL f k).tt = ⟨#[]⟩ from rfl)]
  exact In.get_put (f k) (In.get (f k)).1 (Prod.ext rfl h)
theorem got_err (f : Nat → Nat) (n : Nat) (h : ∀ k, k < n → (In.get (f k)).2 = 0) : errP (gotL f) n = 0 := by
  apply errP_ok
  · rintro ⟨j, k, _, _, _, h4⟩
    exact h4 rfl
  · rintro ⟨k, _, h1, _⟩
    exact h1 rfl
  · intro k hk
    unfold badK
    rw [got_put f n k (h k hk)]
    rfl
theorem got_words (f : Nat → Nat) (n : Nat) (h : ∀ k, k < n → (In.get (f k)).2 = 0) : wcells (gotL f) n n = (List.range n).map fun j => Value.int .u32 (f j : Int) := by
  unfold wcells
  apply List.map_congr_left
  intro k hk
  rw [got_put f n k (h k (List.mem_range.1 hk))]
set_option maxRecDepth 100000 in
set_option maxHeartbeats 8000000 in
theorem walk3 (b1 b2 : Int) (A : Option Addr) (n c : Nat) (f : Nat → Nat) (w : World) (hA : Us w A n f) (hf : ∀ k, k < n → f k < 4294967296) (hn : n ≤ 1048576) (hG : In.Glob w) :
    Calls Tryd.prog 3 #[.int .u32 b1, .int .u32 b2, .slice A n c] w fun e w' => e = .returned (.bool true) ∧ Below w.heap.size w w' := by
  have HG := Lib.hid hG
  have HG2 := Lib.hid (gl2_of hG)
  have HA := Lib.hid hA
  have HF := Lib.hid hf
  have K5 := Lib.hid (c5 b1 A n c f w hA hf hG (by omega))
  unfold GetPost at K5
  clear hG hA hf
  go_enter Tryd.func3, Tryd.ntmps3
  go_wp2_with fail
  refine (K5.out).mono ?_
  rintro _ w1 (⟨-, rfl, b1'⟩ | ⟨hok, V, rfl, ho, b1'⟩)
  · have HB1 := Lib.hid b1'
    clear b1'
    go_wp2_with fail
    refine (works _ (HG2.out.below HB1.out)).mono ?_
    rintro _ w2 ⟨rfl, b2'⟩
    have HB2 := Lib.hid (HB1.out.trans (b2'.mono HB1.out.size))
    clear b2'
    go_wp2_with fail
    go_ret
    exact ⟨rfl, HB2.out⟩
  · have HB1 := Lib.hid b1'
    obtain ⟨A1, c1, rfl, hls⟩ := own_ls ho (fun k hk => got_ok f k (HF.out k hk))
    have K7 := Lib.hid (c7 b2 A1 n c1 (gotL f) w1 hls (HG2.out.below b1') (by omega))
    unfold PutPost at K7
    have HE := Lib.hid (got_err f n hok)
    have HW := Lib.hid (got_words f n hok)
    clear hok ho hls b1'
    go_wp2_with fail
    refine (K7.out).mono ?_
    rintro _ w2 (⟨er, he, h0, -⟩ | ⟨-, V2, rfl, ho2, b2'⟩)
    · rw [HE.out] at he
      exact absurd he.symm h0
    · rw [HW.out] at ho2
      obtain ⟨A2, c2, rfl, hu2⟩ := own_us ho2
      have HB2 := Lib.hid (HB1.out.trans (b2'.mono HB1.out.size))
      have K8 := Lib.hid (c8 A2 A n c2 c f f w2 (by omega) hu2 (HA.out.below HB2.out) (fun _ _ => rfl))
      clear ho2 hu2 b2'
      go_wp2_with fail
      refine (K8.out).mono ?_
      rintro _ w3 ⟨rfl, q, rfl⟩
      have HB3 := Lib.hid (below_drewN HB2.out q)
      go_wp2_with fail
      refine (works _ (HG2.out.below HB3.out)).mono ?_
      rintro _ w4 ⟨rfl, b4⟩
      have HB4 := Lib.hid (HB3.out.trans (b4.mono HB3.out.size))
      clear b4
      go_wp2_with fail
      go_ret
      exact ⟨rfl, HB4.out⟩
end Go.Proofs.YtodpeiamophjjaaDoor
