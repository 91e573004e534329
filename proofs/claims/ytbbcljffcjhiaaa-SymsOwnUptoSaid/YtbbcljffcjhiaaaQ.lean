import Derived.Test.YtbbcljffcjhiaaaO
namespace Go.Proofs.Ytbbcljffcjhiaaa
open Go.ChangeShapes Go.WideShapes Go.ChangeAt Go.RowKit
set_option linter.unusedVariables false
set_option linter.unusedSimpArgs false
/-- so many texts come back -/
def Ot (f : Nat → ByteArray) (n : Nat) (w : World) (e : Ending) (w' : World) : Prop := ∃ A c, e = .returned (.slice A n c) ∧ Ss w' A n f ∧ Below w.heap.size w w'
theorem ot_of {L : List ByteArray} {w w' : World} {e : Ending} (h : OwnOut L w e w') : Ot (fun k => L.getD k ⟨#[]⟩) L.length w e w' := by
  obtain ⟨V, rfl, hr, hb⟩ := h
  obtain ⟨A, c, rfl, hc⟩ := own_slice hr
  refine ⟨A, c, rfl, fun h0 => ?_, hb⟩
  obtain ⟨g, cap, hv, hB, hg⟩ := hr.form h0
  cases hv
  refine ⟨g, 0, rfl, hg, fun k hk => ?_⟩
  rw [Nat.zero_add, hr.cellAt k (by omega)]
  simp [List.getD, hk]
theorem Ss.below {w w' : World} {A : Option Addr} {n : Nat} {f : Nat → ByteArray} (h : Ss w A n f) (hb : Below w.heap.size w w') : Ss w' A n f := fun h0 => by
  obtain ⟨b, o, e, hl, hc⟩ := h h0
  exact ⟨b, o, e, Nat.lt_of_lt_of_le hl hb.size, fun k hk => by rw [hb.cell (p := ⟨b, _, none⟩) hl]; exact hc k hk⟩
theorem owns (w : World) (v : Value) (c : Int) (hp : Pl w 1048576 v) : ∃ st tr SA ns sc CA nc cc start main, v = .agg #[.int .i64 st, .int .i64 tr, .slice SA ns sc, .slice CA nc cc, .int .i64 start, .string main] ∧ ∃ f n, n ≤ 9223372036854775807 ∧ ∀ W, Below w.heap.size w W → (Calls Try.prog 5 #[v, .int .i64 c] W fun e w' => Ot f n W e w') ∧ (Calls Try.prog 6 #[v, .int .i64 c] W fun e w' => Ot f n W e w') := by
  obtain ⟨st, tr, SA, ns, sc, FS, CA, nc, cc, FC, start, main, rfl, hns, hS, hQS, hnc, hC, hQC⟩ := hp
  refine ⟨st, tr, SA, ns, sc, CA, nc, cc, start, main, rfl, ?_⟩
  by_cases hin : 0 ≤ c ∧ c < nc
  · obtain ⟨ci, rfl⟩ : ∃ j : Nat, c = (j : Int) := ⟨c.toNat, by omega⟩
    have hci : ci < nc := by omega
    obtain ⟨nm, fv, xv, IA, ni, ic, FI, DA, nd, dc, FD, GA, ng, gc, FG, hF, hnm, ⟨fA, fn, fc, rfl⟩, ⟨xA, xn, xc, rfl⟩, hni, hI, hQI, hnd, hD, hQD, hng, hG, hQG⟩ := hQC ci hci
    have hQN : ∀ k, k < nc → ∃ s r, FC k = .string s :: r ∧ s.size ≤ 1048576 := fun k hk => by
      obtain ⟨nm', a, b, _, _, _, _, _, _, _, _, _, _, _, _, h, h2, _⟩ := hQC k hk
      exact ⟨nm', _, h, h2⟩
    refine ⟨fun k => (l3 (l2 (l1 nc FC FI ni) FD nd) ns FS FG ng).getD k ⟨#[]⟩, (l3 (l2 (l1 nc FC FI ni) FD nd) ns FS FG ng).length, ?_, fun W hW => ⟨?_, ?_⟩⟩
    · rw [l3_len, l2_len, l1_len]; omega
    · refine (c5_in st tr SA ns sc FS CA nc cc FC start main ci nm fA fn fc xA xn xc IA ni ic FI DA nd dc FD GA ng gc FG W hci hF (hS.below hW) hQS hns (hC.below hW) hQN hnc (hI.below hW) hQI hni (hD.below hW) hQD hnd (hG.below hW) hQG hng).mono ?_
      intro e w' h
      exact ot_of h
    · refine (c6_in st tr SA ns sc FS CA nc cc FC start main ci nm fA fn fc xA xn xc IA ni ic FI DA nd dc FD GA ng gc FG W hci hF (hS.below hW) hQS hns (hC.below hW) hQN hnc (hI.below hW) hQI hni (hD.below hW) hQD hnd (hG.below hW) hQG hng).mono ?_
      intro e w' h
      exact ot_of h
  · have hc : c < 0 ∨ (nc : Int) ≤ c := by omega
    refine ⟨fun _ => ⟨#[]⟩, 0, by omega, fun W hW => ⟨?_, ?_⟩⟩
    · refine (c5_out st tr SA ns sc CA nc cc start main c W hc).mono ?_
      rintro e w' ⟨rfl, hb⟩
      exact ⟨none, 0, rfl, fun h => absurd h (by omega), hb⟩
    · refine (c6_out st tr SA ns sc CA nc cc start main c W hc).mono ?_
      rintro e w' ⟨rfl, hb⟩
      exact ⟨none, 0, rfl, fun h => absurd h (by omega), hb⟩
set_option maxRecDepth 100000 in
set_option maxHeartbeats 8000000 in
theorem law3 (v : Value) (c : Int) {w : World} (h : Pl w 1048576 v) : Calls Try.prog 3 #[v, .int .i64 c] w fun e w' => e = .returned (.bool true) ∧ Below w.heap.size w w' := by
  obtain ⟨st, tr, SA, ns, sc, CA, nc, cc, start, main, rfl, f, n, hn, hK⟩ := owns w v c h
  have HK := Lib.hid hK
  have HN := Lib.hid hn
  have HX : Hid (Bx (w.alloc (.cells #[.int .i64 st, .int .i64 tr, .slice SA ns sc, .slice CA nc cc, .int .i64 start, .string main] 25)) w.heap.size #[.int .i64 st, .int .i64 tr, .slice SA ns sc, .slice CA nc cc, .int .i64 start, .string main] 25) := Lib.hid (heap_alloc_new w _)
  have HB0 : Hid (Below w.heap.size w (w.alloc (.cells #[.int .i64 st, .int .i64 tr, .slice SA ns sc, .slice CA nc cc, .int .i64 start, .string main] 25))) := Lib.hid ((Below.refl _ w).alloc (Nat.le_refl _) _)
  have HPK : Hid (∀ W, Bx W w.heap.size #[.int .i64 st, .int .i64 tr, .slice SA ns sc, .slice CA nc cc, .int .i64 start, .string main] 25 → W.cell? ⟨w.heap.size, 0, none⟩ = some (.int .i64 st) ∧ W.cell? ⟨w.heap.size, 1, none⟩ = some (.int .i64 tr) ∧ W.cell? ⟨w.heap.size, 2, none⟩ = some (.slice SA ns sc) ∧ W.cell? ⟨w.heap.size, 3, none⟩ = some (.slice CA nc cc) ∧ W.cell? ⟨w.heap.size, 4, none⟩ = some (.int .i64 start) ∧ W.cell? ⟨w.heap.size, 5, none⟩ = some (.string main)) := Lib.hid (fun W hx => ⟨hx.cell 0, hx.cell 1, hx.cell 2, hx.cell 3, hx.cell 4, hx.cell 5⟩)
  have H4 := Lib.hid (c4)
  have H7 := Lib.hid f7
  clear h hK hn
  go_enter Try.func3, Try.ntmps3
  go_upto_region 1 with fail
  have HI : Hid ((w.alloc (.cells #[.int .i64 st, .int .i64 tr, .slice SA ns sc, .slice CA nc cc, .int .i64 start, .string main] 25)).drew.cell? ⟨w.heap.size, 0, none⟩ = some (.int .i64 st) ∧ (w.alloc (.cells #[.int .i64 st, .int .i64 tr, .slice SA ns sc, .slice CA nc cc, .int .i64 start, .string main] 25)).drew.cell? ⟨w.heap.size, 1, none⟩ = some (.int .i64 tr) ∧ (w.alloc (.cells #[.int .i64 st, .int .i64 tr, .slice SA ns sc, .slice CA nc cc, .int .i64 start, .string main] 25)).drew.cell? ⟨w.heap.size, 2, none⟩ = some (.slice SA ns sc) ∧ (w.alloc (.cells #[.int .i64 st, .int .i64 tr, .slice SA ns sc, .slice CA nc cc, .int .i64 start, .string main] 25)).drew.cell? ⟨w.heap.size, 3, none⟩ = some (.slice CA nc cc) ∧ (w.alloc (.cells #[.int .i64 st, .int .i64 tr, .slice SA ns sc, .slice CA nc cc, .int .i64 start, .string main] 25)).drew.cell? ⟨w.heap.size, 4, none⟩ = some (.int .i64 start) ∧ (w.alloc (.cells #[.int .i64 st, .int .i64 tr, .slice SA ns sc, .slice CA nc cc, .int .i64 start, .string main] 25)).drew.cell? ⟨w.heap.size, 5, none⟩ = some (.string main)) := Lib.hid (HPK.out _ HX.out)
  go_region_held3 (fun W => W.cell? ⟨w.heap.size, 0, none⟩ = some (.int .i64 st) ∧ W.cell? ⟨w.heap.size, 1, none⟩ = some (.int .i64 tr) ∧ W.cell? ⟨w.heap.size, 2, none⟩ = some (.slice SA ns sc) ∧ W.cell? ⟨w.heap.size, 3, none⟩ = some (.slice CA nc cc) ∧ W.cell? ⟨w.heap.size, 4, none⟩ = some (.int .i64 start) ∧ W.cell? ⟨w.heap.size, 5, none⟩ = some (.string main))
    (first | assumption | exact HI.out)
    (first
      | (go_at_call 5; (with_reducible refine ((HK.out _ HB0.out.drew).1).mono ?_); rintro _ w5 ⟨A5, c5, rfl, hs5, hb5⟩; have HX5 : Bx w5 w.heap.size #[.int .i64 st, .int .i64 tr, .slice SA ns sc, .slice CA nc cc, .int .i64 start, .string main] 25 := Bx.below (W := (w.alloc (.cells #[.int .i64 st, .int .i64 tr, .slice SA ns sc, .slice CA nc cc, .int .i64 start, .string main] 25)).drew) HX.out hb5; have HB5 : Below w.heap.size w w5 := HB0.out.drew.trans (hb5.mono HB0.out.size); have HS5 : w5.cell? ⟨w.heap.size, 0, none⟩ = some (.int .i64 st) ∧ w5.cell? ⟨w.heap.size, 1, none⟩ = some (.int .i64 tr) ∧ w5.cell? ⟨w.heap.size, 2, none⟩ = some (.slice SA ns sc) ∧ w5.cell? ⟨w.heap.size, 3, none⟩ = some (.slice CA nc cc) ∧ w5.cell? ⟨w.heap.size, 4, none⟩ = some (.int .i64 start) ∧ w5.cell? ⟨w.heap.size, 5, none⟩ = some (.string main) := HPK.out _ HX5)
      | (go_at_call 6; (with_reducible refine ((HK.out _ HB5).2).mono ?_); rintro _ w6 ⟨A6, c6, rfl, hs6, hb6⟩; have HX6 : Bx w6 w.heap.size #[.int .i64 st, .int .i64 tr, .slice SA ns sc, .slice CA nc cc, .int .i64 start, .string main] 25 := HX5.below hb6; have HB6 : Below w.heap.size w w6 := HB5.trans (hb6.mono HB5.size); have HS6 : w6.cell? ⟨w.heap.size, 0, none⟩ = some (.int .i64 st) ∧ w6.cell? ⟨w.heap.size, 1, none⟩ = some (.int .i64 tr) ∧ w6.cell? ⟨w.heap.size, 2, none⟩ = some (.slice SA ns sc) ∧ w6.cell? ⟨w.heap.size, 3, none⟩ = some (.slice CA nc cc) ∧ w6.cell? ⟨w.heap.size, 4, none⟩ = some (.int .i64 start) ∧ w6.cell? ⟨w.heap.size, 5, none⟩ = some (.string main) := HPK.out _ HX6; have HSS := hs5.below hb6)
      | (go_at_call 4; (with_reducible refine (H4.out A5 A6 n c5 c6 f w6 HN.out HSS hs6).mono ?_); rintro _ w7 ⟨rfl, q7, rfl⟩; have HB7 : Below w.heap.size w (w6.drewN q7) := HB6.trans ⟨rfl, rfl, rfl, Nat.le_refl _, fun _ _ => rfl⟩; have HS7 : (w6.drewN q7).cell? ⟨w.heap.size, 0, none⟩ = some (.int .i64 st) ∧ (w6.drewN q7).cell? ⟨w.heap.size, 1, none⟩ = some (.int .i64 tr) ∧ (w6.drewN q7).cell? ⟨w.heap.size, 2, none⟩ = some (.slice SA ns sc) ∧ (w6.drewN q7).cell? ⟨w.heap.size, 3, none⟩ = some (.slice CA nc cc) ∧ (w6.drewN q7).cell? ⟨w.heap.size, 4, none⟩ = some (.int .i64 start) ∧ (w6.drewN q7).cell? ⟨w.heap.size, 5, none⟩ = some (.string main) := HPK.out _ (Bx.below (W := w6) HX6 ⟨rfl, rfl, rfl, Nat.le_refl _, fun _ _ => rfl⟩))
      | (go_at_call 7; (with_reducible refine (H7.out (w6.drewN q7)).mono ?_); rintro _ w8 ⟨rfl, hb8⟩; have HB8 : Below w.heap.size w w8 := HB7.trans (hb8.mono HB7.size); have HS8 : w8.cell? ⟨w.heap.size, 0, none⟩ = some (.int .i64 st) ∧ w8.cell? ⟨w.heap.size, 1, none⟩ = some (.int .i64 tr) ∧ w8.cell? ⟨w.heap.size, 2, none⟩ = some (.slice SA ns sc) ∧ w8.cell? ⟨w.heap.size, 3, none⟩ = some (.slice CA nc cc) ∧ w8.cell? ⟨w.heap.size, 4, none⟩ = some (.int .i64 start) ∧ w8.cell? ⟨w.heap.size, 5, none⟩ = some (.string main) := HPK.out _ (Bx.below (W := w6.drewN q7) (Bx.below (W := w6) HX6 ⟨rfl, rfl, rfl, Nat.le_refl _, fun _ _ => rfl⟩) hb8)))
  go_wp2_with fail
  go_ret
  exact ⟨rfl, HB8⟩
end Go.Proofs.Ytbbcljffcjhiaaa
