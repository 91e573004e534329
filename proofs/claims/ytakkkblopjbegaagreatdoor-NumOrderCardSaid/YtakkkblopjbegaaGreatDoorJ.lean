import Derived.Test.YtakkkblopjbegaaGreatDoorI
namespace Go.Proofs.YtakkkblopjbegaaGreatDoor
open Go.ChangeShapes Go.WideShapes Go.ChangeAt Go.RowKit
set_option linter.unusedVariables false
set_option linter.unusedSimpArgs false
theorem k20n (w : World) : Calls Tryz.prog 20 #[.float .f64 9223372036854775808] w fun e w' => e = .returned (.bool true) ∧ w' = w := by
  have e : decide (wrap64 ((9223372036854775808 : Nat) : Int) < 0) = true := by kernel_rfl
  have h := k20 9223372036854775808 w
  rw [e] at h
  exact h
set_option maxRecDepth 100000 in
/-- texts at the edges -/
theorem n11 (w : World) (hg : Gn w) : Calls Tryz.prog 11 #[] w fun e w' => e = .returned (.bool true) ∧ Below w.heap.size w w' := by
  have HG : Hid (∀ W, Below w.heap.size w W → Gn W) := Lib.hid (fun W hW => hg.below hW)
  have L : Hid (∀ {f : FuncId} {args : Array Value} {v : Value} (W : World), Below w.heap.size w W → (Calls Tryz.prog f args W fun e w' => e = .returned v ∧ Below W.heap.size W w') → Calls Tryz.prog f args W fun e w' => e = .returned v ∧ Below w.heap.size w w') := Lib.hid (fun W hW h => by
    refine h.mono ?_
    rintro e w' ⟨h1, h2⟩
    exact ⟨h1, hW.trans (h2.mono hW.size)⟩)
  have K : Hid (∀ {f : FuncId} {args : Array Value} {v : Value} (W : World), Below w.heap.size w W → (Calls Tryz.prog f args W fun e w' => e = .returned v ∧ w' = W) → Calls Tryz.prog f args W fun e w' => e = .returned v ∧ Below w.heap.size w w') := Lib.hid (fun W hW h => by
    refine h.mono ?_
    rintro e w' ⟨h1, rfl⟩
    exact ⟨h1, hW⟩)
  have h0 := on0
  clear hg
  go_enter Tryz.func11, Tryz.ntmps11
  go_wp2_with fail
  refine (L.out w (Below.refl _ _) (k17_0 w (HG.out _ (Below.refl _ _)).1)).mono ?_
  rintro _ w1 ⟨rfl, hb⟩
  have HB1 := Lib.hid hb
  clear hb
  go_wp2_with fail
  refine (L.out w1 HB1.out (k17_1 w1 (HG.out _ HB1.out).1)).mono ?_
  rintro _ w2 ⟨rfl, hb⟩
  have HB2 := Lib.hid hb
  clear hb
  go_wp2_with fail
  refine (L.out w2 HB2.out (k17_2 w2 (HG.out _ HB2.out).1)).mono ?_
  rintro _ w3 ⟨rfl, hb⟩
  have HB3 := Lib.hid hb
  clear hb
  go_wp2_with fail
  refine (K.out w3 HB3.out (k18 w3)).mono ?_
  rintro _ w4 ⟨rfl, hb⟩
  have HB4 := Lib.hid hb
  clear hb
  go_wp2_with fail
  refine (L.out w4 HB4.out (k6n w4)).mono ?_
  rintro _ w5 ⟨rfl, hb⟩
  have HB5 := Lib.hid hb
  clear hb
  go_wp2_with fail
  refine (K.out w5 HB5.out (k19 w5)).mono ?_
  rintro _ w6 ⟨rfl, hb⟩
  have HB6 := Lib.hid hb
  clear hb
  go_wp2_with fail
  refine (K.out w6 HB6.out (k20n w6)).mono ?_
  rintro _ w7 ⟨rfl, hb⟩
  have HB7 := Lib.hid hb
  clear hb
  go_wp2_with fail
  refine (L.out w7 HB7.out (k21_0 w7 (HG.out _ HB7.out))).mono ?_
  rintro _ w8 ⟨rfl, hb⟩
  have HB8 := Lib.hid hb
  clear hb
  go_wp2_with fail
  refine (L.out w8 HB8.out (k21_1 w8 (HG.out _ HB8.out))).mono ?_
  rintro _ w9 ⟨rfl, hb⟩
  have HB9 := Lib.hid hb
  clear hb
  go_wp2_with fail
  refine (K.out w9 HB9.out (k20n w9)).mono ?_
  rintro _ w10 ⟨rfl, hb⟩
  have HB10 := Lib.hid hb
  clear hb
  go_wp2_with fail
  go_ret
  exact ⟨rfl, HB10.out⟩
end Go.Proofs.YtakkkblopjbegaaGreatDoor
