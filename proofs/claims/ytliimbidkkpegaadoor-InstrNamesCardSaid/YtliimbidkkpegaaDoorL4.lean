import Derived.Test.YtliimbidkkpegaaDoorNb
import Derived.Test.YtliimbidkkpegaaDoorW
namespace Go.Proofs.YtliimbidkkpegaaDoor
open Go.ChangeShapes Go.WideShapes Go.ChangeAt Go.RowKit
set_option linter.unusedVariables false
/-- the variables that the law reads -/
def Glob4 (w : World) : Prop := Glob w ∧ Sp w
theorem Glob4.size {w : World} (h : Glob4 w) : 4 ≤ w.heap.size := h.2.size
theorem Glob4.below {w w' : World} {B : Nat} (h : Glob4 w) (hb : Below B w w') (hB : 4 ≤ B) : Glob4 w' := ⟨h.1.below hb (by omega), h.2.below hb hB⟩
set_option maxHeartbeats 1000000 in
theorem walk4 (o : Nat) (s a : ByteArray) (c p : Int) (x z : Bool) (y : Bool) (w : World) (hg : Glob4 w)
    (K12 : Hid (∀ w : World, Glob4 w → Calls Tryd.prog 12 #[.int .u8 (o : Int)] w fun en w' => en = .returned (.tuple #[.string a, .bool x]) ∧ Below w.heap.size w w'))
    (K13 : Hid (∀ w : World, Calls Tryd.prog 13 #[.int .u8 (o : Int)] w fun en w' => en = .returned (.tuple #[.string a, .bool x]) ∧ Below w.heap.size w w'))
    (K14 : Hid (∀ w : World, Glob4 w → Calls Tryd.prog 14 #[.string s] w fun en w' => en = .returned (.tuple #[.int .u8 c, .bool z]) ∧ Below w.heap.size w w'))
    (K15 : Hid (∀ w : World, Calls Tryd.prog 15 #[.string s] w fun en w' => en = .returned (.tuple #[.int .u8 c, .bool z]) ∧ Below w.heap.size w w'))
    (KA : Hid (∀ w : World, Glob4 w → Calls Tryd.prog 14 #[.string a] w fun en w' => en = .returned (.tuple #[.int .u8 p, .bool y]) ∧ Below w.heap.size w w'))
    (hx : x = false ∨ (x = true ∧ y = true ∧ p = (o : Int))) :
    Calls Tryd.prog 4 #[.int .u8 (o : Int), .string s] w fun en w' => en = .returned (.bool true) ∧ Below w.heap.size w w' := by
  have G := Lib.hid hg
  have hs := hg.size
  clear hg
  have HX := Lib.hid hx
  clear hx
  go_enter Tryd.func4, Tryd.ntmps4
  go_wp2_with fail
  refine (K12.out _ G.out).mono ?_
  rintro _ w1 ⟨rfl, q1⟩
  have g1 := Lib.hid q1
  clear q1
  go_wp2_with fail
  refine (K13.out _).mono ?_
  rintro _ w2 ⟨rfl, q2⟩
  have g2 := Lib.hid (g1.out.trans (q2.mono g1.out.size))
  clear q2
  go_wp2_with fail
  refine (K14.out _ (G.out.below g2.out hs)).mono ?_
  rintro _ w3 ⟨rfl, q3⟩
  have g3 := Lib.hid (g2.out.trans (q3.mono g2.out.size))
  clear q3
  go_wp2_with fail
  refine (K15.out _).mono ?_
  rintro _ w4 ⟨rfl, q4⟩
  have g4 := Lib.hid (g3.out.trans (q4.mono g3.out.size))
  clear q4
  go_wp2_with fail
  refine (KA.out _ (G.out.below g4.out hs)).mono ?_
  rintro _ w5 ⟨rfl, q5⟩
  have g5 := Lib.hid (g4.out.trans (q5.mono g4.out.size))
  have G5 := Lib.hid (G.out.below g5.out hs)
  clear q5
  rcases HX.out with rfl | ⟨rfl, rfl, rfl⟩
  all_goals
    go_wp2_with fail
    refine (works _ G5.out.1).mono ?_
    rintro _ w6 ⟨rfl, q6⟩
    go_wp2_with fail
    go_ret
    exact ⟨rfl, g5.out.trans (q6.mono g5.out.size)⟩
theorem law4 (o : Nat) (s : ByteArray) (ho : o < 256) (w : World) (hg : Glob4 w) :
    Calls Tryd.prog 4 #[.int .u8 (o : Int), .string s] w fun en w' => en = .returned (.bool true) ∧ Below w.heap.size w w' := by
  have h12 := fun w (h : Glob4 w) => c12 o ho w h.2
  have h13 := fun w => c13 o ho w
  have h14 := fun w (h : Glob4 w) => c14 s w h.2
  have h15 := fun w => c15 s w
  obtain ⟨c, z, e⟩ : ∃ c z, namedV s.toList = .tuple #[.int .u8 c, .bool z] := by unfold namedV; split <;> exact ⟨_, _, rfl⟩
  rw [e] at h14 h15
  by_cases h : o = 0 ∨ 68 < o
  · have e2 : nameV o = .tuple #[.string ⟨#[]⟩, .bool false] := by unfold nameV; rw [if_pos h]
    rw [e2] at h12 h13
    have hA := fun w (h : Glob4 w) => c14 ⟨#[]⟩ w h.2
    obtain ⟨p, y, e3⟩ : ∃ c z, namedV (ByteArray.toList ⟨#[]⟩) = .tuple #[.int .u8 c, .bool z] := by unfold namedV; split <;> exact ⟨_, _, rfl⟩
    rw [e3] at hA
    exact walk4 o s ⟨#[]⟩ c p false z y w hg (Lib.hid h12) (Lib.hid h13) (Lib.hid h14) (Lib.hid h15) (Lib.hid hA) (Or.inl rfl)
  · obtain ⟨q, rfl⟩ : ∃ q, o = q + 1 := ⟨o - 1, by omega⟩
    have e2 : nameV (q + 1) = .tuple #[.string ⟨(nm q).toArray⟩, .bool true] := by unfold nameV; rw [if_neg h, Nat.add_sub_cancel]
    rw [e2] at h12 h13
    have hA := fun w (h : Glob4 w) => c14 ⟨(nm q).toArray⟩ w h.2
    have e4 : ByteArray.toList ⟨(nm q).toArray⟩ = nm q := by simp
    have e3 : namedV (ByteArray.toList ⟨(nm q).toArray⟩) = .tuple #[.int .u8 ((q + 1 : Nat) : Int), .bool true] := by
      rw [e4]
      unfold namedV
      rw [nf_nm q (by omega), if_neg (by omega)]
    rw [e3] at hA
    exact walk4 (q + 1) s ⟨(nm q).toArray⟩ c ((q + 1 : Nat) : Int) true z true w hg (Lib.hid h12) (Lib.hid h13) (Lib.hid h14) (Lib.hid h15) (Lib.hid hA) (Or.inr ⟨rfl, rfl, rfl⟩)
end Go.Proofs.YtliimbidkkpegaaDoor
