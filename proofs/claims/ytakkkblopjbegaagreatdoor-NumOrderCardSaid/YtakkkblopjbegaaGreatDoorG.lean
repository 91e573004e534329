import Derived.Test.YtakkkblopjbegaaGreatDoorF
import Derived.Laws.OwnMore
import Derived.Deep.AppendLies
import Derived.OwnWalk
import Derived.Laws.MakeOwn
namespace Go.Proofs.YtakkkblopjbegaaGreatDoor
open Go.ChangeShapes Go.WideShapes Go.ChangeAt Go.RowKit
set_option linter.unusedVariables false
set_option linter.unusedSimpArgs false
theorem info5 : ∃ i, Tryz.prog.info? 5 = some i ∧ i.zero = some (.int .u8 0) ∧ i.size = 1 ∧ i.bytes = 1 := by
  have h : (Tryz.prog.info? 5).map (fun i => (i.zero, i.size, i.bytes)) = some (some (.int .u8 0), 1, 1) := by kernel_rfl
  cases hq : Tryz.prog.info? 5 with
  | none => rw [hq] at h; cases h
  | some i =>
    rw [hq] at h
    simp only [Option.map_some, Option.some.injEq, Prod.mk.injEq] at h
    exact ⟨i, rfl, h.1, h.2.1, h.2.2⟩
theorem grown_of_below {w w' : World} (hb : Below w.heap.size w w') (r : Option Nat) : w.grownBy w' r := ⟨hb.os, hb.tape, hb.output, hb.size, fun k hk _ => hb.block k hk⟩
theorem none_or (o : Option Nat) : o = none ∨ o ≠ none := by cases o <;> simp
/-- bytes of the call's own -/
def St (B : Nat) (w0 w : World) (A : Option Addr) (n c : Nat) (xs : List Value) : Prop := w.ownsRow B 5 1 (.slice A n c) n xs ∧ Below B w0 w ∧ B ≤ w.heap.size
theorem St.drew {B : Nat} {w0 w : World} {A : Option Addr} {n c : Nat} {xs : List Value} (h : St B w0 w A n c xs) : St B w0 w.drew A n c xs := ⟨h.1.kept (grown_of_below (Below.refl _ _).drew none) (none_or _), h.2.1.drew, h.2.2⟩
theorem St.app {B : Nat} {w0 w w8 : World} {A : Option Addr} {n c m g c5 : Nat} {xs news : List Value} (h : St B w0 w A n c xs)
    (hown : w8.ownsRow B 5 1 (.slice (some ⟨g, 0, none⟩) m c5) m (xs ++ news)) (hgrow : (w.alloc (.cells news.toArray 5)).grownBy w8 (Value.slice A n c).ownBlock) : St B w0 w8 (some ⟨g, 0, none⟩) m c5 (xs ++ news) := by
  have hb : Below w.heap.size w (w.alloc (.cells news.toArray 5)) := (Below.refl _ _).alloc (Nat.le_refl _) _
  have h1 : Below B w0 (w.alloc (.cells news.toArray 5)) := h.2.1.trans (hb.mono h.2.2)
  refine ⟨hown, h1.grown hgrow (Nat.le_trans h.2.2 hb.size) (fun k hk => (h.1.lt k hk).1), ?_⟩
  exact Nat.le_trans (Nat.le_trans h.2.2 hb.size) hgrow.size
theorem St.facts {B : Nat} {w0 w : World} {A : Option Addr} {n c : Nat} {xs : List Value} (h : St B w0 w A n c xs) (arr : Array Value) (news : List Value) (ha : arr = news.toArray) :
    Hid ((w.alloc (.cells arr 5)).ownsRow B 5 1 (.slice A n c) n xs) ∧ Hid (B ≤ (w.alloc (.cells arr 5)).heap.size) ∧ Hid (∀ j u, news[j]? = some u → (w.alloc (.cells arr 5)).cell? ((⟨w.heap.size, 0, none⟩ : Addr).add j) = some u) := by
  subst ha
  have hb : Below w.heap.size w (w.alloc (.cells news.toArray 5)) := (Below.refl _ _).alloc (Nat.le_refl _) _
  exact ⟨Lib.hid (h.1.kept (grown_of_below hb none) (none_or _)), Lib.hid (Nat.le_trans h.2.2 hb.size), Lib.hid (World.news_of_block (heap_alloc_new w (.cells news.toArray 5)))⟩
set_option maxRecDepth 100000 in
set_option maxHeartbeats 4000000 in
theorem k113_0 (w0 w : World) (B g h0 c0 : Nat) (hs : St B w0 w (some ⟨h0, 0, none⟩) 0 c0 []) (hx : Bx w g C32 156) :
    Calls Tryz.prog 113 #[.slice (some ⟨h0, 0, none⟩) 0 c0, .bool false, .slice (some ⟨g, 0, none⟩) 32 32, .int .i64 0, .int .i64 1, .int .i64 0, .int .u8 101, .bool true] w fun e w' => ∃ A c, e = .returned (.slice (some ⟨A, 0, none⟩) 5 c) ∧ St B w0 w' (some ⟨A, 0, none⟩) 5 c [.int .u8 49, .int .u8 101, .int .u8 45, .int .u8 48, .int .u8 49] := by
  obtain ⟨i0, hi0, hz0, hz1, hz2⟩ := info5
  have HI0 := Lib.hid hi0
  have HZ0 := Lib.hid hz0
  have HZ1 := Lib.hid hz1
  have HZ2 := Lib.hid hz2
  have q0 : w.cell? ⟨g, 0, none⟩ = some (.int .u8 49) := by simpa [C32] using hx.cell 0
  have HT0 := Lib.hid hs
  clear hi0 hz0 hz1 hz2 hs hx
  have HOC0 : Hid (∀ u ∈ ([.int .u8 49] : List Value), u.oneCell' = true) := Lib.hid (by intro u hu; simp at hu; subst hu; rfl)
  have HOC1 : Hid (∀ u ∈ ([.int .u8 101] : List Value), u.oneCell' = true) := Lib.hid (by intro u hu; simp at hu; subst hu; rfl)
  have HOC2 : Hid (∀ u ∈ ([.int .u8 45] : List Value), u.oneCell' = true) := Lib.hid (by intro u hu; simp at hu; subst hu; rfl)
  have HOC3 : Hid (∀ u ∈ ([.int .u8 48, .int .u8 49] : List Value), u.oneCell' = true) := Lib.hid (by intro u hu; simp at hu; rcases hu with rfl | rfl <;> rfl)
  obtain ⟨HED0, HBS0, HNW0⟩ := HT0.out.facts #[.int .u8 49] [.int .u8 49] rfl
  go_enter Tryz.func113, Tryz.ntmps113
  go_wp2_with (at_builtin; first
    | (refine wpList_append_lies _ (by rfl) _ _ 70 (by rfl) B 5 i0 (.int .u8 0) 1 1 Tryz.underlying70 HI0.out HZ0.out HZ1.out HZ2.out rfl (by decide) (.slice (some ⟨h3, 0, none⟩) 3 c3) 3 _ (by rfl) HED3.out ⟨w3.heap.size, 0, none⟩ 2 2 [.int .u8 48, .int .u8 49] (by rfl) rfl HNW3.out HOC3.out (by decide) (by decide) (by decide) HBS3.out _ rfl ?_; intro h4 c4 w4 hown hgrow hat hlt; have HT4 := Lib.hid (HT3.out.app (m := 5) hown hgrow); clear hown hgrow hat hlt; skip)
    | (refine wpList_append_lies _ (by rfl) _ _ 70 (by rfl) B 5 i0 (.int .u8 0) 1 1 Tryz.underlying70 HI0.out HZ0.out HZ1.out HZ2.out rfl (by decide) (.slice (some ⟨h2, 0, none⟩) 2 c2) 2 _ (by rfl) HED2.out ⟨w2.heap.size, 0, none⟩ 1 1 [.int .u8 45] (by rfl) rfl HNW2.out HOC2.out (by decide) (by decide) (by decide) HBS2.out _ rfl ?_; intro h3 c3 w3 hown hgrow hat hlt; have HT3 := Lib.hid (HT2.out.app (m := 3) hown hgrow); clear hown hgrow hat hlt; obtain ⟨HED3, HBS3, HNW3⟩ := HT3.out.facts #[.int .u8 48, .int .u8 49] [.int .u8 48, .int .u8 49] rfl)
    | (refine wpList_append_lies _ (by rfl) _ _ 70 (by rfl) B 5 i0 (.int .u8 0) 1 1 Tryz.underlying70 HI0.out HZ0.out HZ1.out HZ2.out rfl (by decide) (.slice (some ⟨h1, 0, none⟩) 1 c1) 1 _ (by rfl) HED1.out ⟨w1.heap.size, 0, none⟩ 1 1 [.int .u8 101] (by rfl) rfl HNW1.out HOC1.out (by decide) (by decide) (by decide) HBS1.out _ rfl ?_; intro h2 c2 w2 hown hgrow hat hlt; have HT2 := Lib.hid (HT1.out.app (m := 2) hown hgrow); clear hown hgrow hat hlt; obtain ⟨HED2, HBS2, HNW2⟩ := HT2.out.facts #[.int .u8 45] [.int .u8 45] rfl)
    | (refine wpList_append_lies _ (by rfl) _ _ 70 (by rfl) B 5 i0 (.int .u8 0) 1 1 Tryz.underlying70 HI0.out HZ0.out HZ1.out HZ2.out rfl (by decide) (.slice (some ⟨h0, 0, none⟩) 0 c0) 0 _ (by rfl) HED0.out ⟨w.heap.size, 0, none⟩ 1 1 [.int .u8 49] (by rfl) rfl HNW0.out HOC0.out (by decide) (by decide) (by decide) HBS0.out _ rfl ?_; intro h1 c1 w1 hown hgrow hat hlt; have HT1 := Lib.hid (HT0.out.app (m := 1) hown hgrow); clear hown hgrow hat hlt; obtain ⟨HED1, HBS1, HNW1⟩ := HT1.out.facts #[.int .u8 101] [.int .u8 101] rfl))
  go_ret
  exact ⟨_, _, rfl, HT4.out⟩
set_option maxRecDepth 100000 in
set_option maxHeartbeats 4000000 in
theorem k113_1 (w0 w : World) (B g h0 c0 : Nat) (hs : St B w0 w (some ⟨h0, 0, none⟩) 0 c0 []) (hx : Bx w g C32 156) :
    Calls Tryz.prog 113 #[.slice (some ⟨h0, 0, none⟩) 0 c0, .bool false, .slice (some ⟨g, 0, none⟩) 32 32, .int .i64 22, .int .i64 1, .int .i64 0, .int .u8 101, .bool true] w fun e w' => ∃ A c, e = .returned (.slice (some ⟨A, 0, none⟩) 5 c) ∧ St B w0 w' (some ⟨A, 0, none⟩) 5 c [.int .u8 49, .int .u8 101, .int .u8 43, .int .u8 50, .int .u8 49] := by
  obtain ⟨i0, hi0, hz0, hz1, hz2⟩ := info5
  have HI0 := Lib.hid hi0
  have HZ0 := Lib.hid hz0
  have HZ1 := Lib.hid hz1
  have HZ2 := Lib.hid hz2
  have q0 : w.cell? ⟨g, 0, none⟩ = some (.int .u8 49) := by simpa [C32] using hx.cell 0
  have HT0 := Lib.hid hs
  clear hi0 hz0 hz1 hz2 hs hx
  have HOC0 : Hid (∀ u ∈ ([.int .u8 49] : List Value), u.oneCell' = true) := Lib.hid (by intro u hu; simp at hu; subst hu; rfl)
  have HOC1 : Hid (∀ u ∈ ([.int .u8 101] : List Value), u.oneCell' = true) := Lib.hid (by intro u hu; simp at hu; subst hu; rfl)
  have HOC2 : Hid (∀ u ∈ ([.int .u8 43] : List Value), u.oneCell' = true) := Lib.hid (by intro u hu; simp at hu; subst hu; rfl)
  have HOC3 : Hid (∀ u ∈ ([.int .u8 50, .int .u8 49] : List Value), u.oneCell' = true) := Lib.hid (by intro u hu; simp at hu; rcases hu with rfl | rfl <;> rfl)
  obtain ⟨HED0, HBS0, HNW0⟩ := HT0.out.facts #[.int .u8 49] [.int .u8 49] rfl
  go_enter Tryz.func113, Tryz.ntmps113
  go_wp2_with (at_builtin; first
    | (refine wpList_append_lies _ (by rfl) _ _ 70 (by rfl) B 5 i0 (.int .u8 0) 1 1 Tryz.underlying70 HI0.out HZ0.out HZ1.out HZ2.out rfl (by decide) (.slice (some ⟨h3, 0, none⟩) 3 c3) 3 _ (by rfl) HED3.out ⟨w3.heap.size, 0, none⟩ 2 2 [.int .u8 50, .int .u8 49] (by rfl) rfl HNW3.out HOC3.out (by decide) (by decide) (by decide) HBS3.out _ rfl ?_; intro h4 c4 w4 hown hgrow hat hlt; have HT4 := Lib.hid (HT3.out.app (m := 5) hown hgrow); clear hown hgrow hat hlt; skip)
    | (refine wpList_append_lies _ (by rfl) _ _ 70 (by rfl) B 5 i0 (.int .u8 0) 1 1 Tryz.underlying70 HI0.out HZ0.out HZ1.out HZ2.out rfl (by decide) (.slice (some ⟨h2, 0, none⟩) 2 c2) 2 _ (by rfl) HED2.out ⟨w2.heap.size, 0, none⟩ 1 1 [.int .u8 43] (by rfl) rfl HNW2.out HOC2.out (by decide) (by decide) (by decide) HBS2.out _ rfl ?_; intro h3 c3 w3 hown hgrow hat hlt; have HT3 := Lib.hid (HT2.out.app (m := 3) hown hgrow); clear hown hgrow hat hlt; obtain ⟨HED3, HBS3, HNW3⟩ := HT3.out.facts #[.int .u8 50, .int .u8 49] [.int .u8 50, .int .u8 49] rfl)
    | (refine wpList_append_lies _ (by rfl) _ _ 70 (by rfl) B 5 i0 (.int .u8 0) 1 1 Tryz.underlying70 HI0.out HZ0.out HZ1.out HZ2.out rfl (by decide) (.slice (some ⟨h1, 0, none⟩) 1 c1) 1 _ (by rfl) HED1.out ⟨w1.heap.size, 0, none⟩ 1 1 [.int .u8 101] (by rfl) rfl HNW1.out HOC1.out (by decide) (by decide) (by decide) HBS1.out _ rfl ?_; intro h2 c2 w2 hown hgrow hat hlt; have HT2 := Lib.hid (HT1.out.app (m := 2) hown hgrow); clear hown hgrow hat hlt; obtain ⟨HED2, HBS2, HNW2⟩ := HT2.out.facts #[.int .u8 43] [.int .u8 43] rfl)
    | (refine wpList_append_lies _ (by rfl) _ _ 70 (by rfl) B 5 i0 (.int .u8 0) 1 1 Tryz.underlying70 HI0.out HZ0.out HZ1.out HZ2.out rfl (by decide) (.slice (some ⟨h0, 0, none⟩) 0 c0) 0 _ (by rfl) HED0.out ⟨w.heap.size, 0, none⟩ 1 1 [.int .u8 49] (by rfl) rfl HNW0.out HOC0.out (by decide) (by decide) (by decide) HBS0.out _ rfl ?_; intro h1 c1 w1 hown hgrow hat hlt; have HT1 := Lib.hid (HT0.out.app (m := 1) hown hgrow); clear hown hgrow hat hlt; obtain ⟨HED1, HBS1, HNW1⟩ := HT1.out.facts #[.int .u8 101] [.int .u8 101] rfl))
  go_ret
  exact ⟨_, _, rfl, HT4.out⟩
end Go.Proofs.YtakkkblopjbegaaGreatDoor
