import Derived.Test.YtblfnjdbihhglaaGreatDoorTz
import Derived.Test.YtblfnjdbihhglaaGreatDoorGd
import Derived.StillTailTactics
namespace Go.Proofs.YtblfnjdbihhglaaGreatDoor
open Go.ChangeShapes Go.WideShapes Go.ChangeAt Go.RowKit Go.MapKept
open Li (Ss Gl)
set_option linter.unusedVariables false
set_option linter.unusedSimpArgs false
theorem add_pre {w W w' : World} {B r m : Nat} {V U : Value} {cs : List ByteArray} {es : List Ed} {o : Nat × Ed} {e : Ending} (hb : Below w.heap.size w W) (h : AddPost W B r m V U cs es o e w') : AddPost w B r m V U cs es o e w' := by
  obtain ⟨U', h1, h2, h3⟩ := h
  exact ⟨U', h1, h2, Fr.pre hb h3⟩
theorem is_r (t : ByteArray) : (t.toList == [114]) = decide (t = ⟨#[114]⟩) := by rw [← neq_str, ByteArray.toList_eq ⟨#[114]⟩]
theorem is_rw (t : ByteArray) : (t.toList == [114, 119]) = decide (t = ⟨#[114, 119]⟩) := by rw [← neq_str, ByteArray.toList_eq ⟨#[114, 119]⟩]
open Classical in
noncomputable def twoN (M L : Nat) (a b : ByteArray) : Nat := if twoB M L a b then decN a + M * decN b else 0
open Classical in
noncomputable def twoK (M L : Nat) (a b : ByteArray) : Bool := decide (twoB M L a b)
theorem twoV_eq (M L : Nat) (a b : ByteArray) : twoV M L a b = .tuple #[.int .u32 (twoN M L a b : Int), .bool (twoK M L a b)] := by
  classical
  unfold twoV twoN twoK
  by_cases h : twoB M L a b
  · rw [if_pos h, if_pos h, decide_eq_true h]
  · rw [if_neg h, if_neg h, decide_eq_false h]; rfl
theorem twoN_lt (M L : Nat) (a b : ByteArray) (hM : M * (L + 1) ≤ 4294967296) : twoN M L a b < 4294967296 := by
  classical
  unfold twoN
  split
  · rename_i h
    obtain ⟨_, _, h1, h2⟩ := h
    have : M * decN b ≤ M * L := Nat.mul_le_mul_left _ h2
    rw [Nat.mul_succ] at hM
    omega
  · omega
set_option maxRecDepth 100000 in
set_option maxHeartbeats 8000000 in
theorem c47 (A : Option Addr) (c : Nat) (h : Nat → ByteArray) (w : World) (hA : Ss w A 3 h) (hs : ∀ j, j < 3 → (h j).size ≤ 281474976710656) (B r m : Nat) (V U : Value) (cs : List ByteArray) (es : List Ed) (hR : Rd w B r m V U cs es)
    (hC : cs.Nodup) (hE : ∀ y ∈ es, y.ok) (hcl : cs.length ≤ 400) (hel : es.length ≤ 400) :
    Calls Tryz.prog 47 #[.pointer (some ⟨r, 0, none⟩), .slice A 3 c] w fun e w' => AddPost w B r m V U cs es (addM cs es ⟨5, 0, 0, h 2, 0⟩ true (h 1) ⟨#[]⟩) e w' := by
  obtain ⟨b, o, rfl, hbl, hc⟩ := hA (by omega)
  have q1 := (hc 1 (by omega)).1
  have s1 := hs 1 (by omega)
  have q2 := (hc 2 (by omega)).1
  have s2 := hs 2 (by omega)
  have K70 : Hid (∀ W, Below w.heap.size w W → Calls Tryz.prog 70 #[.pointer (some ⟨r, 0, none⟩), Ed.v ⟨5, 0, 0, h 2, 0⟩, .bool true, .string (h 1), .string ⟨#[]⟩] W fun e w' => AddPost W B r m V U cs es (addM cs es ⟨5, 0, 0, h 2, 0⟩ true (h 1) ⟨#[]⟩) e w') := Lib.hid (fun W hW => c70 ⟨5, 0, 0, h 2, 0⟩ ⟨by simp only; omega, by first | exact hql | (simp only; omega), by simp only; omega⟩ true (h 1) ⟨#[]⟩ (by omega) (by decide) W B r m V U cs es (hR.below hW) hC hE hcl hel)
  unfold Ed.v at K70
  simp only at K70
  have HBB : Hid (Below w.heap.size w w.drew) := Lib.hid (Below.refl _ w).drew
  clear hc hA hR hs
  generalize h 1 = t1 at *
  generalize h 2 = t2 at *
  go_enter Tryz.func47, Tryz.ntmps47
  go_upto_region 1 with fail
  go_still_tail 8, (by kernel_rfl)
  go_wp2_with fail
  refine (K70.out _ HBB.out).mono ?_
  rintro _ w7 ⟨U', rfl, g1, g2⟩
  have HP := Lib.hid (g2.pre HBB.out)
  have HG1 := Lib.hid g1
  clear g1 g2
  go_wp2_with fail
  go_ret
  exact ⟨U', rfl, HG1.out, HP.out⟩
set_option maxRecDepth 100000 in
set_option maxHeartbeats 8000000 in
theorem c44 (A : Option Addr) (c : Nat) (h : Nat → ByteArray) (w : World) (hA : Ss w A 4 h) (hs : ∀ j, j < 4 → (h j).size ≤ 281474976710656) (B r m : Nat) (V U : Value) (cs : List ByteArray) (es : List Ed) (hR : Rd w B r m V U cs es)
    (hC : cs.Nodup) (hE : ∀ y ∈ es, y.ok) (hcl : cs.length ≤ 400) (hel : es.length ≤ 400) :
    Calls Tryz.prog 44 #[.pointer (some ⟨r, 0, none⟩), .slice A 4 c] w fun e w' => AddPost w B r m V U cs es (addM cs es ⟨2, 0, 0, h 3, 0⟩ true (h 1) (h 2)) e w' := by
  obtain ⟨b, o, rfl, hbl, hc⟩ := hA (by omega)
  have q1 := (hc 1 (by omega)).1
  have s1 := hs 1 (by omega)
  have q2 := (hc 2 (by omega)).1
  have s2 := hs 2 (by omega)
  have q3 := (hc 3 (by omega)).1
  have s3 := hs 3 (by omega)
  have K70 : Hid (∀ W, Below w.heap.size w W → Calls Tryz.prog 70 #[.pointer (some ⟨r, 0, none⟩), Ed.v ⟨2, 0, 0, h 3, 0⟩, .bool true, .string (h 1), .string (h 2)] W fun e w' => AddPost W B r m V U cs es (addM cs es ⟨2, 0, 0, h 3, 0⟩ true (h 1) (h 2)) e w') := Lib.hid (fun W hW => c70 ⟨2, 0, 0, h 3, 0⟩ ⟨by simp only; omega, by first | exact hql | (simp only; omega), by simp only; omega⟩ true (h 1) (h 2) (by omega) (by omega) W B r m V U cs es (hR.below hW) hC hE hcl hel)
  unfold Ed.v at K70
  simp only at K70
  have HBB : Hid (Below w.heap.size w w.drew) := Lib.hid (Below.refl _ w).drew
  clear hc hA hR hs
  generalize h 1 = t1 at *
  generalize h 2 = t2 at *
  generalize h 3 = t3 at *
  go_enter Tryz.func44, Tryz.ntmps44
  go_upto_region 1 with fail
  go_still_tail 11, (by kernel_rfl)
  go_wp2_with fail
  refine (K70.out _ HBB.out).mono ?_
  rintro _ w7 ⟨U', rfl, g1, g2⟩
  have HP := Lib.hid (g2.pre HBB.out)
  have HG1 := Lib.hid g1
  clear g1 g2
  go_wp2_with fail
  go_ret
  exact ⟨U', rfl, HG1.out, HP.out⟩
set_option maxRecDepth 100000 in
set_option maxHeartbeats 8000000 in
theorem c43 (A : Option Addr) (c : Nat) (h : Nat → ByteArray) (w : World) (hA : Ss w A 5 h) (hs : ∀ j, j < 5 → (h j).size ≤ 281474976710656) (B r m : Nat) (V U : Value) (cs : List ByteArray) (es : List Ed) (hR : Rd w B r m V U cs es)
    (hC : cs.Nodup) (hE : ∀ y ∈ es, y.ok) (hcl : cs.length ≤ 400) (hel : es.length ≤ 400) (hG : Gl w) :
    Calls Tryz.prog 43 #[.pointer (some ⟨r, 0, none⟩), .slice A 5 c] w fun e w' => AddPost w B r m V U cs es (addM cs es ⟨1, 0, 0, h 2, twoN 256 4088 (h 3) (h 4)⟩ (twoK 256 4088 (h 3) (h 4)) (h 1) ⟨#[]⟩) e w' := by
  obtain ⟨b, o, rfl, hbl, hc⟩ := hA (by omega)
  have q1 := (hc 1 (by omega)).1
  have s1 := hs 1 (by omega)
  have q2 := (hc 2 (by omega)).1
  have s2 := hs 2 (by omega)
  have q3 := (hc 3 (by omega)).1
  have s3 := hs 3 (by omega)
  have q4 := (hc 4 (by omega)).1
  have s4 := hs 4 (by omega)
  have hql := twoN_lt 256 4088 (h 3) (h 4) (by decide)
  have K70 : Hid (∀ W, Below w.heap.size w W → Calls Tryz.prog 70 #[.pointer (some ⟨r, 0, none⟩), Ed.v ⟨1, 0, 0, h 2, twoN 256 4088 (h 3) (h 4)⟩, .bool (twoK 256 4088 (h 3) (h 4)), .string (h 1), .string ⟨#[]⟩] W fun e w' => AddPost W B r m V U cs es (addM cs es ⟨1, 0, 0, h 2, twoN 256 4088 (h 3) (h 4)⟩ (twoK 256 4088 (h 3) (h 4)) (h 1) ⟨#[]⟩) e w') := Lib.hid (fun W hW => c70 ⟨1, 0, 0, h 2, twoN 256 4088 (h 3) (h 4)⟩ ⟨by simp only; omega, by first | exact hql | (simp only; omega), by simp only; omega⟩ (twoK 256 4088 (h 3) (h 4)) (h 1) ⟨#[]⟩ (by omega) (by decide) W B r m V U cs es (hR.below hW) hC hE hcl hel)
  unfold Ed.v at K70
  simp only at K70
  have K69 : Hid (∀ W, Below w.heap.size w W → Calls Tryz.prog 69 #[.string (h 3), .string (h 4), .int .u64 8, .int .u32 4088] W fun e w' => e = .returned (.tuple #[.int .u32 (twoN 256 4088 (h 3) (h 4) : Int), .bool (twoK 256 4088 (h 3) (h 4))]) ∧ Below W.heap.size W w') := Lib.hid (fun W hW => by rw [← twoV_eq]; exact c69e (h 3) (h 4) s3 s4 W (hG.below hW))
  have HCE : Hid (∀ W, Below w.heap.size w W → W.cell? ⟨b, o + 1, none⟩ = some (.string (h 1)) ∧ W.cell? ⟨b, o + 2, none⟩ = some (.string (h 2)) ∧ W.cell? ⟨b, o + 3, none⟩ = some (.string (h 3)) ∧ W.cell? ⟨b, o + 4, none⟩ = some (.string (h 4))) := Lib.hid (fun W hW =>
    ⟨(hW.cell (p := ⟨b, o + 1, none⟩) hbl).trans q1, (hW.cell (p := ⟨b, o + 2, none⟩) hbl).trans q2, (hW.cell (p := ⟨b, o + 3, none⟩) hbl).trans q3, (hW.cell (p := ⟨b, o + 4, none⟩) hbl).trans q4⟩)
  clear hc hA hR hs hG hbl
  generalize twoN 256 4088 (h 3) (h 4) = q at *
  generalize twoK 256 4088 (h 3) (h 4) = ok at *
  generalize h 1 = t1 at *
  generalize h 2 = t2 at *
  generalize h 3 = t3 at *
  generalize h 4 = t4 at *
  clear hql
  go_enter Tryz.func43, Tryz.ntmps43
  go_upto_region 1 with fail
  have HI : Hid (w.drew.cell? ⟨b, o + 3, none⟩ = some (.string t3) ∧ w.drew.cell? ⟨b, o + 4, none⟩ = some (.string t4)) := Lib.hid ⟨q3, q4⟩
  go_region_held3 (fun W => W.cell? ⟨b, o + 3, none⟩ = some (.string t3) ∧ W.cell? ⟨b, o + 4, none⟩ = some (.string t4))
    (first | assumption | exact HI.out | (with_reducible exact (HCE.out _ (by assumption)).2.2))
    (first | (go_at_call 69; (with_reducible refine (K69.out _ (Below.refl _ w).drew).mono ?_); rintro _ w6 ⟨rfl, hb6⟩; have HB6 : Below w.heap.size w w6 := ((Below.refl _ _).drew).trans (hb6.mono (by simp))))
  obtain ⟨r1, r2, _, _⟩ := HCE.out _ HB6
  have HBB : Hid (Below w.heap.size w w6.drew) := Lib.hid HB6.drew
  clear q1 q2 q3 q4 hb6
  go_upto_region 2 with fail
  go_still_tail 10, (by kernel_rfl)
  go_wp2_with fail
  refine (K70.out _ HBB.out).mono ?_
  rintro _ w7 ⟨U', rfl, g1, g2⟩
  have HP := Lib.hid (g2.pre HBB.out)
  have HG1 := Lib.hid g1
  clear g1 g2
  go_wp2_with fail
  go_ret
  exact ⟨U', rfl, HG1.out, HP.out⟩
set_option maxRecDepth 100000 in
set_option maxHeartbeats 8000000 in
theorem c45 (A : Option Addr) (c : Nat) (h : Nat → ByteArray) (w : World) (hA : Ss w A 5 h) (hs : ∀ j, j < 5 → (h j).size ≤ 281474976710656) (B r m : Nat) (V U : Value) (cs : List ByteArray) (es : List Ed) (hR : Rd w B r m V U cs es)
    (hC : cs.Nodup) (hE : ∀ y ∈ es, y.ok) (hcl : cs.length ≤ 400) (hel : es.length ≤ 400) (hG : Gl w) :
    Calls Tryz.prog 45 #[.pointer (some ⟨r, 0, none⟩), .slice A 5 c] w fun e w' => AddPost w B r m V U cs es (addM cs es ⟨3, 0, 0, h 2, twoN 65536 256 (h 3) (h 4)⟩ (twoK 65536 256 (h 3) (h 4)) (h 1) ⟨#[]⟩) e w' := by
  obtain ⟨b, o, rfl, hbl, hc⟩ := hA (by omega)
  have q1 := (hc 1 (by omega)).1
  have s1 := hs 1 (by omega)
  have q2 := (hc 2 (by omega)).1
  have s2 := hs 2 (by omega)
  have q3 := (hc 3 (by omega)).1
  have s3 := hs 3 (by omega)
  have q4 := (hc 4 (by omega)).1
  have s4 := hs 4 (by omega)
  have hql := twoN_lt 65536 256 (h 3) (h 4) (by decide)
  have K70 : Hid (∀ W, Below w.heap.size w W → Calls Tryz.prog 70 #[.pointer (some ⟨r, 0, none⟩), Ed.v ⟨3, 0, 0, h 2, twoN 65536 256 (h 3) (h 4)⟩, .bool (twoK 65536 256 (h 3) (h 4)), .string (h 1), .string ⟨#[]⟩] W fun e w' => AddPost W B r m V U cs es (addM cs es ⟨3, 0, 0, h 2, twoN 65536 256 (h 3) (h 4)⟩ (twoK 65536 256 (h 3) (h 4)) (h 1) ⟨#[]⟩) e w') := Lib.hid (fun W hW => c70 ⟨3, 0, 0, h 2, twoN 65536 256 (h 3) (h 4)⟩ ⟨by simp only; omega, by first | exact hql | (simp only; omega), by simp only; omega⟩ (twoK 65536 256 (h 3) (h 4)) (h 1) ⟨#[]⟩ (by omega) (by decide) W B r m V U cs es (hR.below hW) hC hE hcl hel)
  unfold Ed.v at K70
  simp only at K70
  have K69 : Hid (∀ W, Below w.heap.size w W → Calls Tryz.prog 69 #[.string (h 3), .string (h 4), .int .u64 16, .int .u32 256] W fun e w' => e = .returned (.tuple #[.int .u32 (twoN 65536 256 (h 3) (h 4) : Int), .bool (twoK 65536 256 (h 3) (h 4))]) ∧ Below W.heap.size W w') := Lib.hid (fun W hW => by rw [← twoV_eq]; exact c69d (h 3) (h 4) s3 s4 W (hG.below hW))
  have HCE : Hid (∀ W, Below w.heap.size w W → W.cell? ⟨b, o + 1, none⟩ = some (.string (h 1)) ∧ W.cell? ⟨b, o + 2, none⟩ = some (.string (h 2)) ∧ W.cell? ⟨b, o + 3, none⟩ = some (.string (h 3)) ∧ W.cell? ⟨b, o + 4, none⟩ = some (.string (h 4))) := Lib.hid (fun W hW =>
    ⟨(hW.cell (p := ⟨b, o + 1, none⟩) hbl).trans q1, (hW.cell (p := ⟨b, o + 2, none⟩) hbl).trans q2, (hW.cell (p := ⟨b, o + 3, none⟩) hbl).trans q3, (hW.cell (p := ⟨b, o + 4, none⟩) hbl).trans q4⟩)
  clear hc hA hR hs hG hbl
  generalize twoN 65536 256 (h 3) (h 4) = q at *
  generalize twoK 65536 256 (h 3) (h 4) = ok at *
  generalize h 1 = t1 at *
  generalize h 2 = t2 at *
  generalize h 3 = t3 at *
  generalize h 4 = t4 at *
  clear hql
  go_enter Tryz.func45, Tryz.ntmps45
  go_upto_region 1 with fail
  have HI : Hid (w.drew.cell? ⟨b, o + 3, none⟩ = some (.string t3) ∧ w.drew.cell? ⟨b, o + 4, none⟩ = some (.string t4)) := Lib.hid ⟨q3, q4⟩
  go_region_held3 (fun W => W.cell? ⟨b, o + 3, none⟩ = some (.string t3) ∧ W.cell? ⟨b, o + 4, none⟩ = some (.string t4))
    (first | assumption | exact HI.out | (with_reducible exact (HCE.out _ (by assumption)).2.2))
    (first | (go_at_call 69; (with_reducible refine (K69.out _ (Below.refl _ w).drew).mono ?_); rintro _ w6 ⟨rfl, hb6⟩; have HB6 : Below w.heap.size w w6 := ((Below.refl _ _).drew).trans (hb6.mono (by simp))))
  obtain ⟨r1, r2, _, _⟩ := HCE.out _ HB6
  have HBB : Hid (Below w.heap.size w w6.drew) := Lib.hid HB6.drew
  clear q1 q2 q3 q4 hb6
  go_upto_region 2 with fail
  go_still_tail 10, (by kernel_rfl)
  go_wp2_with fail
  refine (K70.out _ HBB.out).mono ?_
  rintro _ w7 ⟨U', rfl, g1, g2⟩
  have HP := Lib.hid (g2.pre HBB.out)
  have HG1 := Lib.hid g1
  clear g1 g2
  go_wp2_with fail
  go_ret
  exact ⟨U', rfl, HG1.out, HP.out⟩
set_option maxRecDepth 100000 in
set_option maxHeartbeats 8000000 in
theorem c46 (A : Option Addr) (c : Nat) (h : Nat → ByteArray) (w : World) (hA : Ss w A 4 h) (hs : ∀ j, j < 4 → (h j).size ≤ 281474976710656) (B r m : Nat) (V U : Value) (cs : List ByteArray) (es : List Ed) (hR : Rd w B r m V U cs es)
    (hC : cs.Nodup) (hE : ∀ y ∈ es, y.ok) (hcl : cs.length ≤ 400) (hel : es.length ≤ 400) :
    Calls Tryz.prog 46 #[.pointer (some ⟨r, 0, none⟩), .slice A 4 c] w fun e w' => AddPost w B r m V U cs es (addM cs es ⟨4, 0, 0, h 2, if h 3 = ⟨#[114, 119]⟩ then 3 else 1⟩ (decide (h 3 = ⟨#[114]⟩) || decide (h 3 = ⟨#[114, 119]⟩)) (h 1) ⟨#[]⟩) e w' := by
  obtain ⟨b, o, rfl, hbl, hc⟩ := hA (by omega)
  have q1 := (hc 1 (by omega)).1
  have s1 := hs 1 (by omega)
  have q2 := (hc 2 (by omega)).1
  have s2 := hs 2 (by omega)
  have q3 := (hc 3 (by omega)).1
  have s3 := hs 3 (by omega)
  have hql : (if h 3 = ⟨#[114, 119]⟩ then 3 else 1) < 4294967296 := by split <;> omega
  have K70 : Hid (∀ W, Below w.heap.size w W → Calls Tryz.prog 70 #[.pointer (some ⟨r, 0, none⟩), Ed.v ⟨4, 0, 0, h 2, if h 3 = ⟨#[114, 119]⟩ then 3 else 1⟩, .bool (decide (h 3 = ⟨#[114]⟩) || decide (h 3 = ⟨#[114, 119]⟩)), .string (h 1), .string ⟨#[]⟩] W fun e w' => AddPost W B r m V U cs es (addM cs es ⟨4, 0, 0, h 2, if h 3 = ⟨#[114, 119]⟩ then 3 else 1⟩ (decide (h 3 = ⟨#[114]⟩) || decide (h 3 = ⟨#[114, 119]⟩)) (h 1) ⟨#[]⟩) e w') := Lib.hid (fun W hW => c70 ⟨4, 0, 0, h 2, if h 3 = ⟨#[114, 119]⟩ then 3 else 1⟩ ⟨by simp only; omega, by first | exact hql | (simp only; omega), by simp only; omega⟩ (decide (h 3 = ⟨#[114]⟩) || decide (h 3 = ⟨#[114, 119]⟩)) (h 1) ⟨#[]⟩ (by omega) (by decide) W B r m V U cs es (hR.below hW) hC hE hcl hel)
  unfold Ed.v at K70
  simp only at K70
  rw [show ((4 : Nat) : Int) = 4 from rfl] at K70
  clear hc hA hR hs hql
  generalize h 1 = t1 at *
  generalize h 2 = t2 at *
  generalize h 3 = t3 at *
  by_cases h2 : t3 = ⟨#[114, 119]⟩
  ·
    rw [if_pos h2] at K70 ⊢
    have h1 : ¬ t3 = ⟨#[114]⟩ := fun h => by rw [h] at h2; exact absurd h2 (by decide)
    have e1 : (t3.toList == [114]) = false := by rw [is_r]; exact decide_eq_false h1
    have e2 : (t3.toList == [114, 119]) = true := by rw [is_rw]; exact decide_eq_true h2
    rw [decide_eq_false h1, decide_eq_true h2, Bool.false_or] at K70 ⊢
    simp only [show ((3 : Nat) : Int) = 3 from rfl, show ((1 : Nat) : Int) = 1 from rfl] at K70
    have HBB : Hid (Below w.heap.size w (w.alloc (.cells #[.int .u8 4, .int .i64 0, .int .i64 0, .string t2, .int .u32 3] 42)).drew) := Lib.hid ((Below.refl _ w).alloc (Nat.le_refl _) _).drew
    go_enter Tryz.func46, Tryz.ntmps46
    go_upto_region 4 with fail
    have hbx := (Below.refl w.heap.size w).alloc (Nat.le_refl _) (.cells #[.int .u8 4, .int .i64 0, .int .i64 0, .string t2, .int .u32 3] 42)
    have hww : Below w.heap.size w w := Below.refl _ w
    obtain ⟨x0, x1, x2, x3, x4, _⟩ := box_cells (heap_alloc_new w (.cells #[.int .u8 4, .int .i64 0, .int .i64 0, .string t2, .int .u32 3] 42))
    have z1 := (hbx.cell (p := ⟨b, o + 1, none⟩) hbl).trans q1
    have z3 := (hbx.cell (p := ⟨b, o + 3, none⟩) hbl).trans q3
    clear hbx hww
    generalize w.alloc (.cells #[.int .u8 4, .int .i64 0, .int .i64 0, .string t2, .int .u32 3] 42) = w1 at *
    go_still_tail 15, (by kernel_rfl)
    go_wp2_with fail
    refine (K70.out _ HBB.out).mono ?_
    rintro _ w7 ⟨U', rfl, g1, g2⟩
    have HP := Lib.hid (g2.pre HBB.out)
    have HG1 := Lib.hid g1
    clear g1 g2
    go_wp2_with fail
    go_ret
    exact ⟨U', rfl, HG1.out, HP.out⟩
  ·
    rw [if_neg h2] at K70 ⊢
    by_cases h1 : t3 = ⟨#[114]⟩
    ·
      have e1 : (t3.toList == [114]) = true := by rw [is_r]; exact decide_eq_true h1
      have e2 : (t3.toList == [114, 119]) = false := by rw [is_rw]; exact decide_eq_false h2
      rw [decide_eq_true h1, decide_eq_false h2, Bool.true_or] at K70 ⊢
      simp only [show ((3 : Nat) : Int) = 3 from rfl, show ((1 : Nat) : Int) = 1 from rfl] at K70
      have HBB : Hid (Below w.heap.size w (w.alloc (.cells #[.int .u8 4, .int .i64 0, .int .i64 0, .string t2, .int .u32 1] 42)).drew) := Lib.hid ((Below.refl _ w).alloc (Nat.le_refl _) _).drew
      go_enter Tryz.func46, Tryz.ntmps46
      go_upto_region 4 with fail
      have hbx := (Below.refl w.heap.size w).alloc (Nat.le_refl _) (.cells #[.int .u8 4, .int .i64 0, .int .i64 0, .string t2, .int .u32 1] 42)
      have hww : Below w.heap.size w w := Below.refl _ w
      obtain ⟨x0, x1, x2, x3, x4, _⟩ := box_cells (heap_alloc_new w (.cells #[.int .u8 4, .int .i64 0, .int .i64 0, .string t2, .int .u32 1] 42))
      have z1 := (hbx.cell (p := ⟨b, o + 1, none⟩) hbl).trans q1
      have z3 := (hbx.cell (p := ⟨b, o + 3, none⟩) hbl).trans q3
      clear hbx hww
      generalize w.alloc (.cells #[.int .u8 4, .int .i64 0, .int .i64 0, .string t2, .int .u32 1] 42) = w1 at *
      go_still_tail 15, (by kernel_rfl)
      go_wp2_with fail
      refine (K70.out _ HBB.out).mono ?_
      rintro _ w7 ⟨U', rfl, g1, g2⟩
      have HP := Lib.hid (g2.pre HBB.out)
      have HG1 := Lib.hid g1
      clear g1 g2
      go_wp2_with fail
      go_ret
      exact ⟨U', rfl, HG1.out, HP.out⟩
    ·
      have e1 : (t3.toList == [114]) = false := by rw [is_r]; exact decide_eq_false h1
      have e2 : (t3.toList == [114, 119]) = false := by rw [is_rw]; exact decide_eq_false h2
      rw [decide_eq_false h1, decide_eq_false h2, Bool.false_or] at K70 ⊢
      simp only [show ((3 : Nat) : Int) = 3 from rfl, show ((1 : Nat) : Int) = 1 from rfl] at K70
      have HBB : Hid (Below w.heap.size w (w.alloc (.cells #[.int .u8 4, .int .i64 0, .int .i64 0, .string t2, .int .u32 1] 42)).drew) := Lib.hid ((Below.refl _ w).alloc (Nat.le_refl _) _).drew
      go_enter Tryz.func46, Tryz.ntmps46
      go_upto_region 4 with fail
      have hbx := (Below.refl w.heap.size w).alloc (Nat.le_refl _) (.cells #[.int .u8 4, .int .i64 0, .int .i64 0, .string t2, .int .u32 1] 42)
      have hww : Below w.heap.size w w := Below.refl _ w
      obtain ⟨x0, x1, x2, x3, x4, _⟩ := box_cells (heap_alloc_new w (.cells #[.int .u8 4, .int .i64 0, .int .i64 0, .string t2, .int .u32 1] 42))
      have z1 := (hbx.cell (p := ⟨b, o + 1, none⟩) hbl).trans q1
      have z3 := (hbx.cell (p := ⟨b, o + 3, none⟩) hbl).trans q3
      clear hbx hww
      generalize w.alloc (.cells #[.int .u8 4, .int .i64 0, .int .i64 0, .string t2, .int .u32 1] 42) = w1 at *
      go_still_tail 15, (by kernel_rfl)
      go_wp2_with fail
      refine (K70.out _ HBB.out).mono ?_
      rintro _ w7 ⟨U', rfl, g1, g2⟩
      have HP := Lib.hid (g2.pre HBB.out)
      have HG1 := Lib.hid g1
      clear g1 g2
      go_wp2_with fail
      go_ret
      exact ⟨U', rfl, HG1.out, HP.out⟩
end Go.Proofs.YtblfnjdbihhglaaGreatDoor
