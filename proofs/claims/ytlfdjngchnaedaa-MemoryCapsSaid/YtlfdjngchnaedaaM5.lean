import Derived.Test.YtlfdjngchnaedaaL5
namespace Go.Proofs.Ytlfdjngchnaedaa
open Go.ChangeShapes Go.WideShapes Go.ChangeAt Go.RowKit
open Cp (cp arr mt num4)
set_option linter.unusedVariables false
theorem no5 (at_ n a p y e b t : Nat) (g : Bool) (w : World) (hw : granB at_ = false) :
    Calls Try.prog 5 #[.int .u32 (at_ : Int), cp g a p y e b t, .int .u32 (n : Int)] w fun en w' => en = .returned (.bool true) ∧ Below w.heap.size w w' := by
  have l0 : w.heap.size < w.heap.size + 1 := by omega
  have hcb : Blk (w.alloc (.cells #[.bool g, .int .u32 (a : Int), .int .u8 (p : Int), .int .u8 (y : Int), .int .u8 (e : Int), .int .u16 (b : Int), .int .u16 (t : Int)] 35)) w.heap.size 35 #[.bool g, .int .u32 (a : Int), .int .u8 (p : Int), .int .u8 (y : Int), .int .u8 (e : Int), .int .u16 (b : Int), .int .u16 (t : Int)] := Blk.new _ _ _
  have HCB := Lib.hid hcb
  have HW := Lib.hid hw
  clear hcb
  have hc : at_ % 8 ≠ 0 ∨ (at_ % 8 = 0 ∧ 65536 ≤ at_) := by
    unfold granB at hw
    by_cases h : at_ % 8 = 0
    · right
      refine ⟨h, ?_⟩
      rcases Nat.lt_or_ge at_ 65536 with h2 | h2
      · simp [h, h2] at hw
      · exact h2
    · left; exact h
  have HC := Lib.hid hc
  clear hc hw
  go_enter Try.func5, Try.ntmps5
  go_wp2_with fail
  refine (new7 _).mono ?_
  rintro _ w1 ⟨rfl, q1, s1, m1⟩
  have z1 := q1.size
  simp at z1 s1
  have c1 : Blk w1 w.heap.size 35 #[.bool g, .int .u32 (a : Int), .int .u8 (p : Int), .int .u8 (y : Int), .int .u8 (e : Int), .int .u16 (b : Int), .int .u16 (t : Int)] := HCB.out.below q1 HCB.out.lt
  have o1 : Below w.heap.size w w1 := ((Below.refl _ _).alloc (Nat.le_refl _) _).trans (q1.mono (by simp))
  obtain ⟨y0, y1, y2, y3, y4, y5, y6⟩ := blk7 c1
  have M1 := Lib.hid m1; have O1 := Lib.hid o1
  simp only [World.size_alloc] at M1
  clear q1 m1 c1 o1
  go_wp2_with fail
  refine (storeCapNo _ at_ _ _ _ _ _ _ _ _ _ M1.out HW.out).mono ?_
  rintro _ w2 ⟨rfl, q2⟩
  have o2 : Below w.heap.size w w2 := O1.out.trans (q2.mono O1.out.size)
  have O2 := Lib.hid o2
  clear q2 o2 y0 y1 y2 y3 y4 y5 y6 z1 s1
  rcases HC.out with h | ⟨h, h2⟩
  · have t1 : ((at_ : Int) % 8 != 0) = true := by simp; omega
    clear h
    go_wp2_with fail
    refine (lives _).mono ?_
    rintro _ w3 ⟨rfl, q3⟩
    go_wp2_with fail
    go_ret
    exact ⟨rfl, O2.out.trans (q3.mono O2.out.size)⟩
  · have t1 : ((at_ : Int) % 8 != 0) = false := by simp; omega
    have t2 : decide ((65536 : Int) ≤ (at_ : Int)) = true := by simp; omega
    clear h h2
    go_wp2_with fail
    refine (lives _).mono ?_
    rintro _ w3 ⟨rfl, q3⟩
    go_wp2_with fail
    go_ret
    exact ⟨rfl, O2.out.trans (q3.mono O2.out.size)⟩
theorem law5 (at_ n a p y e b t : Nat) (g : Bool) (hat : at_ < 4294967296) (hn : n < 4294967296) (ha : a < 4294967296) (hp : p < 256) (hy : y < 256) (he : e < 256) (hb : b < 65536) (ht : t < 65536) (w : World) :
    Calls Try.prog 5 #[.int .u32 (at_ : Int), cp g a p y e b t, .int .u32 (n : Int)] w fun en w' => en = .returned (.bool true) ∧ Below w.heap.size w w' := by
  rcases Bool.eq_false_or_eq_true (granB at_) with hw | hw
  · have h8 : at_ < 65536 ∧ at_ % 8 = 0 := by
      unfold granB at hw
      simpa using hw
    have h88 : at_ + 8 ≤ 65536 := by omega
    have hw4 : wordB at_ 4 = true := by
      unfold wordB
      rw [decide_eq_true_eq]
      exact ⟨Or.inr (Or.inr rfl), h8.1, by omega⟩
    have K11 := fun w => Cp.cb11 g a p y e b t ha hp hy he hb ht w
    have K12 := fun w => Cp.cb12 g a p y e b t ha hp hy he hb ht w
    have hM := Cp.mt_lt p y e b t
    generalize mt p y e b t = M at *
    have b0 := Cp.En.bt a 0
    have eb : ∀ m k, Cp.En.bt m k = bt m k := fun m k => rfl
    simp only [eb] at K11 K12
    have ks := putB_size
    have K13 := fun w => Cp.cb13 (bt a 0) (bt a 1) (bt a 2) (bt a 3) (bt M 0) (bt M 1) (bt M 2) (bt M 3) g (bt_lt _ _) (bt_lt _ _) (bt_lt _ _) (bt_lt _ _) (bt_lt _ _) (bt_lt _ _) (bt_lt _ _) (bt_lt _ _) w
    have K14 := fun w => Cp.cb14 (bt a 0) (bt a 1) (bt a 2) (bt a 3) (bt M 0) (bt M 1) (bt M 2) (bt M 3) g (bt_lt _ _) (bt_lt _ _) (bt_lt _ _) (bt_lt _ _) (bt_lt _ _) (bt_lt _ _) (bt_lt _ _) (bt_lt _ _) w
    have K15 := fun w => Cp.cb13 (bt n 0) (bt n 1) (bt n 2) (bt n 3) (bt M 0) (bt M 1) (bt M 2) (bt M 3) false (bt_lt _ _) (bt_lt _ _) (bt_lt _ _) (bt_lt _ _) (bt_lt _ _) (bt_lt _ _) (bt_lt _ _) (bt_lt _ _) w
    rw [num4_bt n hn] at K15
    have hone : One (scC Z1 at_ (bytes8 (bt a 0) (bt a 1) (bt a 2) (bt a 3) (bt M 0) (bt M 1) (bt M 2) (bt M 3)) g) := One.z1.sc _ _ rfl _
    exact walk5 at_ n a p y e b t _ _ _ _ _ _ _ _ _ _ _ _ _ _ _ _ _ _ _ g (scC Z1 at_ (bytes8 (bt a 0) (bt a 1) (bt a 2) (bt a 3) (bt M 0) (bt M 1) (bt M 2) (bt M 3)) g) (stC (scC Z1 at_ (bytes8 (bt a 0) (bt a 1) (bt a 2) (bt a 3) (bt M 0) (bt M 1) (bt M 2) (bt M 3)) g) at_ 4 n) w
      (Lib.hid fun w m hm => storeCap m at_ Z1 g a p y e b t _ _ _ _ _ _ _ _ w hm h88 hw (Lib.hid K11))
      (Lib.hid fun w m hm => loadCap m at_ _ g _ _ _ _ _ _ _ _ _ _ _ _ _ _ w hm h88 hw (fun j v hj => scC_at Z1size at_ h88 g _ rfl j v hj) (scC_tag Z1size at_ h88 g _ rfl) (Lib.hid K13))
      (Lib.hid fun w m hm => copy m _ w hm hone)
      (Lib.hid fun w m hm => store4 m at_ n _ w hm hn (by omega) hw4)
      (Lib.hid fun w m hm => loadCap m at_ _ false _ _ _ _ _ _ _ _ _ _ _ _ _ _ w hm h88 hw (fun j v hj => over4 Z1size at_ n h88 h8.2 g _ _ _ _ _ _ _ _ j v hj) (over4_tag Z1size at_ n h88 g _ rfl) (Lib.hid K15))
      (Lib.hid K12) (Lib.hid K14)
  · exact no5 at_ n a p y e b t g w hw
end Go.Proofs.Ytlfdjngchnaedaa
