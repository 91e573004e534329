import Derived.Test.YtleabbhoedddlaaBn
namespace Go.Proofs.Ytleabbhoedddlaa
open Go.ChangeShapes Go.WideShapes Go.ChangeAt Go.RowKit
open Cp (cp arr mt num4)
set_option linter.unusedVariables false
/-- both memories read the same -/
structure J (w0 : World) (b r x y : Nat) (B : Nat → Nat) (T : Nat → Bool) (w : World) : Prop where
  m : Mem w b B T
  rm : RM w r x y 65536 8192 B T
  br : b ≠ r
  bx : b ≠ x
  by_ : b ≠ y
  lb : w0.heap.size ≤ b
  lr : w0.heap.size ≤ r
  lx : w0.heap.size ≤ x
  ly : w0.heap.size ≤ y
  bel : Below w0.heap.size w0 w
theorem heap_cell {w w' : World} {g : Nat} (h : w'.heap[g]? = w.heap[g]?) (j : Nat) : w'.cell? ⟨g, j, none⟩ = w.cell? ⟨g, j, none⟩ := by
  unfold World.cell?
  simp only [h]
theorem RM.only {w w' : World} {r x y c1 c2 b : Nat} {B : Nat → Nat} {T : Nat → Bool} (h : RM w r x y c1 c2 B T) (ho : Only b w w') (h1 : b ≠ r) (h2 : b ≠ x) (h3 : b ≠ y) : RM w' r x y c1 c2 B T :=
  ⟨ho.blk h1.symm h.box, h.by_.far ho h2.symm, by obtain ⟨c, h4, h5⟩ := h.tg; exact ⟨c, ho.blk h3.symm h4, h5⟩, h.lt, h.xy, h.rx, h.ry⟩
theorem Mem.only2 {w w' : World} {b x y : Nat} {B : Nat → Nat} {T : Nat → Bool} (h : Mem w b B T) (ho : Only2 x y w w') (h2 : b ≠ x) (h3 : b ≠ y) : Mem w' b B T := by
  obtain ⟨C, h4, h5⟩ := h
  exact ⟨C, ho.blk h4 h2 h3, h5⟩
theorem J.below {w0 w w' : World} {b r x y : Nat} {B : Nat → Nat} {T : Nat → Bool} (h : J w0 b r x y B T w) (hb : Below w.heap.size w w') : J w0 b r x y B T w' :=
  ⟨h.m.below hb h.m.lt, h.rm.below hb, h.br, h.bx, h.by_, h.lb, h.lr, h.lx, h.ly, h.bel.trans (hb.mono h.bel.size)⟩
theorem J.only {w0 w w' : World} {b r x y : Nat} {B B' : Nat → Nat} {T T' : Nat → Bool} (h : J w0 b r x y B T w) (ho : Only b w w') (hm : Mem w' b B' T') :
    Below w0.heap.size w0 w' ∧ Mem w' b B' T' ∧ RM w' r x y 65536 8192 B T :=
  ⟨h.bel.trans (ho.1 _ h.lb h.bel.size), hm, h.rm.only ho h.br h.bx h.by_⟩
abbrev Ac.v (z : Ac) : Value := .agg #[.int .i64 z.d, .int .u32 (z.at_ : Int), .int .i64 z.s, .int .u32 (z.n : Int), .bool z.g, .int .u32 (z.a : Int), .int .u8 (z.p : Int), .int .u8 (z.y : Int), .int .u8 (z.e : Int), .int .u16 (z.b : Int), .int .u16 (z.t : Int)]
def Mid (w0 w : World) (b r x y : Nat) (B1 : Nat → Nat) (T1 : Nat → Bool) (B : Nat → Nat) (T : Nat → Bool) (w2 : World) : Prop :=
  w.heap.size < w2.heap.size ∧ Below w0.heap.size w0 w2 ∧ Mem w2 b B1 T1 ∧ RM w2 r x y 65536 8192 B T
def End (w0 : World) (b r x y : Nat) (w2 : World) : Prop := ∃ B' T', J w0 b r x y B' T' w2
theorem rStoreCap (r x y c1 c2 at_ : Nat) (g : Bool) (a p ye e bb t : Nat) (B : Nat → Nat) (T : Nat → Bool) (w : World) (hm : RM w r x y c1 c2 B T) (ha : a < 4294967296) (hp : p < 256) (hy : ye < 256) (he : e < 256) (hb : bb < 65536) (ht : t < 65536) (hw : granB at_ = true) :
    Calls Try.prog 23 #[.pointer (some ⟨r, 0, none⟩), .int .u32 (at_ : Int), cp g a p ye e bb t] w fun en w' => en = .returned (.int .i64 0) ∧ Only2 x y w w' ∧ RM w' r x y c1 c2 (scB B at_ (b8 (bt a 0) (bt a 1) (bt a 2) (bt a 3) (bt (mt p ye e bb t) 0) (bt (mt p ye e bb t) 1) (bt (mt p ye e bb t) 2) (bt (mt p ye e bb t) 3))) (stT T at_ g) := by
  have h8 : at_ < 65536 ∧ at_ % 8 = 0 := by
    unfold granB at hw
    simpa using hw
  have K12 := fun w => Cp.cb12 g a p ye e bb t ha hp hy he hb ht w
  have eb : ∀ m k, Cp.En.bt m k = bt m k := fun m k => rfl
  simp only [eb] at K12
  exact rStoreCapW r x y c1 c2 at_ g _ _ _ _ _ _ _ _ _ _ _ _ _ _ B T w hm h8.1 h8.2 (b8_lt _ _ _ _ _ _ _ _ (bt_lt _ _) (bt_lt _ _) (bt_lt _ _) (bt_lt _ _) (bt_lt _ _) (bt_lt _ _) (bt_lt _ _) (bt_lt _ _)) (Lib.hid K12)
theorem did_ (w0 : World) (b r x y : Nat) (B : Nat → Nat) (T : Nat → Bool) (z : Ac) (hz : z.ok) (w : World) (hJ : J w0 b r x y B T w) :
    Calls Try.prog 9 #[.pointer (some ⟨b, 0, none⟩), .pointer (some ⟨r, 0, none⟩), z.v] w fun en w' => ∃ b', en = .returned (.tuple #[.pointer (some ⟨b', 0, none⟩), .bool true]) ∧ End w0 b' r x y w' := by
  obtain ⟨h1, h2, h3, h4, h5, h6, h7, h8⟩ := hz
  have bl := hJ.m.lt
  have xl := hJ.rm.by_.lt
  have yl := hJ.rm.tg.lt
  have pb : w.heap.size ≠ b := by omega
  have px : w.heap.size ≠ x := by omega
  have py : w.heap.size ≠ y := by omega
  by_cases hd0 : z.d = 0
  · rcases Bool.eq_false_or_eq_true (wordB z.at_ z.s) with hw | hw
    · refine (did0W b r z.d z.at_ z.s z.n z.g z.a z.p z.y z.e z.b z.t 0 (Mid w0 w b r x y (stB B z.at_ z.s.toNat z.n) (stT T z.at_ false) B T) (End w0 b r x y) w (by simpa using hd0) (Lib.hid fun W' hb hl hc => ?_) (Lib.hid fun W' hc hs => ?_)).mono ?_
      · have J2 := hJ.below hb
        refine (mStore b z.at_ z.n z.s B T W' J2.m h2 hw).mono ?_
        rintro _ w2 ⟨rfl, ho, hm⟩
        have hh := fun j => heap_cell (ho.2 _ pb hl) j
        simp only [hh]
        exact ⟨trivial, hc, Nat.lt_of_lt_of_le hl ho.size, J2.only ho hm⟩
      · obtain ⟨s1, s2, s3, s4⟩ := hs
        refine (rStore r x y 65536 8192 z.at_ z.n z.s B T W' s4 h2 hw).mono ?_
        rintro _ w2 ⟨rfl, ho, hm⟩
        have hh := fun j => heap_cell (ho.2 _ px py s1) j
        simp only [hh]
        exact ⟨trivial, hc, _, _, s3.only2 ho hJ.bx hJ.by_, hm, hJ.br, hJ.bx, hJ.by_, hJ.lb, hJ.lr, hJ.lx, hJ.ly, s2.trans (ho.1 _ hJ.lx hJ.ly s2.size)⟩
      · rintro _ w2 ⟨rfl, h⟩; exact ⟨b, rfl, h⟩
    · refine (did0W b r z.d z.at_ z.s z.n z.g z.a z.p z.y z.e z.b z.t 2 (J w0 b r x y B T) (End w0 b r x y) w (by simpa using hd0) (Lib.hid fun W' hb hl hc => ?_) (Lib.hid fun W' hc hs => ?_)).mono ?_
      · have J2 := hJ.below hb
        refine (mStoreNo b z.at_ z.n z.s B T W' J2.m hw).mono ?_
        rintro _ w2 ⟨rfl, rfl⟩
        exact ⟨rfl, hc, J2⟩
      · refine (rStoreNo r z.at_ z.n z.s W' h1 hw).mono ?_
        rintro _ w2 ⟨rfl, rfl⟩
        exact ⟨rfl, hc, B, T, hs⟩
      · rintro _ w2 ⟨rfl, h⟩; exact ⟨b, rfl, h⟩
  · by_cases hd1 : z.d = 1
    · rcases Bool.eq_false_or_eq_true (granB z.at_) with hw | hw
      · refine (did1W b r z.d z.at_ z.s z.n z.g z.a z.p z.y z.e z.b z.t 0 (Mid w0 w b r x y (scB B z.at_ (b8 (bt z.a 0) (bt z.a 1) (bt z.a 2) (bt z.a 3) (bt (mt z.p z.y z.e z.b z.t) 0) (bt (mt z.p z.y z.e z.b z.t) 1) (bt (mt z.p z.y z.e z.b z.t) 2) (bt (mt z.p z.y z.e z.b z.t) 3))) (stT T z.at_ z.g) B T) (End w0 b r x y) w (by simpa using hd0) (by simpa using hd1) (Lib.hid fun W' hb hl hc => ?_) (Lib.hid fun W' hc hs => ?_)).mono ?_
        · have J2 := hJ.below hb
          refine (mStoreCap b z.at_ z.g z.a z.p z.y z.e z.b z.t B T W' J2.m h3 h4 h5 h6 h7 h8 hw).mono ?_
          rintro _ w2 ⟨rfl, ho, hm⟩
          have hh := fun j => heap_cell (ho.2 _ pb hl) j
          simp only [hh]
          exact ⟨trivial, hc, Nat.lt_of_lt_of_le hl ho.size, J2.only ho hm⟩
        · obtain ⟨s1, s2, s3, s4⟩ := hs
          refine (rStoreCap r x y 65536 8192 z.at_ z.g z.a z.p z.y z.e z.b z.t B T W' s4 h3 h4 h5 h6 h7 h8 hw).mono ?_
          rintro _ w2 ⟨rfl, ho, hm⟩
          have hh := fun j => heap_cell (ho.2 _ px py s1) j
          simp only [hh]
          exact ⟨trivial, hc, _, _, s3.only2 ho hJ.bx hJ.by_, hm, hJ.br, hJ.bx, hJ.by_, hJ.lb, hJ.lr, hJ.lx, hJ.ly, s2.trans (ho.1 _ hJ.lx hJ.ly s2.size)⟩
        · rintro _ w2 ⟨rfl, h⟩; exact ⟨b, rfl, h⟩
      · refine (did1W b r z.d z.at_ z.s z.n z.g z.a z.p z.y z.e z.b z.t 2 (fun w2 => w.heap.size < w2.heap.size ∧ J w0 b r x y B T w2) (End w0 b r x y) w (by simpa using hd0) (by simpa using hd1) (Lib.hid fun W' hb hl hc => ?_) (Lib.hid fun W' hc hs => ?_)).mono ?_
        · have J2 := hJ.below hb
          obtain ⟨C, hC, rr⟩ := J2.m
          refine (storeCapNo b z.at_ C _ _ _ _ _ _ _ W' (Mem.me hC rr) hw).mono ?_
          rintro _ w2 ⟨rfl, q⟩
          have hh := fun j => heap_cell (q.block _ hl) j
          simp only [hh]
          exact ⟨trivial, hc, Nat.lt_of_lt_of_le hl q.size, J2.below q⟩
        · refine (rStoreCapNo r z.at_ _ _ _ _ _ _ _ W' h1 hw).mono ?_
          rintro _ w2 ⟨rfl, q⟩
          have hh := fun j => heap_cell (q.block _ hs.1) j
          simp only [hh]
          exact ⟨trivial, hc, B, T, hs.2.below q⟩
        · rintro _ w2 ⟨rfl, h⟩; exact ⟨b, rfl, h⟩
    · refine (did2W b (.pointer (some ⟨r, 0, none⟩)) z.d z.at_ z.s z.n z.g z.a z.p z.y z.e z.b z.t (if wordB z.at_ z.s = true then 0 else 2) (by split <;> simp) (fun c w2 => c ≠ b ∧ Mem w2 b B T ∧ J w0 c r x y B T w2) (fun c w2 => End w0 c r x y w2) w (by simpa using hd0) (by simpa using hd1) (Lib.hid fun W' hb hl hc => ?_) (Lib.hid fun c W' hc hs => ?_))
      · have J2 := hJ.below hb
        refine (mCopy b B T W' J2.m).mono ?_
        rintro _ w2 ⟨rfl, q, hsz, hm⟩
        have J3 := J2.below q
        have hh := fun j => heap_cell (q.block _ hl) j
        simp only [hh]
        have e1 := J2.m.lt; have e2 := J2.rm.by_.lt; have e3 := J2.rm.tg.lt; have e4 := J2.rm.box.lt
        exact ⟨_, rfl, hc, by omega, J3.m, hm, J3.rm, by omega, by omega, by omega, by have := J2.bel.size; omega, J3.lr, J3.lx, J3.ly, J3.bel⟩
      · obtain ⟨s1, s2, s3⟩ := hs
        rcases Bool.eq_false_or_eq_true (wordB z.at_ z.s) with hw | hw
        · rw [if_pos hw]
          refine (mStore b z.at_ z.n z.s B T W' s2 h2 hw).mono ?_
          rintro _ w2 ⟨rfl, ho, hm⟩
          exact ⟨rfl, B, T, s3.m.far ho s1, s3.rm.only ho hJ.br hJ.bx hJ.by_, s3.br, s3.bx, s3.by_, s3.lb, s3.lr, s3.lx, s3.ly, s3.bel.trans (ho.1 _ hJ.lb s3.bel.size)⟩
        · rw [if_neg (by simp [hw])]
          refine (mStoreNo b z.at_ z.n z.s B T W' s2 hw).mono ?_
          rintro _ w2 ⟨rfl, rfl⟩
          exact ⟨rfl, B, T, s3⟩
end Go.Proofs.Ytleabbhoedddlaa
