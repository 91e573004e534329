import Derived.Test.YtleabbhoedddlaaV
namespace Go.Proofs.Ytleabbhoedddlaa
open Go.ChangeShapes Go.WideShapes Go.ChangeAt Go.RowKit
open Cp (cp arr mt num4)
set_option linter.unusedVariables false
/-- whatever is stored: an answer, and a memory -/
def Did (b : Nat) (w : World) (en : Ending) (w' : World) : Prop := ∃ x : Nat, x ≤ 2 ∧ en = .returned (.int .i64 (x : Int)) ∧ Only b w w' ∧ ∃ B T, Mem w' b B T
theorem didStore (b at_ n : Nat) (s : Int) (B : Nat → Nat) (T : Nat → Bool) (w : World) (hm : Mem w b B T) (hn : n < 4294967296) :
    Calls Try.prog 12 #[.pointer (some ⟨b, 0, none⟩), .int .u32 (at_ : Int), .int .i64 s, .int .u32 (n : Int)] w (Did b w) := by
  rcases Bool.eq_false_or_eq_true (wordB at_ s) with hw | hw
  · refine (mStore b at_ n s B T w hm hn hw).mono ?_
    rintro _ w' ⟨rfl, ho, h⟩
    exact ⟨0, by omega, rfl, ho, _, _, h⟩
  · refine (mStoreNo b at_ n s B T w hm hw).mono ?_
    rintro _ w' ⟨rfl, rfl⟩
    exact ⟨2, by omega, rfl, Only.refl _ _, _, _, hm⟩
theorem b8_lt (x0 x1 x2 x3 x4 x5 x6 x7 : Nat) (h0 : x0 < 256) (h1 : x1 < 256) (h2 : x2 < 256) (h3 : x3 < 256) (h4 : x4 < 256) (h5 : x5 < 256) (h6 : x6 < 256) (h7 : x7 < 256) (j : Nat) : b8 x0 x1 x2 x3 x4 x5 x6 x7 j < 256 := by
  unfold b8
  split <;> assumption
theorem mStoreCap (b at_ : Nat) (g : Bool) (a p y e bb t : Nat) (B : Nat → Nat) (T : Nat → Bool) (w : World) (hm : Mem w b B T) (ha : a < 4294967296) (hp : p < 256) (hy : y < 256) (he : e < 256) (hb : bb < 65536) (ht : t < 65536) (hw : granB at_ = true) :
    Calls Try.prog 13 #[.pointer (some ⟨b, 0, none⟩), .int .u32 (at_ : Int), cp g a p y e bb t] w fun en w' => en = .returned (.int .i64 0) ∧ Only b w w' ∧ Mem w' b (scB B at_ (b8 (bt a 0) (bt a 1) (bt a 2) (bt a 3) (bt (mt p y e bb t) 0) (bt (mt p y e bb t) 1) (bt (mt p y e bb t) 2) (bt (mt p y e bb t) 3))) (stT T at_ g) := by
  obtain ⟨C, hC, r⟩ := hm
  have h8 : at_ < 65536 ∧ at_ % 8 = 0 := by
    unfold granB at hw
    simpa using hw
  have K11 := fun w => Cp.cb11 g a p y e bb t ha hp hy he hb ht w
  have eb : ∀ m k, Cp.En.bt m k = bt m k := fun m k => rfl
  simp only [eb] at K11
  refine (storeCap b at_ C g a p y e bb t _ _ _ _ _ _ _ _ w (Mem.me hC r) (by omega) hw (Lib.hid K11)).mono ?_
  rintro _ w' ⟨rfl, ho, h⟩
  exact ⟨rfl, ho, _, h.1, r.storeCap at_ (by omega) g _ _ _ _ _ _ _ _ (b8_lt _ _ _ _ _ _ _ _ (bt_lt _ _) (bt_lt _ _) (bt_lt _ _) (bt_lt _ _) (bt_lt _ _) (bt_lt _ _) (bt_lt _ _) (bt_lt _ _))⟩
theorem didCap (b at_ : Nat) (g : Bool) (a p y e bb t : Nat) (B : Nat → Nat) (T : Nat → Bool) (w : World) (hm : Mem w b B T) (ha : a < 4294967296) (hp : p < 256) (hy : y < 256) (he : e < 256) (hb : bb < 65536) (ht : t < 65536) :
    Calls Try.prog 13 #[.pointer (some ⟨b, 0, none⟩), .int .u32 (at_ : Int), cp g a p y e bb t] w (Did b w) := by
  rcases Bool.eq_false_or_eq_true (granB at_) with hw | hw
  · refine (mStoreCap b at_ g a p y e bb t B T w hm ha hp hy he hb ht hw).mono ?_
    rintro _ w' ⟨rfl, ho, h⟩
    exact ⟨0, by omega, rfl, ho, _, _, h⟩
  · obtain ⟨C, hC, r⟩ := hm
    refine (storeCapNo b at_ C _ _ _ _ _ _ _ w (Mem.me hC r) hw).mono ?_
    rintro _ w' ⟨rfl, q⟩
    exact ⟨2, by omega, rfl, (Only.refl b w).below q, _, _, C, hC.below q hC.lt, r⟩
/-- what is done -/
structure Ac where
  d : Int
  at_ : Nat
  s : Int
  n : Nat
  g : Bool
  a : Nat
  p : Nat
  y : Nat
  e : Nat
  b : Nat
  t : Nat
def Ac.ok (x : Ac) : Prop := x.at_ < 4294967296 ∧ x.n < 4294967296 ∧ x.a < 4294967296 ∧ x.p < 256 ∧ x.y < 256 ∧ x.e < 256 ∧ x.b < 65536 ∧ x.t < 65536
/-- so many of them stand there -/
def Acs (w : World) (A : Option Addr) (n : Nat) (f : Nat → Ac) : Prop :=
  0 < n → ∃ b o, A = some ⟨b, o, none⟩ ∧ b < w.heap.size ∧ ∀ k, k < n → (f k).ok ∧ w.cell? ⟨b, o + k * 11, none⟩ = some (.int .i64 (f k).d) ∧ w.cell? ⟨b, o + k * 11 + 1, none⟩ = some (.int .u32 ((f k).at_ : Int)) ∧ w.cell? ⟨b, o + k * 11 + 2, none⟩ = some (.int .i64 (f k).s) ∧ w.cell? ⟨b, o + k * 11 + 3, none⟩ = some (.int .u32 ((f k).n : Int)) ∧
    w.cell? ⟨b, o + k * 11 + 4, none⟩ = some (.bool (f k).g) ∧ w.cell? ⟨b, o + k * 11 + 5, none⟩ = some (.int .u32 ((f k).a : Int)) ∧ w.cell? ⟨b, o + k * 11 + 6, none⟩ = some (.int .u8 ((f k).p : Int)) ∧ w.cell? ⟨b, o + k * 11 + 7, none⟩ = some (.int .u8 ((f k).y : Int)) ∧ w.cell? ⟨b, o + k * 11 + 8, none⟩ = some (.int .u8 ((f k).e : Int)) ∧ w.cell? ⟨b, o + k * 11 + 9, none⟩ = some (.int .u16 ((f k).b : Int)) ∧ w.cell? ⟨b, o + k * 11 + 10, none⟩ = some (.int .u16 ((f k).t : Int))
theorem Acs.below {w w' : World} {A : Option Addr} {n : Nat} {f : Nat → Ac} (h : Acs w A n f) (hb : Below w.heap.size w w') : Acs w' A n f := fun h0 => by
  obtain ⟨b, o, e, hlt, hc⟩ := h h0
  refine ⟨b, o, e, Nat.lt_of_lt_of_le hlt hb.size, fun k hk => ?_⟩
  obtain ⟨h1, c0, c1, c2, c3, c4, c5, c6, c7, c8, c9, c10⟩ := hc k hk
  have z : ∀ j, w'.cell? ⟨b, j, none⟩ = w.cell? ⟨b, j, none⟩ := fun j => hb.cell (p := ⟨b, j, none⟩) hlt
  exact ⟨h1, by rw [z]; exact c0, by rw [z]; exact c1, by rw [z]; exact c2, by rw [z]; exact c3, by rw [z]; exact c4, by rw [z]; exact c5, by rw [z]; exact c6, by rw [z]; exact c7, by rw [z]; exact c8, by rw [z]; exact c9, by rw [z]; exact c10⟩
def LR (w : World) (i : Value) (n : Nat) (wr : World) : Prop := ∃ k : Nat, k ≤ n ∧ i = .int .i64 (k : Int) ∧ Below w.heap.size w wr ∧ ∃ B T, Mem wr w.heap.size B T
theorem Mem.drew {w : World} {b : Nat} {B : Nat → Nat} {T : Nat → Bool} (h : Mem w b B T) : Mem w.drew b B T := by obtain ⟨C, h1, r⟩ := h; exact ⟨C, h1.drew, r⟩
theorem LR.next {w wr w2 : World} {N k : Nat} {en : Ending} (hk : k < N) (ho : Below w.heap.size w wr) (hl : w.heap.size < wr.heap.size) (hd : Did w.heap.size wr.drew en w2) : Below w.heap.size w w2 ∧ w.heap.size < w2.heap.size ∧ ∃ B T, Mem w2 w.heap.size B T := by
  obtain ⟨x, hx, he, h1, B, T, h2⟩ := hd
  exact ⟨ho.drew.trans (h1.1 _ (Nat.le_refl _) ho.size), h2.lt, B, T, h2⟩
end Go.Proofs.Ytleabbhoedddlaa
