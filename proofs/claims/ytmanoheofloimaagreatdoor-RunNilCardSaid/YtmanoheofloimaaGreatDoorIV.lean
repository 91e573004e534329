import Derived.Test.YtmanoheofloimaaGreatDoorIP
import Derived.Deep.Cut
import Derived.Deep.CutRange
namespace Go.Proofs.YtmanoheofloimaaGreatDoor.In
open Go.ChangeShapes Go.WideShapes Go.ChangeAt Go.RowKit
set_option linter.unusedVariables false
set_option maxRecDepth 100000
theorem keepG {B b0 : Nat} {W1 w w' : World} {v0 v3 : Value} (h : Below B W1 w ∧ w.cell? ⟨b0, 0, none⟩ = some v0 ∧ w.cell? ⟨b0, 3, none⟩ = some v3 ∧ b0 < B ∧ B ≤ w.heap.size)
    (hb : Below B w w') : Below B W1 w' ∧ w'.cell? ⟨b0, 0, none⟩ = some v0 ∧ w'.cell? ⟨b0, 3, none⟩ = some v3 ∧ b0 < B ∧ B ≤ w'.heap.size := by
  obtain ⟨k, e0, e3, l0, l⟩ := h
  exact ⟨k.trans hb, by rw [hb.cell l0]; exact e0, by rw [hb.cell l0]; exact e3, l0, Nat.le_trans l hb.size⟩
def regN (h : Bool) (n s : Nat) : Nat := if h then n / 2 ^ s % 32 else 0
theorem regN_lt (h : Bool) (n s : Nat) : regN h n s < 256 := by
  unfold regN
  split
  · have := Nat.mod_lt (n / 2 ^ s) (show 0 < 32 by omega); omega
  · omega
theorem getF_b (f n : Nat) (hn : n < 4294967296) : i32 (getF f n) := by
  unfold getF i32
  split <;> first | (unfold sgn; split <;> omega) | omega
structure Ins where
  o : Nat
  d : Nat
  a : Nat
  b : Nat
  m : Int
def Ins.zero : Ins := ⟨0, 0, 0, 0, 0⟩
def Ins.put (i : Ins) : Nat × Nat := YtmanoheofloimaaGreatDoor.In.put i.o i.d i.a i.b i.m
def Ins.val (i : Ins) : Value := insV i.o i.d i.a i.b i.m
def dec (q n : Nat) : Ins := ⟨q + 1, regN (hasD (FL q)) n 7, regN (hasA (FL q)) n 15, regN (hasB (FL q)) n 20, getF (FL q) n⟩
def get (n : Nat) : Ins × Nat :=
  if opL n 68 = 0 then (Ins.zero, 5) else if (dec (opL n 68 - 1) n).put = (n, 0) then (dec (opL n 68 - 1) n, 0) else (Ins.zero, 5)
def ieV (r : Ins × Nat) : Value := .tuple #[r.1.val, .int .i64 (r.2 : Int)]
theorem opL_b (n : Nat) : ∀ j, j ≤ 68 → opL n j ≤ 68
  | 0, _ => by unfold opL; omega
  | j + 1, h => by
    unfold opL
    split
    · omega
    · exact opL_b n j (by omega)
set_option maxHeartbeats 4000000 in
theorem getGen (n q f d a b W E : Nat) (M : Int) (D A B : Bool) (hn : n < 4294967296) (hq : q ≤ 67) (hd : d < 256) (ha : a < 256) (hb : b < 256) (w : World) (hg : Glob w)
    (hD : (bits .and .i64 (hasN f) 1 != 0) = D) (hA : (bits .and .i64 (hasN f) 2 != 0) = A) (hB : (bits .and .i64 (hasN f) 4 != 0) = B)
    (c0 : w.cell? ⟨0, q, none⟩ = some (.int .u8 (f : Int))) (KF : Hid (FormG f)) (HM : Hid (getF f n = M))
    (KO : Hid (∀ w, Glob w → Calls Tryz.prog 55 #[.int .u32 (n : Int)] w fun en w' => en = .returned (.int .u8 ((q : Int) + 1)) ∧ w = w'))
    (KD : Hid (∀ w, Calls Tryz.prog 57 #[.int .u32 (n : Int), .int .u64 7, .bool D] w fun en w' => en = .returned (.int .u8 (d : Int)) ∧ w = w'))
    (KA : Hid (∀ w, Calls Tryz.prog 57 #[.int .u32 (n : Int), .int .u64 15, .bool A] w fun en w' => en = .returned (.int .u8 (a : Int)) ∧ w = w'))
    (KB : Hid (∀ w, Calls Tryz.prog 57 #[.int .u32 (n : Int), .int .u64 20, .bool B] w fun en w' => en = .returned (.int .u8 (b : Int)) ∧ w = w'))
    (KP : Hid (∀ w, Glob w → Calls Tryz.prog 58 #[.agg #[.int .u8 ((q : Int) + 1), .int .u8 (d : Int), .int .u8 (a : Int), .int .u8 (b : Int), .int .i32 M]] w fun en w' => en = .returned (.tuple #[.int .u32 (W : Int), .int .i64 (E : Int)]) ∧ Below w.heap.size w w')) :
    Calls Tryz.prog 37 #[.int .u32 (n : Int)] w fun en w' => en = .returned (if W = n ∧ E = 0 then .tuple #[.agg #[.int .u8 ((q : Int) + 1), .int .u8 (d : Int), .int .u8 (a : Int), .int .u8 (b : Int), .int .i32 M], .int .i64 0] else ieV (Ins.zero, 5)) ∧ Below w.heap.size w w' := by
  have t1 : ((q : Int) + 1 == 0) = false := by simp; omega
  have hs := hg.size
  have z0 : 0 < w.heap.size := by omega
  have z1 : 1 < w.heap.size := by omega
  have hgh := Lib.hid hg
  clear hg
  go_enter Tryz.func37, Tryz.ntmps37
  go_wp2_with fail
  refine (KO.out _ ?_).mono ?_
  · exact hgh.out.below ((Below.refl _ _).alloc (Nat.le_refl _) _) hs
  rintro _ _ ⟨rfl, rfl⟩
  go_wp2_with fail
  refine (KF.out (w.heap.size + 1) _ ?_).mono ?_
  · simp
  rintro _ w1 ⟨g, caps, gm, cm, gp, cp, rfl, hb1, hs1, hcf, hG⟩
  generalize hasN f = H at *
  obtain ⟨hc1, hf1⟩ := bcell hb1
  have zz : w.heap.size < w1.heap.size := by omega
  have zz0 : w.heap.size < w.heap.size + 1 := by omega
  have HG := Lib.hid hG
  clear hG
  go_upto_region 5 with fail
  have hS : Below (w1.heap.size + 1) (w1.alloc (.cells #[.int .i64 H, .func (Fn.func gm) #[] cm, .func (Fn.func gp) #[] cp, .func (Fn.func g) #[] caps] 124)) (w1.alloc (.cells #[.int .i64 H, .func (Fn.func gm) #[] cm, .func (Fn.func gp) #[] cp, .func (Fn.func g) #[] caps] 124)) := Below.refl _ _
  have g1 : (w1.alloc (.cells #[.int .i64 H, .func (Fn.func gm) #[] cm, .func (Fn.func gp) #[] cp, .func (Fn.func g) #[] caps] 124)).cell? ⟨w1.heap.size, 0, none⟩ = some (.int .i64 H) := by go_simp
  have g2 : (w1.alloc (.cells #[.int .i64 H, .func (Fn.func gm) #[] cm, .func (Fn.func gp) #[] cp, .func (Fn.func g) #[] caps] 124)).cell? ⟨w1.heap.size, 3, none⟩ = some (.func (Fn.func g) #[] caps) := by go_simp
  have g5 : w1.heap.size + 1 ≤ (w1.alloc (.cells #[.int .i64 H, .func (Fn.func gm) #[] cm, .func (Fn.func gp) #[] cp, .func (Fn.func g) #[] caps] 124)).heap.size := by simp
  have hBW : Below w.heap.size w (w1.alloc (.cells #[.int .i64 H, .func (Fn.func gm) #[] cm, .func (Fn.func gp) #[] cp, .func (Fn.func g) #[] caps] 124)) := (((Below.refl _ _).alloc (Nat.le_refl _) _).trans (hb1.mono (by omega))).alloc (by omega) _
  have hBR : Below (w.heap.size + 1) (w.alloc (.cells #[.int .u8 0, .int .u8 0, .int .u8 0, .int .u8 0, .int .i32 0] 76)) (w1.alloc (.cells #[.int .i64 H, .func (Fn.func gm) #[] cm, .func (Fn.func gp) #[] cp, .func (Fn.func g) #[] caps] 124)) := hb1.alloc (by omega) _
  have hB1 : Below w1.heap.size w1 (w1.alloc (.cells #[.int .i64 H, .func (Fn.func gm) #[] cm, .func (Fn.func gp) #[] cp, .func (Fn.func g) #[] caps] 124)) := (Below.refl _ _).alloc (Nat.le_refl _) _
  generalize w1.alloc (.cells #[.int .i64 H, .func (Fn.func gm) #[] cm, .func (Fn.func gp) #[] cp, .func (Fn.func g) #[] caps] 124) = W1 at *
  have kg : ∀ w', Below (w1.heap.size + 1) W1 w' → Calls Tryz.prog g (#[.int .u32 (n : Int)] ++ caps) w' fun en w'' => en = .returned (.int .i32 M) ∧ w' = w'' := fun w' h => by
    have := HG.out n w' hn (hB1.trans (h.mono (by omega)))
    rw [HM.out] at this
    exact this
  clear HG hB1 hc1 hf1 hb1
  generalize w1.heap.size = b0 at *
  have HT : _ ∧ _ ∧ _ ∧ _ ∧ _ := ⟨hS, g1, g2, (by omega : b0 < b0 + 1), g5⟩
  clear hS g1 g2
  have KG := Lib.hid kg
  clear kg
  obtain ⟨hc3, hf3⟩ := bcell hBR
  go_cut [6] from 19 to 42 (fun v wx => v = .pointer (some ⟨W1.heap.size, 0, none⟩) ∧ wx = (W1.alloc (.cells #[.int .u8 ((q : Int) + 1), .int .u8 (d : Int), .int .u8 (a : Int), .int .u8 (b : Int), .int .i32 M] 76)).drew)
  case first =>
    go_region_held3 (fun w' => Below (b0 + 1) W1 w' ∧ w'.cell? ⟨b0, 0, none⟩ = some (.int .i64 H) ∧ w'.cell? ⟨b0, 3, none⟩ = some (.func (Fn.func g) #[] caps) ∧ b0 < b0 + 1 ∧ b0 + 1 ≤ w'.heap.size)
    (first | assumption | exact keepG (by assumption) ((Below.refl _ _).drew) | (refine keepG (by assumption) ((Below.refl _ _).alloc ?_ _); omega) | (refine keepG (by assumption) (((Below.refl _ _).alloc ?_ _).drew); omega))
    (first | (go_at_call 57; (with_reducible refine (KD.out _).mono ?_); rintro _ _ ⟨rfl, rfl⟩) | (go_at_call 57; (with_reducible refine (KA.out _).mono ?_); rintro _ _ ⟨rfl, rfl⟩) | (go_at_call 57; (with_reducible refine (KB.out _).mono ?_); rintro _ _ ⟨rfl, rfl⟩) | ((with_reducible refine (KG.out _ ?_).mono ?_); exact And.left (by assumption); rintro _ _ ⟨rfl, rfl⟩))
    all_goals
      go_wp2_with fail
      go_meet
      case rel => exact ⟨rfl, rfl⟩
  case rest =>
    obtain ⟨rfl, rfl⟩ := hcut
    clear KO KF KD KA KB KG HT
    have hsz : w.heap.size < W1.heap.size := by have := hBR.size; simp at this; omega
    have hsz0 : w.heap.size < W1.heap.size + 1 := by omega
    go_wp2_with fail
    refine (KP.out _ ?_).mono ?_
    · exact hgh.out.below ((hBW.alloc (by omega) _).drew) hs
    rintro _ w2 ⟨rfl, hb2⟩
    obtain ⟨hc4, hf4⟩ := bcell hb2
    have hsz2 : W1.heap.size + 1 ≤ w2.heap.size := by have := hb2.size; simpa using this
    have hsz3 : w.heap.size < w2.heap.size := by omega
    have hsz4 : W1.heap.size < w2.heap.size := by omega
    have hB2 : Below w.heap.size w w2 := ((hBW.alloc (by omega) _).drew).trans (hb2.mono (by simp; omega))
    by_cases hE : E = 0
    · subst hE
      by_cases hWn : W = n
      · subst hWn
        go_wp2_with fail
        exact bodyPost_ret (v := .tuple #[.agg #[.int .u8 ((q : Int) + 1), .int .u8 (d : Int), .int .u8 (a : Int), .int .u8 (b : Int), .int .i32 M], .int .i64 0]) (by simp [results, Tryz.results37, go_sem, hc4, hc3, hsz, hsz0]) rfl ⟨rfl, ((((hB2.setCell (Nat.le_refl _) _).setCell (Nat.le_refl _) _).setCell (Nat.le_refl _) _).setCell (Nat.le_refl _) _).setCell (Nat.le_refl _) _⟩
      · have hne : ((W : Int) != (n : Int)) = true := by simp; omega
        go_wp2_with fail
        exact bodyPost_ret (v := ieV (Ins.zero, 5)) (by simp [ieV, Ins.val, insV, Ins.zero, results, Tryz.results37, go_sem, hc4, hc3, hsz, hsz0]) rfl ⟨rfl, ((((hB2.setCell (Nat.le_refl _) _).setCell (Nat.le_refl _) _).setCell (Nat.le_refl _) _).setCell (Nat.le_refl _) _).setCell (Nat.le_refl _) _⟩
    · have hne : ((E : Int) != 0) = true := by simp; omega
      go_wp2_with fail
      exact bodyPost_ret (v := ieV (Ins.zero, 5)) (by simp [ieV, Ins.val, insV, Ins.zero, results, Tryz.results37, go_sem, hc4, hc3, hsz, hsz0]) rfl ⟨rfl, ((((hB2.setCell (Nat.le_refl _) _).setCell (Nat.le_refl _) _).setCell (Nat.le_refl _) _).setCell (Nat.le_refl _) _).setCell (Nat.le_refl _) _⟩
theorem getNone (n : Nat) (hn : n < 4294967296) (w : World) (hg : Glob w)
    (KO : Hid (∀ w, Glob w → Calls Tryz.prog 55 #[.int .u32 (n : Int)] w fun en w' => en = .returned (.int .u8 0) ∧ w = w')) :
    Calls Tryz.prog 37 #[.int .u32 (n : Int)] w fun en w' => en = .returned (ieV (Ins.zero, 5)) ∧ Below w.heap.size w w' := by
  have hgh := Lib.hid hg
  have hs := hg.size
  clear hg
  go_enter Tryz.func37, Tryz.ntmps37
  go_wp2_with fail
  refine (KO.out _ ?_).mono ?_
  · exact hgh.out.below ((Below.refl _ _).alloc (Nat.le_refl _) _) hs
  rintro _ _ ⟨rfl, rfl⟩
  go_wp2_with fail
  exact bodyPost_ret (v := ieV (Ins.zero, 5)) (by simp [ieV, Ins.val, insV, Ins.zero, results, Tryz.results37, go_sem]) rfl ⟨rfl, (Below.refl _ _).alloc (Nat.le_refl _) _⟩
theorem c9 (n : Nat) (hn : n < 4294967296) (w : World) (hg : Glob w) :
    Calls Tryz.prog 37 #[.int .u32 (n : Int)] w fun en w' => en = .returned (ieV (get n)) ∧ Below w.heap.size w w' := by
  have hob := opL_b n 68 (by omega)
  by_cases ho : opL n 68 = 0
  · have e : get n = (Ins.zero, 5) := by unfold get; rw [if_pos ho]
    rw [e]
    exact getNone n hn w hg (Lib.hid fun w h => by have := c21 n hn w h; rw [ho] at this; exact this)
  obtain ⟨q, hq⟩ : ∃ q, opL n 68 = q + 1 := ⟨opL n 68 - 1, by omega⟩
  have hf := (FL_free ⟨q, by omega⟩).2
  simp only at hf
  obtain ⟨b1, b2, b3⟩ := hasN_bits ⟨FL q, by omega⟩
  simp only at b1 b2 b3
  have hE : get n = if (dec q n).put = (n, 0) then (dec q n, 0) else (Ins.zero, 5) := by
    unfold get
    rw [if_neg ho, hq, Nat.add_sub_cancel]
  have h := getGen n q (FL q) (regN (hasD (FL q)) n 7) (regN (hasA (FL q)) n 15) (regN (hasB (FL q)) n 20) (dec q n).put.1 (dec q n).put.2 (getF (FL q) n) _ _ _ hn (by omega) (regN_lt _ _ _) (regN_lt _ _ _) (regN_lt _ _ _) w hg b1 b2 b3 (hg.f q (by omega)) (Lib.hid (formG (FL q) hf)) (Lib.hid rfl)
    (Lib.hid fun w h => by have := c21 n hn w h; rw [hq, Int.natCast_add] at this; exact this)
    (Lib.hid fun w => reg n 7 hn (by omega) _ w) (Lib.hid fun w => reg n 15 hn (by omega) _ w) (Lib.hid fun w => reg n 20 hn (by omega) _ w)
    (Lib.hid fun w h => by
      have := c7 (q + 1) _ _ _ (getF (FL q) n) (by omega) (regN_lt (hasD (FL q)) n 7) (regN_lt (hasA (FL q)) n 15) (regN_lt (hasB (FL q)) n 20) (getF_b _ n hn) w h
      unfold insV at this
      rw [Int.natCast_add] at this
      exact this)
  refine h.mono ?_
  rintro _ w1 ⟨rfl, hb⟩
  refine ⟨?_, hb⟩
  rw [hE]
  by_cases hp : (dec q n).put = (n, 0)
  · rw [if_pos hp, if_pos ⟨by rw [hp], by rw [hp]⟩]
    rfl
  · rw [if_neg hp, if_neg (fun h => hp (Prod.ext h.1 h.2))]
end Go.Proofs.YtmanoheofloimaaGreatDoor.In

