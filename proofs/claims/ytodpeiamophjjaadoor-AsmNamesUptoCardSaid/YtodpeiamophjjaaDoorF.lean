import Derived.Test.YtodpeiamophjjaaDoorE
namespace Go.Proofs.YtodpeiamophjjaaDoor
open Go.ChangeShapes Go.WideShapes Go.ChangeAt Go.RowKit
open In (i32)
set_option linter.unusedVariables false
/-- so many words stand there -/
def Us (w : World) (A : Option Addr) (n : Nat) (f : Nat → Nat) : Prop :=
  0 < n → ∃ b o, A = some ⟨b, o, none⟩ ∧ b < w.heap.size ∧ ∀ k, k < n → w.cell? ⟨b, o + k, none⟩ = some (.int .u32 (f k : Int))
theorem Us.below {w w' : World} {A : Option Addr} {n : Nat} {f : Nat → Nat} (h : Us w A n f) (hb : Below w.heap.size w w') : Us w' A n f := fun h0 => by
  obtain ⟨b, o, e, hl, hc⟩ := h h0
  exact ⟨b, o, e, Nat.lt_of_lt_of_le hl hb.size, fun k hk => by rw [hb.cell (p := ⟨b, o + k, none⟩) hl]; exact hc k hk⟩
def DR (w : World) (n : Nat) (i : Value) (wr : World) : Prop := ∃ k : Nat, k ≤ n ∧ i = .int .i64 (k : Int) ∧ ∃ q, wr = w.drewN q
set_option maxHeartbeats 2000000 in
/-- two lists of the same words -/
theorem c8 (A B : Option Addr) (n c d : Nat) (f g : Nat → Nat) (w : World) (hn : n ≤ 9223372036854775807) (hA : Us w A n f) (hB : Us w B n g) (he : ∀ k, k < n → f k = g k) :
    Calls Tryd.prog 8 #[.slice A n c, .slice B n d] w fun e w' => e = .returned (.bool true) ∧ ∃ q, w' = w.drewN q := by
  have HE := Lib.hid he
  clear he
  have hq : ((n : Int) != (n : Int)) = false := by simp
  go_enter Tryd.func8, Tryd.ntmps8
  go_wp2
  go_loopw [5] (DR w n) (fun i _ => n - (intOf i).toNat)
  case atStart => exact ⟨0, Nat.zero_le _, rfl, 0, rfl⟩
  case round =>
    obtain ⟨k, hk, rfl, q, rfl⟩ := hrel
    by_cases hlt : k < n
    · obtain ⟨b, o, rfl, hb, hc⟩ := hA (by omega)
      obtain ⟨b', o', rfl, hb', hc'⟩ := hB (by omega)
      have h1 := hc k hlt
      have h2 := hc' k hlt
      rw [← HE.out k hlt] at h2
      clear hc hc' hA hB
      generalize f k = x at h1 h2
      have e1 : ((x : Int) != (x : Int)) = false := by simp
      go_wp2_with fail
      go_quiet (fail)
      go_wp2
      go_roundw
      case rel => exact ⟨k + 1, hlt, by go_num, _, rfl⟩
      case measure => simp [intOf]; omega
    · obtain rfl : k = n := by omega
      go_wp2
      go_ret
      exact ⟨rfl, q, rfl⟩
/-- what stands in a row of the call's own -/
theorem own_us {w : World} {B : Nat} {V : Value} {n : Nat} {f : Nat → Nat} (h : w.ownsRow B 22 1 V n ((List.range n).map fun j => Value.int .u32 (f j : Int))) : ∃ A c, V = .slice A n c ∧ Us w A n f := by
  obtain ⟨A, c, rfl, -⟩ := own_slice h
  refine ⟨A, c, rfl, fun h0 => ?_⟩
  have hA : ∃ b, A = some ⟨b, 0, none⟩ := by
    rcases h.2 with ⟨q, q'⟩ | ⟨b, cap, cur, q, _⟩
    · omega
    · simp at q; exact ⟨b, q.1⟩
  obtain ⟨b, rfl⟩ := hA
  refine ⟨b, 0, rfl, (h.lt b rfl).2, fun k hk => ?_⟩
  have := h.cells (g := b) rfl k (.int .u32 (f k : Int)) (by rw [List.getElem?_map, List.getElem?_range hk]; rfl)
  have ea : (⟨b, 0, none⟩ : Addr).add k = ⟨b, 0 + k, none⟩ := by
    unfold Addr.add
    split
    · simp_all
    · rfl
  rw [ea] at this
  exact this
/-- the lines that Get answers -/
def gotL (f : Nat → Nat) (k : Nat) : Ln := ⟨⟨#[]⟩, (In.get (f k)).1.o, (In.get (f k)).1.d, (In.get (f k)).1.a, (In.get (f k)).1.b, (In.get (f k)).1.m, ⟨#[]⟩⟩
def lcells (x : Ln) : List Value := [.string x.lab, .int .u8 (x.o : Int), .int .u8 (x.d : Int), .int .u8 (x.a : Int), .int .u8 (x.b : Int), .int .i32 x.m, .string x.tt]
def GetPost (f : Nat → Nat) (n : Nat) (w : World) (e : Ending) (w' : World) : Prop :=
  ((∃ k, k < n ∧ (In.get (f k)).2 ≠ 0) ∧ e = .returned (.tuple #[.slice none 0 0, .int .i64 2]) ∧ Below w.heap.size w w') ∨
  ((∀ k, k < n → (In.get (f k)).2 = 0) ∧ ∃ V, e = .returned (.tuple #[V, .int .i64 0]) ∧ w'.ownsRow w.heap.size 37 7 V n ((List.range n).flatMap fun k => lcells (gotL f k)) ∧ Below w.heap.size w w')
def R5 (f : Nat → Nat) (w : World) (n : Nat) (v i : Value) (wr : World) : Prop := ∃ k : Nat, k ≤ n ∧ i = .int .i64 (k : Int) ∧ wr.ownsRow w.heap.size 37 7 v k ((List.range k).flatMap fun k => lcells (gotL f k)) ∧ Below w.heap.size w wr ∧ ∀ j, j < k → (In.get (f j)).2 = 0
theorem seven_cells (w : World) (N : Nat) (hN : w.heap.size = N) (l : List Value) (t : TypeId) (hl : l.length = 7) : ∀ (j : Nat) (u : Value), l[j]? = some u → (w.alloc (.cells l.toArray t)).cell? ((⟨N, 0, none⟩ : Addr).add j) = some u := by
  intro j u h
  subst hN
  have hj : j < 7 := by
    by_cases hh : j < 7
    · exact hh
    · rw [List.getElem?_eq_none (by omega)] at h; cases h
  have ea : (⟨w.heap.size, 0, none⟩ : Addr).add j = ⟨w.heap.size, j, none⟩ := by
    unfold Addr.add
    split <;> simp_all
  rw [ea, World.cell?_alloc_at _ _ _ _ rfl]
  simpa using h
set_option maxRecDepth 100000 in
set_option maxHeartbeats 8000000 in
theorem c5 (base : Int) (A : Option Addr) (n c : Nat) (f : Nat → Nat) (w : World) (hA : Us w A n f) (hf : ∀ k, k < n → f k < 4294967296) (hG : In.Glob w) (hn : n ≤ 16777216) : Calls Tryd.prog 5 #[.int .u32 base, .slice A n c] w fun e w' => GetPost f n w e w' := by
  obtain ⟨i0, hi, hz⟩ : ∃ i, Tryd.prog.info? 37 = some i ∧ (i.zero, i.size, i.bytes) = (some (.agg #[.string ⟨#[]⟩, .int .u8 0, .int .u8 0, .int .u8 0, .int .u8 0, .int .i32 0, .string ⟨#[]⟩]), 7, 40) := by
    have h : (Tryd.prog.info? 37).map (fun i => (i.zero, i.size, i.bytes)) = some (some (.agg #[.string ⟨#[]⟩, .int .u8 0, .int .u8 0, .int .u8 0, .int .u8 0, .int .i32 0, .string ⟨#[]⟩]), 7, 40) := by kernel_rfl
    cases hq : Tryd.prog.info? 37 with
    | none => rw [hq] at h; cases h
    | some i => rw [hq] at h; exact ⟨i, rfl, by simpa using h⟩
  simp only [Prod.mk.injEq] at hz
  obtain ⟨hz0, hz1, hz2⟩ := hz
  have HI := Lib.hid hi
  have HZ0 := Lib.hid hz0
  have HZ1 := Lib.hid hz1
  have HZ2 := Lib.hid hz2
  have HA := Lib.hid hA
  have HG := Lib.hid hG
  have HF := Lib.hid hf
  have hg3 := hG.size
  clear hi hz0 hz1 hz2 hA hG hf
  go_enter Tryd.func5, Tryd.ntmps5
  go_wp2_with (at_make; refine wpList_make_own _ rfl _ _ 24 rfl w.heap.size 37 i0 (.agg #[.string ⟨#[]⟩, .int .u8 0, .int .u8 0, .int .u8 0, .int .u8 0, .int .i32 0, .string ⟨#[]⟩]) 7 Tryd.underlying24 HI.out HZ0.out HZ1.out .i64 .i64 (n : Int) n rfl rfl rfl (by rw [HZ2.out]; omega) (by unfold maxLen; omega) (Nat.le_refl _) ?_; intro w3 hown3 hgrow3)
  have HB3 := Lib.hid (below_grown hgrow3)
  have HO3 := Lib.hid hown3
  clear hown3 hgrow3
  go_loopw [6, 16] (fun v i wr => R5 f w n v i wr) (fun _ i _ => n - (intOf i).toNat)
  case atStart => exact ⟨0, by omega, rfl, HO3.out, HB3.out, fun j hj => absurd hj (by omega)⟩
  case round =>
    obtain ⟨k, hk, rfl, ho, hb, hin⟩ := hrel
    have HO := Lib.hid ho
    have HB := Lib.hid hb
    have HIN := Lib.hid hin
    by_cases hlt : k < n
    · obtain ⟨b, o, rfl, hbl, hc⟩ := HA.out (by omega)
      have h1 := hc k hlt
      have h2 : wr.cell? ⟨b, o + k, none⟩ = some (.int .u32 (f k : Int)) := (hb.cell (p := ⟨b, o + k, none⟩) hbl).trans h1
      have K9 := Lib.hid (In.c9 (f k) (HF.out k hlt) wr (HG.out.below hb hg3))
      unfold In.ieV In.Ins.val In.insV at K9
      have hge := In.get_err (f k)
      have HLT := Lib.hid hlt
      have HC : Hid (((List.range (k + 1)).flatMap fun k => lcells (gotL f k)) = ((List.range k).flatMap fun k => lcells (gotL f k)) ++ [.string ⟨#[]⟩, .int .u8 ((In.get (f k)).1.o : Int), .int .u8 ((In.get (f k)).1.d : Int), .int .u8 ((In.get (f k)).1.a : Int), .int .u8 ((In.get (f k)).1.b : Int), .int .i32 (In.get (f k)).1.m, .string ⟨#[]⟩]) := Lib.hid (by
        rw [List.range_succ, List.flatMap_append]
        simp [lcells, gotL])
      have HS : Hid ((In.get (f k)).2 = 0 → ∀ j, j < k + 1 → (In.get (f j)).2 = 0) := Lib.hid fun e j hj => by
        by_cases hjk : j = k
        · rw [hjk]; exact e
        · exact HIN.out j (by omega)
      have HBD : Hid ((In.get (f k)).2 ≠ 0 → ∃ k, k < n ∧ (In.get (f k)).2 ≠ 0) := Lib.hid fun e => ⟨k, hlt, e⟩
      have zs := hb.size
      clear ho hb hin hc h1 hk
      generalize In.get (f k) = r at *
      generalize f k = v at *
      rcases hge with ⟨i, rfl⟩ | rfl
      · have HS2 := Lib.hid (HS.out rfl)
        obtain ⟨io, id, ia, ib, im⟩ := i
        simp only at K9 HC
        go_wp2_with fail
        refine (K9.out).mono ?_
        rintro _ w4 ⟨rfl, b4⟩
        have HB4 := Lib.hid (HB.out.trans (b4.mono HB.out.size))
        have HO4 := Lib.hid (own_below HO.out b4)
        have z4 := HB4.out.size
        clear b4
        go_wp2_with (at_builtin; refine wpList_append_own _ rfl _ _ 24 rfl w.heap.size 37 i0 (.agg #[.string ⟨#[]⟩, .int .u8 0, .int .u8 0, .int .u8 0, .int .u8 0, .int .i32 0, .string ⟨#[]⟩]) 7 40 Tryd.underlying24 HI.out HZ0.out HZ1.out HZ2.out rfl (by decide) _ _ _ rfl ((HO4.out.alloc _).alloc _) ⟨w4.heap.size + 1, 0, none⟩ 1 1 [.string ⟨#[]⟩, .int .u8 (io : Int), .int .u8 (id : Int), .int .u8 (ia : Int), .int .u8 (ib : Int), .int .i32 im, .string ⟨#[]⟩] rfl rfl ?c1 (fun y hy => by simp at hy; rcases hy with rfl | rfl | rfl | rfl | rfl | rfl | rfl <;> rfl) (by unfold maxLen; omega) (by omega) (by simp; omega) ?_)
        case c1 => exact seven_cells (w4.alloc _) _ (by simp) [.string ⟨#[]⟩, .int .u8 (io : Int), .int .u8 (id : Int), .int .u8 (ia : Int), .int .u8 (ib : Int), .int .i32 im, .string ⟨#[]⟩] 37 rfl
        intro v' w5 hown5 hgrow5 hnil5
        go_wp2_with fail
        go_roundw
        case rel => exact ⟨k + 1, HLT.out, by go_num, by rw [HC.out]; exact hown5, gr_below ((HB4.out.alloc HB4.out.size _).alloc (by simp; omega) _) ((HO4.out.alloc _).alloc _) hgrow5 (by simp; omega), HS2.out⟩
        case measure => simp [intOf]; have := HLT.out; omega
      · have HW := Lib.hid (HBD.out (by decide))
        simp only [In.Ins.zero] at K9
        go_wp2_with fail
        refine (K9.out).mono ?_
        rintro _ w4 ⟨rfl, b4⟩
        have HB4 := Lib.hid (HB.out.trans (b4.mono HB.out.size))
        clear b4
        go_wp2_with fail
        go_ret2
        exact Or.inl ⟨HW.out, rfl, HB4.out.alloc HB4.out.size _⟩
    · have hkn : k = n := by omega
      subst hkn
      clear ho hb hin
      go_wp2_with fail
      go_ret2
      exact Or.inr ⟨HIN.out, _, rfl, HO.out, HB.out⟩
end Go.Proofs.YtodpeiamophjjaaDoor
