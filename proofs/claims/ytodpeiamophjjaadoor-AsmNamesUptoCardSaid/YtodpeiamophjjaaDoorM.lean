import Derived.Test.YtodpeiamophjjaaDoorL
import Derived.ChangeArms
namespace Go.Proofs.YtodpeiamophjjaaDoor
open Go.ChangeShapes Go.WideShapes Go.ChangeAt Go.RowKit
open In (i32)
set_option linter.unusedVariables false
theorem emp2 (s : ByteArray) : (!s.toList.isEmpty) = !decide (s = ⟨#[]⟩) := by
  rw [ByteArray.toList_eq]
  obtain ⟨⟨l⟩⟩ := s
  cases l <;> simp
open Classical in
/-- so many words does Put answer -/
noncomputable def nOf (g : Nat → Ln) (n : Nat) : Nat := if errP g n = 0 then n else 0
theorem ren_nOf (g : Nat → Ln) (n : Nat) : nOf (ren g) n = nOf g n := by unfold nOf; rw [ren_errP]
theorem nOf_le (g : Nat → Ln) (n : Nat) : nOf g n ≤ n := by unfold nOf; split <;> omega
/-- what Put answers, in one form -/
def PP (er N : Nat) (f : Nat → Nat) (w : World) (e : Ending) (w' : World) : Prop :=
  ∃ A c, e = .returned (.tuple #[.slice A N c, .int .i64 (er : Int)]) ∧ Us w' A N f ∧ Below w.heap.size w w'
theorem p7 (base : Int) (A : Option Addr) (n c : Nat) (g : Nat → Ln) (w : World) (hA : Ls w A n g) (hG : Gl2 w) (hn : n ≤ 268435456) : Calls Tryd.prog 7 #[.int .u32 base, .slice A n c] w fun e w' => PP (errP g n) (nOf g n) (fun k => (putK g n k).1) w e w' := by
  refine (c7 base A n c g w hA hG hn).mono ?_
  rintro e w' (⟨er, he, h0, rfl, hb⟩ | ⟨he, V, rfl, ho, hb⟩)
  · have e0 : nOf g n = 0 := by unfold nOf; rw [if_neg (by omega)]
    rw [e0]
    exact ⟨none, 0, by rw [he], fun h => absurd h (by omega), hb⟩
  · have e0 : nOf g n = n := by unfold nOf; rw [if_pos he]
    unfold wcells at ho
    obtain ⟨A, c, rfl, hu⟩ := own_us (f := fun k => (putK g n k).1) ho
    rw [e0]
    exact ⟨A, c, by rw [he]; rfl, hu, hb⟩
theorem p7r (base : Int) (A : Option Addr) (n c : Nat) (g : Nat → Ln) (w : World) (hA : Ls w A n (ren g)) (hG : Gl2 w) (hn : n ≤ 268435456) : Calls Tryd.prog 7 #[.int .u32 base, .slice A n c] w fun e w' => PP (errP g n) (nOf g n) (fun k => (putK g n k).1) w e w' := by
  have h := p7 base A n c (ren g) w hA hG hn
  rw [ren_errP, ren_nOf] at h
  simp only [ren_putK] at h
  exact h
def R4 (g : Nat → Ln) (w1 : World) (v i : Value) (wr : World) : Prop := ∃ k : Nat, i = .int .i64 (k : Int) ∧ wr.ownsRow w1.heap.size 37 7 v k ((List.range k).flatMap fun k => lcells (ren g k)) ∧ Below w1.heap.size w1 wr
set_option maxRecDepth 100000 in
set_option maxHeartbeats 8000000 in
theorem walk4 (b1 : Int) (A : Option Addr) (n c : Nat) (g : Nat → Ln) (w : World) (hA : Ls w A n g) (hz : ∀ k, k < n → (g k).lab.size ≤ 1048576 ∧ (g k).tt.size ≤ 1048576) (hn : n ≤ 1048576) (hG : Gl2 w) :
    Calls Tryd.prog 4 #[.int .u32 b1, .slice A n c] w fun e w' => e = .returned (.bool true) ∧ Below w.heap.size w w' := by
  obtain ⟨i0, hi, hzz⟩ : ∃ i, Tryd.prog.info? 37 = some i ∧ (i.zero, i.size, i.bytes) = (some (.agg #[.string ⟨#[]⟩, .int .u8 0, .int .u8 0, .int .u8 0, .int .u8 0, .int .i32 0, .string ⟨#[]⟩]), 7, 40) := by
    have h : (Tryd.prog.info? 37).map (fun i => (i.zero, i.size, i.bytes)) = some (some (.agg #[.string ⟨#[]⟩, .int .u8 0, .int .u8 0, .int .u8 0, .int .u8 0, .int .i32 0, .string ⟨#[]⟩]), 7, 40) := by kernel_rfl
    cases hq : Tryd.prog.info? 37 with
    | none => rw [hq] at h; cases h
    | some i => rw [hq] at h; exact ⟨i, rfl, by simpa using h⟩
  simp only [Prod.mk.injEq] at hzz
  obtain ⟨hz0, hz1, hz2⟩ := hzz
  have HI := Lib.hid hi
  have HZ0 := Lib.hid hz0
  have HZ1 := Lib.hid hz1
  have HZ2 := Lib.hid hz2
  have HG2 := Lib.hid hG
  have HA := Lib.hid hA
  have HZ := Lib.hid hz
  clear hG hA hz hi hz0 hz1 hz2
  by_cases h300 : 300 < n
  · have b0 : decide ((300 : Int) < (n : Int)) = true := by rw [decide_eq_true]; omega
    go_enter Tryd.func4, Tryd.ntmps4
    go_wp2_with fail
    refine (works _ HG2.out).mono ?_
    rintro _ w2 ⟨rfl, b2'⟩
    have HB2 := Lib.hid b2'
    clear b2'
    go_wp2_with fail
    go_ret
    exact ⟨rfl, HB2.out⟩
  · have b0 : decide ((300 : Int) < (n : Int)) = false := by rw [decide_eq_false]; omega
    have K7 := Lib.hid (p7 b1 A n c g w HA.out HG2.out (by omega))
    have K7r := Lib.hid (fun (b : Int) A' c' w' (h : Ls w' A' n (ren g)) (hG : Gl2 w') => p7r b A' n c' g w' h hG (by omega))
    have hN := nOf_le g n
    have HOK : Hid (∀ k, k < n → (g k).ok → (ren g k).ok) := Lib.hid fun k hk h => ren_ok h (HZ.out k hk).1 (HZ.out k hk).2
    have HOA : Hid (∀ k, k < n → (ren g k).ok) := Lib.hid fun k hk => by
      obtain ⟨b, o, -, -, hc⟩ := HA.out (by omega)
      exact HOK.out k hk (hc k hk).1
    unfold PP at K7 K7r
    generalize errP g n = er at *
    generalize nOf g n = N at *
    generalize (fun k => (putK g n k).1) = f at *
    go_enter Tryd.func4, Tryd.ntmps4
    go_wp2_with fail
    refine (K7.out).mono ?_
    rintro _ w1 ⟨A1, c1, rfl, hu1, b1'⟩
    have HU1 := Lib.hid hu1
    have HB1 := Lib.hid b1'
    clear hu1 b1'
    go_wp2_with fail
    go_loopw [7, 8] (fun v i wr => R4 g w1 v i wr ∧ intOf i ≤ n) (fun _ i _ => n - (intOf i).toNat)
    case atStart => exact ⟨⟨0, rfl, World.ownsRow_nil _ _ _ _, Below.refl _ _⟩, by simp [intOf]⟩
    case round =>
      obtain ⟨⟨k, rfl, ho, hb⟩, hle⟩ := hrel
      have hk : k ≤ n := by simpa [intOf] using hle
      have HO := Lib.hid ho
      have HB := Lib.hid hb
      by_cases hlt : k < n
      · obtain ⟨b, o, rfl, hbl, hc⟩ := HA.out (by omega)
        obtain ⟨hok, q0, q1, q2, q3, q4, q5, q6⟩ := hc k hlt
        have z : ∀ j, wr.cell? ⟨b, j, none⟩ = w.cell? ⟨b, j, none⟩ := fun j => by
          rw [← HB1.out.cell (p := ⟨b, j, none⟩) hbl]
          exact hb.cell (p := ⟨b, j, none⟩) (Nat.lt_of_lt_of_le hbl HB1.out.size)
        rw [← z] at q0 q1 q2 q3 q4 q5 q6
        have HOKk := Lib.hid hok
        obtain ⟨hs1, hs2⟩ := HZ.out k hlt
        have HLT := Lib.hid hlt
        have HC : Hid (((List.range (k + 1)).flatMap fun k => lcells (ren g k)) = ((List.range k).flatMap fun k => lcells (ren g k)) ++ [.string (suf (g k).lab), .int .u8 ((g k).o : Int), .int .u8 ((g k).d : Int), .int .u8 ((g k).a : Int), .int .u8 ((g k).b : Int), .int .i32 (g k).m, .string (suf (g k).tt)]) := Lib.hid (by
          rw [List.range_succ, List.flatMap_append]
          simp [lcells, ren])
        have hzs := hb.size
        have hzs1 := HB1.out.size
        clear hc z hb ho hle hok
        obtain ⟨x, hx⟩ : ∃ x, g k = x := ⟨_, rfl⟩
        have HX := Lib.hid hx
        rw [hx] at q0 q1 q2 q3 q4 q5 q6 HC hs1 hs2
        clear hx
        by_cases he : x.lab = ⟨#[]⟩
        · have hb0 : (!x.lab.toList.isEmpty) = false := by rw [emp2, decide_eq_true he]; rfl
          by_cases he2 : x.tt = ⟨#[]⟩
          · have hb1 : (!x.tt.toList.isEmpty) = false := by rw [emp2, decide_eq_true he2]; rfl
            rw [suf_e he, suf_e he2] at HC
            clear he he2
            go_wp2_with (at_builtin; refine wpList_append_own _ rfl _ _ 24 rfl w1.heap.size 37 i0 (.agg #[.string ⟨#[]⟩, .int .u8 0, .int .u8 0, .int .u8 0, .int .u8 0, .int .i32 0, .string ⟨#[]⟩]) 7 40 Tryd.underlying24 HI.out HZ0.out HZ1.out HZ2.out rfl (by decide) _ _ _ rfl ((HO.out.alloc _).alloc _) ⟨wr.heap.size + 1, 0, none⟩ 1 1 [.string x.lab, .int .u8 (x.o : Int), .int .u8 (x.d : Int), .int .u8 (x.a : Int), .int .u8 (x.b : Int), .int .i32 x.m, .string x.tt] rfl rfl ?c1 (fun y hy => by simp at hy; rcases hy with rfl | rfl | rfl | rfl | rfl | rfl | rfl <;> rfl) (by unfold maxLen; omega) (by omega) (by simp; omega) ?_)
            case c1 => exact seven_cells (wr.alloc _) (wr.heap.size + 1) (by simp) [.string x.lab, .int .u8 (x.o : Int), .int .u8 (x.d : Int), .int .u8 (x.a : Int), .int .u8 (x.b : Int), .int .i32 x.m, .string x.tt] 37 rfl
            intro v' w5 hown5 hgrow5 hnil5
            go_wp2_with fail
            go_roundw
            case rel => exact ⟨⟨k + 1, by go_num, by rw [HC.out]; exact hown5, gr_below ((HB.out.alloc HB.out.size _).alloc (by simp; omega) _) ((HO.out.alloc _).alloc _) hgrow5 (by simp; omega)⟩, by have := HLT.out; simp [intOf]; omega⟩
            case measure => simp [intOf]; have := HLT.out; omega
          · have hb1 : (!x.tt.toList.isEmpty) = true := by rw [emp2, decide_eq_false he2]; rfl
            rw [suf_e he, suf_n he2] at HC
            clear he he2
            go_wp2_with (at_builtin; refine wpList_append_own _ rfl _ _ 24 rfl w1.heap.size 37 i0 (.agg #[.string ⟨#[]⟩, .int .u8 0, .int .u8 0, .int .u8 0, .int .u8 0, .int .i32 0, .string ⟨#[]⟩]) 7 40 Tryd.underlying24 HI.out HZ0.out HZ1.out HZ2.out rfl (by decide) _ _ _ rfl ((HO.out.alloc _).alloc _) ⟨wr.heap.size + 1, 0, none⟩ 1 1 [.string x.lab, .int .u8 (x.o : Int), .int .u8 (x.d : Int), .int .u8 (x.a : Int), .int .u8 (x.b : Int), .int .i32 x.m, .string (x.tt ++ ⟨#[120]⟩)] rfl rfl ?c1 (fun y hy => by simp at hy; rcases hy with rfl | rfl | rfl | rfl | rfl | rfl | rfl <;> rfl) (by unfold maxLen; omega) (by omega) (by simp; omega) ?_)
            case c1 => exact seven_cells (wr.alloc _) (wr.heap.size + 1) (by simp) [.string x.lab, .int .u8 (x.o : Int), .int .u8 (x.d : Int), .int .u8 (x.a : Int), .int .u8 (x.b : Int), .int .i32 x.m, .string (x.tt ++ ⟨#[120]⟩)] 37 rfl
            intro v' w5 hown5 hgrow5 hnil5
            go_wp2_with fail
            go_roundw
            case rel => exact ⟨⟨k + 1, by go_num, by rw [HC.out]; exact hown5, gr_below ((HB.out.alloc HB.out.size _).alloc (by simp; omega) _) ((HO.out.alloc _).alloc _) hgrow5 (by simp; omega)⟩, by have := HLT.out; simp [intOf]; omega⟩
            case measure => simp [intOf]; have := HLT.out; omega
        · have hb0 : (!x.lab.toList.isEmpty) = true := by rw [emp2, decide_eq_false he]; rfl
          by_cases he2 : x.tt = ⟨#[]⟩
          · have hb1 : (!x.tt.toList.isEmpty) = false := by rw [emp2, decide_eq_true he2]; rfl
            rw [suf_n he, suf_e he2] at HC
            clear he he2
            go_wp2_with (at_builtin; refine wpList_append_own _ rfl _ _ 24 rfl w1.heap.size 37 i0 (.agg #[.string ⟨#[]⟩, .int .u8 0, .int .u8 0, .int .u8 0, .int .u8 0, .int .i32 0, .string ⟨#[]⟩]) 7 40 Tryd.underlying24 HI.out HZ0.out HZ1.out HZ2.out rfl (by decide) _ _ _ rfl ((HO.out.alloc _).alloc _) ⟨wr.heap.size + 1, 0, none⟩ 1 1 [.string (x.lab ++ ⟨#[120]⟩), .int .u8 (x.o : Int), .int .u8 (x.d : Int), .int .u8 (x.a : Int), .int .u8 (x.b : Int), .int .i32 x.m, .string x.tt] rfl rfl ?c1 (fun y hy => by simp at hy; rcases hy with rfl | rfl | rfl | rfl | rfl | rfl | rfl <;> rfl) (by unfold maxLen; omega) (by omega) (by simp; omega) ?_)
            case c1 => exact seven_cells (wr.alloc _) (wr.heap.size + 1) (by simp) [.string (x.lab ++ ⟨#[120]⟩), .int .u8 (x.o : Int), .int .u8 (x.d : Int), .int .u8 (x.a : Int), .int .u8 (x.b : Int), .int .i32 x.m, .string x.tt] 37 rfl
            intro v' w5 hown5 hgrow5 hnil5
            go_wp2_with fail
            go_roundw
            case rel => exact ⟨⟨k + 1, by go_num, by rw [HC.out]; exact hown5, gr_below ((HB.out.alloc HB.out.size _).alloc (by simp; omega) _) ((HO.out.alloc _).alloc _) hgrow5 (by simp; omega)⟩, by have := HLT.out; simp [intOf]; omega⟩
            case measure => simp [intOf]; have := HLT.out; omega
          · have hb1 : (!x.tt.toList.isEmpty) = true := by rw [emp2, decide_eq_false he2]; rfl
            rw [suf_n he, suf_n he2] at HC
            clear he he2
            go_wp2_with (at_builtin; refine wpList_append_own _ rfl _ _ 24 rfl w1.heap.size 37 i0 (.agg #[.string ⟨#[]⟩, .int .u8 0, .int .u8 0, .int .u8 0, .int .u8 0, .int .i32 0, .string ⟨#[]⟩]) 7 40 Tryd.underlying24 HI.out HZ0.out HZ1.out HZ2.out rfl (by decide) _ _ _ rfl ((HO.out.alloc _).alloc _) ⟨wr.heap.size + 1, 0, none⟩ 1 1 [.string (x.lab ++ ⟨#[120]⟩), .int .u8 (x.o : Int), .int .u8 (x.d : Int), .int .u8 (x.a : Int), .int .u8 (x.b : Int), .int .i32 x.m, .string (x.tt ++ ⟨#[120]⟩)] rfl rfl ?c1 (fun y hy => by simp at hy; rcases hy with rfl | rfl | rfl | rfl | rfl | rfl | rfl <;> rfl) (by unfold maxLen; omega) (by omega) (by simp; omega) ?_)
            case c1 => exact seven_cells (wr.alloc _) (wr.heap.size + 1) (by simp) [.string (x.lab ++ ⟨#[120]⟩), .int .u8 (x.o : Int), .int .u8 (x.d : Int), .int .u8 (x.a : Int), .int .u8 (x.b : Int), .int .i32 x.m, .string (x.tt ++ ⟨#[120]⟩)] 37 rfl
            intro v' w5 hown5 hgrow5 hnil5
            go_wp2_with fail
            go_roundw
            case rel => exact ⟨⟨k + 1, by go_num, by rw [HC.out]; exact hown5, gr_below ((HB.out.alloc HB.out.size _).alloc (by simp; omega) _) ((HO.out.alloc _).alloc _) hgrow5 (by simp; omega)⟩, by have := HLT.out; simp [intOf]; omega⟩
            case measure => simp [intOf]; have := HLT.out; omega
      · have hkn : k = n := by omega
        subst hkn
        obtain ⟨A2, c2, rfl, hls⟩ := own_ls HO.out HOA.out
        have HLS := Lib.hid hls
        clear hls ho hb hle
        have hee : ((er : Int) == (er : Int)) = true := by simp
        go_wp2_with fail
        refine (K7r.out _ _ _ _ HLS.out (HG2.out.below (HB1.out.trans (HB.out.mono HB1.out.size)))).mono ?_
        rintro _ w3 ⟨A3, c3, rfl, hu3, b3'⟩
        have HB2 : Hid (Below w1.heap.size w1 w3) := Lib.hid (HB.out.trans (b3'.mono HB.out.size))
        have HB3 : Hid (Below w.heap.size w w3) := Lib.hid (HB1.out.trans (HB2.out.mono HB1.out.size))
        have K8 := Lib.hid (c8 A1 A3 N c1 c3 f f w3 (by omega) (HU1.out.below HB2.out) hu3 (fun _ _ => rfl))
        clear hu3 b3'
        go_wp2_with fail
        refine (K8.out).mono ?_
        rintro _ w4 ⟨rfl, q, rfl⟩
        have HB4 := Lib.hid (below_drewN HB3.out q)
        go_wp2_with fail
        refine (works _ (HG2.out.below HB4.out)).mono ?_
        rintro _ w5 ⟨rfl, b5⟩
        have HB5 := Lib.hid (HB4.out.trans (b5.mono HB4.out.size))
        clear b5
        go_wp2_with fail
        go_ret
        exact ⟨rfl, HB5.out⟩
end Go.Proofs.YtodpeiamophjjaaDoor
