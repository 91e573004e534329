import Derived.Test.YtodpeiamophjjaaDoorB
import Derived.Test.YtodpeiamophjjaaDoorA
namespace Go.Proofs.YtodpeiamophjjaaDoor
open Go.ChangeShapes Go.WideShapes Go.ChangeAt Go.RowKit
open In (i32)
set_option linter.unusedVariables false
/-- what Put reads of the package's variables -/
def Gl2 (w : World) : Prop := (∃ t f, w.heap[0]? = some (.cells In.FA t f)) ∧ (∃ t f, w.heap[1]? = some (.cells In.WA t f)) ∧ 3 ≤ w.heap.size
theorem Gl2.below {w w' : World} (h : Gl2 w) (hb : Below w.heap.size w w') : Gl2 w' := by
  obtain ⟨⟨a, b, c⟩, ⟨a1, b1, c1⟩, h3⟩ := h
  exact ⟨⟨a, b, by rw [hb.block 0 (by omega)]; exact c⟩, ⟨a1, b1, by rw [hb.block 1 (by omega)]; exact c1⟩, Nat.le_trans h3 hb.size⟩
theorem Gl2.f {w : World} (h : Gl2 w) (q : Nat) (hq : q < 68) : w.cell? ⟨0, q, none⟩ = some (.int .u8 (In.FL q : Int)) := by
  obtain ⟨⟨t, f, e⟩, _⟩ := h
  simp only [World.cell?, e]
  exact In.FA_at q hq
theorem Gl2.w {w : World} (h : Gl2 w) (q : Nat) (hq : q < 68) : w.cell? ⟨1, q, none⟩ = some (.int .u32 (In.WL q : Int)) := by
  obtain ⟨_, ⟨t, f, e⟩, _⟩ := h
  simp only [World.cell?, e]
  exact In.WA_at q hq
open In in
set_option maxHeartbeats 1000000 in
theorem c16 (o d a b : Nat) (n : Int) (ho : o < 256) (hd : d < 256) (ha : a < 256) (hb : b < 256) (hn : i32 n) (w : World) (hg : Gl2 w) :
    Calls Tryd.prog 16 #[.agg #[.int .u8 (o : Int), .int .u8 (d : Int), .int .u8 (a : Int), .int .u8 (b : Int), .int .i32 n]] w fun en w' => en = .returned (.tuple #[.int .u32 ((In.put o d a b n).1 : Int), .int .i64 ((In.put o d a b n).2 : Int)]) ∧ Below w.heap.size w w' := by
  show Calls Tryd.prog 16 #[In.insV o d a b n] w fun en w' => en = .returned (In.weV (In.put o d a b n)) ∧ Below w.heap.size w w'
  rcases Nat.eq_zero_or_pos o with rfl | h0
  · have e : In.put 0 d a b n = (0, 2) := rfl
    rw [e]
    unfold In.insV In.weV
    go_enter Tryd.func16, Tryd.ntmps16
    go_wp2_with fail
    go_ret2
    exact ⟨rfl, (Below.refl _ _).alloc (Nat.le_refl _) _⟩
  by_cases h68 : 68 < o
  · have e : In.put o d a b n = (0, 2) := by unfold In.put; rw [if_pos (Or.inr h68)]
    rw [e]
    unfold In.insV In.weV
    have t1 : ((o : Int) == 0) = false := by simp; omega
    have t2 : decide ((68 : Int) < (o : Int)) = true := by simp; omega
    go_enter Tryd.func16, Tryd.ntmps16
    go_wp2_with fail
    go_ret2
    exact ⟨rfl, (Below.refl _ _).alloc (Nat.le_refl _) _⟩
  obtain ⟨q, rfl⟩ : ∃ q, o = q + 1 := ⟨o - 1, by omega⟩
  rw [In.weV_put q d a b n (by omega)]
  have hfr := (In.FL_free ⟨q, by omega⟩).1
  have hle := (In.FL_free ⟨q, by omega⟩).2
  have c0 := hg.f q (by omega)
  have c1 := hg.w q (by omega)
  have hs := hg.2.2
  simp only at hfr hle
  unfold In.insV
  rw [Int.natCast_add]
  generalize In.FL q = f at *
  generalize In.WL q = W at *
  have hf : f = 0 ∨ f = 1 ∨ f = 2 ∨ f = 3 ∨ f = 4 ∨ f = 5 ∨ f = 6 ∨ f = 7 ∨ f = 8 ∨ f = 9 ∨ f = 10 := by omega
  rcases hf with rfl | rfl | rfl | rfl | rfl | rfl | rfl | rfl | rfl | rfl | rfl
  · exact In.putOp0 q W d a b n (by omega) hd ha hb hn hfr w hs c0 c1
  · exact In.putOp1 q W d a b n (by omega) hd ha hb hn hfr w hs c0 c1
  · exact In.putOp2 q W d a b n (by omega) hd ha hb hn hfr w hs c0 c1
  · exact In.putOp3 q W d a b n (by omega) hd ha hb hn hfr w hs c0 c1
  · exact In.putOp4 q W d a b n (by omega) hd ha hb hn hfr w hs c0 c1
  · exact In.putOp5 q W d a b n (by omega) hd ha hb hn hfr w hs c0 c1
  · exact In.putOp6 q W d a b n (by omega) hd ha hb hn hfr w hs c0 c1
  · exact In.putOp7 q W d a b n (by omega) hd ha hb hn hfr w hs c0 c1
  · exact In.putOp8 q W d a b n (by omega) hd ha hb hn hfr w hs c0 c1
  · exact In.putOp9 q W d a b n (by omega) hd ha hb hn hfr w hs c0 c1
  · exact In.putOp10 q W d a b n (by omega) hd ha hb hn hfr w hs c0 c1
/-- can it lead to another line? -/
def leadsB (o : Nat) : Bool := decide (5 ≤ o ∧ o ≤ 10 ∨ o = 3)
theorem c35 (o : Nat) (ho : o < 256) (w : World) : Calls Tryd.prog 35 #[.int .u8 (o : Int)] w fun e w' => e = .returned (.bool (leadsB o)) ∧ w = w' := by
  have hq : leadsB o = ((decide ((5 : Int) ≤ (o : Int)) && decide ((o : Int) ≤ 10)) || ((o : Int) == 3)) := by
    unfold leadsB
    rw [Bool.eq_iff_iff]
    simp
    omega
  rw [hq]
  obtain ⟨b1, e1⟩ : ∃ b, decide ((5 : Int) ≤ (o : Int)) = b := ⟨_, rfl⟩
  obtain ⟨b2, e2⟩ : ∃ b, decide ((o : Int) ≤ 10) = b := ⟨_, rfl⟩
  obtain ⟨b3, e3⟩ : ∃ b, ((o : Int) == 3) = b := ⟨_, rfl⟩
  rw [e1, e2, e3]
  clear hq
  cases b1 <;> cases b2
  all_goals
    go_enter Tryd.func35, Tryd.ntmps35
    go_wp2
    go_ret
    exact ⟨rfl, rfl⟩
/-- is a line led to that is not there? -/
def MissAt (g : Nat → Ln) (n k : Nat) : Prop := (g k).tt ≠ ⟨#[]⟩ ∧ ∀ j, j < n → (g j).lab ≠ (g k).tt
def Miss (g : Nat → Ln) (n : Nat) : Prop := ∃ k, k < n ∧ MissAt g n k
def NamPost (g : Nat → Ln) (n : Nat) (w : World) (e : Ending) (w' : World) : Prop :=
  (∃ k : Nat, Miss g n ∧ e = .returned (.iface 76 (.agg #[.int .i64 (k : Int), .iface 25 (.int .i64 6)])) ∧ Below w.heap.size w w') ∨ (¬ Miss g n ∧ e = .returned .nilIface ∧ Below w.heap.size w w')
def R18 (w : World) (g : Nat → Ln) (n : Nat) (i : Value) (wr : World) : Prop := ∃ k : Nat, k ≤ n ∧ i = .int .i64 (k : Int) ∧ Below w.heap.size w wr ∧ ∀ j, j < k → ¬ MissAt g n j
set_option maxRecDepth 100000 in
set_option maxHeartbeats 8000000 in
theorem c18 (A : Option Addr) (n c : Nat) (g : Nat → Ln) (B : Nat) (w : World) (hA : Ls w A n g) (hM : Mp w B g n) (hn : n ≤ 1073741824) : Calls Tryd.prog 18 #[.slice A n c, .map (some B)] w fun e w' => NamPost g n w e w' := by
  have HA := Lib.hid hA
  have HM := Lib.hid hM
  clear hA hM
  go_enter Tryd.func18, Tryd.ntmps18
  go_wp2_with fail
  go_loopw [11] (fun i wr => R18 w g n i wr) (fun i _ => n - (intOf i).toNat)
  case atStart => exact ⟨0, by omega, rfl, Below.refl _ _, fun j hj => absurd hj (by omega)⟩
  case round =>
    obtain ⟨k, hk, rfl, hb, hin⟩ := hrel
    have HB := Lib.hid hb
    have HIN := Lib.hid hin
    by_cases hlt : k < n
    · obtain ⟨D, hown, h2, h3, h4⟩ := HM.out.below hb
      have HO := Lib.hid (hown.kept (World.grownBy_alloc wr (.cells #[.string (g k).lab, .int .u8 ((g k).o : Int), .int .u8 ((g k).d : Int), .int .u8 ((g k).a : Int), .int .u8 ((g k).b : Int), .int .i32 (g k).m, .string (g k).tt] 37) none) (by simp))
      obtain ⟨b, o, rfl, hbl, hc⟩ := HA.out (by omega)
      obtain ⟨hok, q0, q1, q2, q3, q4, q5, q6⟩ := hc k hlt
      have z : ∀ j, wr.cell? ⟨b, j, none⟩ = w.cell? ⟨b, j, none⟩ := fun j => hb.cell (p := ⟨b, j, none⟩) hbl
      rw [← z] at q0 q1 q2 q3 q4 q5 q6
      obtain ⟨-, -, -, -, -, -, hsl⟩ := hok
      have HK9 := Lib.hid (key9 _ hsl)
      have HLT := Lib.hid hlt
      have hzs := hb.size
      obtain ⟨q, hq⟩ : ∃ q, Maps.has D (.string (g k).tt.data.toList) = q := ⟨_, rfl⟩
      have HQ := Lib.hid hq
      have hhit : Hid (q = true → ¬ MissAt g n k) := Lib.hid fun e hm => by
        rw [e] at hq
        obtain ⟨j, hj, e1, e2⟩ := (h3 _).mp hq
        exact hm.2 j hj e1
      have hmiss : Hid (q = false → (g k).tt ≠ ⟨#[]⟩ → MissAt g n k) := Lib.hid fun e hne => ⟨hne, fun j hj e1 => by
        have := (h3 _).mpr ⟨j, hj, e1, hne⟩
        rw [hq, e] at this
        cases this⟩
      have hstep : Hid (¬ MissAt g n k → ∀ j, j < k + 1 → ¬ MissAt g n j) := Lib.hid fun hm j hj => by
        by_cases e : j = k
        · rw [e]; exact hm
        · exact HIN.out j (by omega)
      have hnil : Hid ((g k).tt = ⟨#[]⟩ → ¬ MissAt g n k) := Lib.hid fun e hm => hm.1 e
      have hMs : Hid (MissAt g n k → Miss g n) := Lib.hid fun h => ⟨k, hlt, h⟩
      clear hown h2 h3 h4 hc z hb hk hin
      obtain ⟨x, hx⟩ : ∃ x, g k = x := ⟨_, rfl⟩
      rw [hx] at q0 q1 q2 q3 q4 q5 q6 HK9 HO hsl hq hmiss hnil
      clear hx
      by_cases he : x.tt = ⟨#[]⟩
      · have hb0 : (x.tt.toList == []) = true := by rw [emp, decide_eq_true he]
        have HS := Lib.hid (hstep.out (hnil.out he))
        clear he
        go_wp2_with (at_lookup; refine wpList_lookup_own_ok_int _ rfl _ _ 59 rfl 9 3 .i64 law9 Tryd.underlying59 Tryd.underlying3 (zero3 _) B n D rfl HO.out _ _ rfl HK9.out ?_; intro c' hat hwc)
        go_roundw
        case rel => exact ⟨k + 1, HLT.out, by go_num, HB.out.alloc HB.out.size _, HS.out⟩
        case measure => simp [intOf]; have := HLT.out; omega
      · have hb0 : (x.tt.toList == []) = false := by rw [emp, decide_eq_false he]
        have HE := Lib.hid he
        clear he
        cases q
        · have HW := Lib.hid (hMs.out (hmiss.out rfl HE.out))
          go_wp2_with (at_lookup; refine wpList_lookup_own_ok_int _ rfl _ _ 59 rfl 9 3 .i64 law9 Tryd.underlying59 Tryd.underlying3 (zero3 _) B n D rfl HO.out _ _ rfl HK9.out ?_; intro c' hat hwc)
          go_ret
          exact Or.inl ⟨k, HW.out, rfl, HB.out.alloc HB.out.size _⟩
        · have HS := Lib.hid (hstep.out (hhit.out rfl))
          go_wp2_with (at_lookup; refine wpList_lookup_own_ok_int _ rfl _ _ 59 rfl 9 3 .i64 law9 Tryd.underlying59 Tryd.underlying3 (zero3 _) B n D rfl HO.out _ _ rfl HK9.out ?_; intro c' hat hwc)
          go_roundw
          case rel => exact ⟨k + 1, HLT.out, by go_num, HB.out.alloc HB.out.size _, HS.out⟩
          case measure => simp [intOf]; have := HLT.out; omega
    · have hkn : k = n := by omega
      subst hkn
      have HW : Hid (¬ Miss g k) := Lib.hid fun ⟨j, hj, h⟩ => hin j hj h
      clear hb hin
      go_wp2_with fail
      go_ret
      exact Or.inr ⟨HW.out, rfl, HB.out⟩
end Go.Proofs.YtodpeiamophjjaaDoor
