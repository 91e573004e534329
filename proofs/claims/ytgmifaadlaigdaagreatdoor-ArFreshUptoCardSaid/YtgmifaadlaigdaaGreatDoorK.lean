import Derived.Test.YtgmifaadlaigdaaGreatDoorJ
import Derived.OwnWalk
import Derived.WalkSmall
import Derived.Laws.AppendOwn
import Derived.Deep.Draws
namespace Go.Proofs.YtgmifaadlaigdaaGreatDoor
open Go.ChangeShapes Go.WideShapes Go.ChangeAt Go.RowKit
set_option linter.unusedVariables false
/-- where the archive ends behind so many members -/
def endN (g : Nat → Mem) (e0 : Nat) : Nat → Nat
  | 0 => e0
  | k + 1 => evn (endN g e0 k) + 60 + (g k).n
theorem endN_mono (g : Nat → Mem) (e0 m : Nat) : ∀ d, endN g e0 m ≤ endN g e0 (m + d)
  | 0 => Nat.le_refl _
  | d + 1 => by
    have := endN_mono g e0 m d
    rw [← Nat.add_assoc, endN]
    unfold evn
    omega
theorem endN_le (g : Nat → Mem) (e0 : Nat) {m n : Nat} (h : m ≤ n) : endN g e0 m ≤ endN g e0 n := by
  obtain ⟨d, rfl⟩ := Nat.exists_eq_add_of_le h
  exact endN_mono g e0 m d
theorem endN_n (g : Nat → Mem) (e0 : Nat) : ∀ n, n ≤ endN g e0 n
  | 0 => Nat.zero_le _
  | n + 1 => by have := endN_n g e0 n; rw [endN]; unfold evn; omega
/-- where the members begin -/
def begN (x : Nat → Ix) (m : Nat) : Nat := if m = 0 then 8 else 68 + ixS x m
theorem one_cell (w : World) (x : Value) (t : TypeId) : ∀ (j : Nat) (u : Value), [x][j]? = some u → (w.alloc (.cells #[x] t)).cell? ((⟨w.heap.size, 0, none⟩ : Addr).add j) = some u := by
  intro j u h
  cases j with
  | zero =>
    simp at h
    subst h
    exact World.cell?_alloc_at _ _ _ _ (by simp)
  | succ j => simp at h
theorem grown_below {w w' : World} (hb : Below w.heap.size w w') : w.grownBy w' none := ⟨hb.os, hb.tape, hb.output, hb.size, fun k hk _ => hb.block k hk⟩
theorem own_below {w w' : World} {B e size n : Nat} {v : Value} {xs : List Value} (h : w.ownsRow B e size v n xs) (hb : Below w.heap.size w w') : w'.ownsRow B e size v n xs :=
  h.kept (grown_below hb) (by cases v.ownBlock <;> simp)
theorem quiet_eq {P : Program} {f : FuncId} {args : Array Value} {w : World} {n : Nat} {v : Value}
    (h : Calls P f args (w.drewN n) fun e w' => e = .returned v ∧ w.drewN n = w') : Calls P f args (w.drewN n) fun e w'' => e = .returned v ∧ ∃ m, w'' = w.drewN m :=
  h.mono fun _ _ ⟨he, hm⟩ => ⟨he, n, hm.symm⟩
theorem one_cellN (w : World) (N : Nat) (hN : w.heap.size = N) (x : Value) (t : TypeId) : ∀ (j : Nat) (u : Value), [x][j]? = some u → (w.alloc (.cells #[x] t)).cell? ((⟨N, 0, none⟩ : Addr).add j) = some u := by subst hN; exact one_cell w x t
theorem gr_below {B : Nat} {a w w' : World} {v : Value} {e size n : Nat} {xs : List Value} (h : Below B a w) (ho : w.ownsRow B e size v n xs) (hg : w.grownBy w' v.ownBlock) (hB : B ≤ w.heap.size) : Below B a w' :=
  h.grown hg hB (fun k hk => (ho.lt k hk).1)
def R21 (w : World) (g : Nat → Mem) (e0 n : Nat) (v e i : Value) (wr : World) : Prop := ∃ k : Nat, k ≤ n ∧ i = .int .i64 (k : Int) ∧ e = .int .i64 (endN g e0 k : Int) ∧ wr.ownsRow w.heap.size 3 1 v k ((List.range k).map fun j => Value.int .i64 (evn (endN g e0 j) : Int)) ∧ Below w.heap.size w wr
set_option maxRecDepth 100000 in
set_option maxHeartbeats 8000000 in
theorem c21 (A B : Option Addr) (n c m d : Nat) (g : Nat → Mem) (x : Nat → Ix) (w : World) (hA : Ms w A n g) (hB : Is w B m x) (hx : lgN x m ≤ 16777216) (hb : endN g (begN x m) n ≤ 1099511627776) :
    Calls Tryz.prog 21 #[.slice A n c, .slice B m d] w fun e w' => ∃ V, e = .returned (.tuple #[V, .int .i64 (endN g (begN x m) n : Int)]) ∧ w'.ownsRow w.heap.size 3 1 V n ((List.range n).map fun j => Value.int .i64 (evn (endN g (begN x m) j) : Int)) ∧ Below w.heap.size w w' := by
  obtain ⟨i0, hi, hz⟩ : ∃ i, Tryz.prog.info? 3 = some i ∧ (i.zero, i.size, i.bytes) = (some (.int .i64 0), 1, 8) := by
    have h : (Tryz.prog.info? 3).map (fun i => (i.zero, i.size, i.bytes)) = some (some (.int .i64 0), 1, 8) := by kernel_rfl
    cases hq : Tryz.prog.info? 3 with
    | none => rw [hq] at h; cases h
    | some i => rw [hq] at h; exact ⟨i, rfl, by simpa using h⟩
  simp only [Prod.mk.injEq] at hz
  obtain ⟨hz0, hz1, hz2⟩ := hz
  have HI := Lib.hid hi
  have HZ0 := Lib.hid hz0
  have HZ1 := Lib.hid hz1
  have HZ2 := Lib.hid hz2
  have HA := Lib.hid hA
  have K40 := Lib.hid (c40 B m d x w hB hx)
  have hxs : ixS x m ≤ 83886084 := by unfold ixS; have := lgN_n x m; omega
  have HLE := Lib.hid (fun k (h : k ≤ n) => endN_le g (begN x m) h)
  have hnn := endN_n g (begN x m) n
  clear hi hz0 hz1 hz2 hA hB hx
  by_cases hm : 0 < m
  · have hbg : begN x m = 68 + ixS x m := by unfold begN; rw [if_neg (by omega)]
    have HBG := Lib.hid hbg
    generalize begN x m = e0 at *
    generalize ixS x m = is at *
    clear hbg
    go_enter Tryz.func21, Tryz.ntmps21
    go_wp2_with fail
    refine (K40.out).mono ?_
    rintro _ w1 ⟨rfl, START⟩
    go_wp2_with fail
    go_loopw [4, 5, 18] (fun v e i wr => R21 w g e0 n v e i wr) (fun _ _ i _ => n - (intOf i).toNat)
    case atStart => exact ⟨0, Nat.zero_le _, rfl, by show _ = Value.int .i64 (e0 : Int); rw [HBG.out]; first | rfl | go_num, World.ownsRow_nil _ _ _ _, START⟩
    case round =>
      obtain ⟨k, hk, rfl, rfl, ho, hb1⟩ := hrel
      have HO := Lib.hid ho
      have HB := Lib.hid hb1
      have hlk := HLE.out k hk
      by_cases hlt : k < n
      · obtain ⟨b, o, rfl, hbl, hc⟩ := HA.out (by omega)
        obtain ⟨q0, q1, -, hg1, -, -⟩ := hc k hlt
        have z : ∀ j, wr.cell? ⟨b, j, none⟩ = w.cell? ⟨b, j, none⟩ := fun j => hb1.cell (p := ⟨b, j, none⟩) hbl
        rw [← z] at q0 q1
        have HLT := Lib.hid hlt
        have hlk2 := HLE.out (k + 1) hlt
        have HS : Hid (endN g e0 (k + 1) = evn (endN g e0 k) + 60 + (g k).n) := Lib.hid rfl
        rw [endN] at hlk2
        have K41 := Lib.hid (c41 (endN g e0 k) (by omega))
        have HC : Hid (((List.range (k + 1)).map fun j => Value.int .i64 (evn (endN g e0 j) : Int)) = ((List.range k).map fun j => Value.int .i64 (evn (endN g e0 j) : Int)) ++ [.int .i64 (evn (endN g e0 k) : Int)]) := Lib.hid (by rw [List.range_succ, List.map_append]; rfl)
        have hzs := hb1.size
        have hev : endN g e0 k ≤ evn (endN g e0 k) := by unfold evn; omega
        clear hc z hb1 hk ho
        generalize evn (endN g e0 k) = ev at *
        generalize endN g e0 k = L at *
        generalize endN g e0 n = Ln at *
        generalize (g k).nm = s at *
        generalize (g k).n = gn at *
        generalize (g k).A = gA at *
        generalize (g k).c = gc at *
        go_wp2_with (first | (go_at_call 41; (with_reducible refine (K41.out _).mono ?_); rintro _ _ ⟨rfl, rfl⟩) | (at_builtin; refine wpList_append_own _ rfl _ _ 40 rfl w.heap.size 3 i0 (.int .i64 0) 1 8 Tryz.underlying40 HI.out HZ0.out HZ1.out HZ2.out rfl (by decide) _ _ _ rfl ((HO.out.alloc _).alloc _) ⟨wr.heap.size + 1, 0, none⟩ 1 1 [.int .i64 (ev : Int)] rfl rfl ?c1 (fun x hx => by simp at hx; subst hx; rfl) (by unfold maxLen; omega) (by omega) (by simp; omega) ?_))
        case c1 => exact one_cellN (wr.alloc _) (wr.heap.size + 1) (by simp) _ _
        intro v' w5 hown5 hgrow5 hnil5
        have hM : w5.cell? ⟨wr.heap.size, 1, none⟩ = some (.slice gA gn gc) := by
          have h1 := World.cell?_of_block (a := ⟨wr.heap.size, 1, none⟩) (hgrow5.block wr.heap.size (by simp; omega) (fun e => by have := (HO.out.lt _ e.symm).2; omega))
          rw [h1]
          have h2 := ((Below.refl (wr.alloc (Obj.cells #[Value.string s, Value.slice gA gn gc] 39)).heap.size (wr.alloc (Obj.cells #[Value.string s, Value.slice gA gn gc] 39))).alloc (Nat.le_refl _) (Obj.cells #[Value.int .i64 (ev : Int)] 3)).cell (p := ⟨wr.heap.size, 1, none⟩) (by simp)
          rw [h2]
          exact World.cell?_alloc_at _ _ _ _ (by simp)
        go_wp2_with fail
        go_quiet (refine quiet_eq (K41.out _))
        go_wp2
        go_roundw
        case rel => exact ⟨k + 1, HLT.out, by go_num, by rw [HS.out]; go_num, by rw [HC.out]; exact own_below hown5 (by first | exact below_drewN (Below.refl _ _) _ | exact (Below.refl _ _).drew), by first | exact below_drewN (gr_below ((HB.out.alloc HB.out.size _).alloc (by simp; omega) _) ((HO.out.alloc _).alloc _) hgrow5 (by simp; omega)) _ | exact (gr_below ((HB.out.alloc HB.out.size _).alloc (by simp; omega) _) ((HO.out.alloc _).alloc _) hgrow5 (by simp; omega)).drew⟩
        case measure => simp [intOf]; have := HLT.out; omega
      · obtain rfl : k = n := by omega
        clear hb1 ho hk
        go_wp2_with fail
        go_ret2
        exact ⟨_, rfl, HO.out, HB.out⟩
  · have HBG : Hid (begN x m = 8) := Lib.hid (by unfold begN; rw [if_pos (by omega)])
    have START : Below w.heap.size w w := Below.refl _ _
    generalize begN x m = e0 at *
    generalize ixS x m = is at *
    go_enter Tryz.func21, Tryz.ntmps21
    go_wp2_with fail
    go_loopw [4, 5, 18] (fun v e i wr => R21 w g e0 n v e i wr) (fun _ _ i _ => n - (intOf i).toNat)
    case atStart => exact ⟨0, Nat.zero_le _, rfl, by show _ = Value.int .i64 (e0 : Int); rw [HBG.out]; first | rfl | go_num, World.ownsRow_nil _ _ _ _, START⟩
    case round =>
      obtain ⟨k, hk, rfl, rfl, ho, hb1⟩ := hrel
      have HO := Lib.hid ho
      have HB := Lib.hid hb1
      have hlk := HLE.out k hk
      by_cases hlt : k < n
      · obtain ⟨b, o, rfl, hbl, hc⟩ := HA.out (by omega)
        obtain ⟨q0, q1, -, hg1, -, -⟩ := hc k hlt
        have z : ∀ j, wr.cell? ⟨b, j, none⟩ = w.cell? ⟨b, j, none⟩ := fun j => hb1.cell (p := ⟨b, j, none⟩) hbl
        rw [← z] at q0 q1
        have HLT := Lib.hid hlt
        have hlk2 := HLE.out (k + 1) hlt
        have HS : Hid (endN g e0 (k + 1) = evn (endN g e0 k) + 60 + (g k).n) := Lib.hid rfl
        rw [endN] at hlk2
        have K41 := Lib.hid (c41 (endN g e0 k) (by omega))
        have HC : Hid (((List.range (k + 1)).map fun j => Value.int .i64 (evn (endN g e0 j) : Int)) = ((List.range k).map fun j => Value.int .i64 (evn (endN g e0 j) : Int)) ++ [.int .i64 (evn (endN g e0 k) : Int)]) := Lib.hid (by rw [List.range_succ, List.map_append]; rfl)
        have hzs := hb1.size
        have hev : endN g e0 k ≤ evn (endN g e0 k) := by unfold evn; omega
        clear hc z hb1 hk ho
        generalize evn (endN g e0 k) = ev at *
        generalize endN g e0 k = L at *
        generalize endN g e0 n = Ln at *
        generalize (g k).nm = s at *
        generalize (g k).n = gn at *
        generalize (g k).A = gA at *
        generalize (g k).c = gc at *
        go_wp2_with (first | (go_at_call 41; (with_reducible refine (K41.out _).mono ?_); rintro _ _ ⟨rfl, rfl⟩) | (at_builtin; refine wpList_append_own _ rfl _ _ 40 rfl w.heap.size 3 i0 (.int .i64 0) 1 8 Tryz.underlying40 HI.out HZ0.out HZ1.out HZ2.out rfl (by decide) _ _ _ rfl ((HO.out.alloc _).alloc _) ⟨wr.heap.size + 1, 0, none⟩ 1 1 [.int .i64 (ev : Int)] rfl rfl ?c1 (fun x hx => by simp at hx; subst hx; rfl) (by unfold maxLen; omega) (by omega) (by simp; omega) ?_))
        case c1 => exact one_cellN (wr.alloc _) (wr.heap.size + 1) (by simp) _ _
        intro v' w5 hown5 hgrow5 hnil5
        have hM : w5.cell? ⟨wr.heap.size, 1, none⟩ = some (.slice gA gn gc) := by
          have h1 := World.cell?_of_block (a := ⟨wr.heap.size, 1, none⟩) (hgrow5.block wr.heap.size (by simp; omega) (fun e => by have := (HO.out.lt _ e.symm).2; omega))
          rw [h1]
          have h2 := ((Below.refl (wr.alloc (Obj.cells #[Value.string s, Value.slice gA gn gc] 39)).heap.size (wr.alloc (Obj.cells #[Value.string s, Value.slice gA gn gc] 39))).alloc (Nat.le_refl _) (Obj.cells #[Value.int .i64 (ev : Int)] 3)).cell (p := ⟨wr.heap.size, 1, none⟩) (by simp)
          rw [h2]
          exact World.cell?_alloc_at _ _ _ _ (by simp)
        go_wp2_with fail
        go_quiet (refine quiet_eq (K41.out _))
        go_wp2
        go_roundw
        case rel => exact ⟨k + 1, HLT.out, by go_num, by rw [HS.out]; go_num, by rw [HC.out]; exact own_below hown5 (by first | exact below_drewN (Below.refl _ _) _ | exact (Below.refl _ _).drew), by first | exact below_drewN (gr_below ((HB.out.alloc HB.out.size _).alloc (by simp; omega) _) ((HO.out.alloc _).alloc _) hgrow5 (by simp; omega)) _ | exact (gr_below ((HB.out.alloc HB.out.size _).alloc (by simp; omega) _) ((HO.out.alloc _).alloc _) hgrow5 (by simp; omega)).drew⟩
        case measure => simp [intOf]; have := HLT.out; omega
      · obtain rfl : k = n := by omega
        clear hb1 ho hk
        go_wp2_with fail
        go_ret2
        exact ⟨_, rfl, HO.out, HB.out⟩
end Go.Proofs.YtgmifaadlaigdaaGreatDoor
