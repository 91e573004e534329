import Derived.Test.YtblfnjdbihhglaaGreatDoorTz
import Derived.StillTailTactics
import Derived.Deep.RegionHeld3
namespace Go.Proofs.YtblfnjdbihhglaaGreatDoor
open Go.ChangeShapes Go.WideShapes Go.ChangeAt Go.RowKit Go.MapKept
open Li (Ss)
set_option linter.unusedVariables false
set_option linter.unusedSimpArgs false
/-- what a line does -/
def MPost (w : World) (B r m : Nat) (V U : Value) (o : Nat × List ByteArray × List Ed) (e : Ending) (w' : World) : Prop :=
  ∃ V' U', e = .returned (.int .i64 (o.1 : Int)) ∧ Rd w' B r m V' U' o.2.1 o.2.2 ∧ Fr r m V U w w'
noncomputable def compM (cs : List ByteArray) (es : List Ed) (s : ByteArray) : Nat × List ByteArray × List Ed :=
  if (nameB s && decide (es.length = 0)) = false then (5, cs, es) else match nmAt cs s with
    | some _ => (7, cs, es)
    | none => (0, cs ++ [s], es)
theorem m_err {w w' : World} {B r m : Nat} {V U : Value} {cs : List ByteArray} {es : List Ed} {o : Nat × List ByteArray × List Ed} (h : Rd w B r m V U cs es) (c : Nat) (ho : o = (c, cs, es)) (q : Int) (hq : q = (c : Int)) (hb : Below w.heap.size w w') :
    MPost w B r m V U o (.returned (.int .i64 q)) w' := by
  subst ho
  exact ⟨V, U, by rw [hq], h.below hb, Fr.of_below hb⟩
theorem info9 : ∃ i, Tryz.prog.info? 9 = some i ∧ i.zero = some (.string ⟨#[]⟩) ∧ i.size = 1 ∧ i.bytes = 16 := by
  have h : (Tryz.prog.info? 9).map (fun i => (i.zero, i.size, i.bytes)) = some (some (.string ⟨#[]⟩), 1, 16) := by kernel_rfl
  cases hq : Tryz.prog.info? 9 with
  | none => rw [hq] at h; cases h
  | some i =>
    rw [hq] at h
    simp only [Option.map_some, Option.some.injEq, Prod.mk.injEq] at h
    exact ⟨i, rfl, h.1, h.2.1, h.2.2⟩
theorem nm_ne {w : World} {m b j : Nat} {cs : List ByteArray} {v : Value} (h : Nm w m cs) (hc : w.cell? ⟨b, j, none⟩ = some v) : b ≠ m := fun e => by
  subst e
  unfold Nm at h
  simp [World.cell?, h] at hc
theorem one_at (w : World) (N : Nat) (hN : w.heap.size = N) (y : Value) (t : TypeId) : ∀ (j : Nat) (u : Value), [y][j]? = some u → (w.alloc (.cells #[y] t)).cell? ((⟨N, 0, none⟩ : Addr).add j) = some u := by
  subst hN
  exact World.news_of_block (heap_alloc_new w _)
theorem grow_r0 {W W' : World} {B r m : Nat} {V U c2 : Value} {cs : List ByteArray} {es : List Ed} (h0 : W.heap[r]? = some (.cells #[V, U, c2] 50 (0, 0))) (hV : V.ownBlock ≠ some r) (hg : W.grownBy W' V.ownBlock) : W'.cell? ⟨r, 0, none⟩ = some V ∧ W'.frozen? ⟨r, 0, none⟩ = false := by
  have hr' : W'.heap[r]? = some (.cells #[V, U, c2] 50 (0, 0)) := (hg.block r (Array.getElem?_eq_some_iff.1 h0).1 (fun e => hV e.symm)).trans h0
  exact ⟨by rw [cell_of_row W' r 0 _ _ _ hr']; rfl, by simp [World.frozen?, hr']⟩
set_option maxRecDepth 100000 in
set_option maxHeartbeats 8000000 in
theorem c42 (A : Option Addr) (c : Nat) (h : Nat → ByteArray) (w : World) (hA : Ss w A 2 h) (hs : ∀ j, j < 2 → (h j).size ≤ 281474976710656) (B r m : Nat) (V U : Value) (cs : List ByteArray) (es : List Ed) (hR : Rd w B r m V U cs es)
    (hC : cs.Nodup) (hcl : cs.length ≤ 400) (hel : es.length ≤ 400) :
    Calls Tryz.prog 42 #[.pointer (some ⟨r, 0, none⟩), .slice A 2 c] w fun e w' => MPost w B r m V U (compM cs es (h 1)) e w' := by
  obtain ⟨b, o, rfl, hbl, hc⟩ := hA (by omega)
  have q1 := (hc 1 (by omega)).1
  have s1 := hs 1 (by omega)
  have K28 := Lib.hid (c28 (h 1) (by omega))
  have hbm := nm_ne hR.nm q1
  have HR := Lib.hid hR
  have y0 := hR.V0
  have y1 := hR.U0
  have y2 := hR.m0
  have yl : r < w.heap.size := Nat.lt_of_lt_of_le hR.rB hR.Bw
  have hlk : ∀ W, Below w.heap.size w W → (Instr.lookup 48 (.map (some m)) (.string (h 1)) true).run Tryz.prog W = .ok (.tuple #[.int .i64 (((nmAt cs (h 1)).getD 0 : Nat) : Int), .bool (nmAt cs (h 1)).isSome]) W := fun W hW => lookup_nm (T := 48) Tryz.underlying48 Tryz.underlying9 zero3 (hR.below hW).nm hC (h 1)
  have hl2 := hlk w.drew (Below.refl _ w).drew
  clear hlk
  obtain ⟨AV, cV, hV, _⟩ := Li.own_slice hR.ns
  obtain ⟨AU, cU, hU, _⟩ := Li.own_slice hR.ed
  subst hV hU
  have A0 : Hid ((nameB (h 1) && decide (es.length = 0)) = false → compM cs es (h 1) = (5, cs, es)) := Lib.hid (fun hh => by unfold compM; rw [if_pos hh])
  have A1 : Hid ((nameB (h 1) && decide (es.length = 0)) = true → ∀ k, nmAt cs (h 1) = some k → compM cs es (h 1) = (7, cs, es)) := Lib.hid (fun hh k hk => by unfold compM; rw [if_neg (by rw [hh]; decide), hk])
  have A2 : Hid ((nameB (h 1) && decide (es.length = 0)) = true → nmAt cs (h 1) = none → compM cs es (h 1) = (0, cs ++ [h 1], es)) := Lib.hid (fun hh hk => by unfold compM; rw [if_neg (by rw [hh]; decide), hk])
  have HUP : Hid (nmAt cs (h 1) = none → ∃ w', (Instr.mapUpdate 48 (.map (some m)) (.string (h 1)) (.int .i64 (cs.length : Int))).run Tryz.prog w.drew.drew = .ok () w' ∧ Nm w' m (cs ++ [h 1]) ∧ w.drew.drew.grownBy w' (some m)) := Lib.hid (fun hk => update_nm (T := 48) Tryz.underlying48 Tryz.underlying9 (hR.below (Below.refl _ w).drew.drew).nm hC (h 1) hk)
  generalize compM cs es (h 1) = ov at *
  generalize h 1 = s at *
  generalize nameB s = qn at *
  have HCL := Lib.hid hcl
  have HBL := Lib.hid hbl
  clear hc hA hR hs hC hcl hel s1
  obtain ⟨n, hn⟩ : ∃ n, es.length = n := ⟨_, rfl⟩
  rw [hn] at A0 A1 A2 y1
  cases qn
  · have HO := Lib.hid (A0.out rfl)
    clear A0 A1 A2
    go_enter Tryz.func42, Tryz.ntmps42
    go_wp2_with fail
    refine (K28.out _).mono ?_
    rintro _ _ ⟨rfl, rfl⟩
    go_wp2_with fail
    go_ret
    exact m_err HR.out 5 HO.out _ rfl (Below.refl _ _)
  by_cases h0 : n = 0
  · have HN0 := Lib.hid (hn.trans h0)
    subst h0
    obtain ⟨oa, hoa⟩ : ∃ oa, nmAt cs s = oa := ⟨_, rfl⟩
    rw [hoa] at hl2
    cases oa with
    | some k =>
      have HO := Lib.hid (A1.out rfl k hoa)
      simp only [Option.getD_some, Option.isSome_some] at hl2
      clear A0 A1 A2 hoa
      go_enter Tryz.func42, Tryz.ntmps42
      go_wp2_with fail
      refine (K28.out _).mono ?_
      rintro _ _ ⟨rfl, rfl⟩
      go_upto_region 3 with fail
      have HI : Hid (w.drew.cell? ⟨r, 2, none⟩ = some (.map (some m)) ∧ w.drew.cell? ⟨b, o + 1, none⟩ = some (.string s) ∧ (Instr.lookup 48 (.map (some m)) (.string s) true).run Tryz.prog w.drew = .ok (.tuple #[.int .i64 (k : Int), .bool true]) w.drew) := Lib.hid ⟨y2, q1, hl2⟩
      go_region_held3 (fun W => W.cell? ⟨r, 2, none⟩ = some (.map (some m)) ∧ W.cell? ⟨b, o + 1, none⟩ = some (.string s) ∧ (Instr.lookup 48 (.map (some m)) (.string s) true).run Tryz.prog W = .ok (.tuple #[.int .i64 (k : Int), .bool true]) W)
        (first | assumption | exact HI.out)
        (fail)
      go_wp2_with fail
      go_ret
      exact m_err HR.out 7 HO.out _ rfl (Below.refl _ w).drew
    | none =>
      have HO := Lib.hid (A2.out rfl hoa)
      simp only [Option.getD_none, Option.isSome_none] at hl2
      obtain ⟨w0, hup, hN0, hg0⟩ := HUP.out hoa
      clear A0 A1 A2 hoa HUP
      have HNM := Lib.hid hN0
      have HG0 := Lib.hid hg0
      have hr0 : w0.heap[r]? = _ := (hg0.block r yl (fun e => HR.out.rm (by simpa using e))).trans (show w.drew.drew.heap[r]? = _ from HR.out.row)
      have z0 : w0.cell? ⟨r, 0, none⟩ = some (.slice AV cs.length cV) := by rw [cell_of_row w0 r 0 _ _ _ hr0]; rfl
      have zl : r < w0.heap.size := Nat.lt_of_lt_of_le yl hg0.size
      have z1 : w0.cell? ⟨b, o + 1, none⟩ = some (.string s) := hg0.cell (a := ⟨b, o + 1, none⟩) q1 (fun e => hbm (by simpa using e))
      have hns0 : w0.ownsRow B 9 1 (.slice AV cs.length cV) cs.length (cs.map Value.string) := HR.out.ns.kept (w := w.drew.drew) hg0 (Or.inr (own_ne HR.out.ns HR.out.mB))
      have HNS := Lib.hid hns0
      have HR0 := Lib.hid hr0
      obtain ⟨i0, hi0, hz0, hz1, hz2⟩ := info9
      have HI0 := Lib.hid hi0
      have HZ0 := Lib.hid hz0
      have HZ1 := Lib.hid hz1
      have HZ2 := Lib.hid hz2
      have HBX : Hid (Below w0.heap.size w0 (w0.drew.alloc (.cells #[.string s] 9))) := Lib.hid ((Below.refl _ w0).drew.alloc (Nat.le_refl _) _)
      have HG : Hid (∀ W', World.grownBy (w0.drew.alloc (.cells #[.string s] 9)) W' (Value.ownBlock (.slice AV cs.length cV)) → W'.cell? ⟨r, 0, none⟩ = some (.slice AV cs.length cV) ∧ W'.frozen? ⟨r, 0, none⟩ = false) := Lib.hid (fun W' hg => grow_r0 (m := m) (B := B) (cs := cs) (es := es) ((HBX.out.block r zl).trans HR0.out) (own_ne HNS.out HR.out.rB) hg)
      have HED : Hid ((w0.drew.alloc (.cells #[.string s] 9)).ownsRow B 9 1 (.slice AV cs.length cV) cs.length (cs.map Value.string)) := Lib.hid (Li.own_below hns0 HBX.out)
      have HBS : Hid (B ≤ (w0.drew.alloc (.cells #[.string s] 9)).heap.size) := Lib.hid (by have h1 := HR.out.Bw; have h2 := HG0.out.size; have h3 : w.drew.drew.heap.size = w.heap.size := rfl; simp; omega)
      have HNL : Hid (cs.length + 1 ≤ maxLen) := Lib.hid (by unfold maxLen; have := HCL.out; omega)
      have HNB : Hid ((cs.length + 1) * 16 ≤ 140737488355328) := Lib.hid (by have := HCL.out; omega)
      have HMAP : Hid (cs.map Value.string = cs.map Value.string) := Lib.hid rfl
      clear hi0 hz0 hz1 hz2 hr0 hns0 hN0 hg0 hbm hn
      go_enter Tryz.func42, Tryz.ntmps42
      go_wp2_with fail
      refine (K28.out _).mono ?_
      rintro _ _ ⟨rfl, rfl⟩
      go_upto_region 3 with fail
      have HI : Hid (w.drew.cell? ⟨r, 2, none⟩ = some (.map (some m)) ∧ w.drew.cell? ⟨b, o + 1, none⟩ = some (.string s) ∧ (Instr.lookup 48 (.map (some m)) (.string s) true).run Tryz.prog w.drew = .ok (.tuple #[.int .i64 ((0 : Nat) : Int), .bool false]) w.drew) := Lib.hid ⟨y2, q1, hl2⟩
      go_region_held3 (fun W => W.cell? ⟨r, 2, none⟩ = some (.map (some m)) ∧ W.cell? ⟨b, o + 1, none⟩ = some (.string s) ∧ (Instr.lookup 48 (.map (some m)) (.string s) true).run Tryz.prog W = .ok (.tuple #[.int .i64 ((0 : Nat) : Int), .bool false]) W)
        (first | assumption | exact HI.out)
        (fail)
      go_upto_region 6 with fail
      have y0d : w.drew.cell? ⟨r, 0, none⟩ = some (.slice AV cs.length cV) := y0
      have y2d : w.drew.cell? ⟨r, 2, none⟩ = some (.map (some m)) := y2
      have q1d : w.drew.cell? ⟨b, o + 1, none⟩ = some (.string s) := q1
      have HRD : Hid (Rd w.drew.drew B r m (.slice AV cs.length cV) (.slice AU es.length cU) cs es) := Lib.hid (HR.out.below (Below.refl _ w).drew.drew)
      have HBD : Hid (Below w.heap.size w w.drew.drew) := Lib.hid (Below.refl _ w).drew.drew
      generalize w.drew = wd at *
      go_still_tail 13, (by kernel_rfl)
      go_upto_region 7 with fail
      go_region_law (first | (refine step_append_lies _ (by rfl) _ _ 22 (by rfl) B 9 i0 (.string ⟨#[]⟩) 1 16 Tryz.underlying22 HI0.out HZ0.out HZ1.out HZ2.out rfl (by decide) (.slice AV cs.length cV) cs.length (cs.map Value.string) (by rfl) HED.out ⟨w0.heap.size, 0, none⟩ 1 1 [.string s] (by rfl) rfl (one_at _ _ (by first | rfl | simp) (.string s) 9) (by intro u hu; simp at hu; subst hu; rfl) (by decide) HNL.out HNB.out HBS.out _ rfl ?_; intro g5 c5 w5 hown5 hgrow5 hat5 hlt5; obtain ⟨x5a, x5b⟩ := HG.out w5 hgrow5))
      all_goals
        go_wp2_with fail
        go_ret
        obtain ⟨p1, p2⟩ := rd_name HRD.out HNM.out HG0.out _ HBX.out hown5 hgrow5
        refine ⟨_, _, by rw [HO.out]; rfl, by rw [HO.out]; exact p1, Fr.pre HBD.out p2⟩
  · have HO := Lib.hid (A0.out (by simp; omega))
    have d0 : decide ((0 : Int) < (n : Int)) = true := by simp; omega
    clear A0 A1 A2
    go_enter Tryz.func42, Tryz.ntmps42
    go_wp2_with fail
    refine (K28.out _).mono ?_
    rintro _ _ ⟨rfl, rfl⟩
    go_wp2_with fail
    go_ret
    exact m_err HR.out 5 HO.out _ rfl (Below.refl _ _)
end Go.Proofs.YtblfnjdbihhglaaGreatDoor
