import Derived.Test.YtblfnjdbihhglaaGreatDoorSz
import Derived.Test.YtblfnjdbihhglaaGreatDoorHz
import Derived.Deep.AppendLies
import Derived.Deep.RegionHeld3
namespace Go.Proofs.YtblfnjdbihhglaaGreatDoor
open Go.ChangeShapes Go.WideShapes Go.ChangeAt Go.RowKit Go.MapKept
set_option linter.unusedVariables false
set_option linter.unusedSimpArgs false
def AddPost (w : World) (B r m : Nat) (V U : Value) (cs : List ByteArray) (es : List Ed) (o : Nat × Ed) (e : Ending) (w' : World) : Prop :=
  ∃ U', e = .returned (.int .i64 (o.1 : Int)) ∧ Rd w' B r m V U' cs (pushE es o) ∧ Fr r m V U w w'
theorem add_err {w w' : World} {B r m : Nat} {V U : Value} {cs : List ByteArray} {es : List Ed} {o : Nat × Ed} (h : Rd w B r m V U cs es) (c : Nat) (ho : o.1 = c) (hc : c ≠ 0) (q : Int) (hq : q = (c : Int)) (hb : Below w.heap.size w w') :
    AddPost w B r m V U cs es o (.returned (.int .i64 q)) w' := by
  refine ⟨U, by rw [ho, hq], ?_, Fr.of_below hb⟩
  unfold pushE
  rw [if_neg (by omega)]
  exact h.below hb
theorem box_set2 {w W : World} {p : Nat} {c0 c1 c2 c3 c4 : Value} {T : TypeId} (hp : p = w.heap.size) (h : W.heap[p]? = some (.cells #[c0, c1, c2, c3, c4] T (0, 0))) (hb : Below w.heap.size w W) (u : Value) :
    (W.setCell ⟨p, 2, none⟩ u).heap[p]? = some (.cells #[c0, c1, u, c3, c4] T (0, 0)) ∧ Below w.heap.size w (W.setCell ⟨p, 2, none⟩ u) :=
  ⟨by rw [heap_setCell_at _ _ _ _ h]; rfl, hb.setCell (by show _ ≤ p; omega) _⟩
theorem box_set1 {w W : World} {p : Nat} {c0 c1 c2 c3 c4 : Value} {T : TypeId} (hp : p = w.heap.size) (h : W.heap[p]? = some (.cells #[c0, c1, c2, c3, c4] T (0, 0))) (hb : Below w.heap.size w W) (u : Value) :
    (W.setCell ⟨p, 1, none⟩ u).heap[p]? = some (.cells #[c0, u, c2, c3, c4] T (0, 0)) ∧ Below w.heap.size w (W.setCell ⟨p, 1, none⟩ u) :=
  ⟨by rw [heap_setCell_at _ _ _ _ h]; rfl, hb.setCell (by show _ ≤ p; omega) _⟩
theorem box_cells {W : World} {p : Nat} {c0 c1 c2 c3 c4 : Value} {T : TypeId} (h : W.heap[p]? = some (.cells #[c0, c1, c2, c3, c4] T (0, 0))) :
    W.cell? ⟨p, 0, none⟩ = some c0 ∧ W.cell? ⟨p, 1, none⟩ = some c1 ∧ W.cell? ⟨p, 2, none⟩ = some c2 ∧ W.cell? ⟨p, 3, none⟩ = some c3 ∧ W.cell? ⟨p, 4, none⟩ = some c4 ∧ (∀ j, W.frozen? ⟨p, j, none⟩ = false) := by
  have hz : ∀ j, W.frozen? ⟨p, j, none⟩ = false := fun j => by simp [World.frozen?, h]
  refine ⟨?_, ?_, ?_, ?_, ?_, hz⟩ <;> (rw [cell_of_row W p _ _ _ _ h]; rfl)
theorem info42 : ∃ i, Tryz.prog.info? 42 = some i ∧ i.zero = some (.agg #[.int .u8 0, .int .i64 0, .int .i64 0, .string ⟨#[]⟩, .int .u32 0]) ∧ i.size = 5 ∧ i.bytes = 48 := by
  have h : (Tryz.prog.info? 42).map (fun i => (i.zero, i.size, i.bytes)) = some (some (.agg #[.int .u8 0, .int .i64 0, .int .i64 0, .string ⟨#[]⟩, .int .u32 0]), 5, 48) := by kernel_rfl
  cases hq : Tryz.prog.info? 42 with
  | none => rw [hq] at h; cases h
  | some i =>
    rw [hq] at h
    simp only [Option.map_some, Option.some.injEq, Prod.mk.injEq] at h
    exact ⟨i, rfl, h.1, h.2.1, h.2.2⟩
theorem five_at (w : World) (N : Nat) (hN : w.heap.size = N) (y : Ed) (t : TypeId) : ∀ (j : Nat) (u : Value), y.cs[j]? = some u → (w.alloc (.cells #[.int .u8 (y.k : Int), .int .i64 y.fr, .int .i64 y.dt, .string y.nm, .int .u32 (y.wh : Int)] t)).cell? ((⟨N, 0, none⟩ : Addr).add j) = some u := by
  subst hN
  exact World.news_of_block (heap_alloc_new w _)
theorem cs_one (y : Ed) : ∀ u ∈ y.cs, u.oneCell' = true := by
  intro u hu
  simp only [Ed.cs, List.mem_cons, List.not_mem_nil, or_false] at hu
  rcases hu with rfl | rfl | rfl | rfl | rfl <;> rfl
theorem ob_len (A : Option Addr) (n n' c : Nat) : (Value.slice A n c).ownBlock = (Value.slice A n' c).ownBlock := by cases A <;> rfl
theorem grow_r {W W' : World} {B r m : Nat} {V U : Value} {cs : List ByteArray} {es : List Ed} (h : Rd W B r m V U cs es) (hg : W.grownBy W' U.ownBlock) : W'.cell? ⟨r, 1, none⟩ = some U ∧ W'.frozen? ⟨r, 1, none⟩ = false := by
  have hr' : W'.heap[r]? = some (.cells #[V, U, .map (some m)] 50 (0, 0)) := (hg.block r (Nat.lt_of_lt_of_le h.rB h.Bw) (fun e => own_ne h.ed h.rB e.symm)).trans h.row
  exact ⟨by rw [cell_of_row W' r 1 _ _ _ hr']; rfl, by simp [World.frozen?, hr']⟩
theorem add_ok {w W W' : World} {B r m : Nat} {V U U' : Value} {cs : List ByteArray} {es : List Ed} {o : Nat × Ed} {y : Ed} (h : Rd w B r m V U cs es) (ho : o = (0, y)) (hb : Below w.heap.size w W) (hown : W'.ownsRow B 42 5 U' (es.length + 1) (es.flatMap Ed.cs ++ y.cs)) (hg : W.grownBy W' U.ownBlock) (q : Int) (hq : q = 0) :
    AddPost w B r m V U cs es o (.returned (.int .i64 q)) (W'.setCell ⟨r, 1, none⟩ U') := by
  subst ho
  obtain ⟨h1, h2⟩ := rd_push (h.below hb) hown hg
  exact ⟨U', by rw [hq]; rfl, by unfold pushE; rw [if_pos rfl]; exact h1, Fr.pre hb h2⟩
set_option maxRecDepth 100000 in
set_option maxHeartbeats 8000000 in
theorem c70 (x : Ed) (hx : x.ok) (ok : Bool) (a b : ByteArray) (ha : a.size ≤ 9223372036854775807) (hb : b.size ≤ 9223372036854775807) (w : World) (B r m : Nat) (V U : Value) (cs : List ByteArray) (es : List Ed) (hR : Rd w B r m V U cs es)
    (hC : cs.Nodup) (hE : ∀ y ∈ es, y.ok) (hcl : cs.length ≤ 400) (hel : es.length ≤ 400) :
    Calls Tryz.prog 70 #[.pointer (some ⟨r, 0, none⟩), x.v, .bool ok, .string a, .string b] w fun e w' => AddPost w B r m V U cs es (addM cs es x ok a b) e w' := by
  obtain ⟨k, fr, dt, nm, wh⟩ := x
  obtain ⟨hk, hwh, hnm⟩ := hx
  simp only at hk hwh hnm
  have K28a := Lib.hid (c28 a ha)
  have K28b := Lib.hid (c28 b hb)
  have K52 := Lib.hid (c52 k nm hk hnm (Lib.hid (c28 nm hnm)) (Lib.hid (c72 nm hnm)))
  have K53 := Lib.hid (c53 k wh hk hwh)
  have HR := Lib.hid hR
  have HNM := Lib.hid hnm
  have HC := Lib.hid hC
  have HE := Lib.hid hE
  have HL := Lib.hid (And.intro hcl hel)
  have A0 : Hid ((ok && formB ⟨k, fr, dt, nm, wh⟩ a b) = false → (addM cs es ⟨k, fr, dt, nm, wh⟩ ok a b).1 = 5) := Lib.hid (fun h => by unfold addM; rw [if_pos h])
  have A1 : Hid ((ok && formB ⟨k, fr, dt, nm, wh⟩ a b) = true → k = 2 → nmAt cs b = none → (addM cs es ⟨k, fr, dt, nm, wh⟩ ok a b).1 = 6) := Lib.hid (fun h h2 h3 => by
    unfold addM; rw [if_neg (by rw [h]; decide), if_pos h2, h3])
  have A2 : Hid ((ok && formB ⟨k, fr, dt, nm, wh⟩ a b) = true → k = 2 → ∀ d, nmAt cs b = some d → nmAt cs a = none → (addM cs es ⟨k, fr, dt, nm, wh⟩ ok a b).1 = 6) := Lib.hid (fun h h2 d h3 h4 => by
    unfold addM; rw [if_neg (by rw [h]; decide), if_pos h2, h3, h4])
  have A3 : Hid ((ok && formB ⟨k, fr, dt, nm, wh⟩ a b) = true → k = 2 → ∀ d, nmAt cs b = some d → ∀ f, nmAt cs a = some f → (addM cs es ⟨k, fr, dt, nm, wh⟩ ok a b) = (tailM es ⟨k, (f : Int), (d : Int), nm, wh⟩, ⟨k, (f : Int), (d : Int), nm, wh⟩)) := Lib.hid (fun h h2 d h3 f h4 => by
    unfold addM; rw [if_neg (by rw [h]; decide), if_pos h2, h3, h4]; rfl)
  have A4 : Hid ((ok && formB ⟨k, fr, dt, nm, wh⟩ a b) = true → k ≠ 2 → nmAt cs a = none → (addM cs es ⟨k, fr, dt, nm, wh⟩ ok a b).1 = 6) := Lib.hid (fun h h2 h4 => by
    unfold addM; rw [if_neg (by rw [h]; decide), if_neg h2, h4])
  have A5 : Hid ((ok && formB ⟨k, fr, dt, nm, wh⟩ a b) = true → k ≠ 2 → ∀ f, nmAt cs a = some f → (addM cs es ⟨k, fr, dt, nm, wh⟩ ok a b) = (tailM es ⟨k, (f : Int), (-1), nm, wh⟩, ⟨k, (f : Int), (-1), nm, wh⟩)) := Lib.hid (fun h h2 f h4 => by
    unfold addM; rw [if_neg (by rw [h]; decide), if_neg h2, h4]; rfl)
  have hform : formB ⟨k, fr, dt, nm, wh⟩ a b = (nameB a && (nmB k nm && (whatB k wh && (!decide (k = 2) || nameB b)))) := rfl
  rw [hform] at A0 A1 A2 A3 A4 A5
  generalize addM cs es ⟨k, fr, dt, nm, wh⟩ ok a b = o at *
  unfold Ed.v
  simp only
  generalize nameB a = q1 at *
  generalize nmB k nm = q2 at *
  generalize whatB k wh = q3 at *
  generalize nameB b = q4 at *
  clear hform hR hC hE ha hb hnm hcl hel
  cases ok
  · have HO := Lib.hid (A0.out (by simp))
    clear A0 A1 A2 A3 A4 A5
    go_enter Tryz.func70, Tryz.ntmps70
    go_wp2_with fail
    go_ret
    exact add_err HR.out 5 HO.out (by decide) _ rfl ((Below.refl _ _).alloc (Nat.le_refl _) _)
  cases q1
  · have HO := Lib.hid (A0.out (by simp))
    clear A0 A1 A2 A3 A4 A5
    go_enter Tryz.func70, Tryz.ntmps70
    go_wp2_with fail
    refine (K28a.out _).mono ?_
    rintro _ _ ⟨rfl, rfl⟩
    go_wp2_with fail
    go_ret
    exact add_err HR.out 5 HO.out (by decide) _ rfl ((Below.refl _ _).alloc (Nat.le_refl _) _)
  cases q2
  · have HO := Lib.hid (A0.out (by simp))
    clear A0 A1 A2 A3 A4 A5
    go_enter Tryz.func70, Tryz.ntmps70
    go_wp2_with fail
    refine (K28a.out _).mono ?_
    rintro _ _ ⟨rfl, rfl⟩
    go_wp2_with fail
    refine (K52.out _).mono ?_
    rintro _ _ ⟨rfl, rfl⟩
    go_wp2_with fail
    go_ret
    exact add_err HR.out 5 HO.out (by decide) _ rfl ((Below.refl _ _).alloc (Nat.le_refl _) _)
  cases q3
  · have HO := Lib.hid (A0.out (by simp))
    clear A0 A1 A2 A3 A4 A5
    go_enter Tryz.func70, Tryz.ntmps70
    go_wp2_with fail
    refine (K28a.out _).mono ?_
    rintro _ _ ⟨rfl, rfl⟩
    go_wp2_with fail
    refine (K52.out _).mono ?_
    rintro _ _ ⟨rfl, rfl⟩
    go_wp2_with fail
    refine (K53.out _).mono ?_
    rintro _ _ ⟨rfl, rfl⟩
    go_wp2_with fail
    go_ret
    exact add_err HR.out 5 HO.out (by decide) _ rfl ((Below.refl _ _).alloc (Nat.le_refl _) _)
  have y0 := HR.out.V0
  have y1 := HR.out.U0
  have y2 := HR.out.m0
  have yl : r < w.heap.size := Nat.lt_of_lt_of_le HR.out.rB HR.out.Bw
  by_cases h2 : k = 2
  · subst h2
    cases q4
    · have HO := Lib.hid (A0.out (by simp))
      clear A0 A1 A2 A3 A4 A5
      go_enter Tryz.func70, Tryz.ntmps70
      go_wp2_with fail
      refine (K28a.out _).mono ?_
      rintro _ _ ⟨rfl, rfl⟩
      go_wp2_with fail
      refine (K52.out _).mono ?_
      rintro _ _ ⟨rfl, rfl⟩
      go_wp2_with fail
      refine (K53.out _).mono ?_
      rintro _ _ ⟨rfl, rfl⟩
      clear K28a K52 K53
      go_wp2_with fail
      refine (K28b.out _).mono ?_
      rintro _ _ ⟨rfl, rfl⟩
      go_wp2_with fail
      go_ret
      exact add_err HR.out 5 HO.out (by decide) _ rfl ((Below.refl _ _).alloc (Nat.le_refl _) _)
    have hl1 := lookup_nm (T := 48) Tryz.underlying48 Tryz.underlying9 zero3 (HR.out.below ((Below.refl _ w).alloc (Nat.le_refl _) (.cells #[.int .u8 2, .int .i64 fr, .int .i64 (-1), .string nm, .int .u32 (wh : Int)] 42))).nm HC.out b
    obtain ⟨ob, hob⟩ : ∃ ob, nmAt cs b = ob := ⟨_, rfl⟩
    rw [hob] at hl1
    cases ob with
    | none =>
      have HO := Lib.hid (A1.out (by simp) rfl hob)
      simp only [Option.getD_none, Option.isSome_none] at hl1
      clear A0 A1 A2 A3 A4 A5 hob
      go_enter Tryz.func70, Tryz.ntmps70
      go_wp2_with fail
      refine (K28a.out _).mono ?_
      rintro _ _ ⟨rfl, rfl⟩
      go_wp2_with fail
      refine (K52.out _).mono ?_
      rintro _ _ ⟨rfl, rfl⟩
      go_wp2_with fail
      refine (K53.out _).mono ?_
      rintro _ _ ⟨rfl, rfl⟩
      clear K28a K52 K53
      go_wp2_with fail
      refine (K28b.out _).mono ?_
      rintro _ _ ⟨rfl, rfl⟩
      go_wp2_with fail
      go_ret
      exact add_err HR.out 6 HO.out (by decide) _ rfl ((Below.refl _ _).alloc (Nat.le_refl _) _)
    | some d =>
      simp only [Option.getD_some, Option.isSome_some] at hl1
      have hl2 := lookup_nm (T := 48) Tryz.underlying48 Tryz.underlying9 zero3 (HR.out.below ((Below.refl _ w).alloc (Nat.le_refl _) (.cells #[.int .u8 2, .int .i64 fr, .int .i64 (d : Int), .string nm, .int .u32 (wh : Int)] 42))).nm HC.out a
      obtain ⟨oa, hoa⟩ : ∃ oa, nmAt cs a = oa := ⟨_, rfl⟩
      rw [hoa] at hl2
      cases oa with
      | none =>
        have HO := Lib.hid (A2.out (by simp) rfl d hob hoa)
        simp only [Option.getD_none, Option.isSome_none] at hl2
        clear A0 A1 A2 A3 A4 A5 hob hoa
        go_enter Tryz.func70, Tryz.ntmps70
        go_wp2_with fail
        refine (K28a.out _).mono ?_
        rintro _ _ ⟨rfl, rfl⟩
        go_wp2_with fail
        refine (K52.out _).mono ?_
        rintro _ _ ⟨rfl, rfl⟩
        go_wp2_with fail
        refine (K53.out _).mono ?_
        rintro _ _ ⟨rfl, rfl⟩
        clear K28a K52 K53
        go_wp2_with fail
        refine (K28b.out _).mono ?_
        rintro _ _ ⟨rfl, rfl⟩
        go_wp2_with fail
        go_ret
        exact add_err HR.out 6 HO.out (by decide) _ rfl ((Below.refl _ _).alloc (Nat.le_refl _) _)
      | some f =>
        have HO := Lib.hid (A3.out (by simp) rfl d hob f hoa)
        simp only [Option.getD_some, Option.isSome_some] at hl2
        clear A0 A1 A2 A3 A4 A5 hob hoa
        obtain ⟨i0, hi0, hz0, hz1, hz2⟩ := info42
        have HI0 := Lib.hid hi0
        have HZ0 := Lib.hid hz0
        have HZ1 := Lib.hid hz1
        have HZ2 := Lib.hid hz2
        clear hi0 hz0 hz1 hz2
        obtain ⟨lo, hlo⟩ : ∃ lo, es.getLast? = lo := ⟨_, rfl⟩
        cases lo with
        | none =>
          have hes := List.getLast?_eq_none_iff.1 hlo
          obtain ⟨A, c, hU, _⟩ := Li.own_slice HR.out.ed
          subst hU
          rw [hes] at y1
          simp only [List.length_nil] at y1
          have HO2 : Hid (o = (0, ⟨2, (f : Int), (d : Int), nm, wh⟩)) := Lib.hid (by rw [HO.out]; unfold tailM; rw [hlo])
          clear hlo
          have HX : Hid (o = (0, ⟨2, (f : Int), (d : Int), nm, wh⟩)) := HO2
          have HJN : Hid (es.length = 0) := Lib.hid (by rw [hes]; rfl)
          have HNL : Hid (0 + 1 ≤ maxLen) := Lib.hid (by unfold maxLen; omega)
          have HNB : Hid ((0 + 1) * 48 ≤ 140737488355328) := Lib.hid (by omega)
          have HBX : Hid (Below w.heap.size w ((w.alloc (.cells #[.int .u8 2, .int .i64 (f : Int), .int .i64 (d : Int), .string nm, .int .u32 (wh : Int)] 42)).drew.alloc (.cells #[.int .u8 2, .int .i64 (f : Int), .int .i64 (d : Int), .string nm, .int .u32 (wh : Int)] 42))) := Lib.hid (((Below.refl _ w).alloc (Nat.le_refl _) _).drew.alloc (by simp) _)
          have HBS : Hid (B ≤ ((w.alloc (.cells #[.int .u8 2, .int .i64 (f : Int), .int .i64 (d : Int), .string nm, .int .u32 (wh : Int)] 42)).drew.alloc (.cells #[.int .u8 2, .int .i64 (f : Int), .int .i64 (d : Int), .string nm, .int .u32 (wh : Int)] 42)).heap.size) := Lib.hid (by have := HR.out.Bw; simp; omega)
          have HED : Hid (((w.alloc (.cells #[.int .u8 2, .int .i64 (f : Int), .int .i64 (d : Int), .string nm, .int .u32 (wh : Int)] 42)).drew.alloc (.cells #[.int .u8 2, .int .i64 (f : Int), .int .i64 (d : Int), .string nm, .int .u32 (wh : Int)] 42)).ownsRow B 42 5 (.slice A 0 c) 0 (es.flatMap Ed.cs)) := Lib.hid (by have := (HR.out.below HBX.out).ed; rw [HJN.out] at this; exact this)
          have HG : Hid (∀ W', World.grownBy ((w.alloc (.cells #[.int .u8 2, .int .i64 (f : Int), .int .i64 (d : Int), .string nm, .int .u32 (wh : Int)] 42)).drew.alloc (.cells #[.int .u8 2, .int .i64 (f : Int), .int .i64 (d : Int), .string nm, .int .u32 (wh : Int)] 42)) W' (Value.ownBlock (.slice A 0 c)) → W'.cell? ⟨r, 1, none⟩ = some (.slice A es.length c) ∧ W'.frozen? ⟨r, 1, none⟩ = false) := Lib.hid (fun W' hg => grow_r (HR.out.below HBX.out) (by rw [ob_len A es.length 0]; exact hg))
          clear hes
          go_enter Tryz.func70, Tryz.ntmps70
          go_wp2_with fail
          refine (K28a.out _).mono ?_
          rintro _ _ ⟨rfl, rfl⟩
          go_wp2_with fail
          refine (K52.out _).mono ?_
          rintro _ _ ⟨rfl, rfl⟩
          go_wp2_with fail
          refine (K53.out _).mono ?_
          rintro _ _ ⟨rfl, rfl⟩
          clear K28a K52 K53
          go_wp2_with fail
          refine (K28b.out _).mono ?_
          rintro _ _ ⟨rfl, rfl⟩
          go_upto_region 22 with fail
          go_region_law (first | (refine step_append_lies _ (by rfl) _ _ 23 (by rfl) B 42 i0 (.agg #[.int .u8 0, .int .i64 0, .int .i64 0, .string ⟨#[]⟩, .int .u32 0]) 5 48 Tryz.underlying23 HI0.out HZ0.out HZ1.out HZ2.out rfl (by decide) (.slice A 0 c) 0 (es.flatMap Ed.cs) (by rfl) HED.out ⟨w.heap.size + 1, 0, none⟩ 1 1 (Ed.cs ⟨2, (f : Int), (d : Int), nm, wh⟩) (by rfl) rfl (five_at _ _ (by first | rfl | simp) ⟨2, (f : Int), (d : Int), nm, wh⟩ 42) (cs_one _) (by decide) HNL.out HNB.out HBS.out _ rfl ?_; intro g5 c5 w5 hown5 hgrow5 hat5 hlt5; obtain ⟨x5a, x5b⟩ := HG.out w5 hgrow5))
          all_goals
            go_wp2_with fail
            go_ret
            exact add_ok HR.out HX.out HBX.out (by rw [HJN.out]; exact hown5) (by rw [ob_len _ es.length 0]; exact hgrow5) _ rfl
        | some l =>
          obtain ⟨g, c, hU, hgl, hBg, hpos, l0, l1, l2, l3, l4⟩ := last_cells HR.out.ed hlo
          subst hU
          obtain ⟨j, hj⟩ : ∃ j, es.length = j + 1 := ⟨es.length - 1, by omega⟩
          rw [hj, Nat.add_sub_cancel] at l0 l1 l2 l3 l4
          obtain ⟨N, hN⟩ : ∃ N, es.length = N := ⟨_, rfl⟩
          rw [hN] at y1
          have hlk : l.ok := HE.out l (List.mem_of_getLast? hlo)
          have HT5 : Hid (0 < cmpE l ⟨2, (f : Int), (d : Int), nm, wh⟩ → o.1 = 5) := Lib.hid (fun h => by rw [HO.out]; unfold tailM; rw [hlo]; simp only; rw [if_pos h])
          have HT7 : Hid (cmpE l ⟨2, (f : Int), (d : Int), nm, wh⟩ = 0 → o.1 = 7) := Lib.hid (fun h => by rw [HO.out]; unfold tailM; rw [hlo]; simp only; rw [if_neg (by omega), if_pos h])
          have HT0 : Hid (cmpE l ⟨2, (f : Int), (d : Int), nm, wh⟩ < 0 → o = (0, ⟨2, (f : Int), (d : Int), nm, wh⟩)) := Lib.hid (fun h => by rw [HO.out]; unfold tailM; rw [hlo]; simp only; rw [if_neg (by omega), if_neg (by omega)])
          have K30 := Lib.hid (c30 l ⟨2, (f : Int), (d : Int), nm, wh⟩ hlk ⟨by first | exact hk | decide, hwh, HNM.out⟩)
          unfold Ed.v at K30
          simp only at K30
          try rw [show ((2 : Nat) : Int) = 2 from rfl] at K30
          generalize cmpE l ⟨2, (f : Int), (d : Int), nm, wh⟩ = q at *
          have HJ : Hid (es.length = j + 1) := Lib.hid hj
          have hj400 : j < 400 := by have := HL.out.2; omega
          have HGL := Lib.hid hgl
          have HBG := Lib.hid hBg
          have HSZ : Hid (w.heap.size ≤ w.heap.size) := Lib.hid (Nat.le_refl _)
          have hj1 : (N : Int) - 1 = (j : Int) := by omega
          have hjw : IntKind.i64.wrap ((N : Int) - 1) = (j : Int) := by rw [hj1, IntKind.wrap_i64]; omega
          have hjw2 : IntKind.i64.wrap (j : Int) = (j : Int) := by rw [IntKind.wrap_i64]; omega
          have hjn : (j : Int) < (N : Int) := by omega
          have hj2 : decide ((0 : Int) < (N : Int)) = true := by simp; omega
          have hj3 : (0 : Int) < (N : Int) := by omega
          have HJN : Hid (es.length = N) := Lib.hid hN
          have HS : Hid (∀ W, Below (w.heap.size + 1) (w.alloc (.cells #[.int .u8 2, .int .i64 (f : Int), .int .i64 (d : Int), .string nm, .int .u32 (wh : Int)] 42)) W → W.cell? ⟨r, 1, none⟩ = some (.slice (some ⟨g, 0, none⟩) N c) ∧ W.cell? ⟨g, j * 5, none⟩ = some (.int .u8 (l.k : Int)) ∧ W.cell? ⟨g, j * 5 + 1, none⟩ = some (.int .i64 l.fr) ∧ W.cell? ⟨g, j * 5 + 2, none⟩ = some (.int .i64 l.dt) ∧ W.cell? ⟨g, j * 5 + 3, none⟩ = some (.string l.nm) ∧ W.cell? ⟨g, j * 5 + 4, none⟩ = some (.int .u32 (l.wh : Int)) ∧ W.cell? ⟨w.heap.size, 0, none⟩ = some (.int .u8 2) ∧ W.cell? ⟨w.heap.size, 1, none⟩ = some (.int .i64 (f : Int)) ∧ W.cell? ⟨w.heap.size, 2, none⟩ = some (.int .i64 (d : Int)) ∧ W.cell? ⟨w.heap.size, 3, none⟩ = some (.string nm) ∧ W.cell? ⟨w.heap.size, 4, none⟩ = some (.int .u32 (wh : Int))) := Lib.hid (fun W hW => by
            have hbW : Below w.heap.size w W := ((Below.refl _ w).alloc (Nat.le_refl _) _).trans (hW.mono (Nat.le_succ _))
            have hbox : W.heap[w.heap.size]? = _ := (hW.block w.heap.size (Nat.lt_succ_self _)).trans (heap_alloc_new w (.cells #[.int .u8 2, .int .i64 (f : Int), .int .i64 (d : Int), .string nm, .int .u32 (wh : Int)] 42))
            obtain ⟨b0, b1, b2, b3, b4, _⟩ := box_cells hbox
            exact ⟨(hbW.cell (p := ⟨r, 1, none⟩) yl).trans y1, (hbW.cell (p := ⟨g, _, none⟩) hgl).trans l0, (hbW.cell (p := ⟨g, _, none⟩) hgl).trans l1, (hbW.cell (p := ⟨g, _, none⟩) hgl).trans l2, (hbW.cell (p := ⟨g, _, none⟩) hgl).trans l3, (hbW.cell (p := ⟨g, _, none⟩) hgl).trans l4, b0, b1, b2, b3, b4⟩)
          clear hlo hlk hj hpos hBg hN
          go_enter Tryz.func70, Tryz.ntmps70
          go_wp2_with fail
          refine (K28a.out _).mono ?_
          rintro _ _ ⟨rfl, rfl⟩
          go_wp2_with fail
          refine (K52.out _).mono ?_
          rintro _ _ ⟨rfl, rfl⟩
          go_wp2_with fail
          refine (K53.out _).mono ?_
          rintro _ _ ⟨rfl, rfl⟩
          clear K28a K52 K53
          go_wp2_with fail
          refine (K28b.out _).mono ?_
          rintro _ _ ⟨rfl, rfl⟩
          go_upto_region 17 with fail
          have HI := Lib.hid (HS.out _ ((Below.refl _ _).drew))
          clear l0 l1 l2 l3 l4
          go_region_held3 (fun W => W.cell? ⟨r, 1, none⟩ = some (.slice (some ⟨g, 0, none⟩) N c) ∧ W.cell? ⟨g, j * 5, none⟩ = some (.int .u8 (l.k : Int)) ∧ W.cell? ⟨g, j * 5 + 1, none⟩ = some (.int .i64 l.fr) ∧ W.cell? ⟨g, j * 5 + 2, none⟩ = some (.int .i64 l.dt) ∧ W.cell? ⟨g, j * 5 + 3, none⟩ = some (.string l.nm) ∧ W.cell? ⟨g, j * 5 + 4, none⟩ = some (.int .u32 (l.wh : Int)) ∧ W.cell? ⟨w.heap.size, 0, none⟩ = some (.int .u8 2) ∧ W.cell? ⟨w.heap.size, 1, none⟩ = some (.int .i64 (f : Int)) ∧ W.cell? ⟨w.heap.size, 2, none⟩ = some (.int .i64 (d : Int)) ∧ W.cell? ⟨w.heap.size, 3, none⟩ = some (.string nm) ∧ W.cell? ⟨w.heap.size, 4, none⟩ = some (.int .u32 (wh : Int)))
            (first | assumption | exact HI.out | (with_reducible exact HS.out _ (by assumption)))
            (first | (go_at_call 30; (with_reducible refine (K30.out _).mono ?_); rintro _ w6 ⟨rfl, hb6⟩; have HB6 : Below (w.heap.size + 1) (w.alloc (.cells #[.int .u8 2, .int .i64 (f : Int), .int .i64 (d : Int), .string nm, .int .u32 (wh : Int)] 42)) w6 := ((Below.refl _ _).drew).trans (hb6.mono (by simp))))
          have HBW : Hid (Below w.heap.size w w6) := Lib.hid (((Below.refl _ w).alloc (Nat.le_refl _) _).trans (HB6.mono (Nat.le_succ _)))
          rcases Int.lt_trichotomy q 0 with hq | hq | hq
          · have HX := Lib.hid (HT0.out hq)
            have d1 : decide ((0 : Int) < q) = false := by simp; omega
            have d2 : (q == 0) = false := by simp; omega
            have HNL : Hid (N + 1 ≤ maxLen) := Lib.hid (by unfold maxLen; have := HL.out.2; rw [HJN.out] at this; omega)
            have HNB : Hid ((N + 1) * 48 ≤ 140737488355328) := Lib.hid (by have := HL.out.2; rw [HJN.out] at this; omega)
            have HBX : Hid (Below w.heap.size w (w6.drew.alloc (.cells #[.int .u8 2, .int .i64 (f : Int), .int .i64 (d : Int), .string nm, .int .u32 (wh : Int)] 42))) := Lib.hid (HBW.out.drew.alloc (by have := HBW.out.size; simpa using this) _)
            have HBS : Hid (B ≤ (w6.drew.alloc (.cells #[.int .u8 2, .int .i64 (f : Int), .int .i64 (d : Int), .string nm, .int .u32 (wh : Int)] 42)).heap.size) := Lib.hid (by have := HR.out.Bw; have := HBW.out.size; simp; omega)
            have HED : Hid ((w6.drew.alloc (.cells #[.int .u8 2, .int .i64 (f : Int), .int .i64 (d : Int), .string nm, .int .u32 (wh : Int)] 42)).ownsRow B 42 5 (.slice (some ⟨g, 0, none⟩) N c) N (es.flatMap Ed.cs)) := Lib.hid (by have := (HR.out.below HBX.out).ed; rw [HJN.out] at this; exact this)
            have HG : Hid (∀ W', World.grownBy (w6.drew.alloc (.cells #[.int .u8 2, .int .i64 (f : Int), .int .i64 (d : Int), .string nm, .int .u32 (wh : Int)] 42)) W' (Value.ownBlock (.slice (some ⟨g, 0, none⟩) N c)) → W'.cell? ⟨r, 1, none⟩ = some (.slice (some ⟨g, 0, none⟩) es.length c) ∧ W'.frozen? ⟨r, 1, none⟩ = false) := Lib.hid (fun W' hg => grow_r (HR.out.below HBX.out) hg)
            have yl6 : r < w6.heap.size := Nat.lt_of_lt_of_le yl HBW.out.size
            clear hq
            obtain ⟨z1, _, _, _, _, _, p0, p1, p2, p3, p4⟩ := HS.out w6 HB6
            go_upto_region 22 with fail
            go_region_law (first | (refine step_append_lies _ (by rfl) _ _ 23 (by rfl) B 42 i0 (.agg #[.int .u8 0, .int .i64 0, .int .i64 0, .string ⟨#[]⟩, .int .u32 0]) 5 48 Tryz.underlying23 HI0.out HZ0.out HZ1.out HZ2.out rfl (by decide) (.slice (some ⟨g, 0, none⟩) N c) N (es.flatMap Ed.cs) (by rfl) HED.out ⟨w6.heap.size, 0, none⟩ 1 1 (Ed.cs ⟨2, (f : Int), (d : Int), nm, wh⟩) (by rfl) rfl (five_at _ _ (by first | rfl | simp) ⟨2, (f : Int), (d : Int), nm, wh⟩ 42) (cs_one _) (by decide) HNL.out HNB.out HBS.out _ rfl ?_; intro g5 c5 w5 hown5 hgrow5 hat5 hlt5; obtain ⟨x5a, x5b⟩ := HG.out w5 hgrow5))
            all_goals
              go_wp2_with fail
              go_ret
              exact add_ok HR.out HX.out HBX.out (by rw [HJN.out]; exact hown5) (by rw [ob_len _ es.length N]; exact hgrow5) _ rfl
          · subst hq
            have HO7 := HT7.out rfl
            go_wp2_with fail
            go_ret
            exact add_err HR.out 7 HO7 (by decide) _ rfl HBW.out
          · have HO5 := HT5.out hq
            have d1 : decide ((0 : Int) < q) = true := by simp; omega
            go_wp2_with fail
            go_ret
            exact add_err HR.out 5 HO5 (by decide) _ rfl HBW.out
  ·
    have hk2 : ((k : Int) == 2) = false := by simp; omega
    have hl2 := lookup_nm (T := 48) Tryz.underlying48 Tryz.underlying9 zero3 (HR.out.below ((Below.refl _ w).alloc (Nat.le_refl _) (.cells #[.int .u8 (k : Int), .int .i64 fr, .int .i64 (-1), .string nm, .int .u32 (wh : Int)] 42))).nm HC.out a
    obtain ⟨oa, hoa⟩ : ∃ oa, nmAt cs a = oa := ⟨_, rfl⟩
    rw [hoa] at hl2
    have HFT : Hid ((true && (true && (true && (true && (!decide (k = 2) || q4))))) = true) := Lib.hid (by rw [decide_eq_false h2]; rfl)
    cases oa with
    | none =>
      have HO := Lib.hid (A4.out HFT.out h2 hoa)
      simp only [Option.getD_none, Option.isSome_none] at hl2
      clear A0 A1 A2 A3 A4 A5 hoa
      go_enter Tryz.func70, Tryz.ntmps70
      go_wp2_with fail
      refine (K28a.out _).mono ?_
      rintro _ _ ⟨rfl, rfl⟩
      go_wp2_with fail
      refine (K52.out _).mono ?_
      rintro _ _ ⟨rfl, rfl⟩
      go_wp2_with fail
      refine (K53.out _).mono ?_
      rintro _ _ ⟨rfl, rfl⟩
      clear K28a K52 K53
      go_wp2_with fail
      go_ret
      exact add_err HR.out 6 HO.out (by decide) _ rfl ((Below.refl _ _).alloc (Nat.le_refl _) _)
    | some f =>
      have HO := Lib.hid (A5.out HFT.out h2 f hoa)
      simp only [Option.getD_some, Option.isSome_some] at hl2
      clear A0 A1 A2 A3 A4 A5 hoa
      obtain ⟨i0, hi0, hz0, hz1, hz2⟩ := info42
      have HI0 := Lib.hid hi0
      have HZ0 := Lib.hid hz0
      have HZ1 := Lib.hid hz1
      have HZ2 := Lib.hid hz2
      clear hi0 hz0 hz1 hz2
      obtain ⟨lo, hlo⟩ : ∃ lo, es.getLast? = lo := ⟨_, rfl⟩
      cases lo with
      | none =>
        have hes := List.getLast?_eq_none_iff.1 hlo
        obtain ⟨A, c, hU, _⟩ := Li.own_slice HR.out.ed
        subst hU
        rw [hes] at y1
        simp only [List.length_nil] at y1
        have HO2 : Hid (o = (0, ⟨k, (f : Int), (-1), nm, wh⟩)) := Lib.hid (by rw [HO.out]; unfold tailM; rw [hlo])
        clear hlo
        have HX : Hid (o = (0, ⟨k, (f : Int), (-1), nm, wh⟩)) := HO2
        have HJN : Hid (es.length = 0) := Lib.hid (by rw [hes]; rfl)
        have HNL : Hid (0 + 1 ≤ maxLen) := Lib.hid (by unfold maxLen; omega)
        have HNB : Hid ((0 + 1) * 48 ≤ 140737488355328) := Lib.hid (by omega)
        have HBX : Hid (Below w.heap.size w ((w.alloc (.cells #[.int .u8 (k : Int), .int .i64 (f : Int), .int .i64 (-1), .string nm, .int .u32 (wh : Int)] 42)).drew.alloc (.cells #[.int .u8 (k : Int), .int .i64 (f : Int), .int .i64 (-1), .string nm, .int .u32 (wh : Int)] 42))) := Lib.hid (((Below.refl _ w).alloc (Nat.le_refl _) _).drew.alloc (by simp) _)
        have HBS : Hid (B ≤ ((w.alloc (.cells #[.int .u8 (k : Int), .int .i64 (f : Int), .int .i64 (-1), .string nm, .int .u32 (wh : Int)] 42)).drew.alloc (.cells #[.int .u8 (k : Int), .int .i64 (f : Int), .int .i64 (-1), .string nm, .int .u32 (wh : Int)] 42)).heap.size) := Lib.hid (by have := HR.out.Bw; simp; omega)
        have HED : Hid (((w.alloc (.cells #[.int .u8 (k : Int), .int .i64 (f : Int), .int .i64 (-1), .string nm, .int .u32 (wh : Int)] 42)).drew.alloc (.cells #[.int .u8 (k : Int), .int .i64 (f : Int), .int .i64 (-1), .string nm, .int .u32 (wh : Int)] 42)).ownsRow B 42 5 (.slice A 0 c) 0 (es.flatMap Ed.cs)) := Lib.hid (by have := (HR.out.below HBX.out).ed; rw [HJN.out] at this; exact this)
        have HG : Hid (∀ W', World.grownBy ((w.alloc (.cells #[.int .u8 (k : Int), .int .i64 (f : Int), .int .i64 (-1), .string nm, .int .u32 (wh : Int)] 42)).drew.alloc (.cells #[.int .u8 (k : Int), .int .i64 (f : Int), .int .i64 (-1), .string nm, .int .u32 (wh : Int)] 42)) W' (Value.ownBlock (.slice A 0 c)) → W'.cell? ⟨r, 1, none⟩ = some (.slice A es.length c) ∧ W'.frozen? ⟨r, 1, none⟩ = false) := Lib.hid (fun W' hg => grow_r (HR.out.below HBX.out) (by rw [ob_len A es.length 0]; exact hg))
        clear hes
        go_enter Tryz.func70, Tryz.ntmps70
        go_wp2_with fail
        refine (K28a.out _).mono ?_
        rintro _ _ ⟨rfl, rfl⟩
        go_wp2_with fail
        refine (K52.out _).mono ?_
        rintro _ _ ⟨rfl, rfl⟩
        go_wp2_with fail
        refine (K53.out _).mono ?_
        rintro _ _ ⟨rfl, rfl⟩
        clear K28a K52 K53
        go_upto_region 22 with fail
        go_region_law (first | (refine step_append_lies _ (by rfl) _ _ 23 (by rfl) B 42 i0 (.agg #[.int .u8 0, .int .i64 0, .int .i64 0, .string ⟨#[]⟩, .int .u32 0]) 5 48 Tryz.underlying23 HI0.out HZ0.out HZ1.out HZ2.out rfl (by decide) (.slice A 0 c) 0 (es.flatMap Ed.cs) (by rfl) HED.out ⟨w.heap.size + 1, 0, none⟩ 1 1 (Ed.cs ⟨k, (f : Int), (-1), nm, wh⟩) (by rfl) rfl (five_at _ _ (by first | rfl | simp) ⟨k, (f : Int), (-1), nm, wh⟩ 42) (cs_one _) (by decide) HNL.out HNB.out HBS.out _ rfl ?_; intro g5 c5 w5 hown5 hgrow5 hat5 hlt5; obtain ⟨x5a, x5b⟩ := HG.out w5 hgrow5))
        all_goals
          go_wp2_with fail
          go_ret
          exact add_ok HR.out HX.out HBX.out (by rw [HJN.out]; exact hown5) (by rw [ob_len _ es.length 0]; exact hgrow5) _ rfl
      | some l =>
        obtain ⟨g, c, hU, hgl, hBg, hpos, l0, l1, l2, l3, l4⟩ := last_cells HR.out.ed hlo
        subst hU
        obtain ⟨j, hj⟩ : ∃ j, es.length = j + 1 := ⟨es.length - 1, by omega⟩
        rw [hj, Nat.add_sub_cancel] at l0 l1 l2 l3 l4
        obtain ⟨N, hN⟩ : ∃ N, es.length = N := ⟨_, rfl⟩
        rw [hN] at y1
        have hlk : l.ok := HE.out l (List.mem_of_getLast? hlo)
        have HT5 : Hid (0 < cmpE l ⟨k, (f : Int), (-1), nm, wh⟩ → o.1 = 5) := Lib.hid (fun h => by rw [HO.out]; unfold tailM; rw [hlo]; simp only; rw [if_pos h])
        have HT7 : Hid (cmpE l ⟨k, (f : Int), (-1), nm, wh⟩ = 0 → o.1 = 7) := Lib.hid (fun h => by rw [HO.out]; unfold tailM; rw [hlo]; simp only; rw [if_neg (by omega), if_pos h])
        have HT0 : Hid (cmpE l ⟨k, (f : Int), (-1), nm, wh⟩ < 0 → o = (0, ⟨k, (f : Int), (-1), nm, wh⟩)) := Lib.hid (fun h => by rw [HO.out]; unfold tailM; rw [hlo]; simp only; rw [if_neg (by omega), if_neg (by omega)])
        have K30 := Lib.hid (c30 l ⟨k, (f : Int), (-1), nm, wh⟩ hlk ⟨by first | exact hk | decide, hwh, HNM.out⟩)
        unfold Ed.v at K30
        simp only at K30
        try rw [show ((2 : Nat) : Int) = 2 from rfl] at K30
        generalize cmpE l ⟨k, (f : Int), (-1), nm, wh⟩ = q at *
        have HJ : Hid (es.length = j + 1) := Lib.hid hj
        have hj400 : j < 400 := by have := HL.out.2; omega
        have HGL := Lib.hid hgl
        have HBG := Lib.hid hBg
        have HSZ : Hid (w.heap.size ≤ w.heap.size) := Lib.hid (Nat.le_refl _)
        have hj1 : (N : Int) - 1 = (j : Int) := by omega
        have hjw : IntKind.i64.wrap ((N : Int) - 1) = (j : Int) := by rw [hj1, IntKind.wrap_i64]; omega
        have hjw2 : IntKind.i64.wrap (j : Int) = (j : Int) := by rw [IntKind.wrap_i64]; omega
        have hjn : (j : Int) < (N : Int) := by omega
        have hj2 : decide ((0 : Int) < (N : Int)) = true := by simp; omega
        have hj3 : (0 : Int) < (N : Int) := by omega
        have HJN : Hid (es.length = N) := Lib.hid hN
        have HS : Hid (∀ W, Below (w.heap.size + 1) (w.alloc (.cells #[.int .u8 (k : Int), .int .i64 (f : Int), .int .i64 (-1), .string nm, .int .u32 (wh : Int)] 42)) W → W.cell? ⟨r, 1, none⟩ = some (.slice (some ⟨g, 0, none⟩) N c) ∧ W.cell? ⟨g, j * 5, none⟩ = some (.int .u8 (l.k : Int)) ∧ W.cell? ⟨g, j * 5 + 1, none⟩ = some (.int .i64 l.fr) ∧ W.cell? ⟨g, j * 5 + 2, none⟩ = some (.int .i64 l.dt) ∧ W.cell? ⟨g, j * 5 + 3, none⟩ = some (.string l.nm) ∧ W.cell? ⟨g, j * 5 + 4, none⟩ = some (.int .u32 (l.wh : Int)) ∧ W.cell? ⟨w.heap.size, 0, none⟩ = some (.int .u8 (k : Int)) ∧ W.cell? ⟨w.heap.size, 1, none⟩ = some (.int .i64 (f : Int)) ∧ W.cell? ⟨w.heap.size, 2, none⟩ = some (.int .i64 (-1)) ∧ W.cell? ⟨w.heap.size, 3, none⟩ = some (.string nm) ∧ W.cell? ⟨w.heap.size, 4, none⟩ = some (.int .u32 (wh : Int))) := Lib.hid (fun W hW => by
          have hbW : Below w.heap.size w W := ((Below.refl _ w).alloc (Nat.le_refl _) _).trans (hW.mono (Nat.le_succ _))
          have hbox : W.heap[w.heap.size]? = _ := (hW.block w.heap.size (Nat.lt_succ_self _)).trans (heap_alloc_new w (.cells #[.int .u8 (k : Int), .int .i64 (f : Int), .int .i64 (-1), .string nm, .int .u32 (wh : Int)] 42))
          obtain ⟨b0, b1, b2, b3, b4, _⟩ := box_cells hbox
          exact ⟨(hbW.cell (p := ⟨r, 1, none⟩) yl).trans y1, (hbW.cell (p := ⟨g, _, none⟩) hgl).trans l0, (hbW.cell (p := ⟨g, _, none⟩) hgl).trans l1, (hbW.cell (p := ⟨g, _, none⟩) hgl).trans l2, (hbW.cell (p := ⟨g, _, none⟩) hgl).trans l3, (hbW.cell (p := ⟨g, _, none⟩) hgl).trans l4, b0, b1, b2, b3, b4⟩)
        clear hlo hlk hj hpos hBg hN
        go_enter Tryz.func70, Tryz.ntmps70
        go_wp2_with fail
        refine (K28a.out _).mono ?_
        rintro _ _ ⟨rfl, rfl⟩
        go_wp2_with fail
        refine (K52.out _).mono ?_
        rintro _ _ ⟨rfl, rfl⟩
        go_wp2_with fail
        refine (K53.out _).mono ?_
        rintro _ _ ⟨rfl, rfl⟩
        clear K28a K52 K53
        go_upto_region 17 with fail
        have HI := Lib.hid (HS.out _ ((Below.refl _ _).drew))
        clear l0 l1 l2 l3 l4
        go_region_held3 (fun W => W.cell? ⟨r, 1, none⟩ = some (.slice (some ⟨g, 0, none⟩) N c) ∧ W.cell? ⟨g, j * 5, none⟩ = some (.int .u8 (l.k : Int)) ∧ W.cell? ⟨g, j * 5 + 1, none⟩ = some (.int .i64 l.fr) ∧ W.cell? ⟨g, j * 5 + 2, none⟩ = some (.int .i64 l.dt) ∧ W.cell? ⟨g, j * 5 + 3, none⟩ = some (.string l.nm) ∧ W.cell? ⟨g, j * 5 + 4, none⟩ = some (.int .u32 (l.wh : Int)) ∧ W.cell? ⟨w.heap.size, 0, none⟩ = some (.int .u8 (k : Int)) ∧ W.cell? ⟨w.heap.size, 1, none⟩ = some (.int .i64 (f : Int)) ∧ W.cell? ⟨w.heap.size, 2, none⟩ = some (.int .i64 (-1)) ∧ W.cell? ⟨w.heap.size, 3, none⟩ = some (.string nm) ∧ W.cell? ⟨w.heap.size, 4, none⟩ = some (.int .u32 (wh : Int)))
          (first | assumption | exact HI.out | (with_reducible exact HS.out _ (by assumption)))
          (first | (go_at_call 30; (with_reducible refine (K30.out _).mono ?_); rintro _ w6 ⟨rfl, hb6⟩; have HB6 : Below (w.heap.size + 1) (w.alloc (.cells #[.int .u8 (k : Int), .int .i64 (f : Int), .int .i64 (-1), .string nm, .int .u32 (wh : Int)] 42)) w6 := ((Below.refl _ _).drew).trans (hb6.mono (by simp))))
        have HBW : Hid (Below w.heap.size w w6) := Lib.hid (((Below.refl _ w).alloc (Nat.le_refl _) _).trans (HB6.mono (Nat.le_succ _)))
        rcases Int.lt_trichotomy q 0 with hq | hq | hq
        · have HX := Lib.hid (HT0.out hq)
          have d1 : decide ((0 : Int) < q) = false := by simp; omega
          have d2 : (q == 0) = false := by simp; omega
          have HNL : Hid (N + 1 ≤ maxLen) := Lib.hid (by unfold maxLen; have := HL.out.2; rw [HJN.out] at this; omega)
          have HNB : Hid ((N + 1) * 48 ≤ 140737488355328) := Lib.hid (by have := HL.out.2; rw [HJN.out] at this; omega)
          have HBX : Hid (Below w.heap.size w (w6.drew.alloc (.cells #[.int .u8 (k : Int), .int .i64 (f : Int), .int .i64 (-1), .string nm, .int .u32 (wh : Int)] 42))) := Lib.hid (HBW.out.drew.alloc (by have := HBW.out.size; simpa using this) _)
          have HBS : Hid (B ≤ (w6.drew.alloc (.cells #[.int .u8 (k : Int), .int .i64 (f : Int), .int .i64 (-1), .string nm, .int .u32 (wh : Int)] 42)).heap.size) := Lib.hid (by have := HR.out.Bw; have := HBW.out.size; simp; omega)
          have HED : Hid ((w6.drew.alloc (.cells #[.int .u8 (k : Int), .int .i64 (f : Int), .int .i64 (-1), .string nm, .int .u32 (wh : Int)] 42)).ownsRow B 42 5 (.slice (some ⟨g, 0, none⟩) N c) N (es.flatMap Ed.cs)) := Lib.hid (by have := (HR.out.below HBX.out).ed; rw [HJN.out] at this; exact this)
          have HG : Hid (∀ W', World.grownBy (w6.drew.alloc (.cells #[.int .u8 (k : Int), .int .i64 (f : Int), .int .i64 (-1), .string nm, .int .u32 (wh : Int)] 42)) W' (Value.ownBlock (.slice (some ⟨g, 0, none⟩) N c)) → W'.cell? ⟨r, 1, none⟩ = some (.slice (some ⟨g, 0, none⟩) es.length c) ∧ W'.frozen? ⟨r, 1, none⟩ = false) := Lib.hid (fun W' hg => grow_r (HR.out.below HBX.out) hg)
          have yl6 : r < w6.heap.size := Nat.lt_of_lt_of_le yl HBW.out.size
          clear hq
          obtain ⟨z1, _, _, _, _, _, p0, p1, p2, p3, p4⟩ := HS.out w6 HB6
          go_upto_region 22 with fail
          go_region_law (first | (refine step_append_lies _ (by rfl) _ _ 23 (by rfl) B 42 i0 (.agg #[.int .u8 0, .int .i64 0, .int .i64 0, .string ⟨#[]⟩, .int .u32 0]) 5 48 Tryz.underlying23 HI0.out HZ0.out HZ1.out HZ2.out rfl (by decide) (.slice (some ⟨g, 0, none⟩) N c) N (es.flatMap Ed.cs) (by rfl) HED.out ⟨w6.heap.size, 0, none⟩ 1 1 (Ed.cs ⟨k, (f : Int), (-1), nm, wh⟩) (by rfl) rfl (five_at _ _ (by first | rfl | simp) ⟨k, (f : Int), (-1), nm, wh⟩ 42) (cs_one _) (by decide) HNL.out HNB.out HBS.out _ rfl ?_; intro g5 c5 w5 hown5 hgrow5 hat5 hlt5; obtain ⟨x5a, x5b⟩ := HG.out w5 hgrow5))
          all_goals
            go_wp2_with fail
            go_ret
            exact add_ok HR.out HX.out HBX.out (by rw [HJN.out]; exact hown5) (by rw [ob_len _ es.length N]; exact hgrow5) _ rfl
        · subst hq
          have HO7 := HT7.out rfl
          go_wp2_with fail
          go_ret
          exact add_err HR.out 7 HO7 (by decide) _ rfl HBW.out
        · have HO5 := HT5.out hq
          have d1 : decide ((0 : Int) < q) = true := by simp; omega
          go_wp2_with fail
          go_ret
          exact add_err HR.out 5 HO5 (by decide) _ rfl HBW.out

end Go.Proofs.YtblfnjdbihhglaaGreatDoor
