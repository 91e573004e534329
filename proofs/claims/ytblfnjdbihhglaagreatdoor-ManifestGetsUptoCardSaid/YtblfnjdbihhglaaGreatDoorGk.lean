import Derived.Test.YtblfnjdbihhglaaGreatDoorGd
import Derived.Test.YtblfnjdbihhglaaGreatDoorGb
import Derived.Deep.RegionHeld3
namespace Go.Proofs.YtblfnjdbihhglaaGreatDoor
open Go.ChangeShapes Go.WideShapes Go.ChangeAt Go.RowKit
open Li (Ss Gl)
set_option linter.unusedVariables false
set_option linter.unusedSimpArgs false
/-- is it an edge's line? -/
noncomputable def okR (n : Nat) (h : Nat → ByteArray) : Bool :=
  if h 0 = sExport ∧ n = 5 then (decB (h 3) && decide (decN (h 3) ≤ 255)) && (decB (h 4) && decide (decN (h 4) ≤ 65535))
  else if h 0 = sCall ∧ n = 4 then true
  else if h 0 = sDevice ∧ n = 5 then (decB (h 3) && decide (decN (h 3) ≤ 65535)) && (decB (h 4) && decide (decN (h 4) ≤ 65535))
  else if h 0 = sShare ∧ n = 4 then decide (h 3 = ⟨#[114]⟩) || decide (h 3 = ⟨#[114, 119]⟩)
  else if h 0 = sStart ∧ n = 3 then true
  else false
/-- its edge -/
def edR (h : Nat → ByteArray) : Ed :=
  if h 0 = sExport then ⟨1, 0, -1, h 2, decN (h 3) + 256 * decN (h 4)⟩
  else if h 0 = sCall then ⟨2, 0, -1, h 3, 0⟩
  else if h 0 = sDevice then ⟨3, 0, -1, h 2, decN (h 3) + 65536 * decN (h 4)⟩
  else if h 0 = sShare then ⟨4, 0, -1, h 2, if h 3 = ⟨#[114, 119]⟩ then 3 else 1⟩
  else ⟨5, 0, -1, h 2, 0⟩
def EdPost (n : Nat) (h : Nat → ByteArray) (w : World) (e : Ending) (w' : World) : Prop :=
  ∃ x : Ed, e = .returned (.tuple #[x.v, .bool (okR n h)]) ∧ x.ok ∧ (okR n h = true → x = edR h) ∧ Below w.heap.size w w'
theorem is_s (t : ByteArray) (l : List UInt8) : (t.toList == l) = decide (t = ⟨l.toArray⟩) := by
  rw [← neq_str, ByteArray.toList_eq ⟨l.toArray⟩]
def z42 : Obj := .cells #[.int .u8 0, .int .i64 0, .int .i64 0, .string ⟨#[]⟩, .int .u32 0] 42
theorem ed_fin {w2 W3 : World} {p : Nat} {a0 a1 a2 a3 a4 : Value} (hp : w2.heap[p]? = some (.cells #[a0, a1, a2, a3, a4] 42 (0, 0))) (hW : W3.heap[p]? = w2.heap[p]?) (k fr dt s q : Value) :
    (((((W3.setCell ⟨p, 0, none⟩ k).setCell ⟨p, 1, none⟩ fr).setCell ⟨p, 2, none⟩ dt).setCell ⟨p, 3, none⟩ s).setCell ⟨p, 4, none⟩ q).heap[p]? = some (.cells #[k, fr, dt, s, q] 42 (0, 0)) := by
  rw [heap_setCell_at _ _ _ _ (heap_setCell_at _ _ _ _ (heap_setCell_at _ _ _ _ (heap_setCell_at _ _ _ _ (heap_setCell_at _ _ _ _ (hW.trans hp)))))]
  rfl
set_option maxRecDepth 100000 in
set_option maxHeartbeats 8000000 in
theorem c24a (b o n c : Nat) (h : Nat → ByteArray) (w : World) (hbl : b < w.heap.size) (hn : n = 5) (h0 : h 0 = sExport) (hc : ∀ k, k < n → w.cell? ⟨b, o + k, none⟩ = some (.string (h k)) ∧ (h k).size ≤ 9223372036854775807) (hg : Gt w) :
    Calls Tryz.prog 24 #[.slice (some ⟨b, o, none⟩) n c] w fun e w' => EdPost n h w e w' := by
  have HE : Hid (edR h = ⟨1, 0, -1, h 2, decN (h 3) + 256 * decN (h 4)⟩) := Lib.hid (by unfold edR; rw [if_pos h0])
  have HK : Hid (okR n h = ((decB (h 3) && decide (decN (h 3) ≤ 255)) && (decB (h 4) && decide (decN (h 4) ≤ 65535)))) := Lib.hid (by unfold okR; rw [if_pos ⟨h0, hn⟩])
  subst hn
  have q0 := (hc 0 (by omega)).1
  have q2 := (hc 2 (by omega)).1
  have q3 := (hc 3 (by omega)).1
  have q4 := (hc 4 (by omega)).1
  rw [h0, Nat.add_zero] at q0
  unfold sExport at q0
  have K3 : Hid (∀ W, Below w.heap.size w W → Calls Tryz.prog 48 #[.string (h 3), .int .u32 255] W fun e w' => ∃ n : Nat, n < 4294967296 ∧ e = .returned (.tuple #[.int .u32 (n : Int), .bool (decB (h 3) && decide (decN (h 3) ≤ 255))]) ∧ (decB (h 3) = true → n = decN (h 3)) ∧ Below W.heap.size W w') := Lib.hid (fun W hW => c48 (h 3) 255 (hc 3 (by omega)).2 W (hg.below hW))
  have K4 : Hid (∀ W, Below w.heap.size w W → Calls Tryz.prog 48 #[.string (h 4), .int .u32 65535] W fun e w' => ∃ n : Nat, n < 4294967296 ∧ e = .returned (.tuple #[.int .u32 (n : Int), .bool (decB (h 4) && decide (decN (h 4) ≤ 65535))]) ∧ (decB (h 4) = true → n = decN (h 4)) ∧ Below W.heap.size W w') := Lib.hid (fun W hW => c48 (h 4) 65535 (hc 4 (by omega)).2 W (hg.below hW))
  have HS2 := Lib.hid (hc 2 (by omega)).2
  have HD3 : Hid ((decB (h 3) && decide (decN (h 3) ≤ 255)) = true → decB (h 3) = true ∧ decN (h 3) ≤ 255) := Lib.hid (fun hh => by simpa using hh)
  have HD4 : Hid ((decB (h 4) && decide (decN (h 4) ≤ 65535)) = true → decB (h 4) = true ∧ decN (h 4) ≤ 65535) := Lib.hid (fun hh => by simpa using hh)
  unfold EdPost
  rw [HK.out, HE.out]
  generalize (decB (h 3) && decide (decN (h 3) ≤ 255)) = q at *
  generalize (decB (h 4) && decide (decN (h 4) ≤ 65535)) = p at *
  generalize h 2 = t2 at *
  generalize h 3 = t3 at *
  generalize h 4 = t4 at *
  clear hc hg h0 HK HE
  go_enter Tryz.func24, Tryz.ntmps24
  go_wp2_with fail
  refine (K3.out _ (((Below.refl _ w).alloc (Nat.le_refl _) _).alloc (by simp) _)).mono ?_
  rintro _ w1 ⟨x, hx, rfl, hxd, hb1⟩
  have hb01 : Below w.heap.size w w1 := (((Below.refl _ w).alloc (Nat.le_refl _) _).alloc (by simp) _).trans (hb1.mono (by simp; omega))
  have HB1 := Lib.hid hb1
  have HB01 := Lib.hid hb01
  have HXD := Lib.hid hxd
  have HX := Lib.hid hx
  have z : ∀ j, w1.cell? ⟨b, j, none⟩ = w.cell? ⟨b, j, none⟩ := fun j => hb01.cell (p := ⟨b, j, none⟩) hbl
  rw [← z] at q0 q2 q3 q4
  clear hb1 hb01 hxd hx z K3
  go_wp2_with fail
  refine (K4.out _ HB01.out).mono ?_
  rintro _ w2 ⟨y, hy, rfl, hyd, hb2⟩
  have hz : ((w.alloc (.cells #[.int .u8 0, .int .i64 0, .int .i64 0, .string ⟨#[]⟩, .int .u32 0] 42)).alloc (.cells #[.int .u8 0, .int .i64 0, .int .i64 (-1), .string ⟨#[]⟩, .int .u32 0] 42)).heap.size = w.heap.size + 2 := by simp
  have hb12 : Below (w.heap.size + 2) ((w.alloc (.cells #[.int .u8 0, .int .i64 0, .int .i64 0, .string ⟨#[]⟩, .int .u32 0] 42)).alloc (.cells #[.int .u8 0, .int .i64 0, .int .i64 (-1), .string ⟨#[]⟩, .int .u32 0] 42)) w2 := by
    have hh := HB1.out
    rw [hz] at hh
    exact hh.trans (hb2.mono (by have := hh.size; omega))
  have hp4 : w2.heap[w.heap.size + 1]? = some (.cells #[.int .u8 0, .int .i64 0, .int .i64 (-1), .string ⟨#[]⟩, .int .u32 0] 42 (0, 0)) := (hb12.block _ (by omega)).trans (by
    have := heap_alloc_new (w.alloc (.cells #[.int .u8 0, .int .i64 0, .int .i64 0, .string ⟨#[]⟩, .int .u32 0] 42)) (.cells #[.int .u8 0, .int .i64 0, .int .i64 (-1), .string ⟨#[]⟩, .int .u32 0] 42)
    simpa using this)
  have hp2 : w2.heap[w.heap.size]? = some (.cells #[.int .u8 0, .int .i64 0, .int .i64 0, .string ⟨#[]⟩, .int .u32 0] 42 (0, 0)) := (hb12.block _ (by omega)).trans ((Below.heap_alloc _ _ _ (by simp)).trans (heap_alloc_new w _))
  have HB2 : Hid (Below w.heap.size w w2) := Lib.hid (HB01.out.trans (hb2.mono HB01.out.size))
  have HYD := Lib.hid hyd
  have HY := Lib.hid hy
  have z : w2.cell? ⟨b, o + 2, none⟩ = w1.cell? ⟨b, o + 2, none⟩ := hb2.cell (p := ⟨b, o + 2, none⟩) (Nat.lt_of_lt_of_le hbl HB01.out.size)
  rw [← z] at q2
  obtain ⟨u0, u1, u2, u3, u4, u5⟩ := box_cells hp4
  obtain ⟨v0, v1, v2, v3, v4, v5⟩ := box_cells hp2
  obtain ⟨qw, hqw, hqn⟩ : ∃ qw : Nat, ((x : Int) + 256 * (y : Int)) % 4294967296 = (qw : Int) ∧ qw = (x + 256 * y) % 4294967296 := ⟨_, by omega, rfl⟩
  have hql : qw < 4294967296 := by omega
  have HF := Lib.hid (ed_fin (W3 := ((w2.setCell ⟨w.heap.size + 1, 0, none⟩ (.int .u8 1)).setCell ⟨w.heap.size + 1, 3, none⟩ (.string t2)).setCell ⟨w.heap.size + 1, 4, none⟩ (.int .u32 (qw : Int))) hp2
    ((Below.heap_setCell _ _ _ _ (by show w.heap.size ≠ w.heap.size + 1; omega)).trans ((Below.heap_setCell _ _ _ _ (by show w.heap.size ≠ w.heap.size + 1; omega)).trans (Below.heap_setCell _ _ _ _ (by show w.heap.size ≠ w.heap.size + 1; omega)))) (.int .u8 1) (.int .i64 0) (.int .i64 (-1)) (.string t2) (.int .u32 (qw : Int)))
  have HQ : Hid ((q && p) = true → qw = decN t3 + 256 * decN t4) := Lib.hid (fun hh => by
    simp only [Bool.and_eq_true] at hh
    obtain ⟨a1, a2⟩ := HD3.out hh.1
    obtain ⟨a3, a4⟩ := HD4.out hh.2
    rw [hqn, HXD.out a1, HYD.out a3]
    omega)
  have HQL := Lib.hid hql
  clear hb2 hyd hy z K4 hz hb12 q0 q3 q4 hp4 hp2 hqn hql
  cases q
  all_goals
    go_upto_region 9 with fail
    go_region
    all_goals
      go_wp2_with fail
      obtain ⟨x0, x1, x2, x3, x4, _⟩ := box_cells HF.out
      refine bodyPost_ret (v := .tuple #[.agg #[.int .u8 1, .int .i64 0, .int .i64 (-1), .string t2, .int .u32 (qw : Int)], .bool _]) (by simp [results, Tryz.results24, go_sem, x0, x1, x2, x3, x4]; rfl) rfl ?_
      refine ⟨⟨1, 0, -1, t2, qw⟩, rfl, ⟨by simp only; omega, HQL.out, HS2.out⟩, fun hh => by rw [HQ.out hh], Below.drew ?_⟩
      exact (((((((HB2.out.setCell (Nat.le_succ _) _).setCell (Nat.le_succ _) _).setCell (Nat.le_succ _) _).setCell (Nat.le_refl _) _).setCell (Nat.le_refl _) _).setCell (Nat.le_refl _) _).setCell (Nat.le_refl _) _).setCell (Nat.le_refl _) _
set_option maxRecDepth 100000 in
set_option maxHeartbeats 8000000 in
theorem c24b (b o n c : Nat) (h : Nat → ByteArray) (w : World) (hbl : b < w.heap.size) (hn : n = 5) (h0 : h 0 = sDevice) (hc : ∀ k, k < n → w.cell? ⟨b, o + k, none⟩ = some (.string (h k)) ∧ (h k).size ≤ 9223372036854775807) (hg : Gt w) :
    Calls Tryz.prog 24 #[.slice (some ⟨b, o, none⟩) n c] w fun e w' => EdPost n h w e w' := by
  have HE : Hid (edR h = ⟨3, 0, -1, h 2, decN (h 3) + 65536 * decN (h 4)⟩) := Lib.hid (by unfold edR; rw [if_neg (by rw [h0]; decide), if_neg (by rw [h0]; decide), if_pos h0])
  have HK : Hid (okR n h = ((decB (h 3) && decide (decN (h 3) ≤ 65535)) && (decB (h 4) && decide (decN (h 4) ≤ 65535)))) := Lib.hid (by unfold okR; rw [if_neg (fun hh => absurd (h0.symm.trans hh.1) (by decide)), if_neg (fun hh => absurd (h0.symm.trans hh.1) (by decide)), if_pos ⟨h0, hn⟩])
  subst hn
  have q0 := (hc 0 (by omega)).1
  have q2 := (hc 2 (by omega)).1
  have q3 := (hc 3 (by omega)).1
  have q4 := (hc 4 (by omega)).1
  rw [h0, Nat.add_zero] at q0
  unfold sDevice at q0
  have K3 : Hid (∀ W, Below w.heap.size w W → Calls Tryz.prog 48 #[.string (h 3), .int .u32 65535] W fun e w' => ∃ n : Nat, n < 4294967296 ∧ e = .returned (.tuple #[.int .u32 (n : Int), .bool (decB (h 3) && decide (decN (h 3) ≤ 65535))]) ∧ (decB (h 3) = true → n = decN (h 3)) ∧ Below W.heap.size W w') := Lib.hid (fun W hW => c48 (h 3) 65535 (hc 3 (by omega)).2 W (hg.below hW))
  have K4 : Hid (∀ W, Below w.heap.size w W → Calls Tryz.prog 48 #[.string (h 4), .int .u32 65535] W fun e w' => ∃ n : Nat, n < 4294967296 ∧ e = .returned (.tuple #[.int .u32 (n : Int), .bool (decB (h 4) && decide (decN (h 4) ≤ 65535))]) ∧ (decB (h 4) = true → n = decN (h 4)) ∧ Below W.heap.size W w') := Lib.hid (fun W hW => c48 (h 4) 65535 (hc 4 (by omega)).2 W (hg.below hW))
  have HS2 := Lib.hid (hc 2 (by omega)).2
  have HD3 : Hid ((decB (h 3) && decide (decN (h 3) ≤ 65535)) = true → decB (h 3) = true ∧ decN (h 3) ≤ 65535) := Lib.hid (fun hh => by simpa using hh)
  have HD4 : Hid ((decB (h 4) && decide (decN (h 4) ≤ 65535)) = true → decB (h 4) = true ∧ decN (h 4) ≤ 65535) := Lib.hid (fun hh => by simpa using hh)
  unfold EdPost
  rw [HK.out, HE.out]
  generalize (decB (h 3) && decide (decN (h 3) ≤ 65535)) = q at *
  generalize (decB (h 4) && decide (decN (h 4) ≤ 65535)) = p at *
  generalize h 2 = t2 at *
  generalize h 3 = t3 at *
  generalize h 4 = t4 at *
  clear hc hg h0 HK HE
  go_enter Tryz.func24, Tryz.ntmps24
  go_wp2_with fail
  refine (K3.out _ (((Below.refl _ w).alloc (Nat.le_refl _) _).alloc (by simp) _)).mono ?_
  rintro _ w1 ⟨x, hx, rfl, hxd, hb1⟩
  have hb01 : Below w.heap.size w w1 := (((Below.refl _ w).alloc (Nat.le_refl _) _).alloc (by simp) _).trans (hb1.mono (by simp; omega))
  have HB1 := Lib.hid hb1
  have HB01 := Lib.hid hb01
  have HXD := Lib.hid hxd
  have HX := Lib.hid hx
  have z : ∀ j, w1.cell? ⟨b, j, none⟩ = w.cell? ⟨b, j, none⟩ := fun j => hb01.cell (p := ⟨b, j, none⟩) hbl
  rw [← z] at q0 q2 q3 q4
  clear hb1 hb01 hxd hx z K3
  go_wp2_with fail
  refine (K4.out _ HB01.out).mono ?_
  rintro _ w2 ⟨y, hy, rfl, hyd, hb2⟩
  have hz : ((w.alloc (.cells #[.int .u8 0, .int .i64 0, .int .i64 0, .string ⟨#[]⟩, .int .u32 0] 42)).alloc (.cells #[.int .u8 0, .int .i64 0, .int .i64 (-1), .string ⟨#[]⟩, .int .u32 0] 42)).heap.size = w.heap.size + 2 := by simp
  have hb12 : Below (w.heap.size + 2) ((w.alloc (.cells #[.int .u8 0, .int .i64 0, .int .i64 0, .string ⟨#[]⟩, .int .u32 0] 42)).alloc (.cells #[.int .u8 0, .int .i64 0, .int .i64 (-1), .string ⟨#[]⟩, .int .u32 0] 42)) w2 := by
    have hh := HB1.out
    rw [hz] at hh
    exact hh.trans (hb2.mono (by have := hh.size; omega))
  have hp4 : w2.heap[w.heap.size + 1]? = some (.cells #[.int .u8 0, .int .i64 0, .int .i64 (-1), .string ⟨#[]⟩, .int .u32 0] 42 (0, 0)) := (hb12.block _ (by omega)).trans (by
    have := heap_alloc_new (w.alloc (.cells #[.int .u8 0, .int .i64 0, .int .i64 0, .string ⟨#[]⟩, .int .u32 0] 42)) (.cells #[.int .u8 0, .int .i64 0, .int .i64 (-1), .string ⟨#[]⟩, .int .u32 0] 42)
    simpa using this)
  have hp2 : w2.heap[w.heap.size]? = some (.cells #[.int .u8 0, .int .i64 0, .int .i64 0, .string ⟨#[]⟩, .int .u32 0] 42 (0, 0)) := (hb12.block _ (by omega)).trans ((Below.heap_alloc _ _ _ (by simp)).trans (heap_alloc_new w _))
  have HB2 : Hid (Below w.heap.size w w2) := Lib.hid (HB01.out.trans (hb2.mono HB01.out.size))
  have HYD := Lib.hid hyd
  have HY := Lib.hid hy
  have z : w2.cell? ⟨b, o + 2, none⟩ = w1.cell? ⟨b, o + 2, none⟩ := hb2.cell (p := ⟨b, o + 2, none⟩) (Nat.lt_of_lt_of_le hbl HB01.out.size)
  rw [← z] at q2
  obtain ⟨u0, u1, u2, u3, u4, u5⟩ := box_cells hp4
  obtain ⟨v0, v1, v2, v3, v4, v5⟩ := box_cells hp2
  obtain ⟨qw, hqw, hqn⟩ : ∃ qw : Nat, ((x : Int) + 65536 * (y : Int)) % 4294967296 = (qw : Int) ∧ qw = (x + 65536 * y) % 4294967296 := ⟨_, by omega, rfl⟩
  have hql : qw < 4294967296 := by omega
  have HF := Lib.hid (ed_fin (W3 := ((w2.setCell ⟨w.heap.size + 1, 0, none⟩ (.int .u8 3)).setCell ⟨w.heap.size + 1, 3, none⟩ (.string t2)).setCell ⟨w.heap.size + 1, 4, none⟩ (.int .u32 (qw : Int))) hp2
    ((Below.heap_setCell _ _ _ _ (by show w.heap.size ≠ w.heap.size + 1; omega)).trans ((Below.heap_setCell _ _ _ _ (by show w.heap.size ≠ w.heap.size + 1; omega)).trans (Below.heap_setCell _ _ _ _ (by show w.heap.size ≠ w.heap.size + 1; omega)))) (.int .u8 3) (.int .i64 0) (.int .i64 (-1)) (.string t2) (.int .u32 (qw : Int)))
  have HQ : Hid ((q && p) = true → qw = decN t3 + 65536 * decN t4) := Lib.hid (fun hh => by
    simp only [Bool.and_eq_true] at hh
    obtain ⟨a1, a2⟩ := HD3.out hh.1
    obtain ⟨a3, a4⟩ := HD4.out hh.2
    rw [hqn, HXD.out a1, HYD.out a3]
    omega)
  have HQL := Lib.hid hql
  clear hb2 hyd hy z K4 hz hb12 q0 q3 q4 hp4 hp2 hqn hql
  cases q
  all_goals
    go_upto_region 16 with fail
    go_region
    all_goals
      go_wp2_with fail
      obtain ⟨x0, x1, x2, x3, x4, _⟩ := box_cells HF.out
      refine bodyPost_ret (v := .tuple #[.agg #[.int .u8 3, .int .i64 0, .int .i64 (-1), .string t2, .int .u32 (qw : Int)], .bool _]) (by simp [results, Tryz.results24, go_sem, x0, x1, x2, x3, x4]; rfl) rfl ?_
      refine ⟨⟨3, 0, -1, t2, qw⟩, rfl, ⟨by simp only; omega, HQL.out, HS2.out⟩, fun hh => by rw [HQ.out hh], Below.drew ?_⟩
      exact (((((((HB2.out.setCell (Nat.le_succ _) _).setCell (Nat.le_succ _) _).setCell (Nat.le_succ _) _).setCell (Nat.le_refl _) _).setCell (Nat.le_refl _) _).setCell (Nat.le_refl _) _).setCell (Nat.le_refl _) _).setCell (Nat.le_refl _) _
end Go.Proofs.YtblfnjdbihhglaaGreatDoor
namespace Go.Proofs.YtblfnjdbihhglaaGreatDoor
open Go.ChangeShapes Go.WideShapes Go.ChangeAt Go.RowKit
open Li (Ss Gl)
set_option linter.unusedVariables false
set_option linter.unusedSimpArgs false
set_option maxRecDepth 100000 in
set_option maxHeartbeats 8000000 in
theorem c24c (b o n c : Nat) (h : Nat → ByteArray) (w : World) (hbl : b < w.heap.size) (hn : n = 4) (h0 : h 0 = sCall) (hc : ∀ k, k < n → w.cell? ⟨b, o + k, none⟩ = some (.string (h k)) ∧ (h k).size ≤ 9223372036854775807) :
    Calls Tryz.prog 24 #[.slice (some ⟨b, o, none⟩) n c] w fun e w' => EdPost n h w e w' := by
  have HE : Hid (edR h = ⟨2, 0, -1, h 3, 0⟩) := Lib.hid (by unfold edR; rw [if_neg (by rw [h0]; decide), if_pos h0])
  have HK : Hid (okR n h = true) := Lib.hid (by unfold okR; rw [if_neg (fun hh => absurd (h0.symm.trans hh.1) (by decide)), if_pos ⟨h0, hn⟩])
  subst hn
  have q0 := (hc 0 (by omega)).1
  have q3 := (hc 3 (by omega)).1
  rw [h0, Nat.add_zero] at q0
  unfold sCall at q0
  have HS := Lib.hid (hc 3 (by omega)).2
  unfold EdPost
  rw [HK.out, HE.out]
  generalize h 3 = t3 at *
  clear hc h0 HK HE
  go_enter Tryz.func24, Tryz.ntmps24
  go_upto_region 11 with fail
  go_region
  all_goals
    go_wp2_with fail
    refine bodyPost_ret (v := .tuple #[.agg #[.int .u8 2, .int .i64 0, .int .i64 (-1), .string t3, .int .u32 0], .bool true]) (by simp [results, Tryz.results24, go_sem]) rfl ?_
    exact ⟨⟨2, 0, -1, t3, 0⟩, rfl, ⟨by simp only; omega, by simp only; omega, HS.out⟩, (fun hh => by first | rfl | cases hh), Below.drew (((Below.refl _ w).alloc (Nat.le_refl _) _).alloc (by simp) _)⟩
set_option maxRecDepth 100000 in
set_option maxHeartbeats 8000000 in
theorem c24d (b o n c : Nat) (h : Nat → ByteArray) (w : World) (hbl : b < w.heap.size) (hn : n = 3) (h0 : h 0 = sStart) (hc : ∀ k, k < n → w.cell? ⟨b, o + k, none⟩ = some (.string (h k)) ∧ (h k).size ≤ 9223372036854775807) :
    Calls Tryz.prog 24 #[.slice (some ⟨b, o, none⟩) n c] w fun e w' => EdPost n h w e w' := by
  have HE : Hid (edR h = ⟨5, 0, -1, h 2, 0⟩) := Lib.hid (by unfold edR; rw [if_neg (by rw [h0]; decide), if_neg (by rw [h0]; decide), if_neg (by rw [h0]; decide), if_neg (by rw [h0]; decide)])
  have HK : Hid (okR n h = true) := Lib.hid (by unfold okR; rw [if_neg (fun hh => absurd (h0.symm.trans hh.1) (by decide)), if_neg (fun hh => absurd (h0.symm.trans hh.1) (by decide)), if_neg (fun hh => absurd (h0.symm.trans hh.1) (by decide)), if_neg (fun hh => absurd (h0.symm.trans hh.1) (by decide)), if_pos ⟨h0, hn⟩])
  subst hn
  have q0 := (hc 0 (by omega)).1
  have q2 := (hc 2 (by omega)).1
  rw [h0, Nat.add_zero] at q0
  unfold sStart at q0
  have HS := Lib.hid (hc 2 (by omega)).2
  unfold EdPost
  rw [HK.out, HE.out]
  generalize h 2 = t2 at *
  clear hc h0 HK HE
  go_enter Tryz.func24, Tryz.ntmps24
  go_upto_region 22 with fail
  go_region
  all_goals
    go_wp2_with fail
    refine bodyPost_ret (v := .tuple #[.agg #[.int .u8 5, .int .i64 0, .int .i64 (-1), .string t2, .int .u32 0], .bool true]) (by simp [results, Tryz.results24, go_sem]) rfl ?_
    exact ⟨⟨5, 0, -1, t2, 0⟩, rfl, ⟨by simp only; omega, by simp only; omega, HS.out⟩, (fun hh => by first | rfl | cases hh), Below.drew (((Below.refl _ w).alloc (Nat.le_refl _) _).alloc (by simp) _)⟩
set_option maxRecDepth 100000 in
set_option maxHeartbeats 8000000 in
theorem c24e (b o n c : Nat) (h : Nat → ByteArray) (w : World) (hbl : b < w.heap.size) (hn : n = 4) (h0 : h 0 = sShare) (h3 : h 3 = ⟨#[114]⟩) (hc : ∀ k, k < n → w.cell? ⟨b, o + k, none⟩ = some (.string (h k)) ∧ (h k).size ≤ 9223372036854775807) :
    Calls Tryz.prog 24 #[.slice (some ⟨b, o, none⟩) n c] w fun e w' => EdPost n h w e w' := by
  have HE : Hid (edR h = ⟨4, 0, -1, h 2, 1⟩) := Lib.hid (by unfold edR; rw [if_neg (by rw [h0]; decide), if_neg (by rw [h0]; decide), if_neg (by rw [h0]; decide), if_pos h0, h3]; rfl)
  have HK : Hid (okR n h = true) := Lib.hid (by unfold okR; rw [if_neg (fun hh => absurd (h0.symm.trans hh.1) (by decide)), if_neg (fun hh => absurd (h0.symm.trans hh.1) (by decide)), if_neg (fun hh => absurd (h0.symm.trans hh.1) (by decide)), if_pos ⟨h0, hn⟩, h3]; decide)
  subst hn
  have q0 := (hc 0 (by omega)).1
  have q2 := (hc 2 (by omega)).1
  have q3 := (hc 3 (by omega)).1
  rw [h0, Nat.add_zero] at q0
  rw [h3] at q3
  unfold sShare at q0
  have HS := Lib.hid (hc 2 (by omega)).2
  unfold EdPost
  rw [HK.out, HE.out]
  generalize h 2 = t2 at *
  clear hc h0 HK HE h3
  go_enter Tryz.func24, Tryz.ntmps24
  go_upto_region 18 with fail
  go_region
  all_goals
    go_wp2_with fail
    refine bodyPost_ret (v := .tuple #[.agg #[.int .u8 4, .int .i64 0, .int .i64 (-1), .string t2, .int .u32 1], .bool true]) (by simp [results, Tryz.results24, go_sem]) rfl ?_
    exact ⟨⟨4, 0, -1, t2, 1⟩, rfl, ⟨by simp only; omega, by simp only; omega, HS.out⟩, (fun hh => by first | rfl | cases hh), Below.drew (((Below.refl _ w).alloc (Nat.le_refl _) _).alloc (by simp) _)⟩
set_option maxRecDepth 100000 in
set_option maxHeartbeats 8000000 in
theorem c24f (b o n c : Nat) (h : Nat → ByteArray) (w : World) (hbl : b < w.heap.size) (hn : n = 4) (h0 : h 0 = sShare) (h3 : h 3 = ⟨#[114, 119]⟩) (hc : ∀ k, k < n → w.cell? ⟨b, o + k, none⟩ = some (.string (h k)) ∧ (h k).size ≤ 9223372036854775807) :
    Calls Tryz.prog 24 #[.slice (some ⟨b, o, none⟩) n c] w fun e w' => EdPost n h w e w' := by
  have HE : Hid (edR h = ⟨4, 0, -1, h 2, 3⟩) := Lib.hid (by unfold edR; rw [if_neg (by rw [h0]; decide), if_neg (by rw [h0]; decide), if_neg (by rw [h0]; decide), if_pos h0, h3]; rfl)
  have HK : Hid (okR n h = true) := Lib.hid (by unfold okR; rw [if_neg (fun hh => absurd (h0.symm.trans hh.1) (by decide)), if_neg (fun hh => absurd (h0.symm.trans hh.1) (by decide)), if_neg (fun hh => absurd (h0.symm.trans hh.1) (by decide)), if_pos ⟨h0, hn⟩, h3]; decide)
  subst hn
  have q0 := (hc 0 (by omega)).1
  have q2 := (hc 2 (by omega)).1
  have q3 := (hc 3 (by omega)).1
  rw [h0, Nat.add_zero] at q0
  rw [h3] at q3
  unfold sShare at q0
  have HS := Lib.hid (hc 2 (by omega)).2
  unfold EdPost
  rw [HK.out, HE.out]
  generalize h 2 = t2 at *
  clear hc h0 HK HE h3
  go_enter Tryz.func24, Tryz.ntmps24
  go_upto_region 18 with fail
  go_region
  all_goals
    go_wp2_with fail
    refine bodyPost_ret (v := .tuple #[.agg #[.int .u8 4, .int .i64 0, .int .i64 (-1), .string t2, .int .u32 3], .bool true]) (by simp [results, Tryz.results24, go_sem]) rfl ?_
    exact ⟨⟨4, 0, -1, t2, 3⟩, rfl, ⟨by simp only; omega, by simp only; omega, HS.out⟩, (fun hh => by first | rfl | cases hh), Below.drew (((Below.refl _ w).alloc (Nat.le_refl _) _).alloc (by simp) _)⟩
set_option maxRecDepth 100000 in
set_option maxHeartbeats 8000000 in
theorem c24g (b o n c : Nat) (h : Nat → ByteArray) (w : World) (hbl : b < w.heap.size) (hn0 : 0 < n) (h0 : h 0 = sExport) (hn : n ≠ 5) (hc : ∀ k, k < n → w.cell? ⟨b, o + k, none⟩ = some (.string (h k)) ∧ (h k).size ≤ 9223372036854775807) :
    Calls Tryz.prog 24 #[.slice (some ⟨b, o, none⟩) n c] w fun e w' => EdPost n h w e w' := by
  have q0 := (hc 0 hn0).1
  rw [h0, Nat.add_zero] at q0
  unfold sExport at q0
  have hn0i : (0 : Int) < (n : Int) := by omega
  have HK : Hid (okR n h = false) := Lib.hid (by unfold okR; rw [if_neg (fun hh => hn hh.2), if_neg (fun hh => absurd (h0.symm.trans hh.1) (by decide)), if_neg (fun hh => absurd (h0.symm.trans hh.1) (by decide)), if_neg (fun hh => absurd (h0.symm.trans hh.1) (by decide)), if_neg (fun hh => absurd (h0.symm.trans hh.1) (by decide))])
  have d1 : ((n : Int) == 5) = false := by simp; omega
  unfold EdPost
  rw [HK.out]
  clear hc h0 HK
  go_enter Tryz.func24, Tryz.ntmps24
  go_wp2_with fail
  refine bodyPost_ret (v := .tuple #[.agg #[.int .u8 0, .int .i64 0, .int .i64 (-1), .string ⟨#[]⟩, .int .u32 0], .bool false]) (by simp [results, Tryz.results24, go_sem]) rfl ?_
  exact ⟨⟨0, 0, -1, ⟨#[]⟩, 0⟩, rfl, ⟨by simp only; omega, by simp only; omega, by decide⟩, (fun hh => by first | rfl | cases hh), (((Below.refl _ w).alloc (Nat.le_refl _) _).alloc (by simp) _)⟩
set_option maxRecDepth 100000 in
set_option maxHeartbeats 8000000 in
theorem c24h (b o n c : Nat) (h : Nat → ByteArray) (w : World) (hbl : b < w.heap.size) (hn0 : 0 < n) (h0 : h 0 = sCall) (hn : n ≠ 4) (hc : ∀ k, k < n → w.cell? ⟨b, o + k, none⟩ = some (.string (h k)) ∧ (h k).size ≤ 9223372036854775807) :
    Calls Tryz.prog 24 #[.slice (some ⟨b, o, none⟩) n c] w fun e w' => EdPost n h w e w' := by
  have q0 := (hc 0 hn0).1
  rw [h0, Nat.add_zero] at q0
  unfold sCall at q0
  have hn0i : (0 : Int) < (n : Int) := by omega
  have HK : Hid (okR n h = false) := Lib.hid (by unfold okR; rw [if_neg (fun hh => absurd (h0.symm.trans hh.1) (by decide)), if_neg (fun hh => hn hh.2), if_neg (fun hh => absurd (h0.symm.trans hh.1) (by decide)), if_neg (fun hh => absurd (h0.symm.trans hh.1) (by decide)), if_neg (fun hh => absurd (h0.symm.trans hh.1) (by decide))])
  have d1 : ((n : Int) == 4) = false := by simp; omega
  unfold EdPost
  rw [HK.out]
  clear hc h0 HK
  go_enter Tryz.func24, Tryz.ntmps24
  go_wp2_with fail
  refine bodyPost_ret (v := .tuple #[.agg #[.int .u8 0, .int .i64 0, .int .i64 (-1), .string ⟨#[]⟩, .int .u32 0], .bool false]) (by simp [results, Tryz.results24, go_sem]) rfl ?_
  exact ⟨⟨0, 0, -1, ⟨#[]⟩, 0⟩, rfl, ⟨by simp only; omega, by simp only; omega, by decide⟩, (fun hh => by first | rfl | cases hh), (((Below.refl _ w).alloc (Nat.le_refl _) _).alloc (by simp) _)⟩
set_option maxRecDepth 100000 in
set_option maxHeartbeats 8000000 in
theorem c24i (b o n c : Nat) (h : Nat → ByteArray) (w : World) (hbl : b < w.heap.size) (hn0 : 0 < n) (h0 : h 0 = sDevice) (hn : n ≠ 5) (hc : ∀ k, k < n → w.cell? ⟨b, o + k, none⟩ = some (.string (h k)) ∧ (h k).size ≤ 9223372036854775807) :
    Calls Tryz.prog 24 #[.slice (some ⟨b, o, none⟩) n c] w fun e w' => EdPost n h w e w' := by
  have q0 := (hc 0 hn0).1
  rw [h0, Nat.add_zero] at q0
  unfold sDevice at q0
  have hn0i : (0 : Int) < (n : Int) := by omega
  have HK : Hid (okR n h = false) := Lib.hid (by unfold okR; rw [if_neg (fun hh => absurd (h0.symm.trans hh.1) (by decide)), if_neg (fun hh => absurd (h0.symm.trans hh.1) (by decide)), if_neg (fun hh => hn hh.2), if_neg (fun hh => absurd (h0.symm.trans hh.1) (by decide)), if_neg (fun hh => absurd (h0.symm.trans hh.1) (by decide))])
  have d1 : ((n : Int) == 5) = false := by simp; omega
  unfold EdPost
  rw [HK.out]
  clear hc h0 HK
  go_enter Tryz.func24, Tryz.ntmps24
  go_wp2_with fail
  refine bodyPost_ret (v := .tuple #[.agg #[.int .u8 0, .int .i64 0, .int .i64 (-1), .string ⟨#[]⟩, .int .u32 0], .bool false]) (by simp [results, Tryz.results24, go_sem]) rfl ?_
  exact ⟨⟨0, 0, -1, ⟨#[]⟩, 0⟩, rfl, ⟨by simp only; omega, by simp only; omega, by decide⟩, (fun hh => by first | rfl | cases hh), (((Below.refl _ w).alloc (Nat.le_refl _) _).alloc (by simp) _)⟩
set_option maxRecDepth 100000 in
set_option maxHeartbeats 8000000 in
theorem c24j (b o n c : Nat) (h : Nat → ByteArray) (w : World) (hbl : b < w.heap.size) (hn0 : 0 < n) (h0 : h 0 = sShare) (hn : n ≠ 4) (hc : ∀ k, k < n → w.cell? ⟨b, o + k, none⟩ = some (.string (h k)) ∧ (h k).size ≤ 9223372036854775807) :
    Calls Tryz.prog 24 #[.slice (some ⟨b, o, none⟩) n c] w fun e w' => EdPost n h w e w' := by
  have q0 := (hc 0 hn0).1
  rw [h0, Nat.add_zero] at q0
  unfold sShare at q0
  have hn0i : (0 : Int) < (n : Int) := by omega
  have HK : Hid (okR n h = false) := Lib.hid (by unfold okR; rw [if_neg (fun hh => absurd (h0.symm.trans hh.1) (by decide)), if_neg (fun hh => absurd (h0.symm.trans hh.1) (by decide)), if_neg (fun hh => absurd (h0.symm.trans hh.1) (by decide)), if_neg (fun hh => hn hh.2), if_neg (fun hh => absurd (h0.symm.trans hh.1) (by decide))])
  have d1 : ((n : Int) == 4) = false := by simp; omega
  unfold EdPost
  rw [HK.out]
  clear hc h0 HK
  go_enter Tryz.func24, Tryz.ntmps24
  go_wp2_with fail
  refine bodyPost_ret (v := .tuple #[.agg #[.int .u8 0, .int .i64 0, .int .i64 (-1), .string ⟨#[]⟩, .int .u32 0], .bool false]) (by simp [results, Tryz.results24, go_sem]) rfl ?_
  exact ⟨⟨0, 0, -1, ⟨#[]⟩, 0⟩, rfl, ⟨by simp only; omega, by simp only; omega, by decide⟩, (fun hh => by first | rfl | cases hh), (((Below.refl _ w).alloc (Nat.le_refl _) _).alloc (by simp) _)⟩
set_option maxRecDepth 100000 in
set_option maxHeartbeats 8000000 in
theorem c24k (b o n c : Nat) (h : Nat → ByteArray) (w : World) (hbl : b < w.heap.size) (hn0 : 0 < n) (h0 : h 0 = sStart) (hn : n ≠ 3) (hc : ∀ k, k < n → w.cell? ⟨b, o + k, none⟩ = some (.string (h k)) ∧ (h k).size ≤ 9223372036854775807) :
    Calls Tryz.prog 24 #[.slice (some ⟨b, o, none⟩) n c] w fun e w' => EdPost n h w e w' := by
  have q0 := (hc 0 hn0).1
  rw [h0, Nat.add_zero] at q0
  unfold sStart at q0
  have hn0i : (0 : Int) < (n : Int) := by omega
  have HK : Hid (okR n h = false) := Lib.hid (by unfold okR; rw [if_neg (fun hh => absurd (h0.symm.trans hh.1) (by decide)), if_neg (fun hh => absurd (h0.symm.trans hh.1) (by decide)), if_neg (fun hh => absurd (h0.symm.trans hh.1) (by decide)), if_neg (fun hh => absurd (h0.symm.trans hh.1) (by decide)), if_neg (fun hh => hn hh.2)])
  have d1 : ((n : Int) == 3) = false := by simp; omega
  unfold EdPost
  rw [HK.out]
  clear hc h0 HK
  go_enter Tryz.func24, Tryz.ntmps24
  go_wp2_with fail
  refine bodyPost_ret (v := .tuple #[.agg #[.int .u8 0, .int .i64 0, .int .i64 (-1), .string ⟨#[]⟩, .int .u32 0], .bool false]) (by simp [results, Tryz.results24, go_sem]) rfl ?_
  exact ⟨⟨0, 0, -1, ⟨#[]⟩, 0⟩, rfl, ⟨by simp only; omega, by simp only; omega, by decide⟩, (fun hh => by first | rfl | cases hh), (((Below.refl _ w).alloc (Nat.le_refl _) _).alloc (by simp) _)⟩
set_option maxRecDepth 100000 in
set_option maxHeartbeats 8000000 in
theorem c24l (b o n c : Nat) (h : Nat → ByteArray) (w : World) (hbl : b < w.heap.size) (hn0 : 0 < n) (h0 : h 0 = sShare) (hn : n = 4) (h3 : ¬ h 3 = ⟨#[114]⟩) (h4 : ¬ h 3 = ⟨#[114, 119]⟩) (hc : ∀ k, k < n → w.cell? ⟨b, o + k, none⟩ = some (.string (h k)) ∧ (h k).size ≤ 9223372036854775807) :
    Calls Tryz.prog 24 #[.slice (some ⟨b, o, none⟩) n c] w fun e w' => EdPost n h w e w' := by
  have q0 := (hc 0 hn0).1
  rw [h0, Nat.add_zero] at q0
  unfold sShare at q0
  have hn0i : (0 : Int) < (n : Int) := by omega
  have HK : Hid (okR n h = false) := Lib.hid (by unfold okR; rw [if_neg (fun hh => absurd (h0.symm.trans hh.1) (by decide)), if_neg (fun hh => absurd (h0.symm.trans hh.1) (by decide)), if_neg (fun hh => absurd (h0.symm.trans hh.1) (by decide)), if_pos ⟨h0, hn⟩, decide_eq_false h3, decide_eq_false h4]; rfl)
  subst hn
  have q3 := (hc 3 (by omega)).1
  have e1 := is_r (h 3)
  have e2 := is_rw (h 3)
  rw [decide_eq_false h3] at e1
  rw [decide_eq_false h4] at e2
  generalize h 3 = t3 at *
  unfold EdPost
  rw [HK.out]
  clear hc h0 HK
  go_enter Tryz.func24, Tryz.ntmps24
  go_wp2_with fail
  refine bodyPost_ret (v := .tuple #[.agg #[.int .u8 0, .int .i64 0, .int .i64 (-1), .string ⟨#[]⟩, .int .u32 0], .bool false]) (by simp [results, Tryz.results24, go_sem]) rfl ?_
  exact ⟨⟨0, 0, -1, ⟨#[]⟩, 0⟩, rfl, ⟨by simp only; omega, by simp only; omega, by decide⟩, (fun hh => by first | rfl | cases hh), (((Below.refl _ w).alloc (Nat.le_refl _) _).alloc (by simp) _)⟩
set_option maxRecDepth 100000 in
set_option maxHeartbeats 8000000 in
theorem c24m (b o n c : Nat) (h : Nat → ByteArray) (w : World) (hbl : b < w.heap.size) (hn0 : 0 < n) (n1 : ¬ h 0 = sExport) (n2 : ¬ h 0 = sCall) (n3 : ¬ h 0 = sDevice) (n4 : ¬ h 0 = sShare) (n5 : ¬ h 0 = sStart) (hc : ∀ k, k < n → w.cell? ⟨b, o + k, none⟩ = some (.string (h k)) ∧ (h k).size ≤ 9223372036854775807) :
    Calls Tryz.prog 24 #[.slice (some ⟨b, o, none⟩) n c] w fun e w' => EdPost n h w e w' := by
  have q0 := (hc 0 hn0).1
  rw [Nat.add_zero] at q0
  have hn0i : (0 : Int) < (n : Int) := by omega
  have HK : Hid (okR n h = false) := Lib.hid (by unfold okR; rw [if_neg (fun hh => n1 hh.1), if_neg (fun hh => n2 hh.1), if_neg (fun hh => n3 hh.1), if_neg (fun hh => n4 hh.1), if_neg (fun hh => n5 hh.1)])
  have e1 := is_s (h 0) [101, 120, 112, 111, 114, 116]
  rw [decide_eq_false (show ¬ h 0 = ⟨[101, 120, 112, 111, 114, 116].toArray⟩ from n1)] at e1
  have e2 := is_s (h 0) [99, 97, 108, 108]
  rw [decide_eq_false (show ¬ h 0 = ⟨[99, 97, 108, 108].toArray⟩ from n2)] at e2
  have e3 := is_s (h 0) [100, 101, 118, 105, 99, 101]
  rw [decide_eq_false (show ¬ h 0 = ⟨[100, 101, 118, 105, 99, 101].toArray⟩ from n3)] at e3
  have e4 := is_s (h 0) [115, 104, 97, 114, 101]
  rw [decide_eq_false (show ¬ h 0 = ⟨[115, 104, 97, 114, 101].toArray⟩ from n4)] at e4
  have e5 := is_s (h 0) [115, 116, 97, 114, 116]
  rw [decide_eq_false (show ¬ h 0 = ⟨[115, 116, 97, 114, 116].toArray⟩ from n5)] at e5
  unfold EdPost
  rw [HK.out]
  generalize h 0 = t0 at *
  clear hc HK n1 n2 n3 n4 n5
  go_enter Tryz.func24, Tryz.ntmps24
  go_wp2_with fail
  refine bodyPost_ret (v := .tuple #[.agg #[.int .u8 0, .int .i64 0, .int .i64 (-1), .string ⟨#[]⟩, .int .u32 0], .bool false]) (by simp [results, Tryz.results24, go_sem]) rfl ?_
  exact ⟨⟨0, 0, -1, ⟨#[]⟩, 0⟩, rfl, ⟨by simp only; omega, by simp only; omega, by decide⟩, (fun hh => by first | rfl | cases hh), (((Below.refl _ w).alloc (Nat.le_refl _) _).alloc (by simp) _)⟩
/-- the reference's edge -/
theorem c24 (A : Option Addr) (n c : Nat) (h : Nat → ByteArray) (w : World) (hA : Ss w A n h) (hn0 : 0 < n) (hg : Gt w) : Calls Tryz.prog 24 #[.slice A n c] w fun e w' => EdPost n h w e w' := by
  obtain ⟨b, o, rfl, hbl, hc⟩ := hA hn0
  by_cases h1 : h 0 = sExport
  · by_cases hn : n = 5
    · exact c24a b o n c h w hbl hn h1 hc hg
    · exact c24g b o n c h w hbl hn0 h1 hn hc
  by_cases h2 : h 0 = sCall
  · by_cases hn : n = 4
    · exact c24c b o n c h w hbl hn h2 hc
    · exact c24h b o n c h w hbl hn0 h2 hn hc
  by_cases h3 : h 0 = sDevice
  · by_cases hn : n = 5
    · exact c24b b o n c h w hbl hn h3 hc hg
    · exact c24i b o n c h w hbl hn0 h3 hn hc
  by_cases h4 : h 0 = sShare
  · by_cases hn : n = 4
    · by_cases e1 : h 3 = ⟨#[114]⟩
      · exact c24e b o n c h w hbl hn h4 e1 hc
      · by_cases e2 : h 3 = ⟨#[114, 119]⟩
        · exact c24f b o n c h w hbl hn h4 e2 hc
        · exact c24l b o n c h w hbl hn0 h4 hn e1 e2 hc
    · exact c24j b o n c h w hbl hn0 h4 hn hc
  by_cases h5 : h 0 = sStart
  · by_cases hn : n = 3
    · exact c24d b o n c h w hbl hn h5 hc
    · exact c24k b o n c h w hbl hn0 h5 hn hc
  exact c24m b o n c h w hbl hn0 h1 h2 h3 h4 h5 hc
end Go.Proofs.YtblfnjdbihhglaaGreatDoor
