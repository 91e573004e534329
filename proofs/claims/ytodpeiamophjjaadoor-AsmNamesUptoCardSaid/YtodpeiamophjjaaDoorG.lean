import Derived.Test.YtodpeiamophjjaaDoorF
namespace Go.Proofs.YtodpeiamophjjaaDoor
open Go.ChangeShapes Go.WideShapes Go.ChangeAt Go.RowKit
open In (i32)
set_option linter.unusedVariables false
set_option maxHeartbeats 8000000 in
/-- where a name stands -/
theorem c10 (base : Nat) (A : Option Addr) (n c j : Nat) (g : Nat → Ln) (s : ByteArray) (w : World) (hA : Ls w A n g) (hn : n ≤ 268435456) (hnd : ¬ Dup g n) (hj : j < n) (hl : (g j).lab = s) (hs : s ≠ ⟨#[]⟩) (hz : s.size ≤ 9223372036854775807) (hb : base + 4 * j < 4294967296) :
    Calls Tryd.prog 10 #[.int .u32 (base : Int), .slice A n c, .string s] w fun e w' => e = .returned (.tuple #[.int .u32 ((base : Int) + 4 * (j : Int)), .int .i64 0]) ∧ Below w.heap.size w w' := by
  have K17 := Lib.hid (c17 A n c g w hA (by omega))
  unfold LabPost at K17
  have HND := Lib.hid hnd
  have HL := Lib.hid hl
  have HS := Lib.hid hs
  have HK9 := Lib.hid (key9 s hz)
  have HJ := Lib.hid hj
  clear hA hnd hl hs hz
  go_enter Tryd.func10, Tryd.ntmps10
  go_wp2_with fail
  refine (K17.out).mono ?_
  rintro _ w1 (⟨k, hd, rfl, b1⟩ | ⟨-, rfl, ⟨D, hown, h2, h3, h4⟩, b1⟩)
  · exact absurd hd HND.out
  · have HO := Lib.hid hown
    have hh : Maps.has D (.string s.data.toList) = true := (h3 s).mpr ⟨j, HJ.out, HL.out, HS.out⟩
    have hat0 := h4 j HJ.out (by rw [HL.out]; exact HS.out)
    rw [HL.out] at hat0
    have HV : Hid (∀ c : Int, D.atKey (.string s.data.toList) (.lit (.int .i64 0)) = .lit (.int .i64 c) → c = (j : Int)) := Lib.hid fun c hc => by
      rw [hat0] at hc
      simpa using hc.symm
    have HB1 := Lib.hid b1
    clear hown h2 h3 h4 hat0 b1
    go_wp2_with (at_lookup; refine wpList_lookup_own_ok_int _ rfl _ _ 59 rfl 9 3 .i64 law9 Tryd.underlying59 Tryd.underlying3 (zero3 _) w.heap.size n D rfl HO.out _ _ rfl HK9.out ?_; intro c' hat hwc; obtain rfl := HV.out c' hat)
    go_ret2
    exact ⟨by first | rfl | go_num, HB1.out⟩
def g1 : Nat → Ln := fun _ => ⟨⟨#[97]⟩, 5, 0, 0, 0, 0, ⟨#[97]⟩⟩
def g2 : Nat → Ln := fun _ => ⟨⟨#[]⟩, 21, 0, 0, 0, 0, ⟨#[97]⟩⟩
def g3 : Nat → Ln := fun _ => ⟨⟨#[]⟩, 5, 0, 0, 0, 0, ⟨#[98]⟩⟩
def g4 : Nat → Ln := fun k => ⟨if k = 0 then ⟨#[97]⟩ else ⟨#[98]⟩, 21, 0, 0, 0, 0, ⟨#[]⟩⟩
theorem ne97 : (⟨#[97]⟩ : ByteArray) ≠ ⟨#[]⟩ := by decide
theorem ne98 : (⟨#[98]⟩ : ByteArray) ≠ ⟨#[]⟩ := by decide
theorem dup_one (g : Nat → Ln) : ¬ Dup g 1 := fun ⟨j, k, h1, h2, _⟩ => by omega
theorem miss1 : ¬ Miss g1 1 := fun ⟨k, hk, h1, h2⟩ => h2 0 (by omega) rfl
theorem idx1 : idx g1 1 0 = 0 := by
  have := (idx_spec (g := g1) (n := 1) (k := 0) (fun h => miss1 ⟨0, by omega, h⟩) ne97).1
  omega
theorem put1 : putK g1 1 0 = (99, 0) := by
  unfold putK effm
  rw [if_neg (show (g1 0).tt ≠ _ from ne97), idx1]
  kernel_rfl
theorem err1 : errP g1 1 = 0 := errP_ok (dup_one _) miss1 (fun k hk => by
  obtain rfl : k = 0 := by omega
  unfold badK
  rw [put1]
  rfl)
theorem err2 : errP g2 1 = 6 := errP_miss (dup_one _) ⟨0, by omega, ne97, fun j hj h => by cases h⟩
theorem err3 : errP g3 1 = 6 := errP_miss (dup_one _) ⟨0, by omega, ne98, fun j hj h => by cases h⟩
theorem ls_one (w : World) (x : Ln) (hx : x.ok) : Ls (w.alloc (.cells #[.string x.lab, .int .u8 (x.o : Int), .int .u8 (x.d : Int), .int .u8 (x.a : Int), .int .u8 (x.b : Int), .int .i32 x.m, .string x.tt] 37)) (some ⟨w.heap.size, 0, none⟩) 1 (fun _ => x) := fun _ => by
  refine ⟨w.heap.size, 0, rfl, by simp, fun k hk => ?_⟩
  obtain rfl : k = 0 := by omega
  refine ⟨hx, ?_, ?_, ?_, ?_, ?_, ?_, ?_⟩ <;> exact World.cell?_alloc_at _ _ _ _ (by simp)
theorem gl_alloc {w : World} (h : Gl2 w) (o : Obj) : Gl2 (w.alloc o) := h.below ((Below.refl _ _).alloc (Nat.le_refl _) _)
theorem p1 (w : World) (hG : Gl2 w) : Calls Tryd.prog 7 #[.int .u32 0, .slice (some ⟨w.heap.size, 0, none⟩) 1 1] (w.alloc (.cells #[.string ⟨#[97]⟩, .int .u8 5, .int .u8 0, .int .u8 0, .int .u8 0, .int .i32 0, .string ⟨#[97]⟩] 37))
    fun e w' => ∃ A c, e = .returned (.tuple #[.slice A 1 c, .int .i64 0]) ∧ Us w' A 1 (fun _ => 99) ∧ Below w.heap.size w w' := by
  refine (c7 0 _ 1 1 g1 _ (ls_one w (g1 0) ⟨by decide, by decide, by decide, by decide, ⟨by decide, by decide⟩, by decide, by decide⟩) (gl_alloc hG _) (by decide)).mono ?_
  rintro e w' (⟨er, he, h0, -⟩ | ⟨-, V, rfl, ho, hb⟩)
  · rw [err1] at he; exact absurd he.symm h0
  · have hw : wcells g1 1 1 = (List.range 1).map fun _ => Value.int .u32 (((fun _ => 99 : Nat → Nat) 0 : Nat) : Int) := by
      unfold wcells
      apply List.map_congr_left
      intro k hk
      obtain rfl : k = 0 := by have := List.mem_range.1 hk; omega
      rw [put1]
    rw [hw] at ho
    obtain ⟨A, c, rfl, hu⟩ := own_us (f := fun _ => 99) ho
    exact ⟨A, c, rfl, hu, ((Below.refl _ _).alloc (Nat.le_refl _) _).trans (hb.mono (by simp))⟩
theorem pE (x : Ln) (hx : x.ok) (h6 : errP (fun _ => x) 1 = 6) (w : World) (hG : Gl2 w) : Calls Tryd.prog 7 #[.int .u32 0, .slice (some ⟨w.heap.size, 0, none⟩) 1 1] (w.alloc (.cells #[.string x.lab, .int .u8 (x.o : Int), .int .u8 (x.d : Int), .int .u8 (x.a : Int), .int .u8 (x.b : Int), .int .i32 x.m, .string x.tt] 37))
    fun e w' => e = .returned (.tuple #[.slice none 0 0, .int .i64 6]) ∧ Below w.heap.size w w' := by
  refine (c7 0 _ 1 1 (fun _ => x) _ (ls_one w x hx) (gl_alloc hG _) (by decide)).mono ?_
  rintro e w' (⟨er, he, h0, rfl, hb⟩ | ⟨he, -⟩)
  · rw [h6] at he
    subst he
    exact ⟨rfl, ((Below.refl _ _).alloc (Nat.le_refl _) _).trans (hb.mono (by simp))⟩
  · rw [h6] at he; cases he
theorem p2 (w : World) (hG : Gl2 w) : Calls Tryd.prog 7 #[.int .u32 0, .slice (some ⟨w.heap.size, 0, none⟩) 1 1] (w.alloc (.cells #[.string ⟨#[]⟩, .int .u8 21, .int .u8 0, .int .u8 0, .int .u8 0, .int .i32 0, .string ⟨#[97]⟩] 37))
    fun e w' => e = .returned (.tuple #[.slice none 0 0, .int .i64 6]) ∧ Below w.heap.size w w' := pE (g2 0) ⟨by decide, by decide, by decide, by decide, ⟨by decide, by decide⟩, by decide, by decide⟩ err2 w hG
theorem p3 (w : World) (hG : Gl2 w) : Calls Tryd.prog 7 #[.int .u32 0, .slice (some ⟨w.heap.size, 0, none⟩) 1 1] (w.alloc (.cells #[.string ⟨#[]⟩, .int .u8 5, .int .u8 0, .int .u8 0, .int .u8 0, .int .i32 0, .string ⟨#[98]⟩] 37))
    fun e w' => e = .returned (.tuple #[.slice none 0 0, .int .i64 6]) ∧ Below w.heap.size w w' := pE (g3 0) ⟨by decide, by decide, by decide, by decide, ⟨by decide, by decide⟩, by decide, by decide⟩ err3 w hG
theorem p4 (w : World) : Calls Tryd.prog 10 #[.int .u32 8, .slice (some ⟨w.heap.size, 0, none⟩) 2 2, .string ⟨#[98]⟩] (w.alloc (.cells #[.string ⟨#[97]⟩, .int .u8 21, .int .u8 0, .int .u8 0, .int .u8 0, .int .i32 0, .string ⟨#[]⟩, .string ⟨#[98]⟩, .int .u8 21, .int .u8 0, .int .u8 0, .int .u8 0, .int .i32 0, .string ⟨#[]⟩] 37))
    fun e w' => e = .returned (.tuple #[.int .u32 12, .int .i64 0]) ∧ Below w.heap.size w w' := by
  have hL : Ls (w.alloc (.cells #[.string ⟨#[97]⟩, .int .u8 21, .int .u8 0, .int .u8 0, .int .u8 0, .int .i32 0, .string ⟨#[]⟩, .string ⟨#[98]⟩, .int .u8 21, .int .u8 0, .int .u8 0, .int .u8 0, .int .i32 0, .string ⟨#[]⟩] 37)) (some ⟨w.heap.size, 0, none⟩) 2 g4 := fun _ => by
    refine ⟨w.heap.size, 0, rfl, by simp, fun k hk => ?_⟩
    rcases (by omega : k = 0 ∨ k = 1) with rfl | rfl
    · refine ⟨⟨by decide, by decide, by decide, by decide, ⟨by decide, by decide⟩, by decide, by decide⟩, ?_, ?_, ?_, ?_, ?_, ?_, ?_⟩ <;> exact World.cell?_alloc_at _ _ _ _ (by simp)
    · refine ⟨⟨by decide, by decide, by decide, by decide, ⟨by decide, by decide⟩, by decide, by decide⟩, ?_, ?_, ?_, ?_, ?_, ?_, ?_⟩ <;> exact World.cell?_alloc_at _ _ _ _ (by simp)
  have hnd : ¬ Dup g4 2 := fun ⟨j, k, h1, h2, h3, _⟩ => by
    obtain ⟨rfl, rfl⟩ : j = 0 ∧ k = 1 := by omega
    exact absurd h3 (by decide)
  refine (c10 8 _ 2 2 1 g4 ⟨#[98]⟩ _ hL (by decide) hnd (by decide) rfl ne98 (by decide) (by decide)).mono ?_
  rintro e w' ⟨rfl, hb⟩
  exact ⟨rfl, ((Below.refl _ _).alloc (Nat.le_refl _) _).trans (hb.mono (by simp))⟩
theorem bcell {W w1 : World} (hb : Below W.heap.size W w1) : (∀ b o, b < W.heap.size → w1.cell? ⟨b, o, none⟩ = W.cell? ⟨b, o, none⟩) :=
  fun b o h => hb.cell (p := ⟨b, o, none⟩) h
end Go.Proofs.YtodpeiamophjjaaDoor
