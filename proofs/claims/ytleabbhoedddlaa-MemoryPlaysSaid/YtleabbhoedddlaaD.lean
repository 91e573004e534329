import Derived.Test.YtleabbhoedddlaaB
namespace Go.Proofs.Ytleabbhoedddlaa
open Go.ChangeShapes Go.WideShapes Go.ChangeAt Go.RowKit
set_option linter.unusedVariables false
/-- it is no memory that a call made -/
def Nope (w : World) (a : Option Addr) : Prop := Calls Try.prog 29 #[.pointer a] w fun e w' => e = .returned (.bool false) ∧ w = w'
theorem Nope.nil (w : World) : Nope w none := there0 w
theorem Nope.zero {w : World} {b : Nat} {C : Array Value} (h : Blk w b 64 C) (h0 : C[0]? = some (.bool false)) : Nope w (some ⟨b, 0, none⟩) :=
  there1 b false w (by rw [h.cell]; exact h0)
section
variable (a : Option Addr) (w : World) (h : Nope w a)
theorem nLoad (n : Nat) : Nope w a → Calls Try.prog 17 #[.pointer a, .int .u32 (n : Int), .int .i64 1] w fun e w' => e = .returned (.tuple #[.int .u32 0, .int .i64 1]) ∧ w = w' := by
  intro h
  have K := Lib.hid h
  clear h
  go_enter Try.func17, Try.ntmps17
  go_wp2_with fail
  refine (show Calls _ _ _ _ _ from K.out).mono ?_
  rintro _ _ ⟨rfl, rfl⟩
  go_wp2_with fail
  go_ret2
  exact ⟨rfl, rfl⟩
theorem nStore (n : Nat) (s : Int) (x : Nat) : Nope w a → Calls Try.prog 12 #[.pointer a, .int .u32 (n : Int), .int .i64 s, .int .u32 (x : Int)] w fun e w' => e = .returned (.int .i64 1) ∧ w = w' := by
  intro h
  have K := Lib.hid h
  clear h
  go_enter Try.func12, Try.ntmps12
  go_wp2_with fail
  refine (show Calls _ _ _ _ _ from K.out).mono ?_
  rintro _ _ ⟨rfl, rfl⟩
  go_wp2_with fail
  go_ret
  exact ⟨rfl, rfl⟩
theorem nBytes (x y : Int) : Nope w a → Calls Try.prog 14 #[.pointer a, .int .i64 x, .int .i64 y] w fun e w' => e = .returned (.tuple #[.slice none 0 0, .int .i64 1]) ∧ w = w' := by
  intro h
  have K := Lib.hid h
  clear h
  go_enter Try.func14, Try.ntmps14
  go_wp2_with fail
  refine (show Calls _ _ _ _ _ from K.out).mono ?_
  rintro _ _ ⟨rfl, rfl⟩
  go_wp2_with fail
  go_ret2
  exact ⟨rfl, rfl⟩
theorem nTags (x y : Int) : Nope w a → Calls Try.prog 15 #[.pointer a, .int .i64 x, .int .i64 y] w fun e w' => e = .returned (.tuple #[.int .i64 0, .int .i64 1]) ∧ w = w' := by
  intro h
  have K := Lib.hid h
  clear h
  go_enter Try.func15, Try.ntmps15
  go_wp2_with fail
  refine (show Calls _ _ _ _ _ from K.out).mono ?_
  rintro _ _ ⟨rfl, rfl⟩
  go_wp2_with fail
  go_ret2
  exact ⟨rfl, rfl⟩
theorem nCopy : Nope w a → Calls Try.prog 19 #[.pointer a] w fun e w' => e = .returned (.pointer none) ∧ w = w' := by
  intro h
  have K := Lib.hid h
  clear h
  go_enter Try.func19, Try.ntmps19
  go_wp2_with fail
  refine (show Calls _ _ _ _ _ from K.out).mono ?_
  rintro _ _ ⟨rfl, rfl⟩
  go_wp2_with fail
  go_ret
  exact ⟨rfl, rfl⟩
end
/-- a call stays what it is where memory is made -/
theorem Nope.keep {w w1 : World} {a : Option Addr} (h : Nope w a) (h1 : a = none ∨ ∃ b C, a = some ⟨b, 0, none⟩ ∧ Blk w1 b 64 C ∧ C[0]? = some (.bool false)) : Nope w1 a := by
  rcases h1 with rfl | ⟨b, C, rfl, hb, hc⟩
  · exact Nope.nil w1
  · exact Nope.zero hb hc
theorem nLoadCap (a : Option Addr) (n : Nat) (w : World) (h : ∀ o, Nope (w.alloc o) a) : Calls Try.prog 18 #[.pointer a, .int .u32 (n : Int)] w fun e w' => e = .returned (.tuple #[.agg #[.bool false, .int .u32 0, .int .u8 0, .int .u8 0, .int .u8 0, .int .u16 0, .int .u16 0], .int .i64 1]) ∧ Below w.heap.size w w' := by
  have K := Lib.hid h
  clear h
  go_enter Try.func18, Try.ntmps18
  go_wp2_with fail
  refine (show Calls _ _ _ _ _ from K.out _).mono ?_
  rintro _ _ ⟨rfl, rfl⟩
  go_wp2_with fail
  refine bodyPost_ret (v := .tuple #[.agg #[.bool false, .int .u32 0, .int .u8 0, .int .u8 0, .int .u8 0, .int .u16 0, .int .u16 0], .int .i64 1]) (by simp [results, Try.results18, go_sem]) rfl ⟨rfl, ?_⟩
  first | exact (Below.refl _ _).alloc (Nat.le_refl _) _ | exact ((((((((Below.refl _ _).alloc (Nat.le_refl _) _).setCell (Nat.le_refl _) _).setCell (Nat.le_refl _) _).setCell (Nat.le_refl _) _).setCell (Nat.le_refl _) _).setCell (Nat.le_refl _) _).setCell (Nat.le_refl _) _).setCell (Nat.le_refl _) _
theorem nStoreCap (a : Option Addr) (n : Nat) (v0 v1 v2 v3 v4 v5 v6 : Value) (w : World) (h : ∀ o, Nope (w.alloc o) a) : Calls Try.prog 13 #[.pointer a, .int .u32 (n : Int), .agg #[v0, v1, v2, v3, v4, v5, v6]] w fun e w' => e = .returned (.int .i64 1) ∧ Below w.heap.size w w' := by
  have K := Lib.hid h
  clear h
  go_enter Try.func13, Try.ntmps13
  go_wp2_with fail
  refine (show Calls _ _ _ _ _ from K.out _).mono ?_
  rintro _ _ ⟨rfl, rfl⟩
  go_wp2_with fail
  go_ret
  exact ⟨rfl, (Below.refl _ _).alloc (Nat.le_refl _) _⟩
/-- what may not be is refused, and nothing turns -/
theorem storeNo (b at_ n : Nat) (s : Int) (C : Array Value) (w : World) (hm : Me w b C) (hw : wordB at_ s = false) :
    Calls Try.prog 12 #[.pointer (some ⟨b, 0, none⟩), .int .u32 (at_ : Int), .int .i64 s, .int .u32 (n : Int)] w fun e w' => e = .returned (.int .i64 2) ∧ w = w' := by
  have K := Lib.hid (c30 at_ s)
  rw [hw] at K
  have KT := Lib.hid hm.there
  clear hw hm
  go_enter Try.func12, Try.ntmps12
  go_wp2_with fail
  refine KT.out.mono ?_
  rintro _ _ ⟨rfl, rfl⟩
  go_wp2_with fail
  refine (K.out _).mono ?_
  rintro _ _ ⟨rfl, rfl⟩
  go_wp2_with fail
  go_ret
  exact ⟨rfl, rfl⟩
end Go.Proofs.Ytleabbhoedddlaa
