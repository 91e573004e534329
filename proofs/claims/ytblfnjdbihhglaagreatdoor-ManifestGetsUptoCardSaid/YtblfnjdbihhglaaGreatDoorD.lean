import Derived.Test.YtblfnjdbihhglaaGreatDoorLC
import Derived.Laws.Cover1
namespace Go.Proofs.YtblfnjdbihhglaaGreatDoor
open Go.ChangeShapes Go.WideShapes Go.ChangeAt Go.RowKit
set_option linter.unusedVariables false
set_option linter.unusedSimpArgs false
/-- an edge -/
structure Ed where
  k : Nat
  fr : Int
  dt : Int
  nm : ByteArray
  wh : Nat
def Ed.ok (x : Ed) : Prop := x.k < 256 ∧ x.wh < 4294967296 ∧ x.nm.size ≤ 9223372036854775807
def Ed.v (x : Ed) : Value := .agg #[.int .u8 (x.k : Int), .int .i64 x.fr, .int .i64 x.dt, .string x.nm, .int .u32 (x.wh : Int)]
/-- what compare answers -/
def cmpI (a b : Int) : Int := if a < b then -1 else if b < a then 1 else 0
def cmpS (s t : ByteArray) : Int := if Op.bytesLess s.toList t.toList = true then -1 else if (s.toList == t.toList) = true then 0 else 1
theorem c73 (a : Int) (w : World) : Calls Tryz.prog 73 #[.int .u8 a] w fun e w' => e = .returned (.bool false) ∧ w = w' := by
  go_enter Tryz.func73, Tryz.ntmps73
  go_wp2_with fail
  go_ret
  exact ⟨by simp, rfl⟩
theorem c74 (a : Int) (w : World) : Calls Tryz.prog 74 #[.int .i64 a] w fun e w' => e = .returned (.bool false) ∧ w = w' := by
  go_enter Tryz.func74, Tryz.ntmps74
  go_wp2_with fail
  go_ret
  exact ⟨by simp, rfl⟩
theorem c75 (a : ByteArray) (w : World) : Calls Tryz.prog 75 #[.string a] w fun e w' => e = .returned (.bool false) ∧ w = w' := by
  go_enter Tryz.func75, Tryz.ntmps75
  go_wp2_with fail
  go_ret
  exact ⟨by simp, rfl⟩
theorem c76 (a : Int) (w : World) : Calls Tryz.prog 76 #[.int .u32 a] w fun e w' => e = .returned (.bool false) ∧ w = w' := by
  go_enter Tryz.func76, Tryz.ntmps76
  go_wp2_with fail
  go_ret
  exact ⟨by simp, rfl⟩
theorem c55 (a b : Int) (w : World) : Calls Tryz.prog 55 #[.int .u8 a, .int .u8 b] w fun e w' => e = .returned (.int .i64 (cmpI a b)) ∧ w = w' := by
  have K := Lib.hid c73
  go_enter Tryz.func55, Tryz.ntmps55
  go_wp2_with (refine (K.out _ _).mono ?_; rintro _ _ ⟨rfl, rfl⟩)
  all_goals
    go_ret
    refine ⟨congrArg Ending.returned (congrArg (Value.int .i64) ?_), rfl⟩
    simp only [cmpI]
    repeat split
    all_goals (try omega)
    all_goals rfl
theorem c56 (a b : Int) (w : World) : Calls Tryz.prog 56 #[.int .i64 a, .int .i64 b] w fun e w' => e = .returned (.int .i64 (cmpI a b)) ∧ w = w' := by
  have K := Lib.hid c74
  go_enter Tryz.func56, Tryz.ntmps56
  go_wp2_with (refine (K.out _ _).mono ?_; rintro _ _ ⟨rfl, rfl⟩)
  all_goals
    go_ret
    refine ⟨congrArg Ending.returned (congrArg (Value.int .i64) ?_), rfl⟩
    simp only [cmpI]
    repeat split
    all_goals (try omega)
    all_goals rfl
theorem c58 (a b : Int) (w : World) : Calls Tryz.prog 58 #[.int .u32 a, .int .u32 b] w fun e w' => e = .returned (.int .i64 (cmpI a b)) ∧ w = w' := by
  have K := Lib.hid c76
  go_enter Tryz.func58, Tryz.ntmps58
  go_wp2_with (refine (K.out _ _).mono ?_; rintro _ _ ⟨rfl, rfl⟩)
  all_goals
    go_ret
    refine ⟨congrArg Ending.returned (congrArg (Value.int .i64) ?_), rfl⟩
    simp only [cmpI]
    repeat split
    all_goals (try omega)
    all_goals rfl
theorem c57 (a b : ByteArray) (w : World) : Calls Tryz.prog 57 #[.string a, .string b] w fun e w' => e = .returned (.int .i64 (cmpS a b)) ∧ w = w' := by
  have K := Lib.hid c75
  go_enter Tryz.func57, Tryz.ntmps57
  go_wp2_with (refine (K.out _ _).mono ?_; rintro _ _ ⟨rfl, rfl⟩)
  all_goals
    go_ret
    refine ⟨congrArg Ending.returned (congrArg (Value.int .i64) ?_), rfl⟩
    simp_all [cmpS]
/-- the first that is not 0 -/
def orI (a b c d e : Int) : Int := if a ≠ 0 then a else if b ≠ 0 then b else if c ≠ 0 then c else if d ≠ 0 then d else e
def five (a b c d e : Int) : Nat → Int
  | 0 => a
  | 1 => b
  | 2 => c
  | 3 => d
  | _ => e
theorem orI_at (a b c d e : Int) (k : Nat) (hk : k < 5) (h : ∀ j, j < k → five a b c d e j = 0) (hn : five a b c d e k ≠ 0) : orI a b c d e = five a b c d e k := by
  have h0 := h 0
  have h1 := h 1
  have h2 := h 2
  have h3 := h 3
  rcases (by omega : k = 0 ∨ k = 1 ∨ k = 2 ∨ k = 3 ∨ k = 4) with rfl | rfl | rfl | rfl | rfl <;> simp_all [five, orI]
theorem orI_no (a b c d e : Int) (h : ∀ j, j < 5 → five a b c d e j = 0) : orI a b c d e = 0 := by
  have h0 := h 0
  have h1 := h 1
  have h2 := h 2
  have h3 := h 3
  have h4 := h 4
  simp_all [five, orI]
theorem c54 (B : Nat) (a b c d e : Int) (w : World) (hB : B < w.heap.size) (hc : ∀ k, k < 5 → w.cell? ⟨B, k, none⟩ = some (.int .i64 (five a b c d e k))) : Calls Tryz.prog 54 #[.slice (some ⟨B, 0, none⟩) 5 5] w fun en w' => en = .returned (.int .i64 (orI a b c d e)) ∧ w = w' := by
  have HO := Lib.hid (orI_at a b c d e)
  have HZ := Lib.hid (orI_no a b c d e)
  have HC := Lib.hid hc
  generalize orI a b c d e = o at *
  generalize five a b c d e = f at *
  clear hc
  go_enter Tryz.func54, Tryz.ntmps54
  go_wp2_with fail
  go_loopw [8] (fun i wr => wr = w ∧ ∃ k : Nat, k ≤ 5 ∧ i = .int .i64 (k : Int) ∧ ∀ j, j < k → f j = 0) (fun i _ => 5 - (intOf i).toNat)
  case atStart => exact ⟨rfl, 0, by omega, rfl, fun i hi => absurd hi (by omega)⟩
  case round =>
    obtain ⟨rfl, k, hk, rfl, hin⟩ := hrel
    have HIN := Lib.hid hin
    clear hin
    by_cases hlt : k < 5
    · have q0 := HC.out k hlt
      have HLT := Lib.hid hlt
      have hot := Lib.hid (HO.out k hlt HIN.out)
      have HST : Hid (f k = 0 → ∀ j, j < k + 1 → f j = 0) := Lib.hid fun h j hj => by
        by_cases e : j = k
        · rw [e]; exact h
        · exact HIN.out j (by omega)
      obtain ⟨x, hx⟩ : ∃ x, f k = x := ⟨_, rfl⟩
      rw [hx] at q0 hot HST
      clear hx hk
      by_cases h0 : x = 0
      · have b0 : (x != 0) = false := by simp [h0]
        have HS := Lib.hid (HST.out h0)
        clear h0
        go_wp2_with fail
        go_roundw
        case rel => exact ⟨trivial, k + 1, HLT.out, by go_num, HS.out⟩
        case measure => simp [intOf]; have := HLT.out; omega
      · have b0 : (x != 0) = true := by simp [h0]
        have HS := Lib.hid (hot.out h0)
        clear h0
        go_wp2_with fail
        go_ret
        exact ⟨by rw [HS.out]; rfl, rfl⟩
    · have HS := Lib.hid (HZ.out (fun j hj => HIN.out j (by omega)))
      go_wp2_with fail
      go_ret
      exact ⟨by rw [HS.out]; rfl, rfl⟩
end Go.Proofs.YtblfnjdbihhglaaGreatDoor
