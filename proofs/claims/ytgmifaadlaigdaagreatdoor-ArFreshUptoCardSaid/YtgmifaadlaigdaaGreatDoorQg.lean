import Derived.Test.YtgmifaadlaigdaaGreatDoorQf
import Derived.Test.YtgmifaadlaigdaaGreatDoorOh
import Derived.Lib.ConvBytes
namespace Go.Proofs.YtgmifaadlaigdaaGreatDoor
open Go.ChangeShapes Go.WideShapes Go.ChangeAt Go.RowKit
set_option linter.unusedVariables false
set_option maxHeartbeats 2000000 in
theorem c53_no (h : ByteArray) (c : UInt8) (hh : hasB h c = false) (w : World) :
    Calls Tryz.prog 53 #[.string h, .string ⟨#[c]⟩] w fun e w' => e = .returned (.tuple #[.string h, .string ⟨#[]⟩, .bool false]) ∧ ∃ q, w' = w.drewN q := by
  have K86 : Hid (∀ w, Calls Tryz.prog 86 #[.string h, .string ⟨#[c]⟩] w fun e w' => e = .returned (.int .i64 (-1)) ∧ w = w') := Lib.hid (fun w => (Tryz.stringslite_Index_one h c w).mono fun _ _ ⟨h1, h2⟩ => ⟨by rw [h1, idx_none hh], h2.symm⟩)
  have K71 : Hid (∀ w, Calls Tryz.prog 71 #[.string h, .string ⟨#[c]⟩] w fun e w' => e = .returned (.tuple #[.string h, .string ⟨#[]⟩, .bool false]) ∧ ∃ q, w' = w.drewN q) := Lib.hid (fun w => by
    go_enter Tryz.func71, Tryz.ntmps71
    go_wp2_with fail
    refine (K86.out _).mono ?_
    rintro _ _ ⟨rfl, rfl⟩
    go_wp2_with fail
    go_ret3
    exact ⟨rfl, 0, rfl⟩)
  go_enter Tryz.func53, Tryz.ntmps53
  go_wp2_with fail
  refine (K71.out _).mono ?_
  rintro _ _ ⟨rfl, q, rfl⟩
  go_wp2_with fail
  go_ret3
  exact ⟨rfl, q, rfl⟩
theorem c55 (s : ByteArray) (hs : s.size ≤ 16777216) (w : World) : Calls Tryz.prog 55 #[.string s] w fun e w' => e = .returned (.string s) ∧ Below w.heap.size w w' := by
  have K75 := Lib.hid (Tryz.stringslite_Clone s w (by omega))
  go_enter Tryz.func55, Tryz.ntmps55
  go_wp2_with fail
  refine K75.out.mono ?_
  rintro _ w1 ⟨rfl, hb⟩
  have HB := Lib.hid hb
  clear hb
  go_wp2_with fail
  go_ret
  exact ⟨rfl, HB.out⟩
/-- the head's name without its blanks -/
def trS (h : ByteArray) : ByteArray := strN (bb h) (trimN (bb h) h.size)
theorem c33 (h : ByteArray) (hs : h.size ≤ 16777216) (w : World) : Calls Tryz.prog 33 #[.string h] w fun e w' => e = .returned (.bool ((trS h).toList == [47])) ∧ w = w' := by
  have K52 : Hid (∀ w, Calls Tryz.prog 52 #[.string h, .string ⟨#[32]⟩] w fun e w' => e = .returned (.string (trS h)) ∧ w = w') := Lib.hid (fun w => (Tryz.strings_TrimRight_one h 32 (by decide) w (by omega)).mono fun _ _ ⟨h1, h2⟩ => ⟨by rw [h1, trim_list]; rfl, h2.symm⟩)
  generalize trS h = t at *
  go_enter Tryz.func33, Tryz.ntmps33
  go_wp2_with fail
  refine (K52.out _).mono ?_
  rintro _ _ ⟨rfl, rfl⟩
  go_wp2_with fail
  go_ret
  exact ⟨rfl, rfl⟩
/-- a piece -/
structure Pc where
  nm : ByteArray
  at' : Nat
  body : ByteArray
/-- so many pieces stand there -/
def Ps (w : World) (A : Option Addr) (n : Nat) (g : Nat → Pc) : Prop :=
  0 < n → ∃ b o, A = some ⟨b, o, none⟩ ∧ b < w.heap.size ∧ ∀ k, k < n → w.cell? ⟨b, o + k * 3, none⟩ = some (.string (g k).nm) ∧ w.cell? ⟨b, o + k * 3 + 1, none⟩ = some (.int .i64 ((g k).at' : Int)) ∧ w.cell? ⟨b, o + k * 3 + 2, none⟩ = some (.string (g k).body) ∧
    (g k).nm.size ≤ 65536 ∧ (g k).body.size ≤ 65536 ∧ (g k).at' ≤ 65536
/-- may the members be? -/
def AllS (g : Nat → Pc) (n : Nat) : Prop := ∀ i, i < n → gdS (g i).nm ∧ ∀ k, k < i → nmS (g k).nm ≠ nmS (g i).nm
theorem alls_step {g : Nat → Pc} {k : Nat} : AllS g (k + 1) ↔ AllS g k ∧ gdS (g k).nm ∧ ∀ j, j < k → nmS (g j).nm ≠ nmS (g k).nm :=
  ⟨fun h => ⟨fun i hi => h i (by omega), h k (by omega)⟩, fun ⟨h1, h2⟩ i hi => by
    by_cases e : i = k
    · subst e; exact h2
    · exact h1 i (by omega)⟩
/-- bytes that stand in a row of their own -/
def Hb (w : World) (b : Nat) (s : ByteArray) : Prop := ∃ cs fr, w.heap[b]? = some (.cells cs 5 fr) ∧ ∀ j, j < s.size → cs[j]? = some (.int .u8 (bb s j : Int))
/-- rows of bytes stay -/
def K5 (w w' : World) : Prop := ∀ (b : Nat) (cs : Array Value) (fr : Nat × Nat), w.heap[b]? = some (.cells cs 5 fr) → w'.heap[b]? = some (.cells cs 5 fr)
theorem Hb.keep {w w' : World} {b : Nat} {s : ByteArray} (h : Hb w b s) (hk : K5 w w') : Hb w' b s := by
  obtain ⟨cs, fr, h1, h2⟩ := h
  exact ⟨cs, fr, hk b cs fr h1, h2⟩
theorem lt_of {w : World} {b : Nat} {o : Obj} (h : w.heap[b]? = some o) : b < w.heap.size := (Array.getElem?_eq_some_iff.1 h).1
theorem k5_below {w w' : World} (h : Below w.heap.size w w') : K5 w w' := fun b cs fr hb => by rw [h.block b (lt_of hb)]; exact hb
theorem k5_trans {a b c : World} (h : K5 a b) (k : K5 b c) : K5 a c := fun x cs fr q => k x cs fr (h x cs fr q)
theorem own_row {w : World} {B e size n : Nat} {v : Value} {xs : List Value} (ho : w.ownsRow B e size v n xs) {b : Nat} {o : Obj} (hb : w.heap[b]? = some o) (hn : ∀ cs fr, o ≠ .cells cs e fr) : v.ownBlock ≠ some b := by
  rcases ho.2 with ⟨rfl, _⟩ | ⟨g, cap, cur, rfl, _, hg, _⟩
  · simp [Value.ownBlock]
  · intro h
    simp only [Value.ownBlock, Option.some.injEq] at h
    subst h
    rw [hg] at hb
    exact hn cur (0, 0) (Option.some.inj hb).symm
theorem k5_row {w w' : World} {B size n : Nat} {v : Value} {xs : List Value} (ho : w.ownsRow B 39 size v n xs) (hg : w.grownBy w' v.ownBlock) : K5 w w' := fun b cs fr hb => by
  rw [hg.block b (lt_of hb) (fun e => own_row ho hb (fun _ _ e2 => by injection e2 with _ e3 _; exact absurd e3 (by decide)) e.symm)]; exact hb
theorem map_obj {w : World} {k : TypeId} {R : Value → Option (DataW Unit × List MemPlace)} {b n : Nat} {D : DataW Unit} (h : w.ownsMap Tryz.prog k R b n D) : ∃ es clock, w.heap[b]? = some (.map es clock) := by
  obtain ⟨es, c, h1, _⟩ := h
  exact ⟨es, c, h1⟩
theorem k5_map {w w' : World} {k : TypeId} {R : Value → Option (DataW Unit × List MemPlace)} {B n : Nat} {D : DataW Unit} (ho : w.ownsMap Tryz.prog k R B n D) (hg : w.grownBy w' (some B)) : K5 w w' := fun b cs fr hb => by
  obtain ⟨es, c, hm⟩ := map_obj ho
  rw [hg.block b (lt_of hb) (fun e => by
    rw [Option.some.inj e] at hb
    rw [hm] at hb
    cases hb)]; exact hb
theorem row_map {w : World} {B e size n : Nat} {v : Value} {xs : List Value} (ho : w.ownsRow B e size v n xs) {k : TypeId} {R : Value → Option (DataW Unit × List MemPlace)} {b m : Nat} {D : DataW Unit} (hm : w.ownsMap Tryz.prog k R b m D) : v.ownBlock ≠ some b := by
  obtain ⟨es, c, h⟩ := map_obj hm
  exact own_row ho h (fun _ _ e => by cases e)
theorem law3 : Maps.Keyed Tryz.prog 3 := Maps.int_keyed Tryz.underlying3
theorem key3 (a : Int) (h : (Lit.int .i64 a).wf = true) : keyOf Tryz.prog 3 (.int .i64 a) = some (.int .i64 a) := by
  exact Maps.keyOf_int_mk Tryz.underlying3 h
end Go.Proofs.YtgmifaadlaigdaaGreatDoor
