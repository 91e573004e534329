import Derived.Test.YtblfnjdbihhglaaGreatDoorGz
import Derived.Test.YtblfnjdbihhglaaGreatDoorE
import Derived.Test.YtblfnjdbihhglaaGreatDoorHz
namespace Go.Proofs.YtblfnjdbihhglaaGreatDoor
open Go.ChangeShapes Go.WideShapes Go.ChangeAt Go.RowKit
open Li (Ss)
set_option linter.unusedVariables false
set_option linter.unusedSimpArgs false
def lg (cs : List ByteArray) (j : Nat) : ByteArray := (cs[j]?).getD ⟨#[]⟩
theorem lg_at {cs : List ByteArray} {k : Nat} (h : k < cs.length) : cs[k]? = some (lg cs k) := by unfold lg; rw [List.getElem?_eq_getElem h]; rfl
theorem nmAt_first : ∀ (l : List ByteArray) (s : ByteArray) (k : Nat), l[k]? = some s → (∀ j, j < k → l[j]? ≠ some s) → nmAt l s = some k
  | [], _, _, h, _ => by simp at h
  | x :: r, s, 0, h, _ => by
    simp at h
    rw [nmAt, if_pos h]
  | x :: r, s, k + 1, h, hj => by
    rw [List.getElem?_cons_succ] at h
    have h0 := hj 0 (by omega)
    simp at h0
    rw [nmAt, if_neg h0, nmAt_first r s k h (fun j hjk => by have := hj (j + 1) (by omega); rwa [List.getElem?_cons_succ] at this)]
    rfl
theorem nmAt_never (l : List ByteArray) (s : ByteArray) (h : ∀ j, j < l.length → l[j]? ≠ some s) : nmAt l s = none := nmAt_none l s (fun hs => by
  obtain ⟨j, hj, e⟩ := List.getElem_of_mem hs
  exact h j hj (by rw [List.getElem?_eq_getElem hj, e]))
def nmI (cs : List ByteArray) (s : ByteArray) : Int := match nmAt cs s with
  | some k => (k : Int)
  | none => -1
set_option maxRecDepth 100000 in
set_option maxHeartbeats 4000000 in
/-- the number of a compartment -/
theorem c23 (A : Option Addr) (cc : Nat) (V : Value) (AU : Option Addr) (nu cu : Nat) (hV : V = .slice AU nu cu) (cs : List ByteArray) (s : ByteArray) (w : World) (hA : Ss w A cs.length (lg cs)) (hn : cs.length ≤ 9223372036854775807) :
    Calls Tryz.prog 23 #[.agg #[.slice A cs.length cc, V], .string s] w fun e w' => e = .returned (.int .i64 (nmI cs s)) ∧ Below w.heap.size w w' := by
  subst hV
  have HN : Hid ((∀ j, j < cs.length → cs[j]? ≠ some s) → nmI cs s = -1) := Lib.hid (fun h => by unfold nmI; rw [nmAt_never cs s h])
  have HF : Hid (∀ k : Nat, k < cs.length → lg cs k = s → (∀ j, j < k → cs[j]? ≠ some s) → nmI cs s = (k : Int)) := Lib.hid (fun k hk he hj => by unfold nmI; rw [nmAt_first cs s k (by rw [lg_at hk, he]) hj])
  have HL : Hid (∀ k, k < cs.length → lg cs k ≠ s → cs[k]? ≠ some s) := Lib.hid (fun k hk he h => he (by rw [lg_at hk] at h; exact Option.some.inj h))
  have HA := Lib.hid hA
  clear hA
  generalize nmI cs s = rv at *
  generalize lg cs = g at *
  obtain ⟨n, hnn⟩ : ∃ n, cs.length = n := ⟨_, rfl⟩
  rw [hnn] at HN HF HL HA hn ⊢
  clear hnn
  have HBX : Hid (∀ W, Below (w.heap.size + 1) (w.alloc (.cells #[.slice A n cc, .slice AU nu cu] 25)) W → W.cell? ⟨w.heap.size, 0, none⟩ = some (.slice A n cc) ∧ Below w.heap.size w W) := Lib.hid (fun W hW =>
    ⟨(hW.cell (p := ⟨w.heap.size, 0, none⟩) (Nat.lt_succ_self _)).trans (World.cell?_alloc_new _ _ _ _), ((Below.refl _ w).alloc (Nat.le_refl _) _).trans (hW.mono (Nat.le_succ _))⟩)
  go_enter Tryz.func23, Tryz.ntmps23
  go_wp2_with fail
  go_loopw [5] (fun i wr => wr = w.alloc (.cells #[.slice A n cc, .slice AU nu cu] 25) ∧ ∃ k : Nat, k ≤ n ∧ i = .int .i64 (k : Int) ∧ ∀ j, j < k → cs[j]? ≠ some s) (fun i _ => n - (intOf i).toNat)
  case atStart => exact ⟨rfl, 0, by omega, rfl, fun j hj => absurd hj (by omega)⟩
  case round =>
    obtain ⟨rfl, k, hk, rfl, hj⟩ := hrel
    obtain ⟨x0, hbw⟩ := HBX.out _ (Below.refl _ _)
    have HJ := Lib.hid hj
    clear hj
    by_cases hlt : k < n
    · obtain ⟨b, o, rfl, hbl, hc⟩ := HA.out (by omega)
      obtain ⟨q0, hs⟩ := hc k hlt
      have hkn : (k : Int) < (n : Int) := by omega
      have hne := neq_str (g k) s
      by_cases he : g k = s
      · have HX := HF.out k hlt he HJ.out
        rw [he, decide_eq_true (show s = s from rfl)] at hne
        rw [he] at q0
        clear hc
        go_wp2_with fail
        go_ret
        exact ⟨by rw [HX]; rfl, hbw⟩
      · have hno := HL.out k hlt he
        rw [decide_eq_false he] at hne
        generalize g k = t at *
        have HLT := Lib.hid hlt
        clear hc
        go_wp2_with fail
        go_roundw
        case rel => exact ⟨trivial, k + 1, HLT.out, by go_num, fun j hj => by
          rcases (by omega : j < k ∨ j = k) with h | rfl
          · exact HJ.out j h
          · exact hno⟩
        case measure => simp [intOf]; have := HLT.out; omega
    · obtain rfl : k = n := by omega
      have HX := HN.out HJ.out
      go_wp2_with fail
      go_ret
      exact ⟨by rw [HX]; rfl, hbw⟩
end Go.Proofs.YtblfnjdbihhglaaGreatDoor
