import Derived.Test.YtojjdhohhonheaaL9a
import Derived.Test.YtojjdhohhonheaaRw
namespace Go.Proofs.Ytojjdhohhonheaa
open Go.ChangeShapes Go.WideShapes Go.ChangeAt Go.RowKit
set_option linter.unusedVariables false
theorem ex_ok (b t e : Nat) (h1 : b ≤ t) (h2 : t ≤ 65536) (he : e ≤ 8) (h : ok b t e = true) : ∃ x y z, ex b t = (x, y, z, 0) := by
  have E : ex b t = exL b t 9 := by unfold ex; rw [if_neg (by omega)]
  rcases exL_spec b t 9 (by omega) with ⟨_, E2⟩ | ⟨e', he', hok, E2⟩
  · have := E2 e (by omega) he; rw [h] at this; cases this
  · exact ⟨_, _, _, by rw [E, E2]⟩
theorem law9 (n0 n pp : Nat) (A : Option Addr) (len cap : Nat) (zs : List Int) (hn0 : n0 < 65536) (hn : n < 65536) (hpp : pp < 256) {w0 : World} (hA : IsRow .u32 w0 A len cap zs) (_W : World) :
    Calls Try.prog 9 #[.int .u16 (n0 : Int), .int .u16 (n : Int), .int .u8 (pp : Int), .slice A len cap] w0 fun en w' => en = .returned (.bool true) ∧ Below w0.heap.size w0 w' := by
  obtain ⟨hl1, hl2, hc, hw⟩ := hA.open_
  unfold maxLen at hl2
  have hz : ∀ j, 0 ≤ zs.getD j 0 ∧ zs.getD j 0 < 4294967296 := fun j => by
    have := bounds_u32 (getD_wf hw rfl j)
    omega
  obtain ⟨tt, htt⟩ : ∃ m, m = if n0 / 8 * 8 + n % 512 * 8 < 65536 then n0 / 8 * 8 + n % 512 * 8 else 65536 := ⟨_, rfl⟩
  have htt2 : tt ≤ 65536 ∧ n0 / 8 * 8 ≤ tt ∧ tt % 8 = 0 ∧ tt - n0 / 8 * 8 ≤ 4088 := by split at htt <;> omega
  obtain ⟨x, y, z, hex⟩ := ex_ok (n0 / 8 * 8) tt 3 (by omega) (by omega) (by omega) (by unfold ok; simp; omega)
  have hlt := ex_lt (n0 / 8 * 8) tt
  have k32 := c32 (n0 / 8 * 8) tt (pp % 128) (by omega) (by omega) (by omega)
  unfold rootV at k32
  rw [hex] at k32 hlt
  rw [if_pos rfl] at k32
  obtain ⟨q1, q2, q3, _⟩ := hlt
  refine walk9 n0 n pp (n0 / 8) (n0 / 8 * 8) (n % 512) tt (pp % 128) x y z hn0 hn hpp A len cap (by omega) w0 (by omega) (by omega) q1 q2 q3 (fun j => (zs.getD j 0).toNat) (fun j => by have := hz j; omega) ?_ (by omega) rfl rfl (by omega) (by omega) (by omega) rfl rfl (by omega) (by omega) ?_ rfl rfl k32
  · intro h0
    obtain ⟨bl, off, e1, e2, e3⟩ := hc h0
    refine ⟨bl, off, e1, e2, fun j hj => ?_⟩
    rw [e3 j (by omega), Int.toNat_of_nonneg (hz j).1]
  · rw [htt]
    split <;> split <;> omega
end Go.Proofs.Ytojjdhohhonheaa
