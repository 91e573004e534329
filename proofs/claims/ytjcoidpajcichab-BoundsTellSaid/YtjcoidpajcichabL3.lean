import Derived.Test.YtjcoidpajcichabD
namespace Go.Proofs.Ytjcoidpajcichab
open Go.ChangeShapes Go.WideShapes Go.ChangeAt Go.RowKit
set_option linter.unusedVariables false
set_option maxHeartbeats 2000000 in
theorem law3 (e b t x y a n : Nat) (he : e < 256) (hb : b < 65536) (ht : t < 65536) (hx : x < 4294967296) (hy : y < 4294967296) (ha : a < 18446744073709551616) (hn : n < 18446744073709551616) (w : World) :
    Calls Try.prog 3 #[bnd e b t, .int .u32 (x : Int), .int .u32 (y : Int), .int .u64 (a : Int), .int .u64 (n : Int)] w fun en w' => en = .returned (.bool true) ∧ Below w.heap.size w w' := by
  have k1 := c9 e b t x he hb ht hx
  have k2 := c10 e b t x he hb ht hx
  have k3 := c11 e b t he hb ht
  have k4 := c12 e b t he hb ht
  have k5 := c13 e b t x y he hb ht hx hy
  have k6 := c14 e b t x y he hb ht hx hy
  have k7 := c15 e b t x a n he hb ht hx ha hn
  have k8 := c16 e b t x a n he hb ht hx ha hn
  generalize wi (e % 16) (b % 512) (t % 512) x a n = W at *
  generalize decide (bs (e % 16) (b % 512) x = bs (e % 16) (b % 512) y) = D at *
  generalize bs (e % 16) (b % 512) x = X at *
  generalize ln (e % 16) (b % 512) (t % 512) = L at *
  have K1 := Lib.hid k1
  have K2 := Lib.hid k2
  have K3 := Lib.hid k3
  have K4 := Lib.hid k4
  have K5 := Lib.hid k5
  have K6 := Lib.hid k6
  have K7 := Lib.hid k7
  have K8 := Lib.hid k8
  clear k1 k2 k3 k4 k5 k6 k7 k8
  go_enter Try.func3, Try.ntmps3
  go_wp2_with fail
  have hS : Below w.heap.size w (w.alloc (.cells #[.int .u8 (e : Int), .int .u16 (b : Int), .int .u16 (t : Int)] 24)) ∧ w.heap.size < (w.alloc (.cells #[.int .u8 (e : Int), .int .u16 (b : Int), .int .u16 (t : Int)] 24)).heap.size ∧ (w.alloc (.cells #[.int .u8 (e : Int), .int .u16 (b : Int), .int .u16 (t : Int)] 24)).cell? ⟨w.heap.size, 0, none⟩ = some (.int .u8 (e : Int)) ∧ (w.alloc (.cells #[.int .u8 (e : Int), .int .u16 (b : Int), .int .u16 (t : Int)] 24)).cell? ⟨w.heap.size, 1, none⟩ = some (.int .u16 (b : Int)) ∧ (w.alloc (.cells #[.int .u8 (e : Int), .int .u16 (b : Int), .int .u16 (t : Int)] 24)).cell? ⟨w.heap.size, 2, none⟩ = some (.int .u16 (t : Int)) := ⟨(Below.refl _ _).alloc (Nat.le_refl _) _, by simp, by simp, by simp, by simp⟩
  go_region_held3 (fun w' => Below w.heap.size w w' ∧ w.heap.size < w'.heap.size ∧ w'.cell? ⟨w.heap.size, 0, none⟩ = some (.int .u8 (e : Int)) ∧ w'.cell? ⟨w.heap.size, 1, none⟩ = some (.int .u16 (b : Int)) ∧ w'.cell? ⟨w.heap.size, 2, none⟩ = some (.int .u16 (t : Int)))
    (first | exact keep3 (by assumption) ((Below.refl _ _).drew) | exact keep3 (by assumption) hbx)
    (first | (go_at_call 9; (with_reducible refine (K1.out _).mono ?_); rintro _ wx ⟨rfl, hbx⟩) | (go_at_call 10; (with_reducible refine (K2.out _).mono ?_); rintro _ wx ⟨rfl, hbx⟩) | (go_at_call 11; (with_reducible refine (K3.out _).mono ?_); rintro _ wx ⟨rfl, hbx⟩) | (go_at_call 12; (with_reducible refine (K4.out _).mono ?_); rintro _ wx ⟨rfl, hbx⟩) | (go_at_call 13; (with_reducible refine (K5.out _).mono ?_); rintro _ wx ⟨rfl, hbx⟩) | (go_at_call 14; (with_reducible refine (K6.out _).mono ?_); rintro _ wx ⟨rfl, hbx⟩) | (go_at_call 15; (with_reducible refine (K7.out _).mono ?_); rintro _ wx ⟨rfl, hbx⟩) | (go_at_call 16; (with_reducible refine (K8.out _).mono ?_); rintro _ wx ⟨rfl, hbx⟩) | (go_at_call 17; (with_reducible refine (c17 _).mono ?_); rintro _ wx ⟨rfl, hbx⟩))
  have hE : Below w.heap.size w wx := And.left (by assumption)
  go_wp2
  go_ret
  exact ⟨rfl, hE⟩
end Go.Proofs.Ytjcoidpajcichab
