import Derived.Test.YtkiojljopigldaaDoorQe
namespace Go.Proofs.YtkiojljopigldaaDoor.Rel
open Go.ChangeShapes Go.WideShapes Go.ChangeAt Go.RowKit
set_option linter.unusedVariables false
/-- is an instruction of the I form? -/
def isIb (o : Nat) : Bool := decide (o = 4 ∨ o = 48 ∨ (11 ≤ o ∧ o ≤ 16) ∨ (21 ≤ o ∧ o ≤ 26))
/-- is an instruction of the form that a kind asks for? -/
def hasK (k o : Nat) : Bool :=
  match k with
  | 16 => decide (5 ≤ o ∧ o ≤ 10)
  | 17 => decide (o = 3)
  | 23 => decide (o = 1 ∨ o = 2)
  | 26 => decide (o = 1 ∨ o = 2)
  | 25 => decide (17 ≤ o ∧ o ≤ 20)
  | 28 => decide (17 ≤ o ∧ o ≤ 20)
  | 194 => decide (17 ≤ o ∧ o ≤ 20)
  | _ => isIb o
theorem isI_0 (o : Nat) (h1 : 0 ≤ o) (h2 : o ≤ 3) (w : World) : Calls Tryd.prog 25 #[.int .u8 (o : Int)] w fun en w' => en = .returned (.bool false) ∧ w = w' := by
  have e4 : ((o : Int) == 4) = false := by simp; omega
  have e48 : ((o : Int) == 48) = false := by simp; omega
  have l11 : decide ((11 : Int) ≤ (o : Int)) = false := by simp; omega
  have l21 : decide ((21 : Int) ≤ (o : Int)) = false := by simp; omega
  have u16 : decide ((o : Int) ≤ (16 : Int)) = true := by simp; omega
  have u26 : decide ((o : Int) ≤ (26 : Int)) = true := by simp; omega
  clear h1 h2
  go_enter Tryd.func25, Tryd.ntmps25
  go_wp2_with fail
  go_ret
  exact ⟨rfl, rfl⟩
theorem isI_4 (w : World) : Calls Tryd.prog 25 #[.int .u8 4] w fun en w' => en = .returned (.bool true) ∧ w = w' := by
  go_enter Tryd.func25, Tryd.ntmps25
  go_wp2_with fail
  go_ret
  exact ⟨rfl, rfl⟩
theorem isI_5 (o : Nat) (h1 : 5 ≤ o) (h2 : o ≤ 10) (w : World) : Calls Tryd.prog 25 #[.int .u8 (o : Int)] w fun en w' => en = .returned (.bool false) ∧ w = w' := by
  have e4 : ((o : Int) == 4) = false := by simp; omega
  have e48 : ((o : Int) == 48) = false := by simp; omega
  have l11 : decide ((11 : Int) ≤ (o : Int)) = false := by simp; omega
  have l21 : decide ((21 : Int) ≤ (o : Int)) = false := by simp; omega
  have u16 : decide ((o : Int) ≤ (16 : Int)) = true := by simp; omega
  have u26 : decide ((o : Int) ≤ (26 : Int)) = true := by simp; omega
  clear h1 h2
  go_enter Tryd.func25, Tryd.ntmps25
  go_wp2_with fail
  go_ret
  exact ⟨rfl, rfl⟩
theorem isI_11 (o : Nat) (h1 : 11 ≤ o) (h2 : o ≤ 16) (w : World) : Calls Tryd.prog 25 #[.int .u8 (o : Int)] w fun en w' => en = .returned (.bool true) ∧ w = w' := by
  have e4 : ((o : Int) == 4) = false := by simp; omega
  have e48 : ((o : Int) == 48) = false := by simp; omega
  have l11 : decide ((11 : Int) ≤ (o : Int)) = true := by simp; omega
  have l21 : decide ((21 : Int) ≤ (o : Int)) = false := by simp; omega
  have u16 : decide ((o : Int) ≤ (16 : Int)) = true := by simp; omega
  have u26 : decide ((o : Int) ≤ (26 : Int)) = true := by simp; omega
  clear h1 h2
  go_enter Tryd.func25, Tryd.ntmps25
  go_wp2_with fail
  go_ret
  exact ⟨rfl, rfl⟩
theorem isI_17 (o : Nat) (h1 : 17 ≤ o) (h2 : o ≤ 20) (w : World) : Calls Tryd.prog 25 #[.int .u8 (o : Int)] w fun en w' => en = .returned (.bool false) ∧ w = w' := by
  have e4 : ((o : Int) == 4) = false := by simp; omega
  have e48 : ((o : Int) == 48) = false := by simp; omega
  have l11 : decide ((11 : Int) ≤ (o : Int)) = true := by simp; omega
  have l21 : decide ((21 : Int) ≤ (o : Int)) = false := by simp; omega
  have u16 : decide ((o : Int) ≤ (16 : Int)) = false := by simp; omega
  have u26 : decide ((o : Int) ≤ (26 : Int)) = true := by simp; omega
  clear h1 h2
  go_enter Tryd.func25, Tryd.ntmps25
  go_wp2_with fail
  go_ret
  exact ⟨rfl, rfl⟩
theorem isI_21 (o : Nat) (h1 : 21 ≤ o) (h2 : o ≤ 26) (w : World) : Calls Tryd.prog 25 #[.int .u8 (o : Int)] w fun en w' => en = .returned (.bool true) ∧ w = w' := by
  have e4 : ((o : Int) == 4) = false := by simp; omega
  have e48 : ((o : Int) == 48) = false := by simp; omega
  have l11 : decide ((11 : Int) ≤ (o : Int)) = true := by simp; omega
  have l21 : decide ((21 : Int) ≤ (o : Int)) = true := by simp; omega
  have u16 : decide ((o : Int) ≤ (16 : Int)) = false := by simp; omega
  have u26 : decide ((o : Int) ≤ (26 : Int)) = true := by simp; omega
  clear h1 h2
  go_enter Tryd.func25, Tryd.ntmps25
  go_wp2_with fail
  go_ret
  exact ⟨rfl, rfl⟩
theorem isI_27 (o : Nat) (h1 : 27 ≤ o) (h2 : o ≤ 47) (w : World) : Calls Tryd.prog 25 #[.int .u8 (o : Int)] w fun en w' => en = .returned (.bool false) ∧ w = w' := by
  have e4 : ((o : Int) == 4) = false := by simp; omega
  have e48 : ((o : Int) == 48) = false := by simp; omega
  have l11 : decide ((11 : Int) ≤ (o : Int)) = true := by simp; omega
  have l21 : decide ((21 : Int) ≤ (o : Int)) = true := by simp; omega
  have u16 : decide ((o : Int) ≤ (16 : Int)) = false := by simp; omega
  have u26 : decide ((o : Int) ≤ (26 : Int)) = false := by simp; omega
  clear h1 h2
  go_enter Tryd.func25, Tryd.ntmps25
  go_wp2_with fail
  go_ret
  exact ⟨rfl, rfl⟩
theorem isI_48 (w : World) : Calls Tryd.prog 25 #[.int .u8 48] w fun en w' => en = .returned (.bool true) ∧ w = w' := by
  go_enter Tryd.func25, Tryd.ntmps25
  go_wp2_with fail
  go_ret
  exact ⟨rfl, rfl⟩
theorem isI_49 (o : Nat) (h1 : 49 ≤ o) (h2 : o ≤ 255) (w : World) : Calls Tryd.prog 25 #[.int .u8 (o : Int)] w fun en w' => en = .returned (.bool false) ∧ w = w' := by
  have e4 : ((o : Int) == 4) = false := by simp; omega
  have e48 : ((o : Int) == 48) = false := by simp; omega
  have l11 : decide ((11 : Int) ≤ (o : Int)) = true := by simp; omega
  have l21 : decide ((21 : Int) ≤ (o : Int)) = true := by simp; omega
  have u16 : decide ((o : Int) ≤ (16 : Int)) = false := by simp; omega
  have u26 : decide ((o : Int) ≤ (26 : Int)) = false := by simp; omega
  clear h1 h2
  go_enter Tryd.func25, Tryd.ntmps25
  go_wp2_with fail
  go_ret
  exact ⟨rfl, rfl⟩
theorem isI (o : Nat) (ho : o < 256) (w : World) : Calls Tryd.prog 25 #[.int .u8 (o : Int)] w fun en w' => en = .returned (.bool (isIb o)) ∧ w = w' := by
  by_cases c0 : 0 ≤ o ∧ o ≤ 3
  · have e : isIb o = false := by simp only [isIb]; simp; omega
    rw [e]
    exact isI_0 o c0.1 c0.2 w
  by_cases c1 : o = 4
  · subst c1
    exact isI_4 w
  by_cases c2 : 5 ≤ o ∧ o ≤ 10
  · have e : isIb o = false := by simp only [isIb]; simp; omega
    rw [e]
    exact isI_5 o c2.1 c2.2 w
  by_cases c3 : 11 ≤ o ∧ o ≤ 16
  · have e : isIb o = true := by simp only [isIb]; simp; omega
    rw [e]
    exact isI_11 o c3.1 c3.2 w
  by_cases c4 : 17 ≤ o ∧ o ≤ 20
  · have e : isIb o = false := by simp only [isIb]; simp; omega
    rw [e]
    exact isI_17 o c4.1 c4.2 w
  by_cases c5 : 21 ≤ o ∧ o ≤ 26
  · have e : isIb o = true := by simp only [isIb]; simp; omega
    rw [e]
    exact isI_21 o c5.1 c5.2 w
  by_cases c6 : 27 ≤ o ∧ o ≤ 47
  · have e : isIb o = false := by simp only [isIb]; simp; omega
    rw [e]
    exact isI_27 o c6.1 c6.2 w
  by_cases c7 : o = 48
  · subst c7
    exact isI_48 w
  by_cases c8 : 49 ≤ o ∧ o ≤ 255
  · have e : isIb o = false := by simp only [isIb]; simp; omega
    rw [e]
    exact isI_49 o c8.1 c8.2 w
  omega
theorem has16_0 (o : Nat) (h1 : 0 ≤ o) (h2 : o ≤ 4) (w : World) : Calls Tryd.prog 12 #[.int .u8 16, .int .u8 (o : Int)] w fun en w' => en = .returned (.bool false) ∧ w = w' := by
  have l5 : decide ((5 : Int) ≤ (o : Int)) = false := by simp; omega
  have u10 : decide ((o : Int) ≤ (10 : Int)) = true := by simp; omega
  clear h1 h2
  go_enter Tryd.func12, Tryd.ntmps12
  go_wp2_with fail
  go_ret
  exact ⟨rfl, rfl⟩
theorem has16_5 (o : Nat) (h1 : 5 ≤ o) (h2 : o ≤ 10) (w : World) : Calls Tryd.prog 12 #[.int .u8 16, .int .u8 (o : Int)] w fun en w' => en = .returned (.bool true) ∧ w = w' := by
  have l5 : decide ((5 : Int) ≤ (o : Int)) = true := by simp; omega
  have u10 : decide ((o : Int) ≤ (10 : Int)) = true := by simp; omega
  clear h1 h2
  go_enter Tryd.func12, Tryd.ntmps12
  go_wp2_with fail
  go_ret
  exact ⟨rfl, rfl⟩
theorem has16_11 (o : Nat) (h1 : 11 ≤ o) (h2 : o ≤ 255) (w : World) : Calls Tryd.prog 12 #[.int .u8 16, .int .u8 (o : Int)] w fun en w' => en = .returned (.bool false) ∧ w = w' := by
  have l5 : decide ((5 : Int) ≤ (o : Int)) = true := by simp; omega
  have u10 : decide ((o : Int) ≤ (10 : Int)) = false := by simp; omega
  clear h1 h2
  go_enter Tryd.func12, Tryd.ntmps12
  go_wp2_with fail
  go_ret
  exact ⟨rfl, rfl⟩
theorem has16 (o : Nat) (ho : o < 256) (w : World) : Calls Tryd.prog 12 #[.int .u8 16, .int .u8 (o : Int)] w fun en w' => en = .returned (.bool (hasK 16 o)) ∧ w = w' := by
  by_cases c0 : 0 ≤ o ∧ o ≤ 4
  · have e : hasK 16 o = false := by simp only [hasK]; simp; omega
    rw [e]
    exact has16_0 o c0.1 c0.2 w
  by_cases c1 : 5 ≤ o ∧ o ≤ 10
  · have e : hasK 16 o = true := by simp only [hasK]; simp; omega
    rw [e]
    exact has16_5 o c1.1 c1.2 w
  by_cases c2 : 11 ≤ o ∧ o ≤ 255
  · have e : hasK 16 o = false := by simp only [hasK]; simp; omega
    rw [e]
    exact has16_11 o c2.1 c2.2 w
  omega
theorem has17_0 (o : Nat) (h1 : 0 ≤ o) (h2 : o ≤ 2) (w : World) : Calls Tryd.prog 12 #[.int .u8 17, .int .u8 (o : Int)] w fun en w' => en = .returned (.bool false) ∧ w = w' := by
  have e3 : ((o : Int) == 3) = false := by simp; omega
  clear h1 h2
  go_enter Tryd.func12, Tryd.ntmps12
  go_wp2_with fail
  go_ret
  exact ⟨rfl, rfl⟩
theorem has17_3 (w : World) : Calls Tryd.prog 12 #[.int .u8 17, .int .u8 3] w fun en w' => en = .returned (.bool true) ∧ w = w' := by
  go_enter Tryd.func12, Tryd.ntmps12
  go_wp2_with fail
  go_ret
  exact ⟨rfl, rfl⟩
theorem has17_4 (o : Nat) (h1 : 4 ≤ o) (h2 : o ≤ 255) (w : World) : Calls Tryd.prog 12 #[.int .u8 17, .int .u8 (o : Int)] w fun en w' => en = .returned (.bool false) ∧ w = w' := by
  have e3 : ((o : Int) == 3) = false := by simp; omega
  clear h1 h2
  go_enter Tryd.func12, Tryd.ntmps12
  go_wp2_with fail
  go_ret
  exact ⟨rfl, rfl⟩
theorem has17 (o : Nat) (ho : o < 256) (w : World) : Calls Tryd.prog 12 #[.int .u8 17, .int .u8 (o : Int)] w fun en w' => en = .returned (.bool (hasK 17 o)) ∧ w = w' := by
  by_cases c0 : 0 ≤ o ∧ o ≤ 2
  · have e : hasK 17 o = false := by simp only [hasK]; simp; omega
    rw [e]
    exact has17_0 o c0.1 c0.2 w
  by_cases c1 : o = 3
  · subst c1
    exact has17_3 w
  by_cases c2 : 4 ≤ o ∧ o ≤ 255
  · have e : hasK 17 o = false := by simp only [hasK]; simp; omega
    rw [e]
    exact has17_4 o c2.1 c2.2 w
  omega
theorem has23_0 (w : World) : Calls Tryd.prog 12 #[.int .u8 23, .int .u8 0] w fun en w' => en = .returned (.bool false) ∧ w = w' := by
  go_enter Tryd.func12, Tryd.ntmps12
  go_wp2_with fail
  go_ret
  exact ⟨rfl, rfl⟩
theorem has23_1 (w : World) : Calls Tryd.prog 12 #[.int .u8 23, .int .u8 1] w fun en w' => en = .returned (.bool true) ∧ w = w' := by
  go_enter Tryd.func12, Tryd.ntmps12
  go_wp2_with fail
  go_ret
  exact ⟨rfl, rfl⟩
theorem has23_2 (w : World) : Calls Tryd.prog 12 #[.int .u8 23, .int .u8 2] w fun en w' => en = .returned (.bool true) ∧ w = w' := by
  go_enter Tryd.func12, Tryd.ntmps12
  go_wp2_with fail
  go_ret
  exact ⟨rfl, rfl⟩
theorem has23_3 (o : Nat) (h1 : 3 ≤ o) (h2 : o ≤ 255) (w : World) : Calls Tryd.prog 12 #[.int .u8 23, .int .u8 (o : Int)] w fun en w' => en = .returned (.bool false) ∧ w = w' := by
  have e1 : ((o : Int) == 1) = false := by simp; omega
  have e2 : ((o : Int) == 2) = false := by simp; omega
  clear h1 h2
  go_enter Tryd.func12, Tryd.ntmps12
  go_wp2_with fail
  go_ret
  exact ⟨rfl, rfl⟩
theorem has23 (o : Nat) (ho : o < 256) (w : World) : Calls Tryd.prog 12 #[.int .u8 23, .int .u8 (o : Int)] w fun en w' => en = .returned (.bool (hasK 23 o)) ∧ w = w' := by
  by_cases c0 : o = 0
  · subst c0
    exact has23_0 w
  by_cases c1 : o = 1
  · subst c1
    exact has23_1 w
  by_cases c2 : o = 2
  · subst c2
    exact has23_2 w
  by_cases c3 : 3 ≤ o ∧ o ≤ 255
  · have e : hasK 23 o = false := by simp only [hasK]; simp; omega
    rw [e]
    exact has23_3 o c3.1 c3.2 w
  omega
theorem has26_0 (w : World) : Calls Tryd.prog 12 #[.int .u8 26, .int .u8 0] w fun en w' => en = .returned (.bool false) ∧ w = w' := by
  go_enter Tryd.func12, Tryd.ntmps12
  go_wp2_with fail
  go_ret
  exact ⟨rfl, rfl⟩
theorem has26_1 (w : World) : Calls Tryd.prog 12 #[.int .u8 26, .int .u8 1] w fun en w' => en = .returned (.bool true) ∧ w = w' := by
  go_enter Tryd.func12, Tryd.ntmps12
  go_wp2_with fail
  go_ret
  exact ⟨rfl, rfl⟩
theorem has26_2 (w : World) : Calls Tryd.prog 12 #[.int .u8 26, .int .u8 2] w fun en w' => en = .returned (.bool true) ∧ w = w' := by
  go_enter Tryd.func12, Tryd.ntmps12
  go_wp2_with fail
  go_ret
  exact ⟨rfl, rfl⟩
theorem has26_3 (o : Nat) (h1 : 3 ≤ o) (h2 : o ≤ 255) (w : World) : Calls Tryd.prog 12 #[.int .u8 26, .int .u8 (o : Int)] w fun en w' => en = .returned (.bool false) ∧ w = w' := by
  have e1 : ((o : Int) == 1) = false := by simp; omega
  have e2 : ((o : Int) == 2) = false := by simp; omega
  clear h1 h2
  go_enter Tryd.func12, Tryd.ntmps12
  go_wp2_with fail
  go_ret
  exact ⟨rfl, rfl⟩
theorem has26 (o : Nat) (ho : o < 256) (w : World) : Calls Tryd.prog 12 #[.int .u8 26, .int .u8 (o : Int)] w fun en w' => en = .returned (.bool (hasK 26 o)) ∧ w = w' := by
  by_cases c0 : o = 0
  · subst c0
    exact has26_0 w
  by_cases c1 : o = 1
  · subst c1
    exact has26_1 w
  by_cases c2 : o = 2
  · subst c2
    exact has26_2 w
  by_cases c3 : 3 ≤ o ∧ o ≤ 255
  · have e : hasK 26 o = false := by simp only [hasK]; simp; omega
    rw [e]
    exact has26_3 o c3.1 c3.2 w
  omega
theorem has25_0 (o : Nat) (h1 : 0 ≤ o) (h2 : o ≤ 16) (w : World) : Calls Tryd.prog 12 #[.int .u8 25, .int .u8 (o : Int)] w fun en w' => en = .returned (.bool false) ∧ w = w' := by
  have l17 : decide ((17 : Int) ≤ (o : Int)) = false := by simp; omega
  have u20 : decide ((o : Int) ≤ (20 : Int)) = true := by simp; omega
  clear h1 h2
  go_enter Tryd.func12, Tryd.ntmps12
  go_wp2_with fail
  go_ret
  exact ⟨rfl, rfl⟩
theorem has25_17 (o : Nat) (h1 : 17 ≤ o) (h2 : o ≤ 20) (w : World) : Calls Tryd.prog 12 #[.int .u8 25, .int .u8 (o : Int)] w fun en w' => en = .returned (.bool true) ∧ w = w' := by
  have l17 : decide ((17 : Int) ≤ (o : Int)) = true := by simp; omega
  have u20 : decide ((o : Int) ≤ (20 : Int)) = true := by simp; omega
  clear h1 h2
  go_enter Tryd.func12, Tryd.ntmps12
  go_wp2_with fail
  go_ret
  exact ⟨rfl, rfl⟩
theorem has25_21 (o : Nat) (h1 : 21 ≤ o) (h2 : o ≤ 255) (w : World) : Calls Tryd.prog 12 #[.int .u8 25, .int .u8 (o : Int)] w fun en w' => en = .returned (.bool false) ∧ w = w' := by
  have l17 : decide ((17 : Int) ≤ (o : Int)) = true := by simp; omega
  have u20 : decide ((o : Int) ≤ (20 : Int)) = false := by simp; omega
  clear h1 h2
  go_enter Tryd.func12, Tryd.ntmps12
  go_wp2_with fail
  go_ret
  exact ⟨rfl, rfl⟩
theorem has25 (o : Nat) (ho : o < 256) (w : World) : Calls Tryd.prog 12 #[.int .u8 25, .int .u8 (o : Int)] w fun en w' => en = .returned (.bool (hasK 25 o)) ∧ w = w' := by
  by_cases c0 : 0 ≤ o ∧ o ≤ 16
  · have e : hasK 25 o = false := by simp only [hasK]; simp; omega
    rw [e]
    exact has25_0 o c0.1 c0.2 w
  by_cases c1 : 17 ≤ o ∧ o ≤ 20
  · have e : hasK 25 o = true := by simp only [hasK]; simp; omega
    rw [e]
    exact has25_17 o c1.1 c1.2 w
  by_cases c2 : 21 ≤ o ∧ o ≤ 255
  · have e : hasK 25 o = false := by simp only [hasK]; simp; omega
    rw [e]
    exact has25_21 o c2.1 c2.2 w
  omega
theorem has28_0 (o : Nat) (h1 : 0 ≤ o) (h2 : o ≤ 16) (w : World) : Calls Tryd.prog 12 #[.int .u8 28, .int .u8 (o : Int)] w fun en w' => en = .returned (.bool false) ∧ w = w' := by
  have l17 : decide ((17 : Int) ≤ (o : Int)) = false := by simp; omega
  have u20 : decide ((o : Int) ≤ (20 : Int)) = true := by simp; omega
  clear h1 h2
  go_enter Tryd.func12, Tryd.ntmps12
  go_wp2_with fail
  go_ret
  exact ⟨rfl, rfl⟩
theorem has28_17 (o : Nat) (h1 : 17 ≤ o) (h2 : o ≤ 20) (w : World) : Calls Tryd.prog 12 #[.int .u8 28, .int .u8 (o : Int)] w fun en w' => en = .returned (.bool true) ∧ w = w' := by
  have l17 : decide ((17 : Int) ≤ (o : Int)) = true := by simp; omega
  have u20 : decide ((o : Int) ≤ (20 : Int)) = true := by simp; omega
  clear h1 h2
  go_enter Tryd.func12, Tryd.ntmps12
  go_wp2_with fail
  go_ret
  exact ⟨rfl, rfl⟩
theorem has28_21 (o : Nat) (h1 : 21 ≤ o) (h2 : o ≤ 255) (w : World) : Calls Tryd.prog 12 #[.int .u8 28, .int .u8 (o : Int)] w fun en w' => en = .returned (.bool false) ∧ w = w' := by
  have l17 : decide ((17 : Int) ≤ (o : Int)) = true := by simp; omega
  have u20 : decide ((o : Int) ≤ (20 : Int)) = false := by simp; omega
  clear h1 h2
  go_enter Tryd.func12, Tryd.ntmps12
  go_wp2_with fail
  go_ret
  exact ⟨rfl, rfl⟩
theorem has28 (o : Nat) (ho : o < 256) (w : World) : Calls Tryd.prog 12 #[.int .u8 28, .int .u8 (o : Int)] w fun en w' => en = .returned (.bool (hasK 28 o)) ∧ w = w' := by
  by_cases c0 : 0 ≤ o ∧ o ≤ 16
  · have e : hasK 28 o = false := by simp only [hasK]; simp; omega
    rw [e]
    exact has28_0 o c0.1 c0.2 w
  by_cases c1 : 17 ≤ o ∧ o ≤ 20
  · have e : hasK 28 o = true := by simp only [hasK]; simp; omega
    rw [e]
    exact has28_17 o c1.1 c1.2 w
  by_cases c2 : 21 ≤ o ∧ o ≤ 255
  · have e : hasK 28 o = false := by simp only [hasK]; simp; omega
    rw [e]
    exact has28_21 o c2.1 c2.2 w
  omega
theorem has194_0 (o : Nat) (h1 : 0 ≤ o) (h2 : o ≤ 16) (w : World) : Calls Tryd.prog 12 #[.int .u8 194, .int .u8 (o : Int)] w fun en w' => en = .returned (.bool false) ∧ w = w' := by
  have l17 : decide ((17 : Int) ≤ (o : Int)) = false := by simp; omega
  have u20 : decide ((o : Int) ≤ (20 : Int)) = true := by simp; omega
  clear h1 h2
  go_enter Tryd.func12, Tryd.ntmps12
  go_wp2_with fail
  go_ret
  exact ⟨rfl, rfl⟩
theorem has194_17 (o : Nat) (h1 : 17 ≤ o) (h2 : o ≤ 20) (w : World) : Calls Tryd.prog 12 #[.int .u8 194, .int .u8 (o : Int)] w fun en w' => en = .returned (.bool true) ∧ w = w' := by
  have l17 : decide ((17 : Int) ≤ (o : Int)) = true := by simp; omega
  have u20 : decide ((o : Int) ≤ (20 : Int)) = true := by simp; omega
  clear h1 h2
  go_enter Tryd.func12, Tryd.ntmps12
  go_wp2_with fail
  go_ret
  exact ⟨rfl, rfl⟩
theorem has194_21 (o : Nat) (h1 : 21 ≤ o) (h2 : o ≤ 255) (w : World) : Calls Tryd.prog 12 #[.int .u8 194, .int .u8 (o : Int)] w fun en w' => en = .returned (.bool false) ∧ w = w' := by
  have l17 : decide ((17 : Int) ≤ (o : Int)) = true := by simp; omega
  have u20 : decide ((o : Int) ≤ (20 : Int)) = false := by simp; omega
  clear h1 h2
  go_enter Tryd.func12, Tryd.ntmps12
  go_wp2_with fail
  go_ret
  exact ⟨rfl, rfl⟩
theorem has194 (o : Nat) (ho : o < 256) (w : World) : Calls Tryd.prog 12 #[.int .u8 194, .int .u8 (o : Int)] w fun en w' => en = .returned (.bool (hasK 194 o)) ∧ w = w' := by
  by_cases c0 : 0 ≤ o ∧ o ≤ 16
  · have e : hasK 194 o = false := by simp only [hasK]; simp; omega
    rw [e]
    exact has194_0 o c0.1 c0.2 w
  by_cases c1 : 17 ≤ o ∧ o ≤ 20
  · have e : hasK 194 o = true := by simp only [hasK]; simp; omega
    rw [e]
    exact has194_17 o c1.1 c1.2 w
  by_cases c2 : 21 ≤ o ∧ o ≤ 255
  · have e : hasK 194 o = false := by simp only [hasK]; simp; omega
    rw [e]
    exact has194_21 o c2.1 c2.2 w
  omega
theorem has24 (o : Nat) (ho : o < 256) (w : World) : Calls Tryd.prog 12 #[.int .u8 24, .int .u8 (o : Int)] w fun en w' => en = .returned (.bool (hasK 24 o)) ∧ w = w' := by
  have K := isI o ho
  have e : hasK 24 o = isIb o := rfl
  rw [e]
  generalize isIb o = B at *
  clear e
  have K := Lib.hid K
  go_enter Tryd.func12, Tryd.ntmps12
  go_wp2_with fail
  refine (K.out _).mono ?_
  rintro _ _ ⟨rfl, rfl⟩
  go_wp2_with fail
  go_ret
  exact ⟨rfl, rfl⟩
theorem has27 (o : Nat) (ho : o < 256) (w : World) : Calls Tryd.prog 12 #[.int .u8 27, .int .u8 (o : Int)] w fun en w' => en = .returned (.bool (hasK 27 o)) ∧ w = w' := by
  have K := isI o ho
  have e : hasK 27 o = isIb o := rfl
  rw [e]
  generalize isIb o = B at *
  clear e
  have K := Lib.hid K
  go_enter Tryd.func12, Tryd.ntmps12
  go_wp2_with fail
  refine (K.out _).mono ?_
  rintro _ _ ⟨rfl, rfl⟩
  go_wp2_with fail
  go_ret
  exact ⟨rfl, rfl⟩
theorem has193 (o : Nat) (ho : o < 256) (w : World) : Calls Tryd.prog 12 #[.int .u8 193, .int .u8 (o : Int)] w fun en w' => en = .returned (.bool (hasK 193 o)) ∧ w = w' := by
  have K := isI o ho
  have e : hasK 193 o = isIb o := rfl
  rw [e]
  generalize isIb o = B at *
  clear e
  have K := Lib.hid K
  go_enter Tryd.func12, Tryd.ntmps12
  go_wp2_with fail
  refine (K.out _).mono ?_
  rintro _ _ ⟨rfl, rfl⟩
  go_wp2_with fail
  go_ret
  exact ⟨rfl, rfl⟩
theorem form16_0 (o : Nat) (h1 : 0 ≤ o) (h2 : o ≤ 4) (w : World) : Calls Tryd.prog 15 #[.int .u8 16, .int .u8 (o : Int)] w fun en w' => en = .returned (.bool false) ∧ w = w' := by
  have l5 : decide ((5 : Int) ≤ (o : Int)) = false := by simp; omega
  have u10 : decide ((o : Int) ≤ (10 : Int)) = true := by simp; omega
  clear h1 h2
  go_enter Tryd.func15, Tryd.ntmps15
  go_wp2_with fail
  go_ret
  exact ⟨rfl, rfl⟩
theorem form16_5 (o : Nat) (h1 : 5 ≤ o) (h2 : o ≤ 10) (w : World) : Calls Tryd.prog 15 #[.int .u8 16, .int .u8 (o : Int)] w fun en w' => en = .returned (.bool true) ∧ w = w' := by
  have l5 : decide ((5 : Int) ≤ (o : Int)) = true := by simp; omega
  have u10 : decide ((o : Int) ≤ (10 : Int)) = true := by simp; omega
  clear h1 h2
  go_enter Tryd.func15, Tryd.ntmps15
  go_wp2_with fail
  go_ret
  exact ⟨rfl, rfl⟩
theorem form16_11 (o : Nat) (h1 : 11 ≤ o) (h2 : o ≤ 255) (w : World) : Calls Tryd.prog 15 #[.int .u8 16, .int .u8 (o : Int)] w fun en w' => en = .returned (.bool false) ∧ w = w' := by
  have l5 : decide ((5 : Int) ≤ (o : Int)) = true := by simp; omega
  have u10 : decide ((o : Int) ≤ (10 : Int)) = false := by simp; omega
  clear h1 h2
  go_enter Tryd.func15, Tryd.ntmps15
  go_wp2_with fail
  go_ret
  exact ⟨rfl, rfl⟩
theorem form16 (o : Nat) (ho : o < 256) (w : World) : Calls Tryd.prog 15 #[.int .u8 16, .int .u8 (o : Int)] w fun en w' => en = .returned (.bool (hasK 16 o)) ∧ w = w' := by
  by_cases c0 : 0 ≤ o ∧ o ≤ 4
  · have e : hasK 16 o = false := by simp only [hasK]; simp; omega
    rw [e]
    exact form16_0 o c0.1 c0.2 w
  by_cases c1 : 5 ≤ o ∧ o ≤ 10
  · have e : hasK 16 o = true := by simp only [hasK]; simp; omega
    rw [e]
    exact form16_5 o c1.1 c1.2 w
  by_cases c2 : 11 ≤ o ∧ o ≤ 255
  · have e : hasK 16 o = false := by simp only [hasK]; simp; omega
    rw [e]
    exact form16_11 o c2.1 c2.2 w
  omega
theorem form17_0 (o : Nat) (h1 : 0 ≤ o) (h2 : o ≤ 2) (w : World) : Calls Tryd.prog 15 #[.int .u8 17, .int .u8 (o : Int)] w fun en w' => en = .returned (.bool false) ∧ w = w' := by
  have e3 : ((o : Int) == 3) = false := by simp; omega
  clear h1 h2
  go_enter Tryd.func15, Tryd.ntmps15
  go_wp2_with fail
  go_ret
  exact ⟨rfl, rfl⟩
theorem form17_3 (w : World) : Calls Tryd.prog 15 #[.int .u8 17, .int .u8 3] w fun en w' => en = .returned (.bool true) ∧ w = w' := by
  go_enter Tryd.func15, Tryd.ntmps15
  go_wp2_with fail
  go_ret
  exact ⟨rfl, rfl⟩
theorem form17_4 (o : Nat) (h1 : 4 ≤ o) (h2 : o ≤ 255) (w : World) : Calls Tryd.prog 15 #[.int .u8 17, .int .u8 (o : Int)] w fun en w' => en = .returned (.bool false) ∧ w = w' := by
  have e3 : ((o : Int) == 3) = false := by simp; omega
  clear h1 h2
  go_enter Tryd.func15, Tryd.ntmps15
  go_wp2_with fail
  go_ret
  exact ⟨rfl, rfl⟩
theorem form17 (o : Nat) (ho : o < 256) (w : World) : Calls Tryd.prog 15 #[.int .u8 17, .int .u8 (o : Int)] w fun en w' => en = .returned (.bool (hasK 17 o)) ∧ w = w' := by
  by_cases c0 : 0 ≤ o ∧ o ≤ 2
  · have e : hasK 17 o = false := by simp only [hasK]; simp; omega
    rw [e]
    exact form17_0 o c0.1 c0.2 w
  by_cases c1 : o = 3
  · subst c1
    exact form17_3 w
  by_cases c2 : 4 ≤ o ∧ o ≤ 255
  · have e : hasK 17 o = false := by simp only [hasK]; simp; omega
    rw [e]
    exact form17_4 o c2.1 c2.2 w
  omega
theorem form23_0 (w : World) : Calls Tryd.prog 15 #[.int .u8 23, .int .u8 0] w fun en w' => en = .returned (.bool false) ∧ w = w' := by
  go_enter Tryd.func15, Tryd.ntmps15
  go_wp2_with fail
  go_ret
  exact ⟨rfl, rfl⟩
theorem form23_1 (w : World) : Calls Tryd.prog 15 #[.int .u8 23, .int .u8 1] w fun en w' => en = .returned (.bool true) ∧ w = w' := by
  go_enter Tryd.func15, Tryd.ntmps15
  go_wp2_with fail
  go_ret
  exact ⟨rfl, rfl⟩
theorem form23_2 (w : World) : Calls Tryd.prog 15 #[.int .u8 23, .int .u8 2] w fun en w' => en = .returned (.bool true) ∧ w = w' := by
  go_enter Tryd.func15, Tryd.ntmps15
  go_wp2_with fail
  go_ret
  exact ⟨rfl, rfl⟩
theorem form23_3 (o : Nat) (h1 : 3 ≤ o) (h2 : o ≤ 255) (w : World) : Calls Tryd.prog 15 #[.int .u8 23, .int .u8 (o : Int)] w fun en w' => en = .returned (.bool false) ∧ w = w' := by
  have e1 : ((o : Int) == 1) = false := by simp; omega
  have e2 : ((o : Int) == 2) = false := by simp; omega
  clear h1 h2
  go_enter Tryd.func15, Tryd.ntmps15
  go_wp2_with fail
  go_ret
  exact ⟨rfl, rfl⟩
theorem form23 (o : Nat) (ho : o < 256) (w : World) : Calls Tryd.prog 15 #[.int .u8 23, .int .u8 (o : Int)] w fun en w' => en = .returned (.bool (hasK 23 o)) ∧ w = w' := by
  by_cases c0 : o = 0
  · subst c0
    exact form23_0 w
  by_cases c1 : o = 1
  · subst c1
    exact form23_1 w
  by_cases c2 : o = 2
  · subst c2
    exact form23_2 w
  by_cases c3 : 3 ≤ o ∧ o ≤ 255
  · have e : hasK 23 o = false := by simp only [hasK]; simp; omega
    rw [e]
    exact form23_3 o c3.1 c3.2 w
  omega
theorem form26_0 (w : World) : Calls Tryd.prog 15 #[.int .u8 26, .int .u8 0] w fun en w' => en = .returned (.bool false) ∧ w = w' := by
  go_enter Tryd.func15, Tryd.ntmps15
  go_wp2_with fail
  go_ret
  exact ⟨rfl, rfl⟩
theorem form26_1 (w : World) : Calls Tryd.prog 15 #[.int .u8 26, .int .u8 1] w fun en w' => en = .returned (.bool true) ∧ w = w' := by
  go_enter Tryd.func15, Tryd.ntmps15
  go_wp2_with fail
  go_ret
  exact ⟨rfl, rfl⟩
theorem form26_2 (w : World) : Calls Tryd.prog 15 #[.int .u8 26, .int .u8 2] w fun en w' => en = .returned (.bool true) ∧ w = w' := by
  go_enter Tryd.func15, Tryd.ntmps15
  go_wp2_with fail
  go_ret
  exact ⟨rfl, rfl⟩
theorem form26_3 (o : Nat) (h1 : 3 ≤ o) (h2 : o ≤ 255) (w : World) : Calls Tryd.prog 15 #[.int .u8 26, .int .u8 (o : Int)] w fun en w' => en = .returned (.bool false) ∧ w = w' := by
  have e1 : ((o : Int) == 1) = false := by simp; omega
  have e2 : ((o : Int) == 2) = false := by simp; omega
  clear h1 h2
  go_enter Tryd.func15, Tryd.ntmps15
  go_wp2_with fail
  go_ret
  exact ⟨rfl, rfl⟩
theorem form26 (o : Nat) (ho : o < 256) (w : World) : Calls Tryd.prog 15 #[.int .u8 26, .int .u8 (o : Int)] w fun en w' => en = .returned (.bool (hasK 26 o)) ∧ w = w' := by
  by_cases c0 : o = 0
  · subst c0
    exact form26_0 w
  by_cases c1 : o = 1
  · subst c1
    exact form26_1 w
  by_cases c2 : o = 2
  · subst c2
    exact form26_2 w
  by_cases c3 : 3 ≤ o ∧ o ≤ 255
  · have e : hasK 26 o = false := by simp only [hasK]; simp; omega
    rw [e]
    exact form26_3 o c3.1 c3.2 w
  omega
theorem form25_0 (o : Nat) (h1 : 0 ≤ o) (h2 : o ≤ 16) (w : World) : Calls Tryd.prog 15 #[.int .u8 25, .int .u8 (o : Int)] w fun en w' => en = .returned (.bool false) ∧ w = w' := by
  have l17 : decide ((17 : Int) ≤ (o : Int)) = false := by simp; omega
  have u20 : decide ((o : Int) ≤ (20 : Int)) = true := by simp; omega
  clear h1 h2
  go_enter Tryd.func15, Tryd.ntmps15
  go_wp2_with fail
  go_ret
  exact ⟨rfl, rfl⟩
theorem form25_17 (o : Nat) (h1 : 17 ≤ o) (h2 : o ≤ 20) (w : World) : Calls Tryd.prog 15 #[.int .u8 25, .int .u8 (o : Int)] w fun en w' => en = .returned (.bool true) ∧ w = w' := by
  have l17 : decide ((17 : Int) ≤ (o : Int)) = true := by simp; omega
  have u20 : decide ((o : Int) ≤ (20 : Int)) = true := by simp; omega
  clear h1 h2
  go_enter Tryd.func15, Tryd.ntmps15
  go_wp2_with fail
  go_ret
  exact ⟨rfl, rfl⟩
theorem form25_21 (o : Nat) (h1 : 21 ≤ o) (h2 : o ≤ 255) (w : World) : Calls Tryd.prog 15 #[.int .u8 25, .int .u8 (o : Int)] w fun en w' => en = .returned (.bool false) ∧ w = w' := by
  have l17 : decide ((17 : Int) ≤ (o : Int)) = true := by simp; omega
  have u20 : decide ((o : Int) ≤ (20 : Int)) = false := by simp; omega
  clear h1 h2
  go_enter Tryd.func15, Tryd.ntmps15
  go_wp2_with fail
  go_ret
  exact ⟨rfl, rfl⟩
theorem form25 (o : Nat) (ho : o < 256) (w : World) : Calls Tryd.prog 15 #[.int .u8 25, .int .u8 (o : Int)] w fun en w' => en = .returned (.bool (hasK 25 o)) ∧ w = w' := by
  by_cases c0 : 0 ≤ o ∧ o ≤ 16
  · have e : hasK 25 o = false := by simp only [hasK]; simp; omega
    rw [e]
    exact form25_0 o c0.1 c0.2 w
  by_cases c1 : 17 ≤ o ∧ o ≤ 20
  · have e : hasK 25 o = true := by simp only [hasK]; simp; omega
    rw [e]
    exact form25_17 o c1.1 c1.2 w
  by_cases c2 : 21 ≤ o ∧ o ≤ 255
  · have e : hasK 25 o = false := by simp only [hasK]; simp; omega
    rw [e]
    exact form25_21 o c2.1 c2.2 w
  omega
theorem form28_0 (o : Nat) (h1 : 0 ≤ o) (h2 : o ≤ 16) (w : World) : Calls Tryd.prog 15 #[.int .u8 28, .int .u8 (o : Int)] w fun en w' => en = .returned (.bool false) ∧ w = w' := by
  have l17 : decide ((17 : Int) ≤ (o : Int)) = false := by simp; omega
  have u20 : decide ((o : Int) ≤ (20 : Int)) = true := by simp; omega
  clear h1 h2
  go_enter Tryd.func15, Tryd.ntmps15
  go_wp2_with fail
  go_ret
  exact ⟨rfl, rfl⟩
theorem form28_17 (o : Nat) (h1 : 17 ≤ o) (h2 : o ≤ 20) (w : World) : Calls Tryd.prog 15 #[.int .u8 28, .int .u8 (o : Int)] w fun en w' => en = .returned (.bool true) ∧ w = w' := by
  have l17 : decide ((17 : Int) ≤ (o : Int)) = true := by simp; omega
  have u20 : decide ((o : Int) ≤ (20 : Int)) = true := by simp; omega
  clear h1 h2
  go_enter Tryd.func15, Tryd.ntmps15
  go_wp2_with fail
  go_ret
  exact ⟨rfl, rfl⟩
theorem form28_21 (o : Nat) (h1 : 21 ≤ o) (h2 : o ≤ 255) (w : World) : Calls Tryd.prog 15 #[.int .u8 28, .int .u8 (o : Int)] w fun en w' => en = .returned (.bool false) ∧ w = w' := by
  have l17 : decide ((17 : Int) ≤ (o : Int)) = true := by simp; omega
  have u20 : decide ((o : Int) ≤ (20 : Int)) = false := by simp; omega
  clear h1 h2
  go_enter Tryd.func15, Tryd.ntmps15
  go_wp2_with fail
  go_ret
  exact ⟨rfl, rfl⟩
theorem form28 (o : Nat) (ho : o < 256) (w : World) : Calls Tryd.prog 15 #[.int .u8 28, .int .u8 (o : Int)] w fun en w' => en = .returned (.bool (hasK 28 o)) ∧ w = w' := by
  by_cases c0 : 0 ≤ o ∧ o ≤ 16
  · have e : hasK 28 o = false := by simp only [hasK]; simp; omega
    rw [e]
    exact form28_0 o c0.1 c0.2 w
  by_cases c1 : 17 ≤ o ∧ o ≤ 20
  · have e : hasK 28 o = true := by simp only [hasK]; simp; omega
    rw [e]
    exact form28_17 o c1.1 c1.2 w
  by_cases c2 : 21 ≤ o ∧ o ≤ 255
  · have e : hasK 28 o = false := by simp only [hasK]; simp; omega
    rw [e]
    exact form28_21 o c2.1 c2.2 w
  omega
theorem form194_0 (o : Nat) (h1 : 0 ≤ o) (h2 : o ≤ 16) (w : World) : Calls Tryd.prog 15 #[.int .u8 194, .int .u8 (o : Int)] w fun en w' => en = .returned (.bool false) ∧ w = w' := by
  have l17 : decide ((17 : Int) ≤ (o : Int)) = false := by simp; omega
  have u20 : decide ((o : Int) ≤ (20 : Int)) = true := by simp; omega
  clear h1 h2
  go_enter Tryd.func15, Tryd.ntmps15
  go_wp2_with fail
  go_ret
  exact ⟨rfl, rfl⟩
theorem form194_17 (o : Nat) (h1 : 17 ≤ o) (h2 : o ≤ 20) (w : World) : Calls Tryd.prog 15 #[.int .u8 194, .int .u8 (o : Int)] w fun en w' => en = .returned (.bool true) ∧ w = w' := by
  have l17 : decide ((17 : Int) ≤ (o : Int)) = true := by simp; omega
  have u20 : decide ((o : Int) ≤ (20 : Int)) = true := by simp; omega
  clear h1 h2
  go_enter Tryd.func15, Tryd.ntmps15
  go_wp2_with fail
  go_ret
  exact ⟨rfl, rfl⟩
theorem form194_21 (o : Nat) (h1 : 21 ≤ o) (h2 : o ≤ 255) (w : World) : Calls Tryd.prog 15 #[.int .u8 194, .int .u8 (o : Int)] w fun en w' => en = .returned (.bool false) ∧ w = w' := by
  have l17 : decide ((17 : Int) ≤ (o : Int)) = true := by simp; omega
  have u20 : decide ((o : Int) ≤ (20 : Int)) = false := by simp; omega
  clear h1 h2
  go_enter Tryd.func15, Tryd.ntmps15
  go_wp2_with fail
  go_ret
  exact ⟨rfl, rfl⟩
theorem form194 (o : Nat) (ho : o < 256) (w : World) : Calls Tryd.prog 15 #[.int .u8 194, .int .u8 (o : Int)] w fun en w' => en = .returned (.bool (hasK 194 o)) ∧ w = w' := by
  by_cases c0 : 0 ≤ o ∧ o ≤ 16
  · have e : hasK 194 o = false := by simp only [hasK]; simp; omega
    rw [e]
    exact form194_0 o c0.1 c0.2 w
  by_cases c1 : 17 ≤ o ∧ o ≤ 20
  · have e : hasK 194 o = true := by simp only [hasK]; simp; omega
    rw [e]
    exact form194_17 o c1.1 c1.2 w
  by_cases c2 : 21 ≤ o ∧ o ≤ 255
  · have e : hasK 194 o = false := by simp only [hasK]; simp; omega
    rw [e]
    exact form194_21 o c2.1 c2.2 w
  omega
theorem form24_0 (o : Nat) (h1 : 0 ≤ o) (h2 : o ≤ 3) (w : World) : Calls Tryd.prog 15 #[.int .u8 24, .int .u8 (o : Int)] w fun en w' => en = .returned (.bool false) ∧ w = w' := by
  have e4 : ((o : Int) == 4) = false := by simp; omega
  have e48 : ((o : Int) == 48) = false := by simp; omega
  have l11 : decide ((11 : Int) ≤ (o : Int)) = false := by simp; omega
  have l21 : decide ((21 : Int) ≤ (o : Int)) = false := by simp; omega
  have u16 : decide ((o : Int) ≤ (16 : Int)) = true := by simp; omega
  have u26 : decide ((o : Int) ≤ (26 : Int)) = true := by simp; omega
  clear h1 h2
  go_enter Tryd.func15, Tryd.ntmps15
  go_wp2_with fail
  go_ret
  exact ⟨rfl, rfl⟩
theorem form24_4 (w : World) : Calls Tryd.prog 15 #[.int .u8 24, .int .u8 4] w fun en w' => en = .returned (.bool true) ∧ w = w' := by
  go_enter Tryd.func15, Tryd.ntmps15
  go_wp2_with fail
  go_ret
  exact ⟨rfl, rfl⟩
theorem form24_5 (o : Nat) (h1 : 5 ≤ o) (h2 : o ≤ 10) (w : World) : Calls Tryd.prog 15 #[.int .u8 24, .int .u8 (o : Int)] w fun en w' => en = .returned (.bool false) ∧ w = w' := by
  have e4 : ((o : Int) == 4) = false := by simp; omega
  have e48 : ((o : Int) == 48) = false := by simp; omega
  have l11 : decide ((11 : Int) ≤ (o : Int)) = false := by simp; omega
  have l21 : decide ((21 : Int) ≤ (o : Int)) = false := by simp; omega
  have u16 : decide ((o : Int) ≤ (16 : Int)) = true := by simp; omega
  have u26 : decide ((o : Int) ≤ (26 : Int)) = true := by simp; omega
  clear h1 h2
  go_enter Tryd.func15, Tryd.ntmps15
  go_wp2_with fail
  go_ret
  exact ⟨rfl, rfl⟩
theorem form24_11 (o : Nat) (h1 : 11 ≤ o) (h2 : o ≤ 16) (w : World) : Calls Tryd.prog 15 #[.int .u8 24, .int .u8 (o : Int)] w fun en w' => en = .returned (.bool true) ∧ w = w' := by
  have e4 : ((o : Int) == 4) = false := by simp; omega
  have e48 : ((o : Int) == 48) = false := by simp; omega
  have l11 : decide ((11 : Int) ≤ (o : Int)) = true := by simp; omega
  have l21 : decide ((21 : Int) ≤ (o : Int)) = false := by simp; omega
  have u16 : decide ((o : Int) ≤ (16 : Int)) = true := by simp; omega
  have u26 : decide ((o : Int) ≤ (26 : Int)) = true := by simp; omega
  clear h1 h2
  go_enter Tryd.func15, Tryd.ntmps15
  go_wp2_with fail
  go_ret
  exact ⟨rfl, rfl⟩
theorem form24_17 (o : Nat) (h1 : 17 ≤ o) (h2 : o ≤ 20) (w : World) : Calls Tryd.prog 15 #[.int .u8 24, .int .u8 (o : Int)] w fun en w' => en = .returned (.bool false) ∧ w = w' := by
  have e4 : ((o : Int) == 4) = false := by simp; omega
  have e48 : ((o : Int) == 48) = false := by simp; omega
  have l11 : decide ((11 : Int) ≤ (o : Int)) = true := by simp; omega
  have l21 : decide ((21 : Int) ≤ (o : Int)) = false := by simp; omega
  have u16 : decide ((o : Int) ≤ (16 : Int)) = false := by simp; omega
  have u26 : decide ((o : Int) ≤ (26 : Int)) = true := by simp; omega
  clear h1 h2
  go_enter Tryd.func15, Tryd.ntmps15
  go_wp2_with fail
  go_ret
  exact ⟨rfl, rfl⟩
theorem form24_21 (o : Nat) (h1 : 21 ≤ o) (h2 : o ≤ 26) (w : World) : Calls Tryd.prog 15 #[.int .u8 24, .int .u8 (o : Int)] w fun en w' => en = .returned (.bool true) ∧ w = w' := by
  have e4 : ((o : Int) == 4) = false := by simp; omega
  have e48 : ((o : Int) == 48) = false := by simp; omega
  have l11 : decide ((11 : Int) ≤ (o : Int)) = true := by simp; omega
  have l21 : decide ((21 : Int) ≤ (o : Int)) = true := by simp; omega
  have u16 : decide ((o : Int) ≤ (16 : Int)) = false := by simp; omega
  have u26 : decide ((o : Int) ≤ (26 : Int)) = true := by simp; omega
  clear h1 h2
  go_enter Tryd.func15, Tryd.ntmps15
  go_wp2_with fail
  go_ret
  exact ⟨rfl, rfl⟩
theorem form24_27 (o : Nat) (h1 : 27 ≤ o) (h2 : o ≤ 47) (w : World) : Calls Tryd.prog 15 #[.int .u8 24, .int .u8 (o : Int)] w fun en w' => en = .returned (.bool false) ∧ w = w' := by
  have e4 : ((o : Int) == 4) = false := by simp; omega
  have e48 : ((o : Int) == 48) = false := by simp; omega
  have l11 : decide ((11 : Int) ≤ (o : Int)) = true := by simp; omega
  have l21 : decide ((21 : Int) ≤ (o : Int)) = true := by simp; omega
  have u16 : decide ((o : Int) ≤ (16 : Int)) = false := by simp; omega
  have u26 : decide ((o : Int) ≤ (26 : Int)) = false := by simp; omega
  clear h1 h2
  go_enter Tryd.func15, Tryd.ntmps15
  go_wp2_with fail
  go_ret
  exact ⟨rfl, rfl⟩
theorem form24_48 (w : World) : Calls Tryd.prog 15 #[.int .u8 24, .int .u8 48] w fun en w' => en = .returned (.bool true) ∧ w = w' := by
  go_enter Tryd.func15, Tryd.ntmps15
  go_wp2_with fail
  go_ret
  exact ⟨rfl, rfl⟩
theorem form24_49 (o : Nat) (h1 : 49 ≤ o) (h2 : o ≤ 255) (w : World) : Calls Tryd.prog 15 #[.int .u8 24, .int .u8 (o : Int)] w fun en w' => en = .returned (.bool false) ∧ w = w' := by
  have e4 : ((o : Int) == 4) = false := by simp; omega
  have e48 : ((o : Int) == 48) = false := by simp; omega
  have l11 : decide ((11 : Int) ≤ (o : Int)) = true := by simp; omega
  have l21 : decide ((21 : Int) ≤ (o : Int)) = true := by simp; omega
  have u16 : decide ((o : Int) ≤ (16 : Int)) = false := by simp; omega
  have u26 : decide ((o : Int) ≤ (26 : Int)) = false := by simp; omega
  clear h1 h2
  go_enter Tryd.func15, Tryd.ntmps15
  go_wp2_with fail
  go_ret
  exact ⟨rfl, rfl⟩
theorem form24 (o : Nat) (ho : o < 256) (w : World) : Calls Tryd.prog 15 #[.int .u8 24, .int .u8 (o : Int)] w fun en w' => en = .returned (.bool (hasK 24 o)) ∧ w = w' := by
  by_cases c0 : 0 ≤ o ∧ o ≤ 3
  · have e : hasK 24 o = false := by simp only [hasK, isIb]; simp; omega
    rw [e]
    exact form24_0 o c0.1 c0.2 w
  by_cases c1 : o = 4
  · subst c1
    exact form24_4 w
  by_cases c2 : 5 ≤ o ∧ o ≤ 10
  · have e : hasK 24 o = false := by simp only [hasK, isIb]; simp; omega
    rw [e]
    exact form24_5 o c2.1 c2.2 w
  by_cases c3 : 11 ≤ o ∧ o ≤ 16
  · have e : hasK 24 o = true := by simp only [hasK, isIb]; simp; omega
    rw [e]
    exact form24_11 o c3.1 c3.2 w
  by_cases c4 : 17 ≤ o ∧ o ≤ 20
  · have e : hasK 24 o = false := by simp only [hasK, isIb]; simp; omega
    rw [e]
    exact form24_17 o c4.1 c4.2 w
  by_cases c5 : 21 ≤ o ∧ o ≤ 26
  · have e : hasK 24 o = true := by simp only [hasK, isIb]; simp; omega
    rw [e]
    exact form24_21 o c5.1 c5.2 w
  by_cases c6 : 27 ≤ o ∧ o ≤ 47
  · have e : hasK 24 o = false := by simp only [hasK, isIb]; simp; omega
    rw [e]
    exact form24_27 o c6.1 c6.2 w
  by_cases c7 : o = 48
  · subst c7
    exact form24_48 w
  by_cases c8 : 49 ≤ o ∧ o ≤ 255
  · have e : hasK 24 o = false := by simp only [hasK, isIb]; simp; omega
    rw [e]
    exact form24_49 o c8.1 c8.2 w
  omega
theorem form27_0 (o : Nat) (h1 : 0 ≤ o) (h2 : o ≤ 3) (w : World) : Calls Tryd.prog 15 #[.int .u8 27, .int .u8 (o : Int)] w fun en w' => en = .returned (.bool false) ∧ w = w' := by
  have e4 : ((o : Int) == 4) = false := by simp; omega
  have e48 : ((o : Int) == 48) = false := by simp; omega
  have l11 : decide ((11 : Int) ≤ (o : Int)) = false := by simp; omega
  have l21 : decide ((21 : Int) ≤ (o : Int)) = false := by simp; omega
  have u16 : decide ((o : Int) ≤ (16 : Int)) = true := by simp; omega
  have u26 : decide ((o : Int) ≤ (26 : Int)) = true := by simp; omega
  clear h1 h2
  go_enter Tryd.func15, Tryd.ntmps15
  go_wp2_with fail
  go_ret
  exact ⟨rfl, rfl⟩
theorem form27_4 (w : World) : Calls Tryd.prog 15 #[.int .u8 27, .int .u8 4] w fun en w' => en = .returned (.bool true) ∧ w = w' := by
  go_enter Tryd.func15, Tryd.ntmps15
  go_wp2_with fail
  go_ret
  exact ⟨rfl, rfl⟩
theorem form27_5 (o : Nat) (h1 : 5 ≤ o) (h2 : o ≤ 10) (w : World) : Calls Tryd.prog 15 #[.int .u8 27, .int .u8 (o : Int)] w fun en w' => en = .returned (.bool false) ∧ w = w' := by
  have e4 : ((o : Int) == 4) = false := by simp; omega
  have e48 : ((o : Int) == 48) = false := by simp; omega
  have l11 : decide ((11 : Int) ≤ (o : Int)) = false := by simp; omega
  have l21 : decide ((21 : Int) ≤ (o : Int)) = false := by simp; omega
  have u16 : decide ((o : Int) ≤ (16 : Int)) = true := by simp; omega
  have u26 : decide ((o : Int) ≤ (26 : Int)) = true := by simp; omega
  clear h1 h2
  go_enter Tryd.func15, Tryd.ntmps15
  go_wp2_with fail
  go_ret
  exact ⟨rfl, rfl⟩
theorem form27_11 (o : Nat) (h1 : 11 ≤ o) (h2 : o ≤ 16) (w : World) : Calls Tryd.prog 15 #[.int .u8 27, .int .u8 (o : Int)] w fun en w' => en = .returned (.bool true) ∧ w = w' := by
  have e4 : ((o : Int) == 4) = false := by simp; omega
  have e48 : ((o : Int) == 48) = false := by simp; omega
  have l11 : decide ((11 : Int) ≤ (o : Int)) = true := by simp; omega
  have l21 : decide ((21 : Int) ≤ (o : Int)) = false := by simp; omega
  have u16 : decide ((o : Int) ≤ (16 : Int)) = true := by simp; omega
  have u26 : decide ((o : Int) ≤ (26 : Int)) = true := by simp; omega
  clear h1 h2
  go_enter Tryd.func15, Tryd.ntmps15
  go_wp2_with fail
  go_ret
  exact ⟨rfl, rfl⟩
theorem form27_17 (o : Nat) (h1 : 17 ≤ o) (h2 : o ≤ 20) (w : World) : Calls Tryd.prog 15 #[.int .u8 27, .int .u8 (o : Int)] w fun en w' => en = .returned (.bool false) ∧ w = w' := by
  have e4 : ((o : Int) == 4) = false := by simp; omega
  have e48 : ((o : Int) == 48) = false := by simp; omega
  have l11 : decide ((11 : Int) ≤ (o : Int)) = true := by simp; omega
  have l21 : decide ((21 : Int) ≤ (o : Int)) = false := by simp; omega
  have u16 : decide ((o : Int) ≤ (16 : Int)) = false := by simp; omega
  have u26 : decide ((o : Int) ≤ (26 : Int)) = true := by simp; omega
  clear h1 h2
  go_enter Tryd.func15, Tryd.ntmps15
  go_wp2_with fail
  go_ret
  exact ⟨rfl, rfl⟩
theorem form27_21 (o : Nat) (h1 : 21 ≤ o) (h2 : o ≤ 26) (w : World) : Calls Tryd.prog 15 #[.int .u8 27, .int .u8 (o : Int)] w fun en w' => en = .returned (.bool true) ∧ w = w' := by
  have e4 : ((o : Int) == 4) = false := by simp; omega
  have e48 : ((o : Int) == 48) = false := by simp; omega
  have l11 : decide ((11 : Int) ≤ (o : Int)) = true := by simp; omega
  have l21 : decide ((21 : Int) ≤ (o : Int)) = true := by simp; omega
  have u16 : decide ((o : Int) ≤ (16 : Int)) = false := by simp; omega
  have u26 : decide ((o : Int) ≤ (26 : Int)) = true := by simp; omega
  clear h1 h2
  go_enter Tryd.func15, Tryd.ntmps15
  go_wp2_with fail
  go_ret
  exact ⟨rfl, rfl⟩
theorem form27_27 (o : Nat) (h1 : 27 ≤ o) (h2 : o ≤ 47) (w : World) : Calls Tryd.prog 15 #[.int .u8 27, .int .u8 (o : Int)] w fun en w' => en = .returned (.bool false) ∧ w = w' := by
  have e4 : ((o : Int) == 4) = false := by simp; omega
  have e48 : ((o : Int) == 48) = false := by simp; omega
  have l11 : decide ((11 : Int) ≤ (o : Int)) = true := by simp; omega
  have l21 : decide ((21 : Int) ≤ (o : Int)) = true := by simp; omega
  have u16 : decide ((o : Int) ≤ (16 : Int)) = false := by simp; omega
  have u26 : decide ((o : Int) ≤ (26 : Int)) = false := by simp; omega
  clear h1 h2
  go_enter Tryd.func15, Tryd.ntmps15
  go_wp2_with fail
  go_ret
  exact ⟨rfl, rfl⟩
theorem form27_48 (w : World) : Calls Tryd.prog 15 #[.int .u8 27, .int .u8 48] w fun en w' => en = .returned (.bool true) ∧ w = w' := by
  go_enter Tryd.func15, Tryd.ntmps15
  go_wp2_with fail
  go_ret
  exact ⟨rfl, rfl⟩
theorem form27_49 (o : Nat) (h1 : 49 ≤ o) (h2 : o ≤ 255) (w : World) : Calls Tryd.prog 15 #[.int .u8 27, .int .u8 (o : Int)] w fun en w' => en = .returned (.bool false) ∧ w = w' := by
  have e4 : ((o : Int) == 4) = false := by simp; omega
  have e48 : ((o : Int) == 48) = false := by simp; omega
  have l11 : decide ((11 : Int) ≤ (o : Int)) = true := by simp; omega
  have l21 : decide ((21 : Int) ≤ (o : Int)) = true := by simp; omega
  have u16 : decide ((o : Int) ≤ (16 : Int)) = false := by simp; omega
  have u26 : decide ((o : Int) ≤ (26 : Int)) = false := by simp; omega
  clear h1 h2
  go_enter Tryd.func15, Tryd.ntmps15
  go_wp2_with fail
  go_ret
  exact ⟨rfl, rfl⟩
theorem form27 (o : Nat) (ho : o < 256) (w : World) : Calls Tryd.prog 15 #[.int .u8 27, .int .u8 (o : Int)] w fun en w' => en = .returned (.bool (hasK 27 o)) ∧ w = w' := by
  by_cases c0 : 0 ≤ o ∧ o ≤ 3
  · have e : hasK 27 o = false := by simp only [hasK, isIb]; simp; omega
    rw [e]
    exact form27_0 o c0.1 c0.2 w
  by_cases c1 : o = 4
  · subst c1
    exact form27_4 w
  by_cases c2 : 5 ≤ o ∧ o ≤ 10
  · have e : hasK 27 o = false := by simp only [hasK, isIb]; simp; omega
    rw [e]
    exact form27_5 o c2.1 c2.2 w
  by_cases c3 : 11 ≤ o ∧ o ≤ 16
  · have e : hasK 27 o = true := by simp only [hasK, isIb]; simp; omega
    rw [e]
    exact form27_11 o c3.1 c3.2 w
  by_cases c4 : 17 ≤ o ∧ o ≤ 20
  · have e : hasK 27 o = false := by simp only [hasK, isIb]; simp; omega
    rw [e]
    exact form27_17 o c4.1 c4.2 w
  by_cases c5 : 21 ≤ o ∧ o ≤ 26
  · have e : hasK 27 o = true := by simp only [hasK, isIb]; simp; omega
    rw [e]
    exact form27_21 o c5.1 c5.2 w
  by_cases c6 : 27 ≤ o ∧ o ≤ 47
  · have e : hasK 27 o = false := by simp only [hasK, isIb]; simp; omega
    rw [e]
    exact form27_27 o c6.1 c6.2 w
  by_cases c7 : o = 48
  · subst c7
    exact form27_48 w
  by_cases c8 : 49 ≤ o ∧ o ≤ 255
  · have e : hasK 27 o = false := by simp only [hasK, isIb]; simp; omega
    rw [e]
    exact form27_49 o c8.1 c8.2 w
  omega
theorem form193_0 (o : Nat) (h1 : 0 ≤ o) (h2 : o ≤ 3) (w : World) : Calls Tryd.prog 15 #[.int .u8 193, .int .u8 (o : Int)] w fun en w' => en = .returned (.bool false) ∧ w = w' := by
  have e4 : ((o : Int) == 4) = false := by simp; omega
  have e48 : ((o : Int) == 48) = false := by simp; omega
  have l11 : decide ((11 : Int) ≤ (o : Int)) = false := by simp; omega
  have l21 : decide ((21 : Int) ≤ (o : Int)) = false := by simp; omega
  have u16 : decide ((o : Int) ≤ (16 : Int)) = true := by simp; omega
  have u26 : decide ((o : Int) ≤ (26 : Int)) = true := by simp; omega
  clear h1 h2
  go_enter Tryd.func15, Tryd.ntmps15
  go_wp2_with fail
  go_ret
  exact ⟨rfl, rfl⟩
theorem form193_4 (w : World) : Calls Tryd.prog 15 #[.int .u8 193, .int .u8 4] w fun en w' => en = .returned (.bool true) ∧ w = w' := by
  go_enter Tryd.func15, Tryd.ntmps15
  go_wp2_with fail
  go_ret
  exact ⟨rfl, rfl⟩
theorem form193_5 (o : Nat) (h1 : 5 ≤ o) (h2 : o ≤ 10) (w : World) : Calls Tryd.prog 15 #[.int .u8 193, .int .u8 (o : Int)] w fun en w' => en = .returned (.bool false) ∧ w = w' := by
  have e4 : ((o : Int) == 4) = false := by simp; omega
  have e48 : ((o : Int) == 48) = false := by simp; omega
  have l11 : decide ((11 : Int) ≤ (o : Int)) = false := by simp; omega
  have l21 : decide ((21 : Int) ≤ (o : Int)) = false := by simp; omega
  have u16 : decide ((o : Int) ≤ (16 : Int)) = true := by simp; omega
  have u26 : decide ((o : Int) ≤ (26 : Int)) = true := by simp; omega
  clear h1 h2
  go_enter Tryd.func15, Tryd.ntmps15
  go_wp2_with fail
  go_ret
  exact ⟨rfl, rfl⟩
theorem form193_11 (o : Nat) (h1 : 11 ≤ o) (h2 : o ≤ 16) (w : World) : Calls Tryd.prog 15 #[.int .u8 193, .int .u8 (o : Int)] w fun en w' => en = .returned (.bool true) ∧ w = w' := by
  have e4 : ((o : Int) == 4) = false := by simp; omega
  have e48 : ((o : Int) == 48) = false := by simp; omega
  have l11 : decide ((11 : Int) ≤ (o : Int)) = true := by simp; omega
  have l21 : decide ((21 : Int) ≤ (o : Int)) = false := by simp; omega
  have u16 : decide ((o : Int) ≤ (16 : Int)) = true := by simp; omega
  have u26 : decide ((o : Int) ≤ (26 : Int)) = true := by simp; omega
  clear h1 h2
  go_enter Tryd.func15, Tryd.ntmps15
  go_wp2_with fail
  go_ret
  exact ⟨rfl, rfl⟩
theorem form193_17 (o : Nat) (h1 : 17 ≤ o) (h2 : o ≤ 20) (w : World) : Calls Tryd.prog 15 #[.int .u8 193, .int .u8 (o : Int)] w fun en w' => en = .returned (.bool false) ∧ w = w' := by
  have e4 : ((o : Int) == 4) = false := by simp; omega
  have e48 : ((o : Int) == 48) = false := by simp; omega
  have l11 : decide ((11 : Int) ≤ (o : Int)) = true := by simp; omega
  have l21 : decide ((21 : Int) ≤ (o : Int)) = false := by simp; omega
  have u16 : decide ((o : Int) ≤ (16 : Int)) = false := by simp; omega
  have u26 : decide ((o : Int) ≤ (26 : Int)) = true := by simp; omega
  clear h1 h2
  go_enter Tryd.func15, Tryd.ntmps15
  go_wp2_with fail
  go_ret
  exact ⟨rfl, rfl⟩
theorem form193_21 (o : Nat) (h1 : 21 ≤ o) (h2 : o ≤ 26) (w : World) : Calls Tryd.prog 15 #[.int .u8 193, .int .u8 (o : Int)] w fun en w' => en = .returned (.bool true) ∧ w = w' := by
  have e4 : ((o : Int) == 4) = false := by simp; omega
  have e48 : ((o : Int) == 48) = false := by simp; omega
  have l11 : decide ((11 : Int) ≤ (o : Int)) = true := by simp; omega
  have l21 : decide ((21 : Int) ≤ (o : Int)) = true := by simp; omega
  have u16 : decide ((o : Int) ≤ (16 : Int)) = false := by simp; omega
  have u26 : decide ((o : Int) ≤ (26 : Int)) = true := by simp; omega
  clear h1 h2
  go_enter Tryd.func15, Tryd.ntmps15
  go_wp2_with fail
  go_ret
  exact ⟨rfl, rfl⟩
theorem form193_27 (o : Nat) (h1 : 27 ≤ o) (h2 : o ≤ 47) (w : World) : Calls Tryd.prog 15 #[.int .u8 193, .int .u8 (o : Int)] w fun en w' => en = .returned (.bool false) ∧ w = w' := by
  have e4 : ((o : Int) == 4) = false := by simp; omega
  have e48 : ((o : Int) == 48) = false := by simp; omega
  have l11 : decide ((11 : Int) ≤ (o : Int)) = true := by simp; omega
  have l21 : decide ((21 : Int) ≤ (o : Int)) = true := by simp; omega
  have u16 : decide ((o : Int) ≤ (16 : Int)) = false := by simp; omega
  have u26 : decide ((o : Int) ≤ (26 : Int)) = false := by simp; omega
  clear h1 h2
  go_enter Tryd.func15, Tryd.ntmps15
  go_wp2_with fail
  go_ret
  exact ⟨rfl, rfl⟩
theorem form193_48 (w : World) : Calls Tryd.prog 15 #[.int .u8 193, .int .u8 48] w fun en w' => en = .returned (.bool true) ∧ w = w' := by
  go_enter Tryd.func15, Tryd.ntmps15
  go_wp2_with fail
  go_ret
  exact ⟨rfl, rfl⟩
theorem form193_49 (o : Nat) (h1 : 49 ≤ o) (h2 : o ≤ 255) (w : World) : Calls Tryd.prog 15 #[.int .u8 193, .int .u8 (o : Int)] w fun en w' => en = .returned (.bool false) ∧ w = w' := by
  have e4 : ((o : Int) == 4) = false := by simp; omega
  have e48 : ((o : Int) == 48) = false := by simp; omega
  have l11 : decide ((11 : Int) ≤ (o : Int)) = true := by simp; omega
  have l21 : decide ((21 : Int) ≤ (o : Int)) = true := by simp; omega
  have u16 : decide ((o : Int) ≤ (16 : Int)) = false := by simp; omega
  have u26 : decide ((o : Int) ≤ (26 : Int)) = false := by simp; omega
  clear h1 h2
  go_enter Tryd.func15, Tryd.ntmps15
  go_wp2_with fail
  go_ret
  exact ⟨rfl, rfl⟩
theorem form193 (o : Nat) (ho : o < 256) (w : World) : Calls Tryd.prog 15 #[.int .u8 193, .int .u8 (o : Int)] w fun en w' => en = .returned (.bool (hasK 193 o)) ∧ w = w' := by
  by_cases c0 : 0 ≤ o ∧ o ≤ 3
  · have e : hasK 193 o = false := by simp only [hasK, isIb]; simp; omega
    rw [e]
    exact form193_0 o c0.1 c0.2 w
  by_cases c1 : o = 4
  · subst c1
    exact form193_4 w
  by_cases c2 : 5 ≤ o ∧ o ≤ 10
  · have e : hasK 193 o = false := by simp only [hasK, isIb]; simp; omega
    rw [e]
    exact form193_5 o c2.1 c2.2 w
  by_cases c3 : 11 ≤ o ∧ o ≤ 16
  · have e : hasK 193 o = true := by simp only [hasK, isIb]; simp; omega
    rw [e]
    exact form193_11 o c3.1 c3.2 w
  by_cases c4 : 17 ≤ o ∧ o ≤ 20
  · have e : hasK 193 o = false := by simp only [hasK, isIb]; simp; omega
    rw [e]
    exact form193_17 o c4.1 c4.2 w
  by_cases c5 : 21 ≤ o ∧ o ≤ 26
  · have e : hasK 193 o = true := by simp only [hasK, isIb]; simp; omega
    rw [e]
    exact form193_21 o c5.1 c5.2 w
  by_cases c6 : 27 ≤ o ∧ o ≤ 47
  · have e : hasK 193 o = false := by simp only [hasK, isIb]; simp; omega
    rw [e]
    exact form193_27 o c6.1 c6.2 w
  by_cases c7 : o = 48
  · subst c7
    exact form193_48 w
  by_cases c8 : 49 ≤ o ∧ o ≤ 255
  · have e : hasK 193 o = false := by simp only [hasK, isIb]; simp; omega
    rw [e]
    exact form193_49 o c8.1 c8.2 w
  omega
end Go.Proofs.YtkiojljopigldaaDoor.Rel
