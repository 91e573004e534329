import Derived.Test.YtblfnjdbihhglaaGreatDoorGn
namespace Go.Proofs.YtblfnjdbihhglaaGreatDoor.Li
open Go.ChangeShapes Go.WideShapes Go.ChangeAt Go.RowKit
set_option linter.unusedVariables false
/-- no word begun -/
def St (s : ByteArray) (ws : List ByteArray) (k : Nat) (acc : List ByteArray) : Prop := (k ≤ s.size ∧ ws = acc ++ rem s k k) ∨ (k = s.size + 1 ∧ ws = acc)
/-- the reference's Words, so far -/
def R20 (s : ByteArray) (ws : List ByteArray) (w0 : World) (o wv i : Value) (wr : World) : Prop :=
  ∃ (k : Nat) (acc : List ByteArray), i = .int .i64 (k : Int) ∧ acc.length ≤ k ∧ wr.ownsRow w0.heap.size 9 1 o acc.length (acc.map Value.string) ∧ Below w0.heap.size w0 wr ∧ k ≤ s.size + 1 ∧
    ((∃ a, a < k ∧ k ≤ s.size ∧ ws = acc ++ rem s a k ∧ wv = .string (s.extract a k)) ∨ (St s ws k acc ∧ wv = .string ⟨#[]⟩))
theorem cl0 {s : ByteArray} {ws acc : List ByteArray} {k : Nat} (hk : k ≤ s.size) (hc : k < s.size → pB (bb s k) = true) (h : St s ws k acc) : St s ws (k + 1) acc := by
  rcases h with ⟨_, h⟩ | ⟨h, _⟩
  · by_cases hlt : k < s.size
    · left
      exact ⟨hlt, by rw [h, rem_skip s k hlt (hc hlt)]⟩
    · right
      have hks : k = s.size := by omega
      subst hks
      exact ⟨rfl, by rw [h, rem_end, List.append_nil]⟩
  · omega
theorem cl1 {s : ByteArray} {ws acc : List ByteArray} {a k : Nat} (hk : k ≤ s.size) (hc : k < s.size → pB (bb s k) = true) (ha : a < k) (hq : bb s a ≠ 35) (h : ws = acc ++ rem s a k) : St s ws (k + 1) (acc ++ [s.extract a k]) := by
  by_cases hlt : k < s.size
  · left
    exact ⟨hlt, by rw [h, rem_put s a k ha hlt (hc hlt) hq]; simp⟩
  · right
    have hks : k = s.size := by omega
    subst hks
    exact ⟨rfl, by rw [h, rem_end_put s a ha hq]⟩
theorem cl2 {s : ByteArray} {ws acc : List ByteArray} {a k : Nat} (hk : k ≤ s.size) (hc : k < s.size → pB (bb s k) = true) (ha : a < k) (hq : bb s a = 35) (h : ws = acc ++ rem s a k) : ws = acc := by
  by_cases hlt : k < s.size
  · rw [h, rem_stop s a k ha hlt (hc hlt) hq, List.append_nil]
  · have hks : k = s.size := by omega
    subst hks
    rw [h, rem_end_stop s a ha hq, List.append_nil]
theorem own_ret {w : World} {B e size : Nat} {v : Value} {acc ws : List ByteArray} (h : w.ownsRow B e size v acc.length (acc.map Value.string)) (hw : ws = acc) :
    ∃ A c, Ending.returned v = Ending.returned (.slice A ws.length c) ∧ w.ownsRow B e size (.slice A ws.length c) ws.length (ws.map Value.string) := by
  subst hw
  obtain ⟨A, c, rfl, _⟩ := own_slice h
  exact ⟨A, c, rfl, h⟩
theorem st_any {s : ByteArray} {ws acc : List ByteArray} {k : Nat} {wv : Value} (hk : k ≤ s.size) (h : (∃ a, a < k ∧ k ≤ s.size ∧ ws = acc ++ rem s a k ∧ wv = .string (s.extract a k)) ∨ (St s ws k acc ∧ wv = .string ⟨#[]⟩)) :
    ∃ a, a ≤ k ∧ ws = acc ++ rem s a k ∧ wv = .string (s.extract a k) := by
  rcases h with ⟨a, h1, h2, h3, h4⟩ | ⟨h | h, h4⟩
  · exact ⟨a, by omega, h3, h4⟩
  · exact ⟨k, Nat.le_refl _, h.2, by rw [h4, ext_self]⟩
  · omega
theorem st_empty {s : ByteArray} {ws acc : List ByteArray} {k : Nat} {wv : Value} (hk : ¬ k ≤ s.size) (h : (∃ a, a < k ∧ k ≤ s.size ∧ ws = acc ++ rem s a k ∧ wv = .string (s.extract a k)) ∨ (St s ws k acc ∧ wv = .string ⟨#[]⟩)) : wv = .string ⟨#[]⟩ := by
  rcases h with ⟨a, h1, h2, h3, h4⟩ | ⟨_, h4⟩
  · omega
  · exact h4
def P20 (ws : List ByteArray) (w : World) (e : Ending) (w' : World) : Prop :=
  ∃ A c, e = .returned (.slice A ws.length c) ∧ w'.ownsRow w.heap.size 9 1 (.slice A ws.length c) ws.length (ws.map Value.string) ∧ Below w.heap.size w w'
set_option maxRecDepth 100000 in
set_option maxHeartbeats 8000000 in
theorem c20 (s : ByteArray) (hs : s.size ≤ 16777215) (ha : asc s) (w : World) : Calls Tryz.prog 27 #[.string s] w fun e w' => P20 (wordsB s) w e w' := by
  obtain ⟨i0, hi, hz⟩ : ∃ i, Tryz.prog.info? 9 = some i ∧ (i.zero, i.size, i.bytes) = (some (.string ⟨#[]⟩), 1, 16) := by
    have h : (Tryz.prog.info? 9).map (fun i => (i.zero, i.size, i.bytes)) = some (some (.string ⟨#[]⟩), 1, 16) := by kernel_rfl
    cases hq : Tryz.prog.info? 9 with
    | none => rw [hq] at h; cases h
    | some i => rw [hq] at h; exact ⟨i, rfl, by simpa using h⟩
  simp only [Prod.mk.injEq] at hz
  obtain ⟨hz0, hz1, hz2⟩ := hz
  have HI := Lib.hid hi
  have HZ0 := Lib.hid hz0
  have HZ1 := Lib.hid hz1
  have HZ2 := Lib.hid hz2
  have H0 : Hid (St s (wordsB s) 0 []) := Lib.hid (Or.inl ⟨Nat.zero_le _, words_rem s ha⟩)
  clear hi hz0 hz1 hz2 ha
  generalize wordsB s = ws at *
  go_enter Tryz.func27, Tryz.ntmps27
  go_wp2_with fail
  go_loopw [3, 4, 5] (fun o wv i wr => R20 s ws w o wv i wr) (fun _ _ i _ => s.size + 1 - (intOf i).toNat)
  case atStart => exact ⟨0, [], rfl, Nat.le_refl _, World.ownsRow_nil _ _ _ _, Below.refl _ _, by omega, Or.inr ⟨H0.out, rfl⟩⟩
  case round =>
    obtain ⟨k, acc, rfl, hac, ho, hb, hk1, hst⟩ := hrel
    have HO := Lib.hid ho
    have HB := Lib.hid hb
    have HAC := Lib.hid hac
    have z1 := hb.size
    clear ho hb hac
    by_cases hks : k ≤ s.size
    · by_cases hnb : k < s.size ∧ pB (bb s k) = false
      · -- within a word
        obtain ⟨hlt, hp⟩ := hnb
        have he : (s[k]'hlt).toNat = bb s k := (bb_eq s k hlt).symm
        obtain ⟨a, hak, hws, rfl⟩ := st_any hks hst
        have HN : Hid (ws = acc ++ rem s a (k + 1)) := Lib.hid (by rw [hws, rem_word s a k hak hlt hp])
        have HX : Hid (s.extract a k ++ s.extract k (k + 1) = s.extract a (k + 1)) := Lib.hid (ext_snoc s a k hak hlt)
        have hxs : (s.extract a k).size ≤ 16777216 := by rw [ByteArray.size_extract]; omega
        have hys : (s.extract k (k + 1)).size ≤ 16777216 := by rw [ByteArray.size_extract]; omega
        have b1 : ((bb s k : Int) != 32) = true := by unfold pB at hp; simp at hp; simp; omega
        have b2 : ((bb s k : Int) != 9) = true := by unfold pB at hp; simp at hp; simp; omega
        have HLT := Lib.hid hlt
        have HAK := Lib.hid hak
        clear hst hws hp hak
        generalize s.extract a k = x at *
        generalize bb s k = v at *
        go_wp2_with fail
        go_roundw
        case rel => exact ⟨k + 1, acc, by go_num, Nat.le_succ_of_le HAC.out, HO.out, HB.out, by omega, Or.inl ⟨a, Nat.lt_succ_of_le HAK.out, HLT.out, HN.out, by rw [← HX.out]⟩⟩
        case measure => simp [intOf]; omega
      · have hcl : k < s.size → pB (bb s k) = true := fun h => by
          cases hq : pB (bb s k) with
          | true => rfl
          | false => exact absurd ⟨h, hq⟩ hnb
        have hT : (∃ (hlt : k < s.size) (v : Nat), (s[k]'hlt).toNat = v ∧ ((v : Int) != 32) = false) ∨ (∃ (hlt : k < s.size) (v : Nat), (s[k]'hlt).toNat = v ∧ ((v : Int) != 32) = true ∧ ((v : Int) != 9) = false) ∨ k = s.size := by
          by_cases hlt : k < s.size
          · have := hcl hlt
            unfold pB at this
            have := of_decide_eq_true this
            rcases this with h | h
            · exact Or.inl ⟨hlt, bb s k, (bb_eq s k hlt).symm, by simp; omega⟩
            · exact Or.inr (Or.inl ⟨hlt, bb s k, (bb_eq s k hlt).symm, by simp; omega, by simp; omega⟩)
          · exact Or.inr (Or.inr (by omega))
        clear hnb
        rcases hst with ⟨a, hak, -, hws, rfl⟩ | ⟨hSt, rfl⟩
        · have HC1 : Hid (bb s a ≠ 35 → St s ws (k + 1) (acc ++ [s.extract a k])) := Lib.hid fun h => cl1 hks hcl hak h hws
          have HC2 : Hid (bb s a = 35 → ws = acc) := Lib.hid fun h => cl2 hks hcl hak h hws
          have hpos : 0 < (s.extract a k).size := by rw [ByteArray.size_extract]; omega
          have he0 : (((s.extract a k)[0]'hpos).toNat) = bb s a := by rw [← bb_eq _ 0 hpos, bb_ext s a k hak hks]
          have hne : ((s.extract a k).toList == []) = false := by
            rw [emp_iff]
            exact decide_eq_false (fun h => by rw [h] at hpos; cases hpos)
          have hxs : (s.extract a k).size ≤ 16777216 := by rw [ByteArray.size_extract]; omega
          have HK := Lib.hid hks
          clear hws hcl hak hks
          generalize s.extract a k = x at *
          by_cases h35 : bb s a = 35
          · have b35 : ((bb s a : Int) == 35) = true := by rw [h35]; rfl
            have HW := Lib.hid (HC2.out h35)
            clear h35
            generalize bb s a = v at *
            rcases hT with ⟨hlt, v2, e0, e1⟩ | ⟨hlt, v2, e0, e1, e2⟩ | e1
            case' inr.inr => subst e1
            all_goals
              go_wp2_with fail
              go_ret
              obtain ⟨A, c, e, ho⟩ := own_ret HO.out HW.out
              exact ⟨A, c, e, ho, HB.out⟩
          · have b35 : ((bb s a : Int) == 35) = false := by simp; omega
            have HW := Lib.hid (HC1.out h35)
            clear h35
            generalize bb s a = v at *
            rcases hT with ⟨hlt, v2, e0, e1⟩ | ⟨hlt, v2, e0, e1, e2⟩ | e1
            case' inr.inr => subst e1
            all_goals
              go_wp2_with (at_builtin; refine wpList_append_own _ rfl _ _ 22 rfl w.heap.size 9 i0 (.string ⟨#[]⟩) 1 16 Tryz.underlying22 HI.out HZ0.out HZ1.out HZ2.out rfl (by decide) _ _ _ rfl (HO.out.alloc _) ⟨wr.heap.size, 0, none⟩ 1 1 [.string x] rfl rfl (one_cell _ _ _) (fun x hx => by simp at hx; subst hx; rfl) (by have := HAC.out; unfold maxLen; omega) (by have := HAC.out; omega) (by simp; omega) ?_; intro v' w5 hown5 hgrow5 hnil5)
              go_roundw
              case rel => exact ⟨_, acc ++ [x], by go_num, by have := HAC.out; simp; omega, by rw [List.map_append, List.length_append]; exact hown5, gr_below (HB.out.alloc HB.out.size _) (HO.out.alloc _) hgrow5 (by simp; omega), by have := HK.out; omega, Or.inr ⟨HW.out, rfl⟩⟩
              case measure => simp [intOf] <;> (have := HK.out; omega)
        · have HW := Lib.hid (cl0 hks hcl hSt)
          have HK := Lib.hid hks
          have HAC2 := HAC.out
          clear hSt hcl hks
          rcases hT with ⟨hlt, v2, e0, e1⟩ | ⟨hlt, v2, e0, e1, e2⟩ | e1
          case' inr.inr => subst e1
          all_goals
            go_wp2_with fail
            go_roundw
            case rel => exact ⟨_, acc, by go_num, by omega, HO.out, HB.out, by have := HK.out; omega, Or.inr ⟨HW.out, rfl⟩⟩
            case measure => simp [intOf] <;> (have := HK.out; omega)
    · have hk2 : k = s.size + 1 := by omega
      have HW : Hid (ws = acc) := Lib.hid (by
        rcases hst with ⟨a, _, h, _⟩ | ⟨⟨h, _⟩ | ⟨_, h⟩, _⟩
        · omega
        · omega
        · exact h)
      have hwv := st_empty hks hst
      subst hwv
      have hki : (s.size : Int) < (k : Int) := by omega
      clear hst hk2
      go_wp2_with fail
      go_ret
      obtain ⟨A, c, e, ho⟩ := own_ret HO.out HW.out
      exact ⟨A, c, e, ho, HB.out⟩
end Go.Proofs.YtblfnjdbihhglaaGreatDoor.Li
