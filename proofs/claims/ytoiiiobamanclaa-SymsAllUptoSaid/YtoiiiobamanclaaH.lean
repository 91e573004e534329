import Derived.Test.YtoiiiobamanclaaG
namespace Go.Proofs.Ytoiiiobamanclaa
open Go.ChangeShapes Go.WideShapes Go.ChangeAt Go.RowKit Go.Shelf
set_option linter.unusedVariables false
/-- the first place of a text -/
def oidx (O : List ByteArray) (s : ByteArray) : Option Nat := O.findIdx? fun t => decide (t = s)
theorem oidx_app (O : List ByteArray) (t s : ByteArray) : oidx (O ++ [t]) s = match oidx O s with | some i => some i | none => if s = t then some O.length else none := by
  unfold oidx
  rw [List.findIdx?_append]
  cases List.findIdx? (fun t => decide (t = s)) O with
  | some i => rfl
  | none =>
    rw [List.findIdx?_cons]
    by_cases h : s = t
    · subst h; simp
    · have : decide (t = s) = false := decide_eq_false (fun e => h e.symm)
      rw [this, if_neg h]
      rfl
/-- texts lie there -/
abbrev Sts (W : World) (v : Value) (O : List ByteArray) : Prop := Ly W v 1 (fun s => [Value.string s]) O
def RN (O : List ByteArray) (w : World) (i : Value) (wr : World) : Prop := ∃ k : Nat, k ≤ O.length ∧ i = .int .i64 (k : Int) ∧ Below w.heap.size w wr ∧ (∃ n, n ≤ k ∧ Mf wr w.heap.size n (oidx (O.take k)))
set_option maxRecDepth 100000 in
set_option maxHeartbeats 4000000 in
theorem numbers16 (v : Value) (O : List ByteArray) (w : World) (hO : Sts w v O) (hL : O.length ≤ 1048576) (hS : ∀ s ∈ O, s.size ≤ 1048576) :
    Calls Try.prog 16 #[v] w fun e w' => e = .returned (.map (some w.heap.size)) ∧ (∃ n, Mf w' w.heap.size n (oidx O)) ∧ Below w.heap.size w w' := by
  have hmm := @run_makeMap Try.prog
  obtain ⟨A, c, rfl, hA⟩ := hO
  have HA := Lib.hid hA; have HS := Lib.hid hS
  clear hA hS
  go_enter Try.func16, Try.ntmps16
  go_wp2_with fail
  go_loopw [4, 5, 6, 7, 11] (fun _ _ _ _ i wr => RN O w i wr) (fun _ _ _ _ i _ => O.length - (intOf i).toNat)
  case atStart => exact ⟨0, Nat.zero_le _, rfl, (Below.refl _ _).alloc (Nat.le_refl _) _, 0, Nat.le_refl _, mf_zero w⟩
  case round =>
    obtain ⟨k, hk, rfl, hb, n, hn, hm⟩ := hrel
    by_cases hlt : k < O.length
    · obtain ⟨s, hs⟩ : ∃ s, O[k]? = some s := ⟨_, List.getElem?_eq_getElem hlt⟩
      obtain ⟨ab, ao, rfl, hbl, hc⟩ := HA.out (by omega)
      have c0 : wr.cell? ⟨ab, ao + k, none⟩ = some (.string s) := by
        rw [hb.cell (p := ⟨ab, _, none⟩) hbl]
        have := hc k s hs 0 _ rfl
        rwa [Nat.mul_one, Nat.add_zero] at this
      obtain ⟨D, hown, h2, h3, h4⟩ := hm
      have HO := Lib.hid hown; have H2 := Lib.hid h2; have H3 := Lib.hid h3; have H4 := Lib.hid h4
      have HM : Hid (Mf wr w.heap.size n (oidx (O.take k))) := Lib.hid ⟨D, hown, h2, h3, h4⟩
      have HK9 := Lib.hid (key9 s (by have := HS.out s (List.mem_of_getElem? hs); omega))
      have HB := Lib.hid hb; have HLT := Lib.hid hlt
      have HTK : Hid (O.take (k + 1) = O.take k ++ [s]) := Lib.hid (by rw [List.take_add_one, hs]; rfl)
      have HTL : Hid ((O.take k).length = k) := Lib.hid (by rw [List.length_take]; omega)
      obtain ⟨q, hq⟩ : ∃ q, Maps.has D (.string s.data.toList) = q := ⟨_, rfl⟩
      have HQ3 : Hid (q = (oidx (O.take k) s).isSome) := Lib.hid (by rw [← hq]; exact h3 s)
      have hzs := hb.size
      have HN : Hid (n ≤ 1048576) := Lib.hid (by omega)
      have HNK := Lib.hid hn
      clear hown h2 h3 h4 hc hs hb
      cases q with
      | true =>
        go_wp2_with (at_lookup; refine wpList_lookup_own_ok_int _ rfl _ _ 52 rfl 9 3 .i64 law9 Try.underlying52 Try.underlying3 (zero3 _) w.heap.size n D rfl HO.out _ _ rfl HK9.out ?_; intro c hat hwc)
        go_roundw
        case rel =>
          refine ⟨k + 1, HLT.out, by go_num, HB.out, n, by have := HNK.out; omega, ?_⟩
          have e : oidx (O.take (k + 1)) = oidx (O.take k) := funext fun t => by
            rw [HTK.out, oidx_app]
            cases h : oidx (O.take k) t with
            | some i => rfl
            | none =>
              by_cases ht : t = s
              · subst ht
                have := HQ3.out
                rw [h] at this
                cases this
              · exact if_neg ht
          rw [e]
          exact HM.out
        case measure => simp [intOf]; have := HLT.out; omega
      | false =>
        go_wp2_with (first | (at_lookup; refine wpList_lookup_own_ok_int _ rfl _ _ 52 rfl 9 3 .i64 law9 Try.underlying52 Try.underlying3 (zero3 _) w.heap.size n D rfl HO.out _ _ rfl HK9.out ?_; intro c hat hwc) | (at_mapUpdate; refine wpList_mapUpdate_own _ rfl _ _ _ 52 rfl 9 3 law9 Try.underlying52 _ w.heap.size n D rfl HO.out (by have := HN.out; unfold maxLen; omega) _ _ _ rfl rfl HK9.out _ [] (plainElem_int Try.underlying3 (wf_nat k (by omega))) ?_; intro w1 hown1 hgrow1))
        go_roundw
        case rel =>
          refine ⟨k + 1, HLT.out, by go_num, HB.out.grown hgrow1 hzs (fun j hj => by simp at hj; omega), n + 1, by have := HNK.out; omega, ?_⟩
          have h5 := mf_put H2.out H3.out H4.out hown1
          have e : oidx (O.take (k + 1)) = fun t => if t = s then some k else oidx (O.take k) t := funext fun t => by
            rw [HTK.out, oidx_app, HTL.out]
            by_cases ht : t = s
            · subst ht
              have := HQ3.out
              cases h : oidx (O.take k) t with
              | some i => rw [h] at this; cases this
              | none => simp
            · cases h : oidx (O.take k) t with
              | some i => simp [ht]
              | none => simp [ht]
          rw [e]
          exact h5
        case measure => simp [intOf]; have := HLT.out; omega
    · obtain rfl : k = O.length := by omega
      rw [List.take_length] at hm
      have HM := Lib.hid hm; have HB := Lib.hid hb
      clear hm hb
      go_wp2_with fail
      go_ret
      exact ⟨rfl, ⟨n, HM.out⟩, HB.out⟩
end Go.Proofs.Ytoiiiobamanclaa
