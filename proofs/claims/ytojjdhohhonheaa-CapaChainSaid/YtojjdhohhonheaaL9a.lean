import Derived.Test.YtojjdhohhonheaaS9
namespace Go.Proofs.Ytojjdhohhonheaa
open Go.ChangeShapes Go.WideShapes Go.ChangeAt Go.RowKit
set_option linter.unusedVariables false

set_option maxHeartbeats 8000000 in
set_option maxRecDepth 100000 in
theorem walk9 (n0 n pp k b8 m8 tt pq E0 B0 T0 : Nat) (hn0 : n0 < 65536) (hn : n < 65536) (hpp : pp < 256) (A : Option Addr) (len cap : Nat) (hlen : len ≤ 9223372036854775807) (w0 : World)
   (hb8 : b8 < 4294967296) (hpq : pq < 256) (hE : E0 < 256) (hB : B0 < 65536) (hT : T0 < 65536) (zs : Nat → Nat) (hz : ∀ j, zs j < 4294967296)
   (hA : 0 < len → ∃ bl off, A = some ⟨bl, off, none⟩ ∧ bl < w0.heap.size ∧ ∀ j, j < len → w0.cell? ⟨bl, off + j, none⟩ = some (.int .u32 (zs j : Int)))
   (h1 : (n0 : Int) % 18446744073709551616 = n0) (h2 : (n0 : Int).tdiv 8 = (k : Int)) (h2' : (n0 : Int) / 8 = (k : Int)) (h3 : (k : Int) * 8 % 18446744073709551616 = (b8 : Int)) (h3' : (k : Int) * 8 = (b8 : Int))
   (h4 : (n : Int) % 18446744073709551616 = n) (h5 : (n : Int).tmod 512 = (m8 : Int)) (h5' : (n : Int) % 512 = (m8 : Int)) (h6 : (m8 : Int) * 8 % 18446744073709551616 = (m8 : Int) * 8)
   (h7 : ((b8 : Int) + (m8 : Int) * 8) % 18446744073709551616 = (b8 : Int) + (m8 : Int) * 8) (h8 : (if (b8 : Int) + (m8 : Int) * 8 < 65536 then (b8 : Int) + (m8 : Int) * 8 else 65536) = (tt : Int))
   (h9 : (pp : Int).tmod 128 = (pq : Int)) (h9' : (pp : Int) % 128 = (pq : Int))
   (K32 : ∀ w : World, Calls Try.prog 32 #[.int .u64 (b8 : Int), .int .u64 (tt : Int), .int .u8 (pq : Int)] w fun en w' => en = .returned (.tuple #[cp true b8 pq 0 E0 B0 T0, .int .i64 0]) ∧ Below w.heap.size w w') :
    Calls Try.prog 9 #[.int .u16 (n0 : Int), .int .u16 (n : Int), .int .u8 (pp : Int), .slice A len cap] w0 fun en w' => en = .returned (.bool true) ∧ Below w0.heap.size w0 w' := by
  go_enter Try.func9, Try.ntmps9
  go_wp2_with fail
  refine (K32 _).mono ?_
  rintro _ w1 ⟨rfl, hb1⟩
  clear K32 h1 h2 h2' h3 h3' h4 h5 h5' h6 h7 h8 h9 h9'
  have hst := LQ.start (pq := pq) (b8 := b8) (E0 := E0) (B0 := B0) (T0 := T0) hb1 hb8 hpq hE hB hT
  have hb1' := hb1.size
  clear hb1
  have hst := Lib.hid hst
  go_wp2_with fail
  go_loopw [12] (LR w0 w1.heap.size pq b8 E0 B0 T0) (fun i _ => 32 - (intOf i).toNat)
  case atStart => exact ⟨0, by omega, rfl, hst.out⟩
  case round =>
    obtain ⟨k, hk, rfl, hq⟩ := hrel
    clear hst
    by_cases hgo : k + 1 < len ∧ k < 30
    · obtain ⟨hg1, hg2⟩ := hgo
      obtain ⟨bl, off, rfl, hbl, hcell⟩ := hA (by omega)
      obtain ⟨hB0, hR, gc, ac, pc, ec, bc, tc, hac, hpc, hec, hbc, htc, hIn, hC⟩ := hq
      have hx := (hB0.cell (p := ⟨bl, off + k, none⟩) hbl).trans (hcell k (by omega))
      have hy := (hB0.cell (p := ⟨bl, off + (k + 1), none⟩) hbl).trans (hcell (k + 1) (by omega))
      have hzx := hz k
      have hzy := hz (k + 1)
      generalize zs k = x at *
      generalize zs (k + 1) = y at *
      clear hcell hA hz
      have hS : (fun w' => Below w0.heap.size w0 w' ∧ Blk w' w1.heap.size 27 #[.bool true, .int .u32 (b8 : Int), .int .u8 (pq : Int), .int .u8 0, .int .u8 (E0 : Int), .int .u16 (B0 : Int), .int .u16 (T0 : Int)] ∧ Blk w' (w1.heap.size + 1) 27 #[.bool gc, .int .u32 (ac : Int), .int .u8 (pc : Int), .int .u8 0, .int .u8 (ec : Int), .int .u16 (bc : Int), .int .u16 (tc : Int)] ∧ w'.cell? ⟨bl, off + (k + 1), none⟩ = some (.int .u32 (y : Int))) wr := ⟨hB0, hR, hC, hy⟩
      have HS := Lib.hid hS
      clear hS
      clear hB0 hR hC hy
      have hd30 : decide ((k : Int) < 30) = true := by simp; omega
      go_upto_block 2 with fail
      go_cut [] from 51 to 91 (fun wx => LQ w0 wx w1.heap.size pq b8 E0 B0 T0)
      case first =>
        have hx4 : x % 4 = 0 ∨ x % 4 = 1 ∨ x % 4 = 2 ∨ x % 4 = 3 := by omega
        clear hx
        have fw : IntKind.i64.wrap ((k : Int) + 1) = (k : Int) + 1 := IntWalk.i64_in _ (by omega)
        have f0 : (0 : Int) ≤ (k : Int) + 1 := by omega
        have fn : ((k : Int) + 1).toNat = k + 1 := by omega
        rcases hx4 with hx4 | hx4 | hx4 | hx4
        · have e4 : (x : Int) % 4 = 0 := by omega
          clear hx4
          have K38 := c38 true b8 pq 0 E0 B0 T0 hb8 hE hB hT
          generalize bs (E0 % 16) (B0 % 512) b8 = Br at K38
          obtain ⟨nn, hnn, hnl⟩ := u32w (IntKind.u32.wrap ↑Br + (↑y : Int).tmod 5000)
          obtain ⟨g', KS, hI⟩ := stA (pq := pq) (b8 := b8) (E0 := E0) (B0 := B0) (T0 := T0) gc ac pc ec bc tc nn hac hec hbc htc hnl hIn
          go_wp2_with fail
          refine wp_region_E (fun w' => Below w0.heap.size w0 w' ∧ Blk w' w1.heap.size 27 #[.bool true, .int .u32 (b8 : Int), .int .u8 (pq : Int), .int .u8 0, .int .u8 (E0 : Int), .int .u16 (B0 : Int), .int .u16 (T0 : Int)] ∧ Blk w' (w1.heap.size + 1) 27 #[.bool gc, .int .u32 (ac : Int), .int .u8 (pc : Int), .int .u8 0, .int .u8 (ec : Int), .int .u16 (bc : Int), .int .u16 (tc : Int)] ∧ w'.cell? ⟨bl, off + (k + 1), none⟩ = some (.int .u32 (y : Int))) 12 (by kernel_rfl) (keepS HS.out ((Below.refl _ _).drew)) (fun hHeld => ?_)
          refine wpAnyE_take (i := 0) (v := ?v1_0) rfl (by kernel_rfl) (by kernel_rfl) (fun _ _ _ h => h) (Or.inl ⟨by rfl, ?hy1_0⟩) (by assumption) ?rest1_0
          case hy1_0 => (intro w' hSw; obtain ⟨_, hR, hC, hx⟩ := hSw; obtain ⟨cc0, cc1, cc2, cc3, cc4, cc5, cc6⟩ := hC.cells7; obtain ⟨dd0, dd1, dd2, dd3, dd4, dd5, dd6⟩ := hR.cells7; clear hC hR; go_simp; try with_reducible rfl)
          try simp only [Act.put, List.getElem_toArray, List.getElem_cons_zero, List.setIfInBounds_toArray, List.set_cons_zero, List.set_cons_succ]
          refine wpAnyE_take (i := 1) (v := ?v1_1) rfl (by kernel_rfl) (by kernel_rfl) (fun _ _ _ h => h) (Or.inl ⟨by rfl, ?hy1_1⟩) (by assumption) ?rest1_1
          case hy1_1 => (intro w' hSw; obtain ⟨_, hR, hC, hx⟩ := hSw; obtain ⟨cc0, cc1, cc2, cc3, cc4, cc5, cc6⟩ := hC.cells7; obtain ⟨dd0, dd1, dd2, dd3, dd4, dd5, dd6⟩ := hR.cells7; clear hC hR; go_simp; try with_reducible rfl)
          try simp only [Act.put, List.getElem_toArray, List.getElem_cons_succ, List.getElem_cons_zero, List.setIfInBounds_toArray, List.set_cons_zero, List.set_cons_succ]
          refine wpAnyE_take (i := 4) (v := ?v1_4) rfl (by kernel_rfl) (by kernel_rfl) (fun _ _ _ h => h) (Or.inl ⟨by rfl, ?hy1_4⟩) (by assumption) ?rest1_4
          case hy1_4 => (intro w' hSw; obtain ⟨_, hR, hC, hx⟩ := hSw; obtain ⟨cc0, cc1, cc2, cc3, cc4, cc5, cc6⟩ := hC.cells7; obtain ⟨dd0, dd1, dd2, dd3, dd4, dd5, dd6⟩ := hR.cells7; clear hC hR; go_simp; try with_reducible rfl)
          try simp only [Act.put, List.getElem_toArray, List.getElem_cons_succ, List.getElem_cons_zero, List.setIfInBounds_toArray, List.set_cons_zero, List.set_cons_succ]
          refine wpAnyE_take (i := 5) (v := ?v1_5) rfl (by kernel_rfl) (by kernel_rfl) (fun _ _ _ h => h) (Or.inl ⟨by rfl, ?hy1_5⟩) (by assumption) ?rest1_5
          case hy1_5 => (intro w' hSw; obtain ⟨_, hR, hC, hx⟩ := hSw; obtain ⟨cc0, cc1, cc2, cc3, cc4, cc5, cc6⟩ := hC.cells7; obtain ⟨dd0, dd1, dd2, dd3, dd4, dd5, dd6⟩ := hR.cells7; clear hC hR; go_simp; try with_reducible rfl)
          try simp only [Act.put, List.getElem_toArray, List.getElem_cons_succ, List.getElem_cons_zero, List.setIfInBounds_toArray, List.set_cons_zero, List.set_cons_succ]
          refine wpAnyE_take (i := 6) (v := ?v1_6) rfl (by kernel_rfl) (by kernel_rfl) (fun _ _ _ h => h) (Or.inl ⟨by rfl, ?hy1_6⟩) (by assumption) ?rest1_6
          case hy1_6 => (intro w' hSw; obtain ⟨_, hR, hC, hx⟩ := hSw; obtain ⟨cc0, cc1, cc2, cc3, cc4, cc5, cc6⟩ := hC.cells7; obtain ⟨dd0, dd1, dd2, dd3, dd4, dd5, dd6⟩ := hR.cells7; clear hC hR; go_simp; try with_reducible rfl)
          try simp only [Act.put, List.getElem_toArray, List.getElem_cons_succ, List.getElem_cons_zero, List.setIfInBounds_toArray, List.set_cons_zero, List.set_cons_succ]
          refine wpAnyE_take (i := 7) (v := ?v1_7) rfl (by kernel_rfl) (by kernel_rfl) (fun _ _ _ h => h) (Or.inl ⟨by rfl, ?hy1_7⟩) (by assumption) ?rest1_7
          case hy1_7 => (intro w' hSw; obtain ⟨_, hR, hC, hx⟩ := hSw; obtain ⟨cc0, cc1, cc2, cc3, cc4, cc5, cc6⟩ := hC.cells7; obtain ⟨dd0, dd1, dd2, dd3, dd4, dd5, dd6⟩ := hR.cells7; clear hC hR; go_simp; try with_reducible rfl)
          try simp only [Act.put, List.getElem_toArray, List.getElem_cons_succ, List.getElem_cons_zero, List.setIfInBounds_toArray, List.set_cons_zero, List.set_cons_succ]
          refine wpAnyE_take (i := 8) (v := ?v1_8) rfl (by kernel_rfl) (by kernel_rfl) (fun _ _ _ h => h) (Or.inl ⟨by rfl, ?hy1_8⟩) (by assumption) ?rest1_8
          case hy1_8 => (intro w' hSw; obtain ⟨_, hR, hC, hx⟩ := hSw; obtain ⟨cc0, cc1, cc2, cc3, cc4, cc5, cc6⟩ := hC.cells7; obtain ⟨dd0, dd1, dd2, dd3, dd4, dd5, dd6⟩ := hR.cells7; clear hC hR; go_simp; try with_reducible rfl)
          try simp only [Act.put, List.getElem_toArray, List.getElem_cons_succ, List.getElem_cons_zero, List.setIfInBounds_toArray, List.set_cons_zero, List.set_cons_succ]
          refine wpAnyE_take (i := 9) (v := ?v1_9) rfl (by kernel_rfl) (by kernel_rfl) (fun _ _ _ h => h) (Or.inl ⟨by rfl, ?hy1_9⟩) (by assumption) ?rest1_9
          case hy1_9 => (intro w' hSw; obtain ⟨_, hR, hC, hx⟩ := hSw; obtain ⟨cc0, cc1, cc2, cc3, cc4, cc5, cc6⟩ := hC.cells7; obtain ⟨dd0, dd1, dd2, dd3, dd4, dd5, dd6⟩ := hR.cells7; clear hC hR; go_simp; try with_reducible rfl)
          try simp only [Act.put, List.getElem_toArray, List.getElem_cons_succ, List.getElem_cons_zero, List.setIfInBounds_toArray, List.set_cons_zero, List.set_cons_succ]
          refine wpAnyE_one (i := 2) (by kernel_rfl) rfl (fun K hK => ?_)
          go_simp
          go_at_call 38
          refine (K38 _).mono ?_
          rintro _ wx ⟨rfl, hbx⟩
          refine hK.out _ _ (keepS (by assumption) hbx) (fun hHeld => ?_)
          clear hK K
          try simp only [Act.put, List.getElem_toArray, List.getElem_cons_succ, List.getElem_cons_zero, List.setIfInBounds_toArray, List.set_cons_zero, List.set_cons_succ]
          refine wpAnyE_take (i := 3) (v := ?v1_3) rfl (by kernel_rfl) (by kernel_rfl) (fun _ _ _ h => h) (Or.inl ⟨by rfl, ?hy1_3⟩) (by assumption) ?rest1_3
          case hy1_3 => (intro w' hSw; obtain ⟨_, hR, hC, hx⟩ := hSw; obtain ⟨cc0, cc1, cc2, cc3, cc4, cc5, cc6⟩ := hC.cells7; obtain ⟨dd0, dd1, dd2, dd3, dd4, dd5, dd6⟩ := hR.cells7; clear hC hR; go_simp; try with_reducible rfl)
          try simp only [Act.put, List.getElem_toArray, List.getElem_cons_succ, List.getElem_cons_zero, List.setIfInBounds_toArray, List.set_cons_zero, List.set_cons_succ]
          refine wpAnyE_take (i := 10) (v := ?v1_10) rfl (by kernel_rfl) (by kernel_rfl) (fun _ _ _ h => h) (Or.inl ⟨by rfl, ?hy1_10⟩) (by assumption) ?rest1_10
          case hy1_10 => (intro w' hSw; obtain ⟨_, hR, hC, hx⟩ := hSw; obtain ⟨cc0, cc1, cc2, cc3, cc4, cc5, cc6⟩ := hC.cells7; obtain ⟨dd0, dd1, dd2, dd3, dd4, dd5, dd6⟩ := hR.cells7; clear hC hR; go_simp; try with_reducible rfl)
          try simp only [Act.put, List.getElem_toArray, List.getElem_cons_succ, List.getElem_cons_zero, List.setIfInBounds_toArray, List.set_cons_zero, List.set_cons_succ]
          refine wpAnyE_one (i := 11) (by kernel_rfl) rfl (fun K hK => ?_)
          go_simp
          go_at_call 18
          refine (KS _).mono ?_
          rintro _ wx ⟨rfl, hbx⟩
          refine hK.out _ _ (keepS (by assumption) hbx) (fun hHeld => ?_)
          clear hK K
          try simp only [Act.put, List.getElem_toArray, List.getElem_cons_succ, List.getElem_cons_zero, List.setIfInBounds_toArray, List.set_cons_zero, List.set_cons_succ]
          rename_i hHeld
          obtain ⟨hBl, hR, hC, hx⟩ := hHeld
          obtain ⟨cc0, cc1, cc2, cc3, cc4, cc5, cc6⟩ := hC.cells7
          obtain ⟨ff0, ff1, ff2, ff3, ff4, ff5, ff6⟩ := hC.frozen7
          have hR' := Lib.hid hR
          have hC' := Lib.hid hC
          have hBl' := Lib.hid hBl
          clear hR hC hBl hx
          refine wpAnyE_last (by kernel_rfl) (by kernel_rfl) rfl (fun K hK => ?_)
          go_simp
          refine hK.out _ _ ?_
          clear hK K

          go_wp2_with fail
          go_meet
          exact ⟨below7 hBl'.out (by omega) _ _ _ _ _ _ _, hR'.out.far7 (by omega) _ _ _ _ _ _ _, g', nn, pc, ec, bc, tc, hnl, hpc, hec, hbc, htc, hI, hC'.out.set7 _ _ _ _ _ _ _⟩
        · have e4 : (x : Int) % 4 = 1 := by omega
          clear hx4
          obtain ⟨nn, hnn, hnl⟩ : ∃ nn : Nat, (↑y : Int).tmod 600 = (nn : Int) ∧ nn < 4294967296 := ⟨y % 600, rfl, by omega⟩
          obtain ⟨g', e', b', t', he', hb', ht', KS, hI⟩ := stB (pq := pq) (b8 := b8) (E0 := E0) (B0 := B0) (T0 := T0) gc ac pc ec bc tc nn hac hec hbc htc hnl hIn
          go_wp2_with fail
          refine wp_region_E (fun w' => Below w0.heap.size w0 w' ∧ Blk w' w1.heap.size 27 #[.bool true, .int .u32 (b8 : Int), .int .u8 (pq : Int), .int .u8 0, .int .u8 (E0 : Int), .int .u16 (B0 : Int), .int .u16 (T0 : Int)] ∧ Blk w' (w1.heap.size + 1) 27 #[.bool gc, .int .u32 (ac : Int), .int .u8 (pc : Int), .int .u8 0, .int .u8 (ec : Int), .int .u16 (bc : Int), .int .u16 (tc : Int)] ∧ w'.cell? ⟨bl, off + (k + 1), none⟩ = some (.int .u32 (y : Int))) 8 (by kernel_rfl) (keepS HS.out ((Below.refl _ _).drew)) (fun hHeld => ?_)
          refine wpAnyE_take (i := 0) (v := ?v2_0) rfl (by kernel_rfl) (by kernel_rfl) (fun _ _ _ h => h) (Or.inl ⟨by rfl, ?hy2_0⟩) (by assumption) ?rest2_0
          case hy2_0 => (intro w' hSw; obtain ⟨_, hR, hC, hx⟩ := hSw; obtain ⟨cc0, cc1, cc2, cc3, cc4, cc5, cc6⟩ := hC.cells7; obtain ⟨dd0, dd1, dd2, dd3, dd4, dd5, dd6⟩ := hR.cells7; clear hC hR; go_simp; try with_reducible rfl)
          try simp only [Act.put, List.getElem_toArray, List.getElem_cons_zero, List.setIfInBounds_toArray, List.set_cons_zero, List.set_cons_succ]
          refine wpAnyE_take (i := 1) (v := ?v2_1) rfl (by kernel_rfl) (by kernel_rfl) (fun _ _ _ h => h) (Or.inl ⟨by rfl, ?hy2_1⟩) (by assumption) ?rest2_1
          case hy2_1 => (intro w' hSw; obtain ⟨_, hR, hC, hx⟩ := hSw; obtain ⟨cc0, cc1, cc2, cc3, cc4, cc5, cc6⟩ := hC.cells7; obtain ⟨dd0, dd1, dd2, dd3, dd4, dd5, dd6⟩ := hR.cells7; clear hC hR; go_simp; try with_reducible rfl)
          try simp only [Act.put, List.getElem_toArray, List.getElem_cons_succ, List.getElem_cons_zero, List.setIfInBounds_toArray, List.set_cons_zero, List.set_cons_succ]
          refine wpAnyE_take (i := 2) (v := ?v2_2) rfl (by kernel_rfl) (by kernel_rfl) (fun _ _ _ h => h) (Or.inl ⟨by rfl, ?hy2_2⟩) (by assumption) ?rest2_2
          case hy2_2 => (intro w' hSw; obtain ⟨_, hR, hC, hx⟩ := hSw; obtain ⟨cc0, cc1, cc2, cc3, cc4, cc5, cc6⟩ := hC.cells7; obtain ⟨dd0, dd1, dd2, dd3, dd4, dd5, dd6⟩ := hR.cells7; clear hC hR; go_simp; try with_reducible rfl)
          try simp only [Act.put, List.getElem_toArray, List.getElem_cons_succ, List.getElem_cons_zero, List.setIfInBounds_toArray, List.set_cons_zero, List.set_cons_succ]
          refine wpAnyE_take (i := 3) (v := ?v2_3) rfl (by kernel_rfl) (by kernel_rfl) (fun _ _ _ h => h) (Or.inl ⟨by rfl, ?hy2_3⟩) (by assumption) ?rest2_3
          case hy2_3 => (intro w' hSw; obtain ⟨_, hR, hC, hx⟩ := hSw; obtain ⟨cc0, cc1, cc2, cc3, cc4, cc5, cc6⟩ := hC.cells7; obtain ⟨dd0, dd1, dd2, dd3, dd4, dd5, dd6⟩ := hR.cells7; clear hC hR; go_simp; try with_reducible rfl)
          try simp only [Act.put, List.getElem_toArray, List.getElem_cons_succ, List.getElem_cons_zero, List.setIfInBounds_toArray, List.set_cons_zero, List.set_cons_succ]
          refine wpAnyE_take (i := 4) (v := ?v2_4) rfl (by kernel_rfl) (by kernel_rfl) (fun _ _ _ h => h) (Or.inl ⟨by rfl, ?hy2_4⟩) (by assumption) ?rest2_4
          case hy2_4 => (intro w' hSw; obtain ⟨_, hR, hC, hx⟩ := hSw; obtain ⟨cc0, cc1, cc2, cc3, cc4, cc5, cc6⟩ := hC.cells7; obtain ⟨dd0, dd1, dd2, dd3, dd4, dd5, dd6⟩ := hR.cells7; clear hC hR; go_simp; try with_reducible rfl)
          try simp only [Act.put, List.getElem_toArray, List.getElem_cons_succ, List.getElem_cons_zero, List.setIfInBounds_toArray, List.set_cons_zero, List.set_cons_succ]
          refine wpAnyE_take (i := 5) (v := ?v2_5) rfl (by kernel_rfl) (by kernel_rfl) (fun _ _ _ h => h) (Or.inl ⟨by rfl, ?hy2_5⟩) (by assumption) ?rest2_5
          case hy2_5 => (intro w' hSw; obtain ⟨_, hR, hC, hx⟩ := hSw; obtain ⟨cc0, cc1, cc2, cc3, cc4, cc5, cc6⟩ := hC.cells7; obtain ⟨dd0, dd1, dd2, dd3, dd4, dd5, dd6⟩ := hR.cells7; clear hC hR; go_simp; try with_reducible rfl)
          try simp only [Act.put, List.getElem_toArray, List.getElem_cons_succ, List.getElem_cons_zero, List.setIfInBounds_toArray, List.set_cons_zero, List.set_cons_succ]
          refine wpAnyE_take (i := 6) (v := ?v2_6) rfl (by kernel_rfl) (by kernel_rfl) (fun _ _ _ h => h) (Or.inl ⟨by rfl, ?hy2_6⟩) (by assumption) ?rest2_6
          case hy2_6 => (intro w' hSw; obtain ⟨_, hR, hC, hx⟩ := hSw; obtain ⟨cc0, cc1, cc2, cc3, cc4, cc5, cc6⟩ := hC.cells7; obtain ⟨dd0, dd1, dd2, dd3, dd4, dd5, dd6⟩ := hR.cells7; clear hC hR; go_simp; try with_reducible rfl)
          try simp only [Act.put, List.getElem_toArray, List.getElem_cons_succ, List.getElem_cons_zero, List.setIfInBounds_toArray, List.set_cons_zero, List.set_cons_succ]
          refine wpAnyE_one (i := 7) (by kernel_rfl) rfl (fun K hK => ?_)
          go_simp
          go_at_call 20
          refine (KS _).mono ?_
          rintro _ wx ⟨rfl, hbx⟩
          refine hK.out _ _ (keepS (by assumption) hbx) (fun hHeld => ?_)
          clear hK K
          try simp only [Act.put, List.getElem_toArray, List.getElem_cons_succ, List.getElem_cons_zero, List.setIfInBounds_toArray, List.set_cons_zero, List.set_cons_succ]
          rename_i hHeld
          obtain ⟨hBl, hR, hC, hx⟩ := hHeld
          obtain ⟨cc0, cc1, cc2, cc3, cc4, cc5, cc6⟩ := hC.cells7
          obtain ⟨ff0, ff1, ff2, ff3, ff4, ff5, ff6⟩ := hC.frozen7
          have hR' := Lib.hid hR
          have hC' := Lib.hid hC
          have hBl' := Lib.hid hBl
          clear hR hC hBl hx
          refine wpAnyE_last (by kernel_rfl) (by kernel_rfl) rfl (fun K hK => ?_)
          go_simp
          refine hK.out _ _ ?_
          clear hK K

          go_wp2_with fail
          go_meet
          exact ⟨below7 hBl'.out (by omega) _ _ _ _ _ _ _, hR'.out.far7 (by omega) _ _ _ _ _ _ _, g', ac, pc, e', b', t', hac, hpc, he', hb', ht', hI, hC'.out.set7 _ _ _ _ _ _ _⟩
        · have e4 : (x : Int) % 4 = 2 := by omega
          clear hx4
          obtain ⟨g', p', hp', KS, hI⟩ := stC (pq := pq) (b8 := b8) (E0 := E0) (B0 := B0) (T0 := T0) gc ac pc ec bc tc y hpc hzy hIn
          go_wp2_with fail
          refine wp_region_E (fun w' => Below w0.heap.size w0 w' ∧ Blk w' w1.heap.size 27 #[.bool true, .int .u32 (b8 : Int), .int .u8 (pq : Int), .int .u8 0, .int .u8 (E0 : Int), .int .u16 (B0 : Int), .int .u16 (T0 : Int)] ∧ Blk w' (w1.heap.size + 1) 27 #[.bool gc, .int .u32 (ac : Int), .int .u8 (pc : Int), .int .u8 0, .int .u8 (ec : Int), .int .u16 (bc : Int), .int .u16 (tc : Int)] ∧ w'.cell? ⟨bl, off + (k + 1), none⟩ = some (.int .u32 (y : Int))) 7 (by kernel_rfl) (keepS HS.out ((Below.refl _ _).drew)) (fun hHeld => ?_)
          refine wpAnyE_take (i := 0) (v := ?v3_0) rfl (by kernel_rfl) (by kernel_rfl) (fun _ _ _ h => h) (Or.inl ⟨by rfl, ?hy3_0⟩) (by assumption) ?rest3_0
          case hy3_0 => (intro w' hSw; obtain ⟨_, hR, hC, hx⟩ := hSw; obtain ⟨cc0, cc1, cc2, cc3, cc4, cc5, cc6⟩ := hC.cells7; obtain ⟨dd0, dd1, dd2, dd3, dd4, dd5, dd6⟩ := hR.cells7; clear hC hR; go_simp; try with_reducible rfl)
          try simp only [Act.put, List.getElem_toArray, List.getElem_cons_zero, List.setIfInBounds_toArray, List.set_cons_zero, List.set_cons_succ]
          refine wpAnyE_take (i := 1) (v := ?v3_1) rfl (by kernel_rfl) (by kernel_rfl) (fun _ _ _ h => h) (Or.inl ⟨by rfl, ?hy3_1⟩) (by assumption) ?rest3_1
          case hy3_1 => (intro w' hSw; obtain ⟨_, hR, hC, hx⟩ := hSw; obtain ⟨cc0, cc1, cc2, cc3, cc4, cc5, cc6⟩ := hC.cells7; obtain ⟨dd0, dd1, dd2, dd3, dd4, dd5, dd6⟩ := hR.cells7; clear hC hR; go_simp; try with_reducible rfl)
          try simp only [Act.put, List.getElem_toArray, List.getElem_cons_succ, List.getElem_cons_zero, List.setIfInBounds_toArray, List.set_cons_zero, List.set_cons_succ]
          refine wpAnyE_take (i := 2) (v := ?v3_2) rfl (by kernel_rfl) (by kernel_rfl) (fun _ _ _ h => h) (Or.inl ⟨by rfl, ?hy3_2⟩) (by assumption) ?rest3_2
          case hy3_2 => (intro w' hSw; obtain ⟨_, hR, hC, hx⟩ := hSw; obtain ⟨cc0, cc1, cc2, cc3, cc4, cc5, cc6⟩ := hC.cells7; obtain ⟨dd0, dd1, dd2, dd3, dd4, dd5, dd6⟩ := hR.cells7; clear hC hR; go_simp; try with_reducible rfl)
          try simp only [Act.put, List.getElem_toArray, List.getElem_cons_succ, List.getElem_cons_zero, List.setIfInBounds_toArray, List.set_cons_zero, List.set_cons_succ]
          refine wpAnyE_take (i := 3) (v := ?v3_3) rfl (by kernel_rfl) (by kernel_rfl) (fun _ _ _ h => h) (Or.inl ⟨by rfl, ?hy3_3⟩) (by assumption) ?rest3_3
          case hy3_3 => (intro w' hSw; obtain ⟨_, hR, hC, hx⟩ := hSw; obtain ⟨cc0, cc1, cc2, cc3, cc4, cc5, cc6⟩ := hC.cells7; obtain ⟨dd0, dd1, dd2, dd3, dd4, dd5, dd6⟩ := hR.cells7; clear hC hR; go_simp; try with_reducible rfl)
          try simp only [Act.put, List.getElem_toArray, List.getElem_cons_succ, List.getElem_cons_zero, List.setIfInBounds_toArray, List.set_cons_zero, List.set_cons_succ]
          refine wpAnyE_take (i := 4) (v := ?v3_4) rfl (by kernel_rfl) (by kernel_rfl) (fun _ _ _ h => h) (Or.inl ⟨by rfl, ?hy3_4⟩) (by assumption) ?rest3_4
          case hy3_4 => (intro w' hSw; obtain ⟨_, hR, hC, hx⟩ := hSw; obtain ⟨cc0, cc1, cc2, cc3, cc4, cc5, cc6⟩ := hC.cells7; obtain ⟨dd0, dd1, dd2, dd3, dd4, dd5, dd6⟩ := hR.cells7; clear hC hR; go_simp; try with_reducible rfl)
          try simp only [Act.put, List.getElem_toArray, List.getElem_cons_succ, List.getElem_cons_zero, List.setIfInBounds_toArray, List.set_cons_zero, List.set_cons_succ]
          refine wpAnyE_take (i := 5) (v := ?v3_5) rfl (by kernel_rfl) (by kernel_rfl) (fun _ _ _ h => h) (Or.inl ⟨by rfl, ?hy3_5⟩) (by assumption) ?rest3_5
          case hy3_5 => (intro w' hSw; obtain ⟨_, hR, hC, hx⟩ := hSw; obtain ⟨cc0, cc1, cc2, cc3, cc4, cc5, cc6⟩ := hC.cells7; obtain ⟨dd0, dd1, dd2, dd3, dd4, dd5, dd6⟩ := hR.cells7; clear hC hR; go_simp; try with_reducible rfl)
          try simp only [Act.put, List.getElem_toArray, List.getElem_cons_succ, List.getElem_cons_zero, List.setIfInBounds_toArray, List.set_cons_zero, List.set_cons_succ]
          refine wpAnyE_one (i := 6) (by kernel_rfl) rfl (fun K hK => ?_)
          go_simp
          go_at_call 22
          refine (KS _).mono ?_
          rintro _ wx ⟨rfl, hbx⟩
          refine hK.out _ _ (keepS (by assumption) hbx) (fun hHeld => ?_)
          clear hK K
          try simp only [Act.put, List.getElem_toArray, List.getElem_cons_succ, List.getElem_cons_zero, List.setIfInBounds_toArray, List.set_cons_zero, List.set_cons_succ]
          rename_i hHeld
          obtain ⟨hBl, hR, hC, hx⟩ := hHeld
          obtain ⟨cc0, cc1, cc2, cc3, cc4, cc5, cc6⟩ := hC.cells7
          obtain ⟨ff0, ff1, ff2, ff3, ff4, ff5, ff6⟩ := hC.frozen7
          have hR' := Lib.hid hR
          have hC' := Lib.hid hC
          have hBl' := Lib.hid hBl
          clear hR hC hBl hx
          refine wpAnyE_last (by kernel_rfl) (by kernel_rfl) rfl (fun K hK => ?_)
          go_simp
          refine hK.out _ _ ?_
          clear hK K

          go_wp2_with fail
          go_meet
          exact ⟨below7 hBl'.out (by omega) _ _ _ _ _ _ _, hR'.out.far7 (by omega) _ _ _ _ _ _ _, g', ac, p', ec, bc, tc, hac, hp', hec, hbc, htc, hI, hC'.out.set7 _ _ _ _ _ _ _⟩
        · have e4 : (x : Int) % 4 = 3 := by omega
          clear hx4
          obtain ⟨g', KS, hI⟩ := stA (pq := pq) (b8 := b8) (E0 := E0) (B0 := B0) (T0 := T0) gc ac pc ec bc tc y hac hec hbc htc hzy hIn
          go_wp2_with fail
          refine wp_region_E (fun w' => Below w0.heap.size w0 w' ∧ Blk w' w1.heap.size 27 #[.bool true, .int .u32 (b8 : Int), .int .u8 (pq : Int), .int .u8 0, .int .u8 (E0 : Int), .int .u16 (B0 : Int), .int .u16 (T0 : Int)] ∧ Blk w' (w1.heap.size + 1) 27 #[.bool gc, .int .u32 (ac : Int), .int .u8 (pc : Int), .int .u8 0, .int .u8 (ec : Int), .int .u16 (bc : Int), .int .u16 (tc : Int)] ∧ w'.cell? ⟨bl, off + (k + 1), none⟩ = some (.int .u32 (y : Int))) 7 (by kernel_rfl) (keepS HS.out ((Below.refl _ _).drew)) (fun hHeld => ?_)
          refine wpAnyE_take (i := 0) (v := ?v4_0) rfl (by kernel_rfl) (by kernel_rfl) (fun _ _ _ h => h) (Or.inl ⟨by rfl, ?hy4_0⟩) (by assumption) ?rest4_0
          case hy4_0 => (intro w' hSw; obtain ⟨_, hR, hC, hx⟩ := hSw; obtain ⟨cc0, cc1, cc2, cc3, cc4, cc5, cc6⟩ := hC.cells7; obtain ⟨dd0, dd1, dd2, dd3, dd4, dd5, dd6⟩ := hR.cells7; clear hC hR; go_simp; try with_reducible rfl)
          try simp only [Act.put, List.getElem_toArray, List.getElem_cons_zero, List.setIfInBounds_toArray, List.set_cons_zero, List.set_cons_succ]
          refine wpAnyE_take (i := 1) (v := ?v4_1) rfl (by kernel_rfl) (by kernel_rfl) (fun _ _ _ h => h) (Or.inl ⟨by rfl, ?hy4_1⟩) (by assumption) ?rest4_1
          case hy4_1 => (intro w' hSw; obtain ⟨_, hR, hC, hx⟩ := hSw; obtain ⟨cc0, cc1, cc2, cc3, cc4, cc5, cc6⟩ := hC.cells7; obtain ⟨dd0, dd1, dd2, dd3, dd4, dd5, dd6⟩ := hR.cells7; clear hC hR; go_simp; try with_reducible rfl)
          try simp only [Act.put, List.getElem_toArray, List.getElem_cons_succ, List.getElem_cons_zero, List.setIfInBounds_toArray, List.set_cons_zero, List.set_cons_succ]
          refine wpAnyE_take (i := 2) (v := ?v4_2) rfl (by kernel_rfl) (by kernel_rfl) (fun _ _ _ h => h) (Or.inl ⟨by rfl, ?hy4_2⟩) (by assumption) ?rest4_2
          case hy4_2 => (intro w' hSw; obtain ⟨_, hR, hC, hx⟩ := hSw; obtain ⟨cc0, cc1, cc2, cc3, cc4, cc5, cc6⟩ := hC.cells7; obtain ⟨dd0, dd1, dd2, dd3, dd4, dd5, dd6⟩ := hR.cells7; clear hC hR; go_simp; try with_reducible rfl)
          try simp only [Act.put, List.getElem_toArray, List.getElem_cons_succ, List.getElem_cons_zero, List.setIfInBounds_toArray, List.set_cons_zero, List.set_cons_succ]
          refine wpAnyE_take (i := 3) (v := ?v4_3) rfl (by kernel_rfl) (by kernel_rfl) (fun _ _ _ h => h) (Or.inl ⟨by rfl, ?hy4_3⟩) (by assumption) ?rest4_3
          case hy4_3 => (intro w' hSw; obtain ⟨_, hR, hC, hx⟩ := hSw; obtain ⟨cc0, cc1, cc2, cc3, cc4, cc5, cc6⟩ := hC.cells7; obtain ⟨dd0, dd1, dd2, dd3, dd4, dd5, dd6⟩ := hR.cells7; clear hC hR; go_simp; try with_reducible rfl)
          try simp only [Act.put, List.getElem_toArray, List.getElem_cons_succ, List.getElem_cons_zero, List.setIfInBounds_toArray, List.set_cons_zero, List.set_cons_succ]
          refine wpAnyE_take (i := 4) (v := ?v4_4) rfl (by kernel_rfl) (by kernel_rfl) (fun _ _ _ h => h) (Or.inl ⟨by rfl, ?hy4_4⟩) (by assumption) ?rest4_4
          case hy4_4 => (intro w' hSw; obtain ⟨_, hR, hC, hx⟩ := hSw; obtain ⟨cc0, cc1, cc2, cc3, cc4, cc5, cc6⟩ := hC.cells7; obtain ⟨dd0, dd1, dd2, dd3, dd4, dd5, dd6⟩ := hR.cells7; clear hC hR; go_simp; try with_reducible rfl)
          try simp only [Act.put, List.getElem_toArray, List.getElem_cons_succ, List.getElem_cons_zero, List.setIfInBounds_toArray, List.set_cons_zero, List.set_cons_succ]
          refine wpAnyE_take (i := 5) (v := ?v4_5) rfl (by kernel_rfl) (by kernel_rfl) (fun _ _ _ h => h) (Or.inl ⟨by rfl, ?hy4_5⟩) (by assumption) ?rest4_5
          case hy4_5 => (intro w' hSw; obtain ⟨_, hR, hC, hx⟩ := hSw; obtain ⟨cc0, cc1, cc2, cc3, cc4, cc5, cc6⟩ := hC.cells7; obtain ⟨dd0, dd1, dd2, dd3, dd4, dd5, dd6⟩ := hR.cells7; clear hC hR; go_simp; try with_reducible rfl)
          try simp only [Act.put, List.getElem_toArray, List.getElem_cons_succ, List.getElem_cons_zero, List.setIfInBounds_toArray, List.set_cons_zero, List.set_cons_succ]
          refine wpAnyE_one (i := 6) (by kernel_rfl) rfl (fun K hK => ?_)
          go_simp
          go_at_call 18
          refine (KS _).mono ?_
          rintro _ wx ⟨rfl, hbx⟩
          refine hK.out _ _ (keepS (by assumption) hbx) (fun hHeld => ?_)
          clear hK K
          try simp only [Act.put, List.getElem_toArray, List.getElem_cons_succ, List.getElem_cons_zero, List.setIfInBounds_toArray, List.set_cons_zero, List.set_cons_succ]
          rename_i hHeld
          obtain ⟨hBl, hR, hC, hx⟩ := hHeld
          obtain ⟨cc0, cc1, cc2, cc3, cc4, cc5, cc6⟩ := hC.cells7
          obtain ⟨ff0, ff1, ff2, ff3, ff4, ff5, ff6⟩ := hC.frozen7
          have hR' := Lib.hid hR
          have hC' := Lib.hid hC
          have hBl' := Lib.hid hBl
          clear hR hC hBl hx
          refine wpAnyE_last (by kernel_rfl) (by kernel_rfl) rfl (fun K hK => ?_)
          go_simp
          refine hK.out _ _ ?_
          clear hK K

          go_wp2_with fail
          go_meet
          exact ⟨below7 hBl'.out (by omega) _ _ _ _ _ _ _, hR'.out.far7 (by omega) _ _ _ _ _ _ _, g', y, pc, ec, bc, tc, hzy, hpc, hec, hbc, htc, hI, hC'.out.set7 _ _ _ _ _ _ _⟩
      case rest =>
        clear HS hx hIn hac hpc hec hbc htc
        obtain ⟨hB0, hR, gc, ac, pc, ec, bc, tc, hac, hpc, hec, hbc, htc, hIn, hC⟩ := hcut
        cases gc with
        | false =>
          have hS : LQ w0 wc w1.heap.size pq b8 E0 B0 T0 := ⟨hB0, hR, false, ac, pc, ec, bc, tc, hac, hpc, hec, hbc, htc, hIn, hC⟩
          have HS := Lib.hid hS
          obtain ⟨cc0, cc1, cc2, cc3, cc4, cc5, cc6⟩ := hC.cells7
          clear hS hB0 hR hC hIn cc1 cc2 cc3 cc4 cc5 cc6
          go_wp2_with fail
          go_roundw
          case rel => exact ⟨k + 2, by omega, by go_num, HS.out⟩
          case measure => simp [intOf]; omega
        | true =>
          obtain ⟨q1, q2, q3⟩ := hIn rfl
          have K34 := fun w => sub34 (y1 := 0) (y := 0) hac hpc hec hbc htc hb8 hpq hE hB hT q1 q2 q3 w
          have hS : LQ w0 wc w1.heap.size pq b8 E0 B0 T0 := ⟨hB0, hR, true, ac, pc, ec, bc, tc, hac, hpc, hec, hbc, htc, hIn, hC⟩
          have HS := Lib.hid hS
          obtain ⟨cc0, cc1, cc2, cc3, cc4, cc5, cc6⟩ := hC.cells7
          obtain ⟨dd0, dd1, dd2, dd3, dd4, dd5, dd6⟩ := hR.cells7
          clear hS hB0 hR hC hIn q1 q2 q3
          go_wp2_with fail
          refine (K34 _).mono ?_
          rintro _ wx ⟨rfl, hbx⟩
          have HS' := Lib.hid (HS.out.below hbx)
          clear hbx HS cc0 cc1 cc2 cc3 cc4 cc5 cc6 dd0 dd1 dd2 dd3 dd4 dd5 dd6
          go_wp2_with fail
          go_roundw
          case rel => exact ⟨k + 2, by omega, by go_num, HS'.out⟩
          case measure => simp [intOf]; omega
    · have hBl := Lib.hid hq.1
      clear hq hA hz
      by_cases hg1 : k + 1 < len
      · have hg2 : ¬ k < 30 := fun h => hgo ⟨hg1, h⟩
        clear hgo
        go_wp2_with fail
        refine (lives _).mono ?_
        rintro _ wx ⟨rfl, hbx⟩
        have hE := hBl.out.trans (hbx.mono hBl.out.size)
        clear hbx hBl
        go_wp2
        go_ret
        exact ⟨rfl, hE⟩
      · clear hgo
        go_wp2_with fail
        refine (lives _).mono ?_
        rintro _ wx ⟨rfl, hbx⟩
        have hE := hBl.out.trans (hbx.mono hBl.out.size)
        clear hbx hBl
        go_wp2
        go_ret
        exact ⟨rfl, hE⟩
end Go.Proofs.Ytojjdhohhonheaa
