import Derived.Test.YtblfnjdbihhglaaGreatDoorIz
import Derived.Test.YtblfnjdbihhglaaGreatDoorK
import Derived.Test.YtblfnjdbihhglaaGreatDoorLU
namespace Go.Proofs.YtblfnjdbihhglaaGreatDoor
open Go.ChangeShapes Go.WideShapes Go.ChangeAt Go.RowKit
open Li (Ss)
set_option linter.unusedVariables false
set_option linter.unusedSimpArgs false
theorem own_new (W : World) (xs : List Value) (t : TypeId) (n : Nat) (hn : xs.length = n) (h : n ≤ maxLen) : (W.alloc (.cells xs.toArray t)).ownsRow W.heap.size t 1 (.slice (some ⟨W.heap.size, 0, none⟩) n n) n xs := by
  subst hn
  refine ⟨by simp, Or.inr ⟨W.heap.size, xs.length, xs.toArray, rfl, Nat.le_refl _, (MapKept.heap_alloc W _).1, Nat.le_refl _, h, by simp, by simp⟩⟩
/-- the words of an edge's line -/
def saidL (g : Nat → ByteArray) (x : Ed) : List ByteArray :=
  if x.k = 1 then [⟨#[101, 120, 112, 111, 114, 116]⟩, g x.fr.toNat, x.nm, tn (x.wh % 256), tn (x.wh / 256)]
  else if x.k = 2 then [⟨#[99, 97, 108, 108]⟩, g x.fr.toNat, g x.dt.toNat, x.nm]
  else if x.k = 3 then [⟨#[100, 101, 118, 105, 99, 101]⟩, g x.fr.toNat, x.nm, tn (x.wh % 65536), tn (x.wh / 65536)]
  else if x.k = 4 then [⟨#[115, 104, 97, 114, 101]⟩, g x.fr.toNat, x.nm, if x.wh = 3 then ⟨#[114, 119]⟩ else ⟨#[114]⟩]
  else [⟨#[115, 116, 97, 114, 116]⟩, g x.fr.toNat, x.nm]
/-- a row of texts of the call's own -/
def RowOut (B : Nat) (L : List ByteArray) (w : World) (e : Ending) (w' : World) : Prop := ∃ b, e = .returned (.slice (some ⟨b, 0, none⟩) L.length L.length) ∧ w'.ownsRow B 9 1 (.slice (some ⟨b, 0, none⟩) L.length L.length) L.length (L.map Value.string) ∧ Below w.heap.size w w'
theorem row_out {w W : World} (L : List ByteArray) (hL : L.length ≤ 5) (hb : Below w.heap.size w W) (pb : Nat) (hp : pb = W.heap.size) : RowOut w.heap.size L w (.returned (.slice (some ⟨pb, 0, none⟩) L.length L.length)) (W.alloc (.cells (L.map Value.string).toArray 9)) :=
  ⟨pb, rfl, by subst hp; exact Li.own_base (own_new W (L.map Value.string) 9 L.length (by simp) (by unfold maxLen; omega)) hb.size, hb.alloc hb.size _⟩
theorem keepE {w W W' : World} {h p : Nat} {c3 c4 : Value} (H : W.cell? ⟨p, 3, none⟩ = some c3 ∧ W.cell? ⟨p, 4, none⟩ = some c4 ∧ p < W.heap.size ∧ h < W.heap.size ∧ Bel h w W) (hb : Below W.heap.size W W') : W'.cell? ⟨p, 3, none⟩ = some c3 ∧ W'.cell? ⟨p, 4, none⟩ = some c4 ∧ p < W'.heap.size ∧ h < W'.heap.size ∧ Bel h w W' := by
  obtain ⟨h0, h1, pl, hl, hT⟩ := H
  exact ⟨kcell h0 pl hb, kcell h1 pl hb, ksize pl hb, ksize hl hb, kT hT hl hb⟩
theorem outE {w W : World} {h p : Nat} {c3 c4 : Value} (H : W.cell? ⟨p, 3, none⟩ = some c3 ∧ W.cell? ⟨p, 4, none⟩ = some c4 ∧ p < W.heap.size ∧ h < W.heap.size ∧ Bel h w W) : Bel h w W := H.2.2.2.2
theorem keepF {w W W' : World} {h p b i : Nat} {a0 c2 c3 d : Value} (H : W.cell? ⟨h, 0, none⟩ = some a0 ∧ W.cell? ⟨p, 2, none⟩ = some c2 ∧ W.cell? ⟨p, 3, none⟩ = some c3 ∧ W.cell? ⟨b, i, none⟩ = some d ∧ p < W.heap.size ∧ h < W.heap.size ∧ b < W.heap.size ∧ Bel h w W) (hb : Below W.heap.size W W') : W'.cell? ⟨h, 0, none⟩ = some a0 ∧ W'.cell? ⟨p, 2, none⟩ = some c2 ∧ W'.cell? ⟨p, 3, none⟩ = some c3 ∧ W'.cell? ⟨b, i, none⟩ = some d ∧ p < W'.heap.size ∧ h < W'.heap.size ∧ b < W'.heap.size ∧ Bel h w W' := by
  obtain ⟨h0, h1, h2, h3, pl, hl, bl, hT⟩ := H
  exact ⟨kcell h0 hl hb, kcell h1 pl hb, kcell h2 pl hb, kcell h3 bl hb, ksize pl hb, ksize hl hb, ksize bl hb, kT hT hl hb⟩
theorem outF {w W : World} {h p b i : Nat} {a0 c2 c3 d : Value} (H : W.cell? ⟨h, 0, none⟩ = some a0 ∧ W.cell? ⟨p, 2, none⟩ = some c2 ∧ W.cell? ⟨p, 3, none⟩ = some c3 ∧ W.cell? ⟨b, i, none⟩ = some d ∧ p < W.heap.size ∧ h < W.heap.size ∧ b < W.heap.size ∧ Bel h w W) : Bel h w W := H.2.2.2.2.2.2.2
theorem row_outE {w W : World} {c3 c4 : Value} (L : List ByteArray) (hL : L.length ≤ 5) (H : (W.alloc (.cells (L.map Value.string).toArray 9)).cell? ⟨w.heap.size + 1, 3, none⟩ = some c3 ∧ (W.alloc (.cells (L.map Value.string).toArray 9)).cell? ⟨w.heap.size + 1, 4, none⟩ = some c4 ∧ w.heap.size + 1 < (W.alloc (.cells (L.map Value.string).toArray 9)).heap.size ∧ w.heap.size < (W.alloc (.cells (L.map Value.string).toArray 9)).heap.size ∧ Bel w.heap.size w (W.alloc (.cells (L.map Value.string).toArray 9))) : RowOut w.heap.size L w (.returned (.slice (some ⟨W.heap.size, 0, none⟩) L.length L.length)) (W.alloc (.cells (L.map Value.string).toArray 9)) :=
  ⟨W.heap.size, rfl, Li.own_base (own_new W (L.map Value.string) 9 L.length (by simp) (by unfold maxLen; omega)) (by have := H.2.2.1; simp at this; omega), outE H⟩
theorem row_outF {w W : World} {b i : Nat} {a0 c2 c3 d : Value} (L : List ByteArray) (hL : L.length ≤ 5) (H : (W.alloc (.cells (L.map Value.string).toArray 9)).drew.cell? ⟨w.heap.size, 0, none⟩ = some a0 ∧ (W.alloc (.cells (L.map Value.string).toArray 9)).drew.cell? ⟨w.heap.size + 1, 2, none⟩ = some c2 ∧ (W.alloc (.cells (L.map Value.string).toArray 9)).drew.cell? ⟨w.heap.size + 1, 3, none⟩ = some c3 ∧ (W.alloc (.cells (L.map Value.string).toArray 9)).drew.cell? ⟨b, i, none⟩ = some d ∧ w.heap.size + 1 < (W.alloc (.cells (L.map Value.string).toArray 9)).drew.heap.size ∧ w.heap.size < (W.alloc (.cells (L.map Value.string).toArray 9)).drew.heap.size ∧ b < (W.alloc (.cells (L.map Value.string).toArray 9)).drew.heap.size ∧ Bel w.heap.size w (W.alloc (.cells (L.map Value.string).toArray 9)).drew) (pb : Nat) (hp : pb = W.heap.size) : RowOut w.heap.size L w (.returned (.slice (some ⟨pb, 0, none⟩) L.length L.length)) (W.alloc (.cells (L.map Value.string).toArray 9)).drew :=
  ⟨pb, rfl, by subst hp; exact Li.own_base (own_new W (L.map Value.string) 9 L.length (by simp) (by unfold maxLen; omega)) (by have := H.2.2.2.2.1; simp at this; omega), outF H⟩
set_option maxHeartbeats 8000000 in
theorem c15 (A : Option Addr) (nc cc : Nat) (B : Option Addr) (n c : Nat) (g : Nat → ByteArray) (x : Ed) (i : Nat) (w : World) (hx : x.ok) (hA : Ss w A nc g) (hi : i < nc) (hfr : x.fr = (i : Int)) (hnc : nc ≤ 9223372036854775807) (hto : x.k = 2 → ∃ j : Nat, x.dt = (j : Int) ∧ j < nc) (hg : Gt w) :
    Calls Tryz.prog 15 #[.agg #[.slice A nc cc, .slice B n c], x.v] w fun e w' => RowOut w.heap.size (saidL g x) w e w' := by
  obtain ⟨k, fr, dt, nm, wh⟩ := x
  unfold Ed.v saidL
  simp only at *
  subst hfr
  rw [show ((i : Int)).toNat = i from rfl]
  obtain ⟨b, o, rfl, hbl, hc⟩ := hA (by omega)
  obtain ⟨q0, hs⟩ := hc i hi
  have hin : (i : Int) < (nc : Int) := by omega
  have hiw := wrapN i nc hi hnc
  have hk := hx.1
  have hwh : wh < 4294967296 := hx.2.1
  have HG := Lib.hid hg
  have HBL := Lib.hid hbl
  have HC := Lib.hid hc
  clear hA hx hg hc
  obtain ⟨s, hsg⟩ : ∃ s, g i = s := ⟨_, rfl⟩
  rw [hsg] at q0 hs ⊢
  clear hsg
  by_cases h1 : k = 1
  · subst h1
    rw [if_pos rfl]
    have ha := mask8 wh hwh
    have hq : (wh : Int) / 256 = ((wh / 256 : Nat) : Int) := by omega
    have ha2 : (wh : Int).tmod 256 = ((wh % 256 : Nat) : Int) := by rw [Int.tmod_eq_emod_of_nonneg (by omega)]; omega
    have hq2 : (wh : Int).tdiv 256 = ((wh / 256 : Nat) : Int) := by rw [Int.tdiv_eq_ediv_of_nonneg (by omega)]; omega
    have hal : wh % 256 < 4294967296 := by omega
    have hql : wh / 256 < 4294967296 := by omega
    obtain ⟨a, hae⟩ : ∃ a, wh % 256 = a := ⟨_, rfl⟩
    obtain ⟨q, hqe⟩ : ∃ q, wh / 256 = q := ⟨_, rfl⟩
    rw [hae] at ha ha2 hal ⊢
    rw [hqe] at hq hq2 hql ⊢
    clear hae hqe
    have KA : Hid (∀ W, Bel w.heap.size w W → Calls Tryz.prog 31 #[.int .u32 (a : Int)] W fun e w' => e = .returned (.string (tn a)) ∧ Below W.heap.size W w') := Lib.hid (fun W hW => c31 a hal W (HG.out.below hW))
    have KB : Hid (∀ W, Bel w.heap.size w W → Calls Tryz.prog 31 #[.int .u32 (q : Int)] W fun e w' => e = .returned (.string (tn q)) ∧ Below W.heap.size W w') := Lib.hid (fun W hW => c31 q hql W (HG.out.below hW))
    generalize tn a = ta at *
    generalize tn q = tq at *
    go_enter Tryz.func15, Tryz.ntmps15
    go_upto_region 4 with fail
    have HI : Hid ((fun W => W.cell? ⟨w.heap.size + 1, 3, none⟩ = some (.string nm) ∧ W.cell? ⟨w.heap.size + 1, 4, none⟩ = some (.int .u32 (wh : Int)) ∧ w.heap.size + 1 < W.heap.size ∧ w.heap.size < W.heap.size ∧ Bel w.heap.size w W) (((w.alloc (.cells #[.slice (some ⟨b, o, none⟩) nc cc, .slice B n c] 25)).alloc (.cells #[.int .u8 1, .int .i64 (i : Int), .int .i64 dt, .string nm, .int .u32 (wh : Int)] 42))).drew) := Lib.hid
      ⟨World.cell?_alloc_at _ _ _ _ (by simp), World.cell?_alloc_at _ _ _ _ (by simp), by simp, by simp; omega, (((Below.refl _ _).alloc (Nat.le_refl _) _).alloc (by simp) _).drew⟩
    clear q0
    go_region_held3 (fun W => W.cell? ⟨w.heap.size + 1, 3, none⟩ = some (.string nm) ∧ W.cell? ⟨w.heap.size + 1, 4, none⟩ = some (.int .u32 (wh : Int)) ∧ w.heap.size + 1 < W.heap.size ∧ w.heap.size < W.heap.size ∧ Bel w.heap.size w W)
      (first | assumption | exact HI.out | (with_reducible exact keepE (by assumption) (by assumption)) | (with_reducible exact keepE (by assumption) ((Below.refl _ _).alloc (Nat.le_refl _) _)))
      (first | (go_at_call 31; (with_reducible refine (KA.out _ (outE (by assumption))).mono ?_); rintro _ w9 ⟨rfl, hb9⟩) | (go_at_call 31; (with_reducible refine (KB.out _ (outE (by assumption))).mono ?_); rintro _ w9 ⟨rfl, hb9⟩))
    go_wp2_with fail
    go_ret
    exact row_outE [⟨#[101, 120, 112, 111, 114, 116]⟩, s, nm, ta, tq] (by simp) (by assumption)
  by_cases h2 : k = 2
  · subst h2
    rw [if_neg (by decide), if_pos rfl]
    obtain ⟨j, rfl, hj⟩ := hto rfl
    obtain ⟨r0, _⟩ := HC.out j hj
    rw [show ((j : Int)).toNat = j from rfl]
    have hjn : (j : Int) < (nc : Int) := by omega
    have hjw := wrapN j nc hj hnc
    obtain ⟨t, htg⟩ : ∃ t, g j = t := ⟨_, rfl⟩
    rw [htg] at r0 ⊢
    clear htg
    go_enter Tryz.func15, Tryz.ntmps15
    go_upto_region 6 with fail
    have HI : Hid ((fun W => W.cell? ⟨w.heap.size, 0, none⟩ = some (.slice (some ⟨b, o, none⟩) nc cc) ∧ W.cell? ⟨w.heap.size + 1, 2, none⟩ = some (.int .i64 (j : Int)) ∧ W.cell? ⟨w.heap.size + 1, 3, none⟩ = some (.string nm) ∧ W.cell? ⟨b, o + j, none⟩ = some (.string t) ∧ w.heap.size + 1 < W.heap.size ∧ w.heap.size < W.heap.size ∧ b < W.heap.size ∧ Bel w.heap.size w W) (((w.alloc (.cells #[.slice (some ⟨b, o, none⟩) nc cc, .slice B n c] 25)).alloc (.cells #[.int .u8 2, .int .i64 (i : Int), .int .i64 (j : Int), .string nm, .int .u32 (wh : Int)] 42))).drew) := Lib.hid (by
      have hB : Below w.heap.size w (((w.alloc (.cells #[.slice (some ⟨b, o, none⟩) nc cc, .slice B n c] 25)).alloc (.cells #[.int .u8 2, .int .i64 (i : Int), .int .i64 (j : Int), .string nm, .int .u32 (wh : Int)] 42))).drew := (((Below.refl _ _).alloc (Nat.le_refl _) _).alloc (by simp) _).drew
      have hB2 := ((Below.refl (w.heap.size + 1) (w.alloc (.cells #[.slice (some ⟨b, o, none⟩) nc cc, .slice B n c] 25))).alloc (by simp) (.cells #[.int .u8 2, .int .i64 (i : Int), .int .i64 (j : Int), .string nm, .int .u32 (wh : Int)] 42)).drew
      exact ⟨(hB2.cell (p := ⟨w.heap.size, 0, none⟩) (Nat.lt_succ_self _)).trans (World.cell?_alloc_new _ _ _ _), World.cell?_alloc_at _ _ _ _ (by simp), World.cell?_alloc_at _ _ _ _ (by simp), (hB.cell (p := ⟨b, o + j, none⟩) HBL.out).trans r0, by simp, by simp; omega, Nat.lt_of_lt_of_le HBL.out hB.size, hB⟩)
    clear q0 r0
    go_region_held3 (fun W => W.cell? ⟨w.heap.size, 0, none⟩ = some (.slice (some ⟨b, o, none⟩) nc cc) ∧ W.cell? ⟨w.heap.size + 1, 2, none⟩ = some (.int .i64 (j : Int)) ∧ W.cell? ⟨w.heap.size + 1, 3, none⟩ = some (.string nm) ∧ W.cell? ⟨b, o + j, none⟩ = some (.string t) ∧ w.heap.size + 1 < W.heap.size ∧ w.heap.size < W.heap.size ∧ b < W.heap.size ∧ Bel w.heap.size w W)
      (first | assumption | exact HI.out | (with_reducible exact keepF (by assumption) (by assumption)) | (with_reducible exact keepF (by assumption) ((Below.refl _ _).alloc (Nat.le_refl _) _)))
      (fail)
    go_wp2_with fail
    go_ret
    exact row_outF [⟨#[99, 97, 108, 108]⟩, s, t, nm] (by simp) (by assumption) _ (by simp)
  by_cases h3 : k = 3
  · subst h3
    rw [if_neg (by decide), if_neg (by decide), if_pos rfl]
    have ha := mask16 wh hwh
    have hq : (wh : Int) / 65536 = ((wh / 65536 : Nat) : Int) := by omega
    have ha2 : (wh : Int).tmod 65536 = ((wh % 65536 : Nat) : Int) := by rw [Int.tmod_eq_emod_of_nonneg (by omega)]; omega
    have hq2 : (wh : Int).tdiv 65536 = ((wh / 65536 : Nat) : Int) := by rw [Int.tdiv_eq_ediv_of_nonneg (by omega)]; omega
    have hal : wh % 65536 < 4294967296 := by omega
    have hql : wh / 65536 < 4294967296 := by omega
    obtain ⟨a, hae⟩ : ∃ a, wh % 65536 = a := ⟨_, rfl⟩
    obtain ⟨q, hqe⟩ : ∃ q, wh / 65536 = q := ⟨_, rfl⟩
    rw [hae] at ha ha2 hal ⊢
    rw [hqe] at hq hq2 hql ⊢
    clear hae hqe
    have KA : Hid (∀ W, Bel w.heap.size w W → Calls Tryz.prog 31 #[.int .u32 (a : Int)] W fun e w' => e = .returned (.string (tn a)) ∧ Below W.heap.size W w') := Lib.hid (fun W hW => c31 a hal W (HG.out.below hW))
    have KB : Hid (∀ W, Bel w.heap.size w W → Calls Tryz.prog 31 #[.int .u32 (q : Int)] W fun e w' => e = .returned (.string (tn q)) ∧ Below W.heap.size W w') := Lib.hid (fun W hW => c31 q hql W (HG.out.below hW))
    generalize tn a = ta at *
    generalize tn q = tq at *
    go_enter Tryz.func15, Tryz.ntmps15
    go_upto_region 8 with fail
    have HI : Hid ((fun W => W.cell? ⟨w.heap.size + 1, 3, none⟩ = some (.string nm) ∧ W.cell? ⟨w.heap.size + 1, 4, none⟩ = some (.int .u32 (wh : Int)) ∧ w.heap.size + 1 < W.heap.size ∧ w.heap.size < W.heap.size ∧ Bel w.heap.size w W) (((w.alloc (.cells #[.slice (some ⟨b, o, none⟩) nc cc, .slice B n c] 25)).alloc (.cells #[.int .u8 3, .int .i64 (i : Int), .int .i64 dt, .string nm, .int .u32 (wh : Int)] 42))).drew) := Lib.hid
      ⟨World.cell?_alloc_at _ _ _ _ (by simp), World.cell?_alloc_at _ _ _ _ (by simp), by simp, by simp; omega, (((Below.refl _ _).alloc (Nat.le_refl _) _).alloc (by simp) _).drew⟩
    clear q0
    go_region_held3 (fun W => W.cell? ⟨w.heap.size + 1, 3, none⟩ = some (.string nm) ∧ W.cell? ⟨w.heap.size + 1, 4, none⟩ = some (.int .u32 (wh : Int)) ∧ w.heap.size + 1 < W.heap.size ∧ w.heap.size < W.heap.size ∧ Bel w.heap.size w W)
      (first | assumption | exact HI.out | (with_reducible exact keepE (by assumption) (by assumption)) | (with_reducible exact keepE (by assumption) ((Below.refl _ _).alloc (Nat.le_refl _) _)))
      (first | (go_at_call 31; (with_reducible refine (KA.out _ (outE (by assumption))).mono ?_); rintro _ w9 ⟨rfl, hb9⟩) | (go_at_call 31; (with_reducible refine (KB.out _ (outE (by assumption))).mono ?_); rintro _ w9 ⟨rfl, hb9⟩))
    go_wp2_with fail
    go_ret
    exact row_outE [⟨#[100, 101, 118, 105, 99, 101]⟩, s, nm, ta, tq] (by simp) (by assumption)
  by_cases h4 : k = 4
  · subst h4
    rw [if_neg (by decide), if_neg (by decide), if_neg (by decide), if_pos rfl]
    by_cases h3 : wh = 3
    · have t3 : ((wh : Int) == 3) = true := by simp; omega
      rw [if_pos h3]
      clear h3 HC hto
      go_enter Tryz.func15, Tryz.ntmps15
      go_wp2_with fail
      go_ret
      exact row_out [⟨#[115, 104, 97, 114, 101]⟩, s, nm, ⟨#[114, 119]⟩] (by simp) (((Below.refl _ _).alloc (Nat.le_refl _) _).alloc (by simp) _) _ (by simp)
    · have t3 : ((wh : Int) == 3) = false := by simp; omega
      rw [if_neg h3]
      clear h3 HC hto
      go_enter Tryz.func15, Tryz.ntmps15
      go_wp2_with fail
      go_ret
      exact row_out [⟨#[115, 104, 97, 114, 101]⟩, s, nm, ⟨#[114]⟩] (by simp) (((Below.refl _ _).alloc (Nat.le_refl _) _).alloc (by simp) _) _ (by simp)
  rw [if_neg h1, if_neg h2, if_neg h3, if_neg h4]
  have t1 : ((k : Int) == 1) = false := by simp; omega
  have t2 : ((k : Int) == 2) = false := by simp; omega
  have t3 : ((k : Int) == 3) = false := by simp; omega
  have t4 : ((k : Int) == 4) = false := by simp; omega
  clear h1 h2 h3 h4 HC hto
  go_enter Tryz.func15, Tryz.ntmps15
  go_wp2_with fail
  go_ret
  exact row_out [⟨#[115, 116, 97, 114, 116]⟩, s, nm] (by simp) (((Below.refl _ _).alloc (Nat.le_refl _) _).alloc (by simp) _) _ (by simp)
set_option maxHeartbeats 8000000 in
theorem c18 (A : Option Addr) (nc cc : Nat) (B : Option Addr) (n c : Nat) (g : Nat → ByteArray) (x : Ed) (i : Nat) (w : World) (hx : x.ok) (hA : Ss w A nc g) (hi : i < nc) (hfr : x.fr = (i : Int)) (hnc : nc ≤ 9223372036854775807) (hto : x.k = 2 → ∃ j : Nat, x.dt = (j : Int) ∧ j < nc) (hg : Gt w) :
    Calls Tryz.prog 18 #[.agg #[.slice A nc cc, .slice B n c], x.v] w fun e w' => RowOut w.heap.size (saidL g x) w e w' := by
  obtain ⟨k, fr, dt, nm, wh⟩ := x
  unfold Ed.v saidL
  simp only at *
  subst hfr
  rw [show ((i : Int)).toNat = i from rfl]
  obtain ⟨b, o, rfl, hbl, hc⟩ := hA (by omega)
  obtain ⟨q0, hs⟩ := hc i hi
  have hin : (i : Int) < (nc : Int) := by omega
  have hiw := wrapN i nc hi hnc
  have hk := hx.1
  have hwh : wh < 4294967296 := hx.2.1
  have HG := Lib.hid hg
  have HBL := Lib.hid hbl
  have HC := Lib.hid hc
  clear hA hx hg hc
  obtain ⟨s, hsg⟩ : ∃ s, g i = s := ⟨_, rfl⟩
  rw [hsg] at q0 hs ⊢
  clear hsg
  by_cases h1 : k = 1
  · subst h1
    rw [if_pos rfl]
    have ha : (wh : Int) % 256 = ((wh % 256 : Nat) : Int) := by omega
    have hq : (wh : Int) / 256 = ((wh / 256 : Nat) : Int) := by omega
    have ha2 : (wh : Int).tmod 256 = ((wh % 256 : Nat) : Int) := by rw [Int.tmod_eq_emod_of_nonneg (by omega)]; omega
    have hq2 : (wh : Int).tdiv 256 = ((wh / 256 : Nat) : Int) := by rw [Int.tdiv_eq_ediv_of_nonneg (by omega)]; omega
    have hal : wh % 256 < 4294967296 := by omega
    have hql : wh / 256 < 4294967296 := by omega
    obtain ⟨a, hae⟩ : ∃ a, wh % 256 = a := ⟨_, rfl⟩
    obtain ⟨q, hqe⟩ : ∃ q, wh / 256 = q := ⟨_, rfl⟩
    rw [hae] at ha ha2 hal ⊢
    rw [hqe] at hq hq2 hql ⊢
    clear hae hqe
    have haw : IntKind.i64.wrap (a : Int) = (a : Int) := by rw [IntKind.wrap_i64]; omega
    have hqw : IntKind.i64.wrap (q : Int) = (q : Int) := by rw [IntKind.wrap_i64]; omega
    have hqu : IntKind.u32.wrap (q : Int) = (q : Int) := by rw [IntKind.wrap_u32]; omega
    have hau : IntKind.u32.wrap (a : Int) = (a : Int) := by rw [IntKind.wrap_u32]; omega
    have KA : Hid (∀ W, Bel w.heap.size w W → Calls Tryz.prog 37 #[.int .i64 (a : Int)] W fun e w' => e = .returned (.string (tn a)) ∧ Below W.heap.size W w') := Lib.hid (fun W hW => c37 a (by omega) W (HG.out.below hW))
    have KB : Hid (∀ W, Bel w.heap.size w W → Calls Tryz.prog 37 #[.int .i64 (q : Int)] W fun e w' => e = .returned (.string (tn q)) ∧ Below W.heap.size W w') := Lib.hid (fun W hW => c37 q (by omega) W (HG.out.below hW))
    generalize tn a = ta at *
    generalize tn q = tq at *
    go_enter Tryz.func18, Tryz.ntmps18
    go_upto_region 4 with fail
    have HI : Hid ((fun W => W.cell? ⟨w.heap.size + 1, 3, none⟩ = some (.string nm) ∧ W.cell? ⟨w.heap.size + 1, 4, none⟩ = some (.int .u32 (wh : Int)) ∧ w.heap.size + 1 < W.heap.size ∧ w.heap.size < W.heap.size ∧ Bel w.heap.size w W) (((w.alloc (.cells #[.slice (some ⟨b, o, none⟩) nc cc, .slice B n c] 25)).alloc (.cells #[.int .u8 1, .int .i64 (i : Int), .int .i64 dt, .string nm, .int .u32 (wh : Int)] 42))).drew) := Lib.hid
      ⟨World.cell?_alloc_at _ _ _ _ (by simp), World.cell?_alloc_at _ _ _ _ (by simp), by simp, by simp; omega, (((Below.refl _ _).alloc (Nat.le_refl _) _).alloc (by simp) _).drew⟩
    clear q0
    go_region_held3 (fun W => W.cell? ⟨w.heap.size + 1, 3, none⟩ = some (.string nm) ∧ W.cell? ⟨w.heap.size + 1, 4, none⟩ = some (.int .u32 (wh : Int)) ∧ w.heap.size + 1 < W.heap.size ∧ w.heap.size < W.heap.size ∧ Bel w.heap.size w W)
      (first | assumption | exact HI.out | (with_reducible exact keepE (by assumption) (by assumption)) | (with_reducible exact keepE (by assumption) ((Below.refl _ _).alloc (Nat.le_refl _) _)))
      (first | (go_at_call 37; (with_reducible refine (KA.out _ (outE (by assumption))).mono ?_); rintro _ w9 ⟨rfl, hb9⟩) | (go_at_call 37; (with_reducible refine (KB.out _ (outE (by assumption))).mono ?_); rintro _ w9 ⟨rfl, hb9⟩))
    go_wp2_with fail
    go_ret
    exact row_outE [⟨#[101, 120, 112, 111, 114, 116]⟩, s, nm, ta, tq] (by simp) (by assumption)
  by_cases h2 : k = 2
  · subst h2
    rw [if_neg (by decide), if_pos rfl]
    obtain ⟨j, rfl, hj⟩ := hto rfl
    obtain ⟨r0, _⟩ := HC.out j hj
    rw [show ((j : Int)).toNat = j from rfl]
    have hjn : (j : Int) < (nc : Int) := by omega
    have hjw := wrapN j nc hj hnc
    obtain ⟨t, htg⟩ : ∃ t, g j = t := ⟨_, rfl⟩
    rw [htg] at r0 ⊢
    clear htg
    go_enter Tryz.func18, Tryz.ntmps18
    go_upto_region 6 with fail
    have HI : Hid ((fun W => W.cell? ⟨w.heap.size, 0, none⟩ = some (.slice (some ⟨b, o, none⟩) nc cc) ∧ W.cell? ⟨w.heap.size + 1, 2, none⟩ = some (.int .i64 (j : Int)) ∧ W.cell? ⟨w.heap.size + 1, 3, none⟩ = some (.string nm) ∧ W.cell? ⟨b, o + j, none⟩ = some (.string t) ∧ w.heap.size + 1 < W.heap.size ∧ w.heap.size < W.heap.size ∧ b < W.heap.size ∧ Bel w.heap.size w W) (((w.alloc (.cells #[.slice (some ⟨b, o, none⟩) nc cc, .slice B n c] 25)).alloc (.cells #[.int .u8 2, .int .i64 (i : Int), .int .i64 (j : Int), .string nm, .int .u32 (wh : Int)] 42))).drew) := Lib.hid (by
      have hB : Below w.heap.size w (((w.alloc (.cells #[.slice (some ⟨b, o, none⟩) nc cc, .slice B n c] 25)).alloc (.cells #[.int .u8 2, .int .i64 (i : Int), .int .i64 (j : Int), .string nm, .int .u32 (wh : Int)] 42))).drew := (((Below.refl _ _).alloc (Nat.le_refl _) _).alloc (by simp) _).drew
      have hB2 := ((Below.refl (w.heap.size + 1) (w.alloc (.cells #[.slice (some ⟨b, o, none⟩) nc cc, .slice B n c] 25))).alloc (by simp) (.cells #[.int .u8 2, .int .i64 (i : Int), .int .i64 (j : Int), .string nm, .int .u32 (wh : Int)] 42)).drew
      exact ⟨(hB2.cell (p := ⟨w.heap.size, 0, none⟩) (Nat.lt_succ_self _)).trans (World.cell?_alloc_new _ _ _ _), World.cell?_alloc_at _ _ _ _ (by simp), World.cell?_alloc_at _ _ _ _ (by simp), (hB.cell (p := ⟨b, o + j, none⟩) HBL.out).trans r0, by simp, by simp; omega, Nat.lt_of_lt_of_le HBL.out hB.size, hB⟩)
    clear q0 r0
    go_region_held3 (fun W => W.cell? ⟨w.heap.size, 0, none⟩ = some (.slice (some ⟨b, o, none⟩) nc cc) ∧ W.cell? ⟨w.heap.size + 1, 2, none⟩ = some (.int .i64 (j : Int)) ∧ W.cell? ⟨w.heap.size + 1, 3, none⟩ = some (.string nm) ∧ W.cell? ⟨b, o + j, none⟩ = some (.string t) ∧ w.heap.size + 1 < W.heap.size ∧ w.heap.size < W.heap.size ∧ b < W.heap.size ∧ Bel w.heap.size w W)
      (first | assumption | exact HI.out | (with_reducible exact keepF (by assumption) (by assumption)) | (with_reducible exact keepF (by assumption) ((Below.refl _ _).alloc (Nat.le_refl _) _)))
      (fail)
    go_wp2_with fail
    go_ret
    exact row_outF [⟨#[99, 97, 108, 108]⟩, s, t, nm] (by simp) (by assumption) _ (by simp)
  by_cases h3 : k = 3
  · subst h3
    rw [if_neg (by decide), if_neg (by decide), if_pos rfl]
    have ha : (wh : Int) % 65536 = ((wh % 65536 : Nat) : Int) := by omega
    have hq : (wh : Int) / 65536 = ((wh / 65536 : Nat) : Int) := by omega
    have ha2 : (wh : Int).tmod 65536 = ((wh % 65536 : Nat) : Int) := by rw [Int.tmod_eq_emod_of_nonneg (by omega)]; omega
    have hq2 : (wh : Int).tdiv 65536 = ((wh / 65536 : Nat) : Int) := by rw [Int.tdiv_eq_ediv_of_nonneg (by omega)]; omega
    have hal : wh % 65536 < 4294967296 := by omega
    have hql : wh / 65536 < 4294967296 := by omega
    obtain ⟨a, hae⟩ : ∃ a, wh % 65536 = a := ⟨_, rfl⟩
    obtain ⟨q, hqe⟩ : ∃ q, wh / 65536 = q := ⟨_, rfl⟩
    rw [hae] at ha ha2 hal ⊢
    rw [hqe] at hq hq2 hql ⊢
    clear hae hqe
    have haw : IntKind.i64.wrap (a : Int) = (a : Int) := by rw [IntKind.wrap_i64]; omega
    have hqw : IntKind.i64.wrap (q : Int) = (q : Int) := by rw [IntKind.wrap_i64]; omega
    have hqu : IntKind.u32.wrap (q : Int) = (q : Int) := by rw [IntKind.wrap_u32]; omega
    have hau : IntKind.u32.wrap (a : Int) = (a : Int) := by rw [IntKind.wrap_u32]; omega
    have KA : Hid (∀ W, Bel w.heap.size w W → Calls Tryz.prog 37 #[.int .i64 (a : Int)] W fun e w' => e = .returned (.string (tn a)) ∧ Below W.heap.size W w') := Lib.hid (fun W hW => c37 a (by omega) W (HG.out.below hW))
    have KB : Hid (∀ W, Bel w.heap.size w W → Calls Tryz.prog 37 #[.int .i64 (q : Int)] W fun e w' => e = .returned (.string (tn q)) ∧ Below W.heap.size W w') := Lib.hid (fun W hW => c37 q (by omega) W (HG.out.below hW))
    generalize tn a = ta at *
    generalize tn q = tq at *
    go_enter Tryz.func18, Tryz.ntmps18
    go_upto_region 8 with fail
    have HI : Hid ((fun W => W.cell? ⟨w.heap.size + 1, 3, none⟩ = some (.string nm) ∧ W.cell? ⟨w.heap.size + 1, 4, none⟩ = some (.int .u32 (wh : Int)) ∧ w.heap.size + 1 < W.heap.size ∧ w.heap.size < W.heap.size ∧ Bel w.heap.size w W) (((w.alloc (.cells #[.slice (some ⟨b, o, none⟩) nc cc, .slice B n c] 25)).alloc (.cells #[.int .u8 3, .int .i64 (i : Int), .int .i64 dt, .string nm, .int .u32 (wh : Int)] 42))).drew) := Lib.hid
      ⟨World.cell?_alloc_at _ _ _ _ (by simp), World.cell?_alloc_at _ _ _ _ (by simp), by simp, by simp; omega, (((Below.refl _ _).alloc (Nat.le_refl _) _).alloc (by simp) _).drew⟩
    clear q0
    go_region_held3 (fun W => W.cell? ⟨w.heap.size + 1, 3, none⟩ = some (.string nm) ∧ W.cell? ⟨w.heap.size + 1, 4, none⟩ = some (.int .u32 (wh : Int)) ∧ w.heap.size + 1 < W.heap.size ∧ w.heap.size < W.heap.size ∧ Bel w.heap.size w W)
      (first | assumption | exact HI.out | (with_reducible exact keepE (by assumption) (by assumption)) | (with_reducible exact keepE (by assumption) ((Below.refl _ _).alloc (Nat.le_refl _) _)))
      (first | (go_at_call 37; (with_reducible refine (KA.out _ (outE (by assumption))).mono ?_); rintro _ w9 ⟨rfl, hb9⟩) | (go_at_call 37; (with_reducible refine (KB.out _ (outE (by assumption))).mono ?_); rintro _ w9 ⟨rfl, hb9⟩))
    go_wp2_with fail
    go_ret
    exact row_outE [⟨#[100, 101, 118, 105, 99, 101]⟩, s, nm, ta, tq] (by simp) (by assumption)
  by_cases h4 : k = 4
  · subst h4
    rw [if_neg (by decide), if_neg (by decide), if_neg (by decide), if_pos rfl]
    by_cases h3 : wh = 3
    · have t3 : ((wh : Int) == 3) = true := by simp; omega
      rw [if_pos h3]
      clear h3 HC hto
      go_enter Tryz.func18, Tryz.ntmps18
      go_wp2_with fail
      go_ret
      exact row_out [⟨#[115, 104, 97, 114, 101]⟩, s, nm, ⟨#[114, 119]⟩] (by simp) (((Below.refl _ _).alloc (Nat.le_refl _) _).alloc (by simp) _) _ (by simp)
    · have t3 : ((wh : Int) == 3) = false := by simp; omega
      rw [if_neg h3]
      clear h3 HC hto
      go_enter Tryz.func18, Tryz.ntmps18
      go_wp2_with fail
      go_ret
      exact row_out [⟨#[115, 104, 97, 114, 101]⟩, s, nm, ⟨#[114]⟩] (by simp) (((Below.refl _ _).alloc (Nat.le_refl _) _).alloc (by simp) _) _ (by simp)
  rw [if_neg h1, if_neg h2, if_neg h3, if_neg h4]
  have t1 : ((k : Int) == 1) = false := by simp; omega
  have t2 : ((k : Int) == 2) = false := by simp; omega
  have t3 : ((k : Int) == 3) = false := by simp; omega
  have t4 : ((k : Int) == 4) = false := by simp; omega
  clear h1 h2 h3 h4 HC hto
  go_enter Tryz.func18, Tryz.ntmps18
  go_wp2_with fail
  go_ret
  exact row_out [⟨#[115, 116, 97, 114, 116]⟩, s, nm] (by simp) (((Below.refl _ _).alloc (Nat.le_refl _) _).alloc (by simp) _) _ (by simp)
end Go.Proofs.YtblfnjdbihhglaaGreatDoor
