import Derived.Test.YtnkoknfihhdelaaGreatDoorZRv
import Derived.Test.YtnkoknfihhdelaaGreatDoorZRz
import Derived.Test.YtnkoknfihhdelaaGreatDoorZA
import Derived.Test.YtnkoknfihhdelaaGreatDoorZOb
namespace Go.Proofs.YtnkoknfihhdelaaGreatDoor
open Go.ChangeShapes Go.WideShapes Go.ChangeAt Go.RowKit
set_option linter.unusedVariables false
set_option maxRecDepth 100000
theorem why_4 (k:WK) (ho:k.i.o=4):k.why=(if k.q1.jok k.i.im=true then 0 else 5):=by unfold WK.why;rw [ho];rfl
theorem why_11 (k:WK) (ho:k.i.o=11):k.why=(if plB k.q1 1 11 k.ad=true then 0 else 3):=by unfold WK.why;rw [ho];rfl
theorem why_12 (k:WK) (ho:k.i.o=12):k.why=(if plB k.q1 1 12 k.ad=true then 0 else 3):=by unfold WK.why;rw [ho];rfl
theorem why_13 (k:WK) (ho:k.i.o=13):k.why=(if plB k.q1 1 13 k.ad=true then 0 else 3):=by unfold WK.why;rw [ho];rfl
theorem why_14 (k:WK) (ho:k.i.o=14):k.why=(if plB k.q1 1 14 k.ad=true then 0 else 3):=by unfold WK.why;rw [ho];rfl
theorem why_15 (k:WK) (ho:k.i.o=15):k.why=(if plB k.q1 1 15 k.ad=true then 0 else 3):=by unfold WK.why;rw [ho];rfl
theorem why_16 (k:WK) (ho:k.i.o=16):k.why=(if plB k.q1 1 16 k.ad=true then 0 else 3):=by unfold WK.why;rw [ho];rfl
theorem why_17 (k:WK) (ho:k.i.o=17):k.why=(if plB k.q1 2 17 k.ad=true∧¬ (szO 17=8∧k.q2.g=true∧k.q2.p/16%2=0∧k.q1.p/32%2=0) then 0 else 4):=by unfold WK.why;rw [ho];rfl
theorem why_18 (k:WK) (ho:k.i.o=18):k.why=(if plB k.q1 2 18 k.ad=true∧¬ (szO 18=8∧k.q2.g=true∧k.q2.p/16%2=0∧k.q1.p/32%2=0) then 0 else 4):=by unfold WK.why;rw [ho];rfl
theorem why_19 (k:WK) (ho:k.i.o=19):k.why=(if plB k.q1 2 19 k.ad=true∧¬ (szO 19=8∧k.q2.g=true∧k.q2.p/16%2=0∧k.q1.p/32%2=0) then 0 else 4):=by unfold WK.why;rw [ho];rfl
theorem why_20 (k:WK) (ho:k.i.o=20):k.why=(if plB k.q1 2 20 k.ad=true∧¬ (szO 20=8∧k.q2.g=true∧k.q2.p/16%2=0∧k.q1.p/32%2=0) then 0 else 4):=by unfold WK.why;rw [ho];rfl
theorem why_51 (k:WK) (ho:k.i.o=51):k.why=(if k.pc.p/64%2=1 then 0 else 6):=by unfold WK.why;rw [ho];rfl
theorem why_52 (k:WK) (ho:k.i.o=52):k.why=(if k.pc.p/64%2=1 then 0 else 6):=by unfold WK.why;rw [ho];rfl
theorem why_66 (k:WK) (ho:k.i.o=66):k.why=(if k.pc.p/64%2=1 then 0 else 6):=by unfold WK.why;rw [ho];rfl
theorem why_67 (k:WK) (ho:k.i.o=67):k.why=7:=by unfold WK.why;rw [ho];rfl
theorem why_68 (k:WK) (ho:k.i.o=68):k.why=(if k.pc.p/64%2=1 then 0 else 6):=by unfold WK.why;rw [ho];rfl
theorem do_ok {g b B:Nat} {M:Nat→Nat} {T:Nat→Bool} {tv:Value} {m:Nat} {xs:List Value} {w0 w:World} {k:WK} {aD:Nat→Nat→Nat→Nat} {aI:Nat→Nat→Nat→Bool} (hs:Stp g b B M T tv m xs w0 w k) (hd:k.i.rd<16) (h1:k.i.r1<16) (h2:k.i.r2<16) (hf:∀ i,(k.A.c i).fit) (hmp:k.mp=.pointer (some ⟨b,0,none⟩)) (hm6:m≤65536) (hM:∀ i,M i<256) (hA:AluOk aD aI) (ho1:1≤k.i.o) (ho2:k.i.o≤68) (hw:k.why=0):DoOk g b B M T m xs w0 w k aD aI:=by
 rcases (by omega:k.i.o=1∨k.i.o=2∨k.i.o=3∨k.i.o=4∨k.i.o=5∨k.i.o=6∨k.i.o=7∨k.i.o=8∨k.i.o=9∨k.i.o=10∨k.i.o=11∨k.i.o=12∨k.i.o=13∨k.i.o=14∨k.i.o=15∨k.i.o=16∨k.i.o=17∨k.i.o=18∨k.i.o=19∨k.i.o=20∨k.i.o=21∨k.i.o=22∨k.i.o=23∨k.i.o=24∨k.i.o=25∨k.i.o=26∨k.i.o=27∨k.i.o=28∨k.i.o=29∨k.i.o=30∨k.i.o=31∨k.i.o=32∨k.i.o=33∨k.i.o=34∨k.i.o=35∨k.i.o=36∨k.i.o=37∨k.i.o=38∨k.i.o=39∨k.i.o=40∨k.i.o=41∨k.i.o=42∨k.i.o=43∨k.i.o=44∨k.i.o=45∨k.i.o=46∨k.i.o=47∨k.i.o=48∨k.i.o=49∨k.i.o=50∨k.i.o=51∨k.i.o=52∨k.i.o=53∨k.i.o=54∨k.i.o=55∨k.i.o=56∨k.i.o=57∨k.i.o=58∨k.i.o=59∨k.i.o=60∨k.i.o=61∨k.i.o=62∨k.i.o=63∨k.i.o=64∨k.i.o=65∨k.i.o=66∨k.i.o=67∨k.i.o=68) with ho | ho | ho | ho | ho | ho | ho | ho | ho | ho | ho | ho | ho | ho | ho | ho | ho | ho | ho | ho | ho | ho | ho | ho | ho | ho | ho | ho | ho | ho | ho | ho | ho | ho | ho | ho | ho | ho | ho | ho | ho | ho | ho | ho | ho | ho | ho | ho | ho | ho | ho | ho | ho | ho | ho | ho | ho | ho | ho | ho | ho | ho | ho | ho | ho | ho | ho | ho
 ·exact do_1 hs hd h1 h2 hf ho
 ·exact do_2 hs hd h1 h2 hf ho
 ·exact do_3 hs hd h1 h2 hf ho
 ·exact do_4 hs hd h1 h2 hf (by rw [why_4 k ho] at hw;by_cases h:k.q1.jok k.i.im=true;exact h;rw [if_neg h] at hw;omega) ho
 ·exact do_5 hs hd h1 h2 hf hA ho
 ·exact do_6 hs hd h1 h2 hf hA ho
 ·exact do_7 hs hd h1 h2 hf hA ho
 ·exact do_8 hs hd h1 h2 hf hA ho
 ·exact do_9 hs hd h1 h2 hf hA ho
 ·exact do_10 hs hd h1 h2 hf hA ho
 ·exact do_11 hs hd h1 h2 hf hmp hm6 hM (by rw [why_11 k ho] at hw;by_cases h:plB k.q1 1 11 k.ad=true;exact h;rw [if_neg h] at hw;omega) ho
 ·exact do_12 hs hd h1 h2 hf hmp hm6 hM (by rw [why_12 k ho] at hw;by_cases h:plB k.q1 1 12 k.ad=true;exact h;rw [if_neg h] at hw;omega) ho
 ·exact do_13 hs hd h1 h2 hf hmp hm6 hM (by rw [why_13 k ho] at hw;by_cases h:plB k.q1 1 13 k.ad=true;exact h;rw [if_neg h] at hw;omega) ho
 ·exact do_14 hs hd h1 h2 hf hmp hm6 hM (by rw [why_14 k ho] at hw;by_cases h:plB k.q1 1 14 k.ad=true;exact h;rw [if_neg h] at hw;omega) ho
 ·exact do_15 hs hd h1 h2 hf hmp hm6 hM (by rw [why_15 k ho] at hw;by_cases h:plB k.q1 1 15 k.ad=true;exact h;rw [if_neg h] at hw;omega) ho
 ·exact do_16 hs hd h1 h2 hf hmp hm6 hM (by rw [why_16 k ho] at hw;by_cases h:plB k.q1 1 16 k.ad=true;exact h;rw [if_neg h] at hw;omega) ho
 ·exact do_17 hs hd h1 h2 hf hmp hm6 (by rw [why_17 k ho] at hw;by_cases h:plB k.q1 2 17 k.ad=true∧¬ (szO 17=8∧k.q2.g=true∧k.q2.p/16%2=0∧k.q1.p/32%2=0);exact h.1;rw [if_neg h] at hw;omega) ho
 ·exact do_18 hs hd h1 h2 hf hmp hm6 (by rw [why_18 k ho] at hw;by_cases h:plB k.q1 2 18 k.ad=true∧¬ (szO 18=8∧k.q2.g=true∧k.q2.p/16%2=0∧k.q1.p/32%2=0);exact h.1;rw [if_neg h] at hw;omega) ho
 ·exact do_19 hs hd h1 h2 hf hmp hm6 (by rw [why_19 k ho] at hw;by_cases h:plB k.q1 2 19 k.ad=true∧¬ (szO 19=8∧k.q2.g=true∧k.q2.p/16%2=0∧k.q1.p/32%2=0);exact h.1;rw [if_neg h] at hw;omega) ho
 ·rw [why_20 k ho] at hw
  by_cases h:plB k.q1 2 20 k.ad=true∧¬ (szO 20=8∧k.q2.g=true∧k.q2.p/16%2=0∧k.q1.p/32%2=0)
  ·exact do_20 hs hd h1 h2 hf hmp hm6 h.1 (fun q=>h.2 ⟨by decide,q⟩) ho
  ·rw [if_neg h] at hw;omega
 ·exact do_21 hs hd h1 h2 hf hA ho
 ·exact do_22 hs hd h1 h2 hf hA ho
 ·exact do_23 hs hd h1 h2 hf hA ho
 ·exact do_24 hs hd h1 h2 hf hA ho
 ·exact do_25 hs hd h1 h2 hf hA ho
 ·exact do_26 hs hd h1 h2 hf hA ho
 ·exact do_27 hs hd h1 h2 hf hA ho
 ·exact do_28 hs hd h1 h2 hf hA ho
 ·exact do_29 hs hd h1 h2 hf hA ho
 ·exact do_30 hs hd h1 h2 hf hA ho
 ·exact do_31 hs hd h1 h2 hf hA ho
 ·exact do_32 hs hd h1 h2 hf hA ho
 ·exact do_33 hs hd h1 h2 hf hA ho
 ·exact do_34 hs hd h1 h2 hf hA ho
 ·exact do_35 hs hd h1 h2 hf hA ho
 ·exact do_36 hs hd h1 h2 hf hA ho
 ·exact do_37 hs hd h1 h2 hf hA ho
 ·exact do_38 hs hd h1 h2 hf hA ho
 ·exact do_39 hs hd h1 h2 hf hA ho
 ·exact do_40 hs hd h1 h2 hf hA ho
 ·exact do_41 hs hd h1 h2 hf hA ho
 ·exact do_42 hs hd h1 h2 hf hA ho
 ·exact do_43 hs hd h1 h2 hf hA ho
 ·exact do_44 hs hd h1 h2 hf hA ho
 ·exact do_45 hs hd h1 h2 hf hA ho
 ·exact do_46 hs hd h1 h2 hf hA ho
 ·exact do_47 hs hd h1 h2 hf hA ho
 ·exact do_48 hs hd h1 h2 hf ho
 ·exact do_49 hs hd h1 h2 hf ho
 ·exact do_50 hs hd h1 h2 hf ho
 ·exact do_51 hs hd h1 h2 hf (by rw [why_51 k ho] at hw;by_cases h:k.pc.p/64%2=1;exact h;rw [if_neg h] at hw;omega) ho
 ·exact do_52 hs hd h1 h2 hf (by rw [why_52 k ho] at hw;by_cases h:k.pc.p/64%2=1;exact h;rw [if_neg h] at hw;omega) ho
 ·exact do_53 hs hd h1 h2 hf ho
 ·exact do_54 hs hd h1 h2 hf ho
 ·exact do_55 hs hd h1 h2 hf ho
 ·exact do_56 hs hd h1 h2 hf ho
 ·exact do_57 hs hd h1 h2 hf ho
 ·exact do_58 hs hd h1 h2 hf ho
 ·exact do_59 hs hd h1 h2 hf ho
 ·exact do_60 hs hd h1 h2 hf ho
 ·exact do_61 hs hd h1 h2 hf ho
 ·exact do_62 hs hd h1 h2 hf ho
 ·exact do_63 hs hd h1 h2 hf ho
 ·exact do_64 hs hd h1 h2 hf ho
 ·exact do_65 hs hd h1 h2 hf ho
 ·exact do_66 hs hd h1 h2 hf (by rw [why_66 k ho] at hw;by_cases h:k.pc.p/64%2=1;exact h;rw [if_neg h] at hw;omega) ho
 ·rw [why_67 k ho] at hw;omega
 ·exact do_68 hs hd h1 h2 hf (by rw [why_68 k ho] at hw;by_cases h:k.pc.p/64%2=1;exact h;rw [if_neg h] at hw;omega) ho
theorem do_trap (g:Nat) (w:World) (k:WK) (hk:Wk w g k) {b B m:Nat} {M:Nat→Nat} {T:Nat→Bool} {tv:Value} {xs:List Value} {w0:World} (hs:Stp g b B M T tv m xs w0 w k) (hd:k.i.rd<16) (h1:k.i.r1<16) (h2:k.i.r2<16) (hf:∀ i,(k.A.c i).fit) (hmp:k.mp=.pointer (some ⟨b,0,none⟩)) (hm6:m≤65536) (hw:k.why≠0) :
  Calls Tryz.prog 61 #[.pointer (some ⟨g,0,none⟩)] w fun e w'=>e=.panicked [{ v:=.iface 118 (.agg #[.int .u32 (k.why:Int)]),recovered:=false }]∧Below w.heap.size w w':=by
 have hcl:k.i.o=67∨k.i.o=4∨k.i.o=11∨k.i.o=12∨k.i.o=13∨k.i.o=14∨k.i.o=15∨k.i.o=16∨k.i.o=17∨k.i.o=18∨k.i.o=19∨k.i.o=20∨k.i.o=51∨k.i.o=52∨k.i.o=66∨k.i.o=68:=by
  unfold WK.why at hw
  by_cases a1:k.i.o=67
  ·exact Or.inl a1
  rw [if_neg a1] at hw
  by_cases a2:k.i.o=4
  ·exact Or.inr (Or.inl a2)
  rw [if_neg a2] at hw
  by_cases a3:11≤k.i.o∧k.i.o≤16
  ·omega
  rw [if_neg a3] at hw
  by_cases a4:17≤k.i.o∧k.i.o≤20
  ·omega
  rw [if_neg a4] at hw
  by_cases a5:k.i.o=51∨k.i.o=52∨k.i.o=66∨k.i.o=68
  ·omega
  rw [if_neg a5] at hw
  exact absurd rfl hw
 rcases hcl with ho | ho | ho | ho | ho | ho | ho | ho | ho | ho | ho | ho | ho | ho | ho | ho
 ·rw [why_67 k ho]
  refine (c61_ecall g k w hk ho).mono ?_
  rintro e w' ⟨h1,rfl⟩
  exact ⟨h1,Below.refl _ _⟩
 ·rw [why_4 k ho] at hw ⊢
  by_cases h:k.q1.jok k.i.im=true
  ·rw [if_pos h] at hw;exact absurd rfl hw
  ·rw [if_neg h]
   exact c61_flow_p g k 4 5 (fun w'=>Below w.heap.size w w') w hk ho (by decide) (by decide) (c92_cjalr_t g k k.i.r1 k.q1 w hk ho rfl h1 rfl (hf _) (by simpa using h))
 ·rw [why_11 k ho] at hw ⊢
  by_cases h:plB k.q1 1 11 k.ad=true
  ·rw [if_pos h] at hw;exact absurd rfl hw
  ·rw [if_neg h]
   exact c61_load_p g k 11 3 (fun w'=>Below w.heap.size w w') w hk ho (by decide) (by decide) (c93_t g w k 11 k.i.r1 k.imN k.q1 hk ho (by decide) (by decide) rfl h1 rfl (hf _) k.imN_eq (Eq.mp (Bool.not_eq_true _) h))
 ·rw [why_12 k ho] at hw ⊢
  by_cases h:plB k.q1 1 12 k.ad=true
  ·rw [if_pos h] at hw;exact absurd rfl hw
  ·rw [if_neg h]
   exact c61_load_p g k 12 3 (fun w'=>Below w.heap.size w w') w hk ho (by decide) (by decide) (c93_t g w k 12 k.i.r1 k.imN k.q1 hk ho (by decide) (by decide) rfl h1 rfl (hf _) k.imN_eq (Eq.mp (Bool.not_eq_true _) h))
 ·rw [why_13 k ho] at hw ⊢
  by_cases h:plB k.q1 1 13 k.ad=true
  ·rw [if_pos h] at hw;exact absurd rfl hw
  ·rw [if_neg h]
   exact c61_load_p g k 13 3 (fun w'=>Below w.heap.size w w') w hk ho (by decide) (by decide) (c93_t g w k 13 k.i.r1 k.imN k.q1 hk ho (by decide) (by decide) rfl h1 rfl (hf _) k.imN_eq (Eq.mp (Bool.not_eq_true _) h))
 ·rw [why_14 k ho] at hw ⊢
  by_cases h:plB k.q1 1 14 k.ad=true
  ·rw [if_pos h] at hw;exact absurd rfl hw
  ·rw [if_neg h]
   exact c61_load_p g k 14 3 (fun w'=>Below w.heap.size w w') w hk ho (by decide) (by decide) (c93_t g w k 14 k.i.r1 k.imN k.q1 hk ho (by decide) (by decide) rfl h1 rfl (hf _) k.imN_eq (Eq.mp (Bool.not_eq_true _) h))
 ·rw [why_15 k ho] at hw ⊢
  by_cases h:plB k.q1 1 15 k.ad=true
  ·rw [if_pos h] at hw;exact absurd rfl hw
  ·rw [if_neg h]
   exact c61_load_p g k 15 3 (fun w'=>Below w.heap.size w w') w hk ho (by decide) (by decide) (c93_t g w k 15 k.i.r1 k.imN k.q1 hk ho (by decide) (by decide) rfl h1 rfl (hf _) k.imN_eq (Eq.mp (Bool.not_eq_true _) h))
 ·rw [why_16 k ho] at hw ⊢
  by_cases h:plB k.q1 1 16 k.ad=true
  ·rw [if_pos h] at hw;exact absurd rfl hw
  ·rw [if_neg h]
   exact c61_load_p g k 16 3 (fun w'=>Below w.heap.size w w') w hk ho (by decide) (by decide) (c93_t g w k 16 k.i.r1 k.imN k.q1 hk ho (by decide) (by decide) rfl h1 rfl (hf _) k.imN_eq (Eq.mp (Bool.not_eq_true _) h))
 ·rw [why_17 k ho] at hw ⊢
  by_cases h:plB k.q1 2 17 k.ad=true∧¬ (szO 17=8∧k.q2.g=true∧k.q2.p/16%2=0∧k.q1.p/32%2=0)
  ·rw [if_pos h] at hw;exact absurd rfl hw
  ·rw [if_neg h]
   cases hp:plB k.q1 2 17 k.ad with
   | false=>exact c61_store_p g k 17 4 (fun w'=>Below w.heap.size w w') w hk ho (by decide) (by decide) (c94_t g w k 17 k.i.r1 k.imN k.q1 hk ho (by decide) (by decide) rfl h1 rfl (hf _) k.imN_eq hp)
   | true=>exact absurd ⟨hp,fun q=>absurd q.1 (by decide)⟩ h
 ·rw [why_18 k ho] at hw ⊢
  by_cases h:plB k.q1 2 18 k.ad=true∧¬ (szO 18=8∧k.q2.g=true∧k.q2.p/16%2=0∧k.q1.p/32%2=0)
  ·rw [if_pos h] at hw;exact absurd rfl hw
  ·rw [if_neg h]
   cases hp:plB k.q1 2 18 k.ad with
   | false=>exact c61_store_p g k 18 4 (fun w'=>Below w.heap.size w w') w hk ho (by decide) (by decide) (c94_t g w k 18 k.i.r1 k.imN k.q1 hk ho (by decide) (by decide) rfl h1 rfl (hf _) k.imN_eq hp)
   | true=>exact absurd ⟨hp,fun q=>absurd q.1 (by decide)⟩ h
 ·rw [why_19 k ho] at hw ⊢
  by_cases h:plB k.q1 2 19 k.ad=true∧¬ (szO 19=8∧k.q2.g=true∧k.q2.p/16%2=0∧k.q1.p/32%2=0)
  ·rw [if_pos h] at hw;exact absurd rfl hw
  ·rw [if_neg h]
   cases hp:plB k.q1 2 19 k.ad with
   | false=>exact c61_store_p g k 19 4 (fun w'=>Below w.heap.size w w') w hk ho (by decide) (by decide) (c94_t g w k 19 k.i.r1 k.imN k.q1 hk ho (by decide) (by decide) rfl h1 rfl (hf _) k.imN_eq hp)
   | true=>exact absurd ⟨hp,fun q=>absurd q.1 (by decide)⟩ h
 ·rw [why_20 k ho] at hw ⊢
  by_cases h:plB k.q1 2 20 k.ad=true∧¬ (szO 20=8∧k.q2.g=true∧k.q2.p/16%2=0∧k.q1.p/32%2=0)
  ·rw [if_pos h] at hw;exact absurd rfl hw
  ·rw [if_neg h]
   cases hp:plB k.q1 2 20 k.ad with
   | false=>exact c61_store_p g k 20 4 (fun w'=>Below w.heap.size w w') w hk ho (by decide) (by decide) (c94_t g w k 20 k.i.r1 k.imN k.q1 hk ho (by decide) (by decide) rfl h1 rfl (hf _) k.imN_eq hp)
   | true =>
    have h':szO 20=8∧k.q2.g=true∧k.q2.p/16%2=0∧k.q1.p/32%2=0:=by
     refine Classical.byContradiction fun q=>h ⟨hp,q⟩
    exact c61_store_p g k 20 4 (fun w'=>Below w.heap.size w w') w hk ho (by decide) (by decide) (c94_capt g b B M T tv m xs w0 w k 20 k.i.r1 k.i.r2 k.imN k.q1 k.q2 hs hmp hm6 ho (by decide) (by decide) rfl h1 rfl h2 rfl rfl (hf _) (hf _) k.imN_eq hp rfl h'.2.1 h'.2.2.1 h'.2.2.2)
 ·rw [why_51 k ho] at hw ⊢
  by_cases h:k.pc.p/64%2=1
  ·rw [if_pos h] at hw;exact absurd rfl hw
  ·rw [if_neg h]
   exact c61_sys51_p g k 6 (fun w'=>Below w.heap.size w w') w hk ho (c99_t g k k.pc w hk rfl (hf 16) (by omega))
 ·rw [why_52 k ho] at hw ⊢
  by_cases h:k.pc.p/64%2=1
  ·rw [if_pos h] at hw;exact absurd rfl hw
  ·rw [if_neg h]
   exact c61_sys52_p g k 6 (fun w'=>Below w.heap.size w w') w hk ho (c99_t g k k.pc w hk rfl (hf 16) (by omega))
 ·rw [why_66 k ho] at hw ⊢
  by_cases h:k.pc.p/64%2=1
  ·rw [if_pos h] at hw;exact absurd rfl hw
  ·rw [if_neg h]
   exact c61_sys66_p g k 6 (fun w'=>Below w.heap.size w w') w hk ho (c99_t g k k.pc w hk rfl (hf 16) (by omega))
 ·rw [why_68 k ho] at hw ⊢
  by_cases h:k.pc.p/64%2=1
  ·rw [if_pos h] at hw;exact absurd rfl hw
  ·rw [if_neg h]
   exact c61_sys68_p g k 6 (fun w'=>Below w.heap.size w w') w hk ho (c99_t g k k.pc w hk rfl (hf 16) (by omega))
theorem c58_dev (g:Nat) (k:WK) (q:Cq) (w:World) (h:Wk w g k) (hq:k.A.c 16=q) (hf:q.fit) (hmay:Ca.may q.g q.a q.p q.y q.e q.b q.t 8 q.a 4=true) (hd:devB q.a=true) :
  Calls Tryz.prog 58 #[.pointer (some ⟨g,0,none⟩)] w fun e w'=>e=.panicked [{ v:=.iface 118 (.agg #[.int .u32 1]),recovered:=false }]∧Below w.heap.size w w':=by
 have K60:=Lib.hid (c60 g k w h)
 have hsv:=h.sevenP 16 113 (by decide) rfl
 rw [hq] at hsv K60
 have KM:=Lib.hid (Ca.c36 q.g q.a q.p q.y q.e q.b q.t 8 q.a 4 hf.1 hf.2.1 hf.2.2.1 hf.2.2.2.1 hf.2.2.2.2.1 hf.2.2.2.2.2 (by decide) (by have:=hf.1;omega) (by decide) w)
 rw [hmay] at KM
 have hl:=Blk.lt h
 have ha:=hf.1
 obtain ⟨x0,x1,x2,x3,x4,x5,x6⟩:=hsv
 have hcv:∀ W,(convert 25 84 (.int .u32 (q.a:Int))).run Tryz.prog W=.ok (.int .u64 (q.a:Int)) W:=fun W=>by
  have:IntKind.u64.wrap (q.a:Int)=(q.a:Int):=by rw [IntKind.wrap_u64];omega
  simp [convert,run_underlying Tryz.underlying25,run_underlying Tryz.underlying84,this,go_sem]
 have KD:=Lib.hid (c88 q.a)
 rw [hd] at KD
 clear h hq hf hmay hd
 go_enter Tryz.func58,Tryz.ntmps58
 go_wp2_with fail
 refine K60.out.mono ?_
 rintro _ _ ⟨rfl,rfl⟩
 go_wp2_with fail
 refine KM.out.mono ?_
 rintro _ w1 ⟨rfl,hb⟩
 have HB:=Lib.hid hb
 clear hb x0 x1 x2 x3 x4 x5 x6
 go_wp2_with fail
 refine (KD.out _).mono ?_
 rintro _ _ ⟨rfl,rfl⟩
 go_wp2_with fail
 exact ⟨rfl,rfl,HB.out⟩
theorem c58_now (g b:Nat) (M:Nat→Nat) (T:Nat→Bool) (k:WK) (q:Cq) (w:World) (h:Wk w g k) (hq:k.A.c 16=q) (hf:q.fit) (hmay:Ca.may q.g q.a q.p q.y q.e q.b q.t 8 q.a 4=true) (hd:devB q.a=false) (hmp:k.mp=.pointer (some ⟨b,0,none⟩)) (hm:Mem w b M T) (hw:wordB q.a 4=false) :
  Calls Tryz.prog 58 #[.pointer (some ⟨g,0,none⟩)] w fun e w'=>e=.panicked [{ v:=.iface 118 (.agg #[.int .u32 1]),recovered:=false }]∧Below w.heap.size w w':=by
 have K60:=Lib.hid (c60 g k w h)
 have hsv:=h.sevenP 16 113 (by decide) rfl
 rw [hq] at hsv K60
 have KM:=Lib.hid (Ca.c36 q.g q.a q.p q.y q.e q.b q.t 8 q.a 4 hf.1 hf.2.1 hf.2.2.1 hf.2.2.2.1 hf.2.2.2.2.1 hf.2.2.2.2.2 (by decide) (by have:=hf.1;omega) (by decide) w)
 rw [hmay] at KM
 have hl:=Blk.lt h
 have ha:=hf.1
 obtain ⟨x0,x1,x2,x3,x4,x5,x6⟩:=hsv
 have hcv:∀ W,(convert 25 84 (.int .u32 (q.a:Int))).run Tryz.prog W=.ok (.int .u64 (q.a:Int)) W:=fun W=>by
  have:IntKind.u64.wrap (q.a:Int)=(q.a:Int):=by rw [IntKind.wrap_u64];omega
  simp [convert,run_underlying Tryz.underlying25,run_underlying Tryz.underlying84,this,go_sem]
 have KD:=Lib.hid (c88 q.a)
 rw [hd] at KD
 have x7:w.cell? ⟨g,0,none⟩=some (.pointer (some ⟨b,0,none⟩)):=by rw [←hmp];exact Blk.cell h 0
 have KL:Hid (∀ w1,Below w.heap.size w w1→Calls Tryz.prog 27 #[.pointer (some ⟨b,0,none⟩),.int .u32 (q.a:Int),.int .i64 4] w1 fun e w'=>e=.returned (.tuple #[.int .u32 0,.int .i64 2])∧w1=w'):=Lib.hid (fun w1 hb=>mLoadNo b q.a 4 M T w1 (hm.below hb hm.lt) hw)
 clear h hq hf hmay hd hmp hm hw
 go_enter Tryz.func58,Tryz.ntmps58
 go_wp2_with fail
 refine K60.out.mono ?_
 rintro _ _ ⟨rfl,rfl⟩
 go_wp2_with fail
 refine KM.out.mono ?_
 rintro _ w1 ⟨rfl,hb⟩
 have HB:=Lib.hid hb
 have x8:w1.cell? ⟨g,0,none⟩=some (.pointer (some ⟨b,0,none⟩)):=(hb.cell (p:=⟨g,0,none⟩) hl).trans x7
 have hl1:g<w1.heap.size:=Nat.lt_of_lt_of_le hl hb.size
 clear hb x0 x1 x2 x3 x4 x5 x6 x7
 go_wp2_with fail
 refine (KD.out _).mono ?_
 rintro _ _ ⟨rfl,rfl⟩
 go_wp2_with fail
 refine (KL.out _ HB.out).mono ?_
 rintro _ _ ⟨rfl,rfl⟩
 go_wp2_with fail
 exact ⟨rfl,rfl,HB.out⟩
set_option maxHeartbeats 1000000 in
theorem c58_bad (g B:Nat) (k:WK) (q:Cq) (b:Nat) (M:Nat→Nat) (T:Nat→Bool) (tc:Value) (m:Nat) (xs:List Value) (i:In.Ins) (w:World) (h:Wk w g k) (hq:k.A.c 16=q) (hf:q.fit) (hmay:Ca.may q.g q.a q.p q.y q.e q.b q.t 8 q.a 4=true) (hd:devB q.a=false)
  (hmp:k.mp=.pointer (some ⟨b,0,none⟩)) (hm:Mem w b M T) (hw:wordB q.a 4=true) (hbB:b<B) (hbg:b≠g) (htc:k.d.tc=tc) (ho:w.ownsRow B 59 3 tc m xs) (hg:g<B) (hB:B≤w.heap.size) (hm6:m≤65536) (hgl:In.Glob w) (hg3:3≤g)
  (hn:numL M q.a 4<4294967296) (e0:Nat) (he0:e0≠0) (hget:In.get (numL M q.a 4)=(i,e0)) :
  Calls Tryz.prog 58 #[.pointer (some ⟨g,0,none⟩)] w fun e w'=>e=.panicked [{ v:=.iface 118 (.agg #[.int .u32 2]),recovered:=false }]∧∃ v,Wk w' g ((k.tc v).ins (toI i))∧w'.ownsRow B 59 3 v (m+1) (xs++[.int .i64 1,.int .u32 (q.a:Int),.int .i64 4])∧Sv g B w w':=by
 have K60:=Lib.hid (c60 g k w h)
 have hsv:=h.sevenP 16 113 (by decide) rfl
 rw [hq] at hsv K60
 have KM:=Lib.hid (Ca.c36 q.g q.a q.p q.y q.e q.b q.t 8 q.a 4 hf.1 hf.2.1 hf.2.2.1 hf.2.2.2.1 hf.2.2.2.2.1 hf.2.2.2.2.2 (by decide) (by have:=hf.1;omega) (by decide) w)
 rw [hmay] at KM
 have KD:=Lib.hid (c88 q.a)
 rw [hd] at KD
 have hl:=Blk.lt h
 have ha:=hf.1
 have x7:w.cell? ⟨g,0,none⟩=some (.pointer (some ⟨b,0,none⟩)):=by rw [←hmp];exact Blk.cell h 0
 obtain ⟨x0,x1,x2,x3,x4,x5,x6⟩:=hsv
 have hcv:∀ W,(convert 25 84 (.int .u32 (q.a:Int))).run Tryz.prog W=.ok (.int .u64 (q.a:Int)) W:=fun W=>by
  have:IntKind.u64.wrap (q.a:Int)=(q.a:Int):=by rw [IntKind.wrap_u64];omega
  simp [convert,run_underlying Tryz.underlying25,run_underlying Tryz.underlying84,this,go_sem]
 have KL:Hid (∀ w1,Below w.heap.size w w1→Calls Tryz.prog 27 #[.pointer (some ⟨b,0,none⟩),.int .u32 (q.a:Int),.int .i64 4] w1 fun e w'=>e=.returned (.tuple #[.int .u32 (numL M q.a 4:Int),.int .i64 0])∧w1=w'):=Lib.hid (fun w1 hb=>mLoad b q.a 4 M T w1 (hm.below hb (by have:=hm.lt;exact this)) hw)
 have KT:Hid (∀ w1,Below w.heap.size w w1→Calls Tryz.prog 89 #[.pointer (some ⟨g,0,none⟩),.int .i64 1,.int .u32 (q.a:Int),.int .i64 4] w1 fun e w'=>e=.returned (.tuple #[])∧∃ v,Wk w' g (k.tc v)∧w'.ownsRow B 59 3 v (m+1) (xs++[.int .i64 1,.int .u32 (q.a:Int),.int .i64 4])∧Sv g B w1 w'):=Lib.hid (fun w1 hb=>c89 g B k 1 4 q.a tc m xs w1 (Blk.below h hb hl) htc (ho.kept (row:=none) ⟨hb.os,hb.tape,hb.output,hb.size,fun k' hk _=>hb.block k' hk⟩ (by cases hv:tc.ownBlock <;> simp)) hg (Nat.le_trans hB hb.size) hm6)
 have HGL:=Lib.hid hgl
 obtain ⟨n,hnn⟩:∃ n,numL M q.a 4=n:=⟨_,rfl⟩
 rw [hnn] at KL hn hget
 have HGET:=Lib.hid hget
 have HI:Hid (∀ v,putA (k.tc v).L.toArray 303 (toI i).L=((k.tc v).ins (toI i)).L.toArray):=Lib.hid (fun v=>(k.tc v).ins_L (toI i))
 clear h hq hf hmay hd hmp hm hw htc ho hgl hnn hget
 go_enter Tryz.func58,Tryz.ntmps58
 go_wp2_with fail
 refine K60.out.mono ?_
 rintro _ _ ⟨rfl,rfl⟩
 go_wp2_with fail
 refine KM.out.mono ?_
 rintro _ w1 ⟨rfl,hb⟩
 have HB:=Lib.hid hb
 have x8:w1.cell? ⟨g,0,none⟩=some (.pointer (some ⟨b,0,none⟩)):=(hb.cell (p:=⟨g,0,none⟩) hl).trans x7
 clear hb x0 x1 x2 x3 x4 x5 x6 x7
 go_wp2_with fail
 refine (KD.out _).mono ?_
 rintro _ _ ⟨rfl,rfl⟩
 go_wp2_with fail
 refine (KL.out _ HB.out).mono ?_
 rintro _ _ ⟨rfl,rfl⟩
 go_wp2_with fail
 refine (KT.out _ HB.out).mono ?_
 rintro _ w2 ⟨rfl,v,hk2,ho2,hs2⟩
 have HS2:=Lib.hid ((Below.sv HB.out hB).trans hs2)
 have HK2:=Lib.hid hk2
 have HO2:=Lib.hid ho2
 have hB2:B≤w2.heap.size:=Nat.le_trans hB HS2.out.size
 have hg2:In.Glob w2:=glob_sv HGL.out HS2.out hg3 (by omega)
 have KG:=Lib.hid (In.c9 n hn w2 hg2)
 rw [HGET.out] at KG
 clear hk2 ho2 hs2 hg2 x8
 go_wp2_with fail
 refine KG.out.mono ?_
 rintro _ w3 ⟨rfl,hb3⟩
 have HB3:=Lib.hid hb3
 have hl2:=Blk.lt HK2.out
 have HK3:Hid (Wk w3 g (k.tc v)):=Lib.hid (Blk.below HK2.out hb3 hl2)
 have HO3:Hid (w3.ownsRow B 59 3 v (m+1) (xs++[.int .i64 1,.int .u32 (q.a:Int),.int .i64 4])):=Lib.hid (HO2.out.kept (row:=none) ⟨hb3.os,hb3.tape,hb3.output,hb3.size,fun k' hk _=>hb3.block k' hk⟩ (by cases hv:v.ownBlock <;> simp))
 have HS3:=Lib.hid (HS2.out.trans (Below.sv hb3 hB2))
 clear hb3
 unfold In.ieV In.Ins.val In.insV
 have hb0:((e0:Int) != 0)=true:=by simp;omega
 have hb1:((e0:Int)==0)=false:=by rw [beq_eq_false_iff_ne];omega
 go_wp2_with (refine wpList_store_sub rfl 53 (.tmp 45) (.tmp 42) rfl g 303 (toI i).L.toArray rfl rfl 81 (k.tc v).L.toArray HK3.out info53s (by have:=(k.tc v).len;simp;omega) (ins_all (toI i)) ?_)
 have hput:putA (k.tc v).L.toArray 303 (toI i).L.toArray.toList=((k.tc v).ins (toI i)).L.toArray:=HI.out v
 rw [hput]
 have HK4:=Lib.hid (blk_row HK3.out ((k.tc v).ins (toI i)).L.toArray)
 have hO4:=only_row w3 g ((k.tc v).ins (toI i)).L.toArray
 have HS4:=Lib.hid (HS3.out.trans (hO4.sv (Nat.le_trans hB2 HB3.out.size)))
 have HO4:Hid ((w3.setRow g ((k.tc v).ins (toI i)).L.toArray).ownsRow B 59 3 v (m+1) (xs++[.int .i64 1,.int .u32 (q.a:Int),.int .i64 4])):=Lib.hid (HO3.out.kept (row:=some g) ⟨hO4.1 0 (Nat.zero_le _) (Nat.zero_le _) |>.os,hO4.1 0 (Nat.zero_le _) (Nat.zero_le _) |>.tape,hO4.1 0 (Nat.zero_le _) (Nat.zero_le _) |>.output,hO4.size,fun k' hk h'=>hO4.2 k' (fun e=>h' (by rw [e])) hk⟩ (Or.inr (fun e=>by have:=(HO3.out.lt g e).1;omega)))
 clear hput hO4
 generalize (w3.setRow g ((k.tc v).ins (toI i)).L.toArray)=W4 at *
 go_wp2_with fail
 exact ⟨rfl,rfl,v,HK4.out,HO4.out,HS4.out⟩
end Go.Proofs.YtnkoknfihhdelaaGreatDoor
namespace Go.Proofs.YtnkoknfihhdelaaGreatDoor
open Go.ChangeShapes Go.WideShapes Go.ChangeAt Go.RowKit
set_option linter.unusedVariables false
set_option maxRecDepth 100000
set_option maxHeartbeats 1000000
theorem c30_panR (g:Nat) (z:Int) (w:World) (R:World→Prop) (hR:∀ w',R w'→Blk w' w.heap.size 25 #[.int .u32 0])
  (K58:Calls Tryz.prog 58 #[.pointer (some ⟨g,0,none⟩)] (w.alloc (.cells #[.int .u32 0] 25)) fun e w'=>e=.panicked [{ v:=.iface 118 (.agg #[.int .u32 z]),recovered:=false }]∧R w') :
  Calls Tryz.prog 30 #[.pointer (some ⟨g,0,none⟩)] w fun e w'=>e=.returned (.int .u32 z)∧∃ w2,R w2∧w'=(w2.alloc (.cells #[.int .u32 z] 118)).setCell ⟨w.heap.size,0,none⟩ (.int .u32 z):=by
 have hmf:∀ (fn:Fn) (first cap:Array Value) (w:World),(Instr.makeFunc fn first cap).run Tryz.prog w=.ok (.func fn first cap) w:=fun _ _ _ _=>rfl
 have K:=Lib.hid K58
 have HR:=Lib.hid hR
 clear K58 hR
 go_enter_defers Tryz.func30,Tryz.ntmps30
 go_wp2_with fail
 refine K.out.mono ?_
 rintro _ w1 ⟨rfl,hr⟩
 have HR1:Hid (Blk w1 w.heap.size 25 #[.int .u32 0]):=Lib.hid (HR.out w1 hr)
 have HRR:=Lib.hid hr
 clear hr
 go_wp2_with fail
 have y:=HR1.out.cell 0
 simp only [List.getElem?_toArray,List.getElem?_cons_zero] at y
 have fz:=HR1.out.frozen 0
 have hl1:=HR1.out.lt
 refine leaves_cons (f:=57) (args:=#[.pointer (some ⟨w.heap.size,0,none⟩)]) (by simp) (by simp [go_sem]) ?_
 refine (c57_pan ⟨w.heap.size,0,none⟩ z 0 [] w1 hl1 y fz).mono ?_
 rintro e u' w'' ⟨rfl,rfl,hww⟩
 have hS:Blk ((w1.alloc (.cells #[.int .u32 z] 118)).setCell ⟨w.heap.size,0,none⟩ (.int .u32 z)) w.heap.size 25 #[.int .u32 z]:=by
  have:=(HR1.out.alloc (.cells #[.int .u32 z] 118)).set_ 0 (.int .u32 z)
  simpa using this
 rw [←hww] at hS
 have HWW:=Lib.hid hww
 clear hww
 have y2:=hS.cell 0
 simp only [List.getElem?_toArray,List.getElem?_cons_zero] at y2
 clear hS
 show Leaves _ _ _ _ _ _ _
 simp [Leaves,settle,results,Tryz.results30,go_sem,y2]
 exact ⟨w1,HRR.out,HWW.out⟩
theorem c30_ok (g a m:Nat) (z:Int) (w:World) (A1 A2:Value→World→Prop) (A3:World→Prop) (hw:IntKind.u32.wrap ((a:Int)+4)=(m:Int)) (hA3:∀ w',A3 w'→Blk w' w.heap.size 25 #[.int .u32 0])
  (K58:Calls Tryz.prog 58 #[.pointer (some ⟨g,0,none⟩)] (w.alloc (.cells #[.int .u32 0] 25)) fun e w'=>e=.returned (.tuple #[])∧∃ v,A1 v w')
  (K60:∀ v W,A1 v W→Calls Tryz.prog 60 #[.pointer (some ⟨g,0,none⟩)] W fun e w'=>e=.returned (.int .u32 (a:Int))∧W=w')
  (K59:∀ v W,A1 v W→Calls Tryz.prog 59 #[.pointer (some ⟨g,0,none⟩),.int .u32 (m:Int)] W fun e w'=>e=.returned (.tuple #[])∧A2 v w')
  (K61:∀ v W,A2 v W→Calls Tryz.prog 61 #[.pointer (some ⟨g,0,none⟩)] W fun e w'=>e=.returned (.tuple #[])∧A3 w') :
  Calls Tryz.prog 30 #[.pointer (some ⟨g,0,none⟩)] w fun e w'=>e=.returned (.int .u32 0)∧∃ w2,A3 w2∧w'=w2.setCell ⟨w.heap.size,0,none⟩ (.int .u32 0):=by
 have hmf:∀ (fn:Fn) (first cap:Array Value) (w:World),(Instr.makeFunc fn first cap).run Tryz.prog w=.ok (.func fn first cap) w:=fun _ _ _ _=>rfl
 have K58:=Lib.hid K58
 have K60:=Lib.hid K60
 have K59:=Lib.hid K59
 have K61:=Lib.hid K61
 have HA3:=Lib.hid hA3
 clear hA3
 go_enter_defers Tryz.func30,Tryz.ntmps30
 go_wp2_with fail
 refine K58.out.mono ?_
 rintro _ w1 ⟨rfl,v,h1⟩
 have H1:=Lib.hid h1
 clear h1
 go_wp2_with fail
 refine (K60.out v w1 H1.out).mono ?_
 rintro _ _ ⟨rfl,rfl⟩
 go_wp2_with fail
 refine (K59.out v w1 H1.out).mono ?_
 rintro _ w2 ⟨rfl,h2⟩
 have H2:=Lib.hid h2
 clear h2
 go_wp2_with fail
 refine (K61.out v w2 H2.out).mono ?_
 rintro _ w3 ⟨rfl,h3⟩
 have HR1:Hid (Blk w3 w.heap.size 25 #[.int .u32 0]):=Lib.hid (HA3.out w3 h3)
 have H3:=Lib.hid h3
 clear h3
 have y:=HR1.out.cell 0
 simp only [List.getElem?_toArray,List.getElem?_cons_zero] at y
 have fz:=HR1.out.frozen 0
 have hl1:=HR1.out.lt
 go_wp2_with fail
 have hS:Blk (w3.setCell ⟨w.heap.size,0,none⟩ (.int .u32 0)) w.heap.size 25 #[.int .u32 0]:=by
  have:=HR1.out.set_ 0 (.int .u32 0)
  simpa using this
 obtain ⟨W,hW⟩:∃ W,w3.setCell ⟨w.heap.size,0,none⟩ (.int .u32 0)=W:=⟨_,rfl⟩
 rw [hW] at hS ⊢
 have HWW:=Lib.hid hW
 clear hW
 have y2:=hS.cell 0
 simp only [List.getElem?_toArray,List.getElem?_cons_zero] at y2
 clear hS
 refine leaves_cons (f:=57) (args:=#[.pointer (some ⟨w.heap.size,0,none⟩)]) (by simp) (by simp [go_sem]) ?_
 refine (c57_idle ⟨w.heap.size,0,none⟩ W).mono ?_
 rintro e u' w'' ⟨rfl,rfl,rfl⟩
 show Leaves _ _ _ _ _ _ _
 simp [Leaves,settle,results,Tryz.results30,go_sem,y2]
 exact ⟨w3,H3.out,HWW.out.symm⟩
theorem c30_tr (g a m:Nat) (z:Int) (w:World) (A1 A2:Value→World→Prop) (A3:World→Prop) (hw:IntKind.u32.wrap ((a:Int)+4)=(m:Int)) (hA3:∀ w',A3 w'→Blk w' w.heap.size 25 #[.int .u32 0])
  (K58:Calls Tryz.prog 58 #[.pointer (some ⟨g,0,none⟩)] (w.alloc (.cells #[.int .u32 0] 25)) fun e w'=>e=.returned (.tuple #[])∧∃ v,A1 v w')
  (K60:∀ v W,A1 v W→Calls Tryz.prog 60 #[.pointer (some ⟨g,0,none⟩)] W fun e w'=>e=.returned (.int .u32 (a:Int))∧W=w')
  (K59:∀ v W,A1 v W→Calls Tryz.prog 59 #[.pointer (some ⟨g,0,none⟩),.int .u32 (m:Int)] W fun e w'=>e=.returned (.tuple #[])∧A2 v w')
  (K61:∀ v W,A2 v W→Calls Tryz.prog 61 #[.pointer (some ⟨g,0,none⟩)] W fun e w'=>e=.panicked [{ v:=.iface 118 (.agg #[.int .u32 z]),recovered:=false }]∧A3 w') :
  Calls Tryz.prog 30 #[.pointer (some ⟨g,0,none⟩)] w fun e w'=>e=.returned (.int .u32 z)∧∃ w2,A3 w2∧w'=(w2.alloc (.cells #[.int .u32 z] 118)).setCell ⟨w.heap.size,0,none⟩ (.int .u32 z):=by
 have hmf:∀ (fn:Fn) (first cap:Array Value) (w:World),(Instr.makeFunc fn first cap).run Tryz.prog w=.ok (.func fn first cap) w:=fun _ _ _ _=>rfl
 have K58:=Lib.hid K58
 have K60:=Lib.hid K60
 have K59:=Lib.hid K59
 have K61:=Lib.hid K61
 have HA3:=Lib.hid hA3
 clear hA3
 go_enter_defers Tryz.func30,Tryz.ntmps30
 go_wp2_with fail
 refine K58.out.mono ?_
 rintro _ w1 ⟨rfl,v,h1⟩
 have H1:=Lib.hid h1
 clear h1
 go_wp2_with fail
 refine (K60.out v w1 H1.out).mono ?_
 rintro _ _ ⟨rfl,rfl⟩
 go_wp2_with fail
 refine (K59.out v w1 H1.out).mono ?_
 rintro _ w2 ⟨rfl,h2⟩
 have H2:=Lib.hid h2
 clear h2
 go_wp2_with fail
 refine (K61.out v w2 H2.out).mono ?_
 rintro _ w3 ⟨rfl,h3⟩
 have HR1:Hid (Blk w3 w.heap.size 25 #[.int .u32 0]):=Lib.hid (HA3.out w3 h3)
 have H3:=Lib.hid h3
 clear h3
 have y:=HR1.out.cell 0
 simp only [List.getElem?_toArray,List.getElem?_cons_zero] at y
 have fz:=HR1.out.frozen 0
 have hl1:=HR1.out.lt
 go_wp2_with fail
 refine leaves_cons (f:=57) (args:=#[.pointer (some ⟨w.heap.size,0,none⟩)]) (by simp) (by simp [go_sem]) ?_
 refine (c57_pan ⟨w.heap.size,0,none⟩ z 0 [] w3 hl1 y fz).mono ?_
 rintro e u' w'' ⟨rfl,rfl,hww⟩
 have hS:Blk ((w3.alloc (.cells #[.int .u32 z] 118)).setCell ⟨w.heap.size,0,none⟩ (.int .u32 z)) w.heap.size 25 #[.int .u32 z]:=by
  have:=(HR1.out.alloc (.cells #[.int .u32 z] 118)).set_ 0 (.int .u32 z)
  simpa using this
 rw [←hww] at hS
 have HWW:=Lib.hid hww
 clear hww
 have y2:=hS.cell 0
 simp only [List.getElem?_toArray,List.getElem?_cons_zero] at y2
 clear hS
 show Leaves _ _ _ _ _ _ _
 simp [Leaves,settle,results,Tryz.results30,go_sem,y2]
 exact ⟨w3,H3.out,HWW.out⟩
end Go.Proofs.YtnkoknfihhdelaaGreatDoor
namespace Go.Proofs.YtnkoknfihhdelaaGreatDoor
open Go.ChangeShapes Go.WideShapes Go.ChangeAt Go.RowKit
set_option linter.unusedVariables false
set_option maxRecDepth 100000
theorem get_ok (n:Nat) (i:In.Ins) (h:In.get n=(i,0)):1≤i.o∧i.o≤68∧i.d<16∧i.a<16∧i.b<16:=by
 unfold In.get at h
 split at h
 ·cases h
 ·split at h
  ·rename_i hp
   have hi:In.dec (In.opL n 68-1) n=i:=(Prod.mk.inj h).1
   rw [hi] at hp
   unfold In.Ins.put In.put at hp
   split at hp
   ·cases (Prod.mk.inj hp).2
   ·split at hp
    ·rename_i ho hk
     unfold In.okF at hk
     simp only [Bool.and_eq_true] at hk
     have r1:=In.regOk_lt _ _ hk.1
     have r2:=In.regOk_lt _ _ hk.2.1
     have r3:=In.regOk_lt _ _ hk.2.2.1
     exact ⟨by omega,by omega,r1,r2,r3⟩
    ·cases (Prod.mk.inj hp).2
  ·cases h
def WK.wd (k:WK) (M:Nat→Nat):In.Ins × Nat:=In.get (numL M k.pc.a 4)
def WK.ft (k:WK) (M:Nat→Nat):Nat:=if k.pc.may 8 k.pc.a 4=false∨devB k.pc.a=true∨wordB k.pc.a 4=false then 1 else if (k.wd M).2≠0 then 2 else 0
def WK.k1 (k:WK) (M:Nat→Nat):WK:=(k.ins (toI (k.wd M).1)).putN 16 (k.pc.sa ((k.pc.a+4)%4294967296))
def WK.cs (k:WK) (M:Nat→Nat):Nat:=if k.ft M=0 then (k.k1 M).why else k.ft M
def WK.fX (k:WK) (M:Nat→Nat):List Value:=if k.ft M=1 then [] else [.int .i64 1,.int .u32 (k.pc.a:Int),.int .i64 4]
structure Att (g b:Nat) (w w':World) (k:WK) (v:Value) (m:Nat) (xs:List Value) (M:Nat→Nat) (T:Nat→Bool):Prop where
 wk:Wk w' g k
 tc:k.d.tc=v
 row:w'.ownsRow (w.heap.size+1) 59 3 v m xs
 mem:Mem w' b M T
 os:w'.os=w.os
 tape:w'.tape=w.tape
 output:w'.output=w.output
 size:w.heap.size≤w'.heap.size
 block:∀ i,i<w.heap.size→i≠g→i≠b→w'.heap[i]?=w.heap[i]?
section
variable {g b m:Nat} {w w2:World} {k k0:WK} {v:Value} {xs:List Value} {M:Nat→Nat} {T:Nat→Bool}
theorem Stp.att_set (h:Stp g b (w.heap.size+1) M T v m xs (w.alloc (.cells #[.int .u32 0] 25)) w2 k) (hg:g≠w.heap.size) (hb:b≠w.heap.size) (x:Value):Att g b w (w2.setCell ⟨w.heap.size,0,none⟩ x) k v m xs M T where
 wk:=Blk.far h.wk hg _
 tc:=h.tc
 row:=h.row.kept (row:=some w.heap.size) ⟨rfl,rfl,rfl,by simp,fun k' _ h'=>Below.heap_setCell _ _ _ _ (fun e=>h' (by rw [e]))⟩ (Or.inr (fun e=>by have:=(h.row.lt _ e).1;omega))
 mem:=by obtain ⟨C,h1,r⟩:=h.mem;exact ⟨C,Blk.far h1 hb _,r⟩
 os:=h.os
 tape:=h.tape
 output:=h.output
 size:=by have:=h.size;simp at this ⊢;omega
 block i hi h1 h2:=by
  rw [Below.heap_setCell _ _ _ _ (by show i≠w.heap.size;omega),h.block i (by omega) h1 h2,Below.heap_alloc w _ i hi]
theorem Stp.att_trap (h:Stp g b (w.heap.size+1) M T v m xs (w.alloc (.cells #[.int .u32 0] 25)) w2 k) (hg:g≠w.heap.size) (hb:b≠w.heap.size) (o:Obj) (x:Value):Att g b w ((w2.alloc o).setCell ⟨w.heap.size,0,none⟩ x) k v m xs M T :=
 (h.below ((Below.refl _ _).alloc (Nat.le_refl _) o)).att_set hg hb x
theorem Stp.cell0 (h:Stp g b (w.heap.size+1) M T v m xs (w.alloc (.cells #[.int .u32 0] 25)) w2 k) (hg:g≠w.heap.size) (hb:b≠w.heap.size):Blk w2 w.heap.size 25 #[.int .u32 0] :=
 (h.block w.heap.size (by omega) (Ne.symm hg) (Ne.symm hb)).trans (Blk.new w 25 #[.int .u32 0])
end
theorem WK.ins_pc (k:WK) (v:Value) (i:Ins):(((k.tc v).ins i).A.c 16)=k.pc:=rfl
theorem WK.ins_put (k:WK) (v:Value) (i:Ins) (q:Cq):((k.tc v).ins i).putN 16 q=((k.ins i).putN 16 q).tc v:=rfl
theorem WK.ins_k1 (k:WK) (v:Value) (M:Nat→Nat) (m4:Nat) (h:(k.pc.a+4)%4294967296=m4):((k.tc v).ins (toI (k.wd M).1)).putN 16 (k.pc.sa m4)=(k.k1 M).tc v:=by
 rw [WK.ins_put];unfold WK.k1;rw [h]
theorem WK.wd_get (k:WK) (M:Nat→Nat):In.get (numL M k.pc.a 4)=k.wd M:=by unfold WK.wd;exact Eq.refl _
theorem pair_eq {α:Type} (p:α × Nat) (h:p.2=0):p=(p.1,0):=by cases p;cases h;rfl
theorem pair_self {α:Type} (p:α × Nat):p=(p.1,p.2):=rfl
theorem WK.tc_why (k:WK) (v:Value):(k.tc v).why=k.why:=rfl
theorem WK.tc_doM (k:WK) (v:Value) (M:Nat→Nat):(k.tc v).doM M=k.doM M:=rfl
theorem WK.tc_doT (k:WK) (v:Value) (T:Nat→Bool):(k.tc v).doT T=k.doT T:=rfl
theorem WK.tc_doC (k:WK) (v:Value):(k.tc v).doC=k.doC:=rfl
theorem WK.tc_doX (k:WK) (v:Value):(k.tc v).doX=k.doX:=rfl
theorem WK.put_i (k:WK) (i:Ins) (q:Cq):((k.ins i).putN 16 q).i=i:=rfl
theorem WK.put_A (k:WK) (i:Ins) (q:Cq):((k.ins i).putN 16 q).A=k.A:=rfl
theorem WK.put_d (k:WK) (i:Ins) (q:Cq):((k.ins i).putN 16 q).d=k.d:=rfl
theorem WK.put_mp (k:WK) (i:Ins) (q:Cq):((k.ins i).putN 16 q).mp=k.mp:=rfl
theorem WK.k1_i (k:WK) (M:Nat→Nat):(k.k1 M).i=toI (k.wd M).1:=by unfold WK.k1;exact WK.put_i _ _ _
theorem WK.k1_A (k:WK) (M:Nat→Nat):(k.k1 M).A=k.A:=by unfold WK.k1;exact WK.put_A _ _ _
theorem WK.k1_d (k:WK) (M:Nat→Nat):(k.k1 M).d=k.d:=by unfold WK.k1;exact WK.put_d _ _ _
theorem WK.k1_mp (k:WK) (M:Nat→Nat):(k.k1 M).mp=k.mp:=by unfold WK.k1;exact WK.put_mp _ _ _
theorem WK.ins_d (k:WK) (v:Value) (i:Ins):((k.tc v).ins i).d={ k.d with tc:=v }:=rfl
theorem WK.tc_d (k:WK) (v:Value):(k.tc v).d={ k.d with tc:=v }:=rfl
theorem WK.tc_tc (k:WK) (v:Value):(k.tc v).d.tc=v:=rfl
theorem WK.ins_tc (k:WK) (v:Value) (i:Ins):((k.tc v).ins i).d.tc=v:=rfl
theorem toI_f (i:In.Ins):(toI i).o=i.o∧(toI i).rd=i.d∧(toI i).r1=i.a∧(toI i).r2=i.b:=⟨rfl,rfl,rfl,rfl⟩
theorem WK.tc_i (k:WK) (v:Value):(k.tc v).i=k.i:=rfl
theorem WK.tc_A (k:WK) (v:Value):(k.tc v).A=k.A:=rfl
theorem WK.tc_mp (k:WK) (v:Value):(k.tc v).mp=k.mp:=rfl
theorem do_okT {g b B:Nat} {M:Nat→Nat} {T:Nat→Bool} {m:Nat} {xs:List Value} {w0 w:World} {aD:Nat→Nat→Nat→Nat} {aI:Nat→Nat→Nat→Bool} (K:WK) (v:Value) (ii:In.Ins) (A:St) (hs:Stp g b B M T v m xs w0 w (K.tc v)) (hi:K.i=toI ii) (hKA:K.A=A) (hd:ii.d<16) (h1:ii.a<16) (h2:ii.b<16) (hf:∀ i,(A.c i).fit) (hmp:K.mp=.pointer (some ⟨b,0,none⟩)) (hm6:m≤65536) (hM:∀ i,M i<256) (hA:AluOk aD aI) (ho1:1≤ii.o) (ho2:ii.o≤68) (hw:K.why=0) :
  Calls Tryz.prog 61 #[.pointer (some ⟨g,0,none⟩)] w fun e w'=>e=.returned (.tuple #[])∧∃ v0 v',Stp g b B (K.doM M) (K.doT T) v' (m+K.doC) (xs++K.doX) w0 w' (((K.tc v0).doK aD aI M T).tc v'):=by
 obtain ⟨t1,t2,t3,t4⟩:=toI_f ii
 have H:=do_ok hs (by rw [WK.tc_i,hi,t2];exact hd) (by rw [WK.tc_i,hi,t3];exact h1) (by rw [WK.tc_i,hi,t4];exact h2) (by rw [WK.tc_A,hKA];exact hf) (by rw [WK.tc_mp];exact hmp) hm6 hM hA (by rw [WK.tc_i,hi,t1];exact ho1) (by rw [WK.tc_i,hi,t1];exact ho2) (by rw [WK.tc_why];exact hw)
 unfold DoOk at H
 rw [WK.tc_doM,WK.tc_doT,WK.tc_doC,WK.tc_doX] at H
 refine H.mono ?_
 rintro e w' ⟨h1,v',h2⟩
 exact ⟨h1,v,v',h2⟩
theorem do_trapT {g b B:Nat} {M:Nat→Nat} {T:Nat→Bool} {m:Nat} {xs:List Value} {w0 w:World} (K:WK) (v:Value) (ii:In.Ins) (A:St) (hs:Stp g b B M T v m xs w0 w (K.tc v)) (hi:K.i=toI ii) (hKA:K.A=A) (hd:ii.d<16) (h1:ii.a<16) (h2:ii.b<16) (hf:∀ i,(A.c i).fit) (hmp:K.mp=.pointer (some ⟨b,0,none⟩)) (hm6:m≤65536) (hw:K.why≠0) :
  Calls Tryz.prog 61 #[.pointer (some ⟨g,0,none⟩)] w fun e w'=>e=.panicked [{ v:=.iface 118 (.agg #[.int .u32 (K.why:Int)]),recovered:=false }]∧Below w.heap.size w w':=by
 obtain ⟨t1,t2,t3,t4⟩:=toI_f ii
 have H:=do_trap g w (K.tc v) hs.wk hs (by rw [WK.tc_i,hi,t2];exact hd) (by rw [WK.tc_i,hi,t3];exact h1) (by rw [WK.tc_i,hi,t4];exact h2) (by rw [WK.tc_A,hKA];exact hf) (by rw [WK.tc_mp];exact hmp) hm6 (by rw [WK.tc_why];exact hw)
 rw [WK.tc_why] at H
 exact H
def AttR (k:WK) (M:Nat→Nat) (T:Nat→Bool) (aD:Nat→Nat→Nat→Nat) (aI:Nat→Nat→Nat→Bool) (k':WK) (v:Value) (m':Nat) (xs':List Value) (M':Nat→Nat) (T':Nat→Bool):Prop :=
 (k.cs M≠0∧k'.d={ k.d with tc:=v }∧m'=(if k.ft M=1 then 0 else 1)∧xs'=k.fX M∧M'=M∧T'=T) ∨
 (k.cs M=0∧(∃ v0,k'=(((k.k1 M).tc v0).doK aD aI M T).tc v)∧m'=1+(k.k1 M).doC∧xs'=k.fX M++(k.k1 M).doX∧M'=(k.k1 M).doM M∧T'=(k.k1 M).doT T)
theorem tc_slice {w:World} {B n c:Nat} {v:Value} {m:Nat} {xs:List Value} (h:w.ownsRow B n c v m xs):∃ q l cc,v=.slice q l cc:=by
 rcases h.2 with ⟨hv,_⟩ | ⟨g,cap,cur,hv,_⟩
 ·exact ⟨_,_,_,hv⟩
 ·exact ⟨_,_,_,hv⟩
set_option maxHeartbeats 1000000 in
theorem c30_all (g b:Nat) (k:WK) (M:Nat→Nat) (T:Nat→Bool) (aD:Nat→Nat→Nat→Nat) (aI:Nat→Nat→Nat→Bool) (w:World) (h:Wk w g k) (hmp:k.mp=.pointer (some ⟨b,0,none⟩)) (hm:Mem w b M T) (hM:∀ i,M i<256) (hbg:b≠g) (htc:k.d.tc=.slice none 0 0) (hgl:In.Glob w) (hg3:3≤g) (hf:∀ i,(k.A.c i).fit) (hA:AluOk aD aI) :
  Calls Tryz.prog 30 #[.pointer (some ⟨g,0,none⟩)] w fun e w'=>e=.returned (.int .u32 (k.cs M:Int))∧∃ k' v m' xs' M' T',Att g b w w' k' v m' xs' M' T'∧AttR k M T aD aI k' v m' xs' M' T':=by
 have hlg:=Blk.lt h
 have hlb:=hm.lt
 have hgw:g≠w.heap.size:=by omega
 have hbw:b≠w.heap.size:=by omega
 have hfp:k.pc.fit:=hf 16
 have hO:Below w.heap.size w (w.alloc (.cells #[.int .u32 0] 25)):=(Below.refl _ _).alloc (Nat.le_refl _) _
 have hsz:((w.alloc (.cells #[.int .u32 0] 25))).heap.size=w.heap.size+1:=by simp
 have S0:Stp g b (w.heap.size+1) M T (.slice none 0 0) 0 [] (w.alloc (.cells #[.int .u32 0] 25)) (w.alloc (.cells #[.int .u32 0] 25)) k:=⟨Blk.alloc h _,World.ownsRow_nil _ _ _ _,htc,hm.below hO hlb,rfl,rfl,rfl,Nat.le_refl _,fun _ _ _ _=>rfl,by omega,by omega,by omega,hbg⟩
 have hd:{ k.d with tc:=Value.slice none 0 0 }=k.d:=by rw [←htc]
 by_cases hft:k.ft M=0
 ·have hc:k.pc.may 8 k.pc.a 4=true∧devB k.pc.a=false∧wordB k.pc.a 4=true∧(k.wd M).2=0:=by
   unfold WK.ft at hft
   split at hft
   ·cases hft
   ·rename_i hn
    split at hft
    ·cases hft
    ·rename_i h2
     refine ⟨?_,?_,?_,by omega⟩
     ·cases hq:k.pc.may 8 k.pc.a 4 with
      | true=>rfl
      | false=>exact absurd (Or.inl hq) hn
     ·cases hq:devB k.pc.a with
      | false=>rfl
      | true=>exact absurd (Or.inr (Or.inl hq)) hn
     ·cases hq:wordB k.pc.a 4 with
      | true=>rfl
      | false=>exact absurd (Or.inr (Or.inr hq)) hn
  obtain ⟨hmay,hdv,hwd,hg0⟩:=hc
  have hcs:k.cs M=(k.k1 M).why:=by unfold WK.cs;rw [if_pos hft]
  have hfX:k.fX M=[.int .i64 1,.int .u32 (k.pc.a:Int),.int .i64 4]:=by unfold WK.fX;rw [if_neg (by omega)]
  have hget:In.get (numL M k.pc.a 4)=((k.wd M).1,0):=(WK.wd_get k M).trans (pair_eq _ hg0)
  have hnl:numL M k.pc.a 4<4294967296:=(numL_lt M hM k.pc.a).2.2
  have hmay':Ca.may k.pc.g k.pc.a k.pc.p k.pc.y k.pc.e k.pc.b k.pc.t 8 k.pc.a 4=true:=hmay
  have hgl':=hgl.below hO hgl.size
  obtain ⟨io1,io2,id,ia,ib⟩:=get_ok _ _ hget
  obtain ⟨m4,hm4⟩:∃ m4,(k.pc.a+4)%4294967296=m4:=⟨_,rfl⟩
  have hw4:IntKind.u32.wrap ((k.pc.a:Int)+4)=(m4:Int):=by rw [IntKind.wrap_u32];omega
  have K58:=c58_ok g (w.heap.size+1) k k.pc b M T (.slice none 0 0) 0 [] (k.wd M).1 (w.alloc (.cells #[.int .u32 0] 25)) S0.wk rfl hfp hmay' hdv hmp S0.mem hwd S0.bB hbg htc S0.row S0.gB S0.sz (by decide) hgl' hg3 hnl hget
  have F58:Calls Tryz.prog 58 #[.pointer (some ⟨g,0,none⟩)] (w.alloc (.cells #[.int .u32 0] 25)) fun e w'=>e=.returned (.tuple #[])∧∃ v,Stp g b (w.heap.size+1) M T v 1 (k.fX M) (w.alloc (.cells #[.int .u32 0] 25)) w' ((k.tc v).ins (toI (k.wd M).1)):=by
   rw [hfX]
   refine K58.mono ?_
   rintro e w' ⟨rfl,v,hk,hr,hs⟩
   refine ⟨rfl,v,hk,hr,WK.ins_tc _ _ _,?_,hs.os,hs.tape,hs.output,hs.size,fun i hi h1 _=>hs.block i hi h1,Nat.le_trans S0.sz hs.size,S0.gB,S0.bB,hbg⟩
   obtain ⟨C,h1,r⟩:=S0.mem
   exact ⟨C,hs.blk S0.bB hbg h1,r⟩
  have F60:∀ v W,Stp g b (w.heap.size+1) M T v 1 (k.fX M) (w.alloc (.cells #[.int .u32 0] 25)) W ((k.tc v).ins (toI (k.wd M).1))→Calls Tryz.prog 60 #[.pointer (some ⟨g,0,none⟩)] W fun e w'=>e=.returned (.int .u32 (k.pc.a:Int))∧W=w':=fun v W hs=>by
   have H:=c60 g _ W hs.wk
   rw [WK.ins_pc] at H
   exact H
  have F59:∀ v W,Stp g b (w.heap.size+1) M T v 1 (k.fX M) (w.alloc (.cells #[.int .u32 0] 25)) W ((k.tc v).ins (toI (k.wd M).1))→Calls Tryz.prog 59 #[.pointer (some ⟨g,0,none⟩),.int .u32 (m4:Int)] W fun e w'=>e=.returned (.tuple #[])∧Stp g b (w.heap.size+1) M T v 1 (k.fX M) (w.alloc (.cells #[.int .u32 0] 25)) w' ((k.k1 M).tc v):=fun v W hs=>by
   refine (c59 g _ k.pc m4 W hs.wk rfl hfp (by omega)).mono ?_
   rintro e w' ⟨h1,h2,h3⟩
   have hk1:((k.tc v).ins (toI (k.wd M).1)).putN 16 (k.pc.sa m4)=(k.k1 M).tc v:=WK.ins_k1 k v M m4 hm4
   rw [hk1] at h2
   exact ⟨h1,hs.only (h3.sv (Nat.le_refl _)) h2 (WK.tc_tc _ _)⟩
  by_cases hwhy:(k.k1 M).why=0
  ·refine (c30_ok g k.pc.a m4 0 w _ _ (fun w'=>∃ v0 v,Stp g b (w.heap.size+1) ((k.k1 M).doM M) ((k.k1 M).doT T) v (1+(k.k1 M).doC) (k.fX M++(k.k1 M).doX) (w.alloc (.cells #[.int .u32 0] 25)) w' ((((k.k1 M).tc v0).doK aD aI M T).tc v)) hw4 (fun w' ⟨v0,v,hs⟩=>hs.cell0 hgw hbw) F58 F60 F59 (fun v W hs=>?_)).mono ?_
   ·exact do_okT (k.k1 M) v (k.wd M).1 k.A hs (WK.k1_i k M) (WK.k1_A k M) id ia ib hf ((WK.k1_mp k M).trans hmp) (by decide) hM hA io1 io2 hwhy
   ·rintro e w' ⟨rfl,w2,⟨v0,v,hs⟩,rfl⟩
    rw [hcs,hwhy]
    exact ⟨rfl,_,v,_,_,_,_,hs.att_set hgw hbw _,Or.inr ⟨by rw [hcs];exact hwhy,⟨v0,rfl⟩,rfl,rfl,rfl,rfl⟩⟩
  ·refine (c30_tr g k.pc.a m4 ((k.k1 M).why:Int) w _ _ (fun w'=>∃ v,Stp g b (w.heap.size+1) M T v 1 (k.fX M) (w.alloc (.cells #[.int .u32 0] 25)) w' ((k.k1 M).tc v)) hw4 (fun w' ⟨v,hs⟩=>hs.cell0 hgw hbw) F58 F60 F59 (fun v W hs=>?_)).mono ?_
   ·refine (do_trapT (k.k1 M) v (k.wd M).1 k.A hs (WK.k1_i k M) (WK.k1_A k M) id ia ib hf ((WK.k1_mp k M).trans hmp) (by decide) hwhy).mono ?_
    rintro e w' ⟨h1,h2⟩
    exact ⟨h1,v,hs.below h2⟩
   ·rintro e w' ⟨rfl,w2,⟨v,hs⟩,rfl⟩
    rw [hcs]
    exact ⟨rfl,_,v,_,_,_,_,hs.att_trap hgw hbw _ _,Or.inl ⟨by rw [hcs];exact hwhy,by rw [WK.tc_d,WK.k1_d],by rw [hft];rfl,rfl,rfl,rfl⟩⟩
 ·have hcs:k.cs M=k.ft M:=by unfold WK.cs;rw [if_neg hft]
  by_cases h1:k.ft M=1
  ·have hc:k.pc.may 8 k.pc.a 4=false∨devB k.pc.a=true∨wordB k.pc.a 4=false:=by
    refine Classical.byContradiction fun hn=>?_
    unfold WK.ft at h1
    rw [if_neg hn] at h1
    split at h1 <;> cases h1
   have F58:Calls Tryz.prog 58 #[.pointer (some ⟨g,0,none⟩)] (w.alloc (.cells #[.int .u32 0] 25)) fun e w'=>e=.panicked [{ v:=.iface 118 (.agg #[.int .u32 1]),recovered:=false }]∧Stp g b (w.heap.size+1) M T (.slice none 0 0) 0 [] (w.alloc (.cells #[.int .u32 0] 25)) w' k:=by
    have fin:∀ (e:Ending) (w':World),e=.panicked [{ v:=.iface 118 (.agg #[.int .u32 1]),recovered:=false }]∧Below ((w.alloc (.cells #[.int .u32 0] 25))).heap.size (w.alloc (.cells #[.int .u32 0] 25)) w'→e=.panicked [{ v:=.iface 118 (.agg #[.int .u32 1]),recovered:=false }]∧Stp g b (w.heap.size+1) M T (.slice none 0 0) 0 [] (w.alloc (.cells #[.int .u32 0] 25)) w' k:=fun e w' ⟨q1,q2⟩=>⟨q1,S0.below q2⟩
    cases hmay:k.pc.may 8 k.pc.a 4 with
    | false=>exact (c58_may g k k.pc (w.alloc (.cells #[.int .u32 0] 25)) S0.wk rfl hfp hmay).mono fin
    | true =>
     cases hdv:devB k.pc.a with
     | true=>exact (c58_dev g k k.pc (w.alloc (.cells #[.int .u32 0] 25)) S0.wk rfl hfp hmay hdv).mono fin
     | false =>
      have hwb:wordB k.pc.a 4=false:=by
       rcases hc with hc | hc | hc
       ·rw [hmay] at hc;cases hc
       ·rw [hdv] at hc;cases hc
       ·exact hc
      exact (c58_now g b M T k k.pc (w.alloc (.cells #[.int .u32 0] 25)) S0.wk rfl hfp hmay hdv hmp S0.mem hwb).mono fin
   refine (c30_panR g 1 w (fun w'=>Stp g b (w.heap.size+1) M T (.slice none 0 0) 0 [] (w.alloc (.cells #[.int .u32 0] 25)) w' k) (fun w' hs=>hs.cell0 hgw hbw) F58).mono ?_
   rintro e w' ⟨rfl,w2,hs,rfl⟩
   rw [hcs,h1]
   refine ⟨rfl,_,_,_,_,_,_,hs.att_trap hgw hbw _ _,Or.inl ⟨by rw [hcs];omega,hd.symm,by rw [h1];rfl,by unfold WK.fX;rw [if_pos h1],rfl,rfl⟩⟩
  ·have h2:k.ft M=2∧¬ (k.pc.may 8 k.pc.a 4=false∨devB k.pc.a=true∨wordB k.pc.a 4=false)∧(k.wd M).2≠0:=by
    by_cases hn:k.pc.may 8 k.pc.a 4=false∨devB k.pc.a=true∨wordB k.pc.a 4=false
    ·exact absurd (by unfold WK.ft;rw [if_pos hn]) h1
    ·by_cases h0:(k.wd M).2≠0
     ·exact ⟨by unfold WK.ft;rw [if_neg hn,if_pos h0],hn,h0⟩
     ·exact absurd (by unfold WK.ft;rw [if_neg hn,if_neg h0]) hft
   obtain ⟨h2,hn,h0⟩:=h2
   have hmay:k.pc.may 8 k.pc.a 4=true:=by
    cases hq:k.pc.may 8 k.pc.a 4 with
    | true=>rfl
    | false=>exact absurd (Or.inl hq) hn
   have hdv:devB k.pc.a=false:=by
    cases hq:devB k.pc.a with
    | false=>rfl
    | true=>exact absurd (Or.inr (Or.inl hq)) hn
   have hwd:wordB k.pc.a 4=true:=by
    cases hq:wordB k.pc.a 4 with
    | true=>rfl
    | false=>exact absurd (Or.inr (Or.inr hq)) hn
   have hfX:k.fX M=[.int .i64 1,.int .u32 (k.pc.a:Int),.int .i64 4]:=by unfold WK.fX;rw [if_neg h1]
   have hnl:numL M k.pc.a 4<4294967296:=(numL_lt M hM k.pc.a).2.2
   have hmay':Ca.may k.pc.g k.pc.a k.pc.p k.pc.y k.pc.e k.pc.b k.pc.t 8 k.pc.a 4=true:=hmay
   have hgl':=hgl.below hO hgl.size
   have hgb:In.get (numL M k.pc.a 4)=((k.wd M).1,(k.wd M).2):=(WK.wd_get k M).trans (pair_self _)
   have K58:=c58_bad g (w.heap.size+1) k k.pc b M T (.slice none 0 0) 0 [] (k.wd M).1 (w.alloc (.cells #[.int .u32 0] 25)) S0.wk rfl hfp hmay' hdv hmp S0.mem hwd S0.bB hbg htc S0.row S0.gB S0.sz (by decide) hgl' hg3 hnl (k.wd M).2 h0 hgb
   have F58:Calls Tryz.prog 58 #[.pointer (some ⟨g,0,none⟩)] (w.alloc (.cells #[.int .u32 0] 25)) fun e w'=>e=.panicked [{ v:=.iface 118 (.agg #[.int .u32 2]),recovered:=false }]∧∃ v,Stp g b (w.heap.size+1) M T v 1 (k.fX M) (w.alloc (.cells #[.int .u32 0] 25)) w' ((k.tc v).ins (toI (k.wd M).1)):=by
    rw [hfX]
    refine K58.mono ?_
    rintro e w' ⟨rfl,v,hk,hr,hs⟩
    refine ⟨rfl,v,hk,hr,WK.ins_tc _ _ _,?_,hs.os,hs.tape,hs.output,hs.size,fun i hi h1 _=>hs.block i hi h1,Nat.le_trans S0.sz hs.size,S0.gB,S0.bB,hbg⟩
    obtain ⟨C,h1,r⟩:=S0.mem
    exact ⟨C,hs.blk S0.bB hbg h1,r⟩
   refine (c30_panR g 2 w (fun w'=>∃ v,Stp g b (w.heap.size+1) M T v 1 (k.fX M) (w.alloc (.cells #[.int .u32 0] 25)) w' ((k.tc v).ins (toI (k.wd M).1))) (fun w' ⟨v,hs⟩=>hs.cell0 hgw hbw) F58).mono ?_
   rintro e w' ⟨rfl,w2,⟨v,hs⟩,rfl⟩
   rw [hcs,h2]
   exact ⟨rfl,_,v,_,_,_,_,hs.att_trap hgw hbw _ _,Or.inl ⟨by rw [hcs];omega,WK.ins_d _ _ _,by rw [h2];rfl,rfl,rfl,rfl⟩⟩
end Go.Proofs.YtnkoknfihhdelaaGreatDoor
