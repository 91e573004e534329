import Derived.Test.YtnkoknfihhdelaaGreatDoorZMG
namespace Go.Proofs.YtnkoknfihhdelaaGreatDoor
open Go.ChangeShapes Go.WideShapes Go.ChangeAt Go.RowKit
open Cp (cp arr mt num4)
set_option linter.unusedVariables false
set_option maxRecDepth 100000
structure Rds (C:Array Value) (B:Nat→Nat) (T:Nat→Bool):Prop where
 size:C.size=73729
 made:C[0]?=some (.bool true)
 bytes:∀ i,i<65536→C[1+i]?=some (.int .u8 (B i:Int))
 tags:∀ i,i<8192→C[65537+i]?=some (.bool (T i))
 lt:∀ i,B i<256
theorem Rds.one {C:Array Value} {B:Nat→Nat} {T:Nat→Bool} (h:Rds C B T):One C:=by
 unfold One
 rw [List.all_eq_true]
 intro x hx
 obtain ⟨i,hi,rfl⟩:=List.getElem_of_mem hx
 have hs:=h.size
 have hi2:i<C.size:=by simpa using hi
 have e:C[i]?=some (C.toList[i]):=by rw [Array.getElem?_eq_getElem hi2];simp
 by_cases h0:i=0
 ·subst h0
  rw [h.made] at e
  rw [←Option.some.inj e];rfl
 by_cases h1:i<65537
 ·have:=h.bytes (i-1) (by omega)
  rw [show 1+(i-1)=i by omega,e] at this
  rw [Option.some.inj this];rfl
 ·have:=h.tags (i-65537) (by omega)
  rw [show 65537+(i-65537)=i by omega,e] at this
  rw [Option.some.inj this];rfl
def stB (B:Nat→Nat) (a s n:Nat) (i:Nat):Nat:=if a≤i∧i<a+s then bt n (i-a) else B i
def stT (T:Nat→Bool) (a:Nat) (g:Bool) (i:Nat):Bool:=if i=a/8 then g else T i
theorem Rds.store {C:Array Value} {B:Nat→Nat} {T:Nat→Bool} (h:Rds C B T) (a s n:Nat) (ha:a+s≤65536) (hs:0<s):Rds (stC C a s n) (stB B a s n) (stT T a false) where
 size:=by unfold stC;rw [Array.size_setIfInBounds,putB_size,h.size]
 made:=by unfold stC;rw [Array.getElem?_setIfInBounds_ne (by omega),putB_0,h.made]
 bytes:=fun i hi=>by
  unfold stC stB
  rw [Array.getElem?_setIfInBounds_ne (by omega)]
  by_cases c:a≤i∧i<a+s
  ·rw [if_pos c,show 1+i=1+(a+(i-a)) by omega,putB_in a n s (i-a) (by omega) (by rw [h.size];omega)]
  ·rw [if_neg c,putB_out a n _ s (by omega),h.bytes i hi]
 tags:=fun i hi=>by
  unfold stC stT
  by_cases c:i=a/8
  ·rw [if_pos c,c,Array.getElem?_setIfInBounds_self_of_lt (by rw [putB_size,h.size];omega)]
  ·rw [if_neg c,Array.getElem?_setIfInBounds_ne (by omega),putB_out a n _ s (by omega),h.tags i hi]
 lt:=fun i=>by
  unfold stB
  split
  ·exact bt_lt _ _
  ·exact h.lt i
def b8 (x0 x1 x2 x3 x4 x5 x6 x7:Nat) (j:Nat):Nat:=match j with | 0=>x0 | 1=>x1 | 2=>x2 | 3=>x3 | 4=>x4 | 5=>x5 | 6=>x6 | _=>x7
theorem bytes8_at (x0 x1 x2 x3 x4 x5 x6 x7 j:Nat) (hj:j<8):(bytes8 x0 x1 x2 x3 x4 x5 x6 x7)[j]?=some (.int .u8 (b8 x0 x1 x2 x3 x4 x5 x6 x7 j:Int)):=by
 have:j=0∨j=1∨j=2∨j=3∨j=4∨j=5∨j=6∨j=7:=by omega
 rcases this with rfl | rfl | rfl | rfl | rfl | rfl | rfl | rfl <;> rfl
def scB (B:Nat→Nat) (a:Nat) (x:Nat→Nat) (i:Nat):Nat:=if a≤i∧i<a+8 then x (i-a) else B i
theorem Rds.storeCap {C:Array Value} {B:Nat→Nat} {T:Nat→Bool} (h:Rds C B T) (a:Nat) (ha:a+8≤65536) (g:Bool) (x0 x1 x2 x3 x4 x5 x6 x7:Nat) (hx:∀ j,b8 x0 x1 x2 x3 x4 x5 x6 x7 j<256) :
  Rds (scC C a (bytes8 x0 x1 x2 x3 x4 x5 x6 x7) g) (scB B a (b8 x0 x1 x2 x3 x4 x5 x6 x7)) (stT T a g) where
 size:=scC_size h.size a ha g _ rfl
 made:=by
  unfold scC
  rw [Array.getElem?_setIfInBounds_ne (by omega),putA_out _ _ _ (by rw [h.size];simp [bytes8];omega) 0 (Or.inl (by omega)),h.made]
 bytes:=fun i hi=>by
  unfold scB
  by_cases c:a≤i∧i<a+8
  ·rw [if_pos c,show 1+i=1+a+(i-a) by omega]
   exact scC_at h.size a ha g _ rfl (i-a) _ (bytes8_at _ _ _ _ _ _ _ _ _ (by omega))
  ·rw [if_neg c]
   unfold scC
   rw [Array.getElem?_setIfInBounds_ne (by omega),putA_out _ _ _ (by rw [h.size];simp [bytes8];omega) _ (by simp [bytes8];omega),h.bytes i hi]
 tags:=fun i hi=>by
  unfold stT
  by_cases c:i=a/8
  ·rw [if_pos c,c];exact scC_tag h.size a ha g _ rfl
  ·rw [if_neg c]
   unfold scC
   rw [Array.getElem?_setIfInBounds_ne (by omega),putA_out _ _ _ (by rw [h.size];simp [bytes8];omega) _ (by simp [bytes8];omega),h.tags i hi]
 lt:=fun i=>by
  unfold scB
  split
  ·exact hx _
  ·exact h.lt i
def Mem (w:World) (b:Nat) (B:Nat→Nat) (T:Nat→Bool):Prop:=∃ C,Blk w b 69 C∧Rds C B T
theorem Mem.me {w:World} {b:Nat} {C:Array Value} {B:Nat→Nat} {T:Nat→Bool} (h:Blk w b 69 C) (r:Rds C B T):Me w b C:=⟨h,r.size,r.made⟩
theorem Mem.lt {w:World} {b:Nat} {B:Nat→Nat} {T:Nat→Bool} (h:Mem w b B T):b<w.heap.size:=by obtain ⟨C,hb,_⟩:=h;exact hb.lt
theorem Mem.below {w w':World} {b K:Nat} {B:Nat→Nat} {T:Nat→Bool} (h:Mem w b B T) (hb:Below K w w') (hk:b<K):Mem w' b B T:=by obtain ⟨C,h1,r⟩:=h;exact ⟨C,h1.below hb hk,r⟩
theorem Mem.far {w w':World} {b m:Nat} {B:Nat→Nat} {T:Nat→Bool} (h:Mem w b B T) (ho:Only m w w') (hk:b≠m):Mem w' b B T:=by obtain ⟨C,h1,r⟩:=h;exact ⟨C,ho.blk hk h1,r⟩
theorem mStore (b at_ n:Nat) (s:Int) (B:Nat→Nat) (T:Nat→Bool) (w:World) (hm:Mem w b B T) (hn:n<4294967296) (hw:wordB at_ s=true) :
  Calls Tryz.prog 22 #[.pointer (some ⟨b,0,none⟩),.int .u32 (at_:Int),.int .i64 s,.int .u32 (n:Int)] w fun e w'=>e=.returned (.int .i64 0)∧Only b w w'∧Mem w' b (stB B at_ s.toNat n) (stT T at_ false):=by
 obtain ⟨C,hb,r⟩:=hm
 have hm:=Mem.me hb r
 have h:=hw
 unfold wordB at h
 rw [decide_eq_true_eq] at h
 obtain ⟨hs,h1,h2⟩:=h
 rcases hs with rfl | rfl | rfl
 ·refine (store1 b at_ n C w hm hn (by omega) hw).mono ?_
  rintro _ w' ⟨rfl,ho,hm'⟩
  exact ⟨rfl,ho,_,hm'.1,r.store at_ 1 n (by omega) (by omega)⟩
 ·refine (store2 b at_ n C w hm hn (by omega) hw).mono ?_
  rintro _ w' ⟨rfl,ho,hm'⟩
  exact ⟨rfl,ho,_,hm'.1,r.store at_ 2 n (by omega) (by omega)⟩
 ·refine (store4 b at_ n C w hm hn (by omega) hw).mono ?_
  rintro _ w' ⟨rfl,ho,hm'⟩
  exact ⟨rfl,ho,_,hm'.1,r.store at_ 4 n (by omega) (by omega)⟩
end Go.Proofs.YtnkoknfihhdelaaGreatDoor
namespace Go.Proofs.YtnkoknfihhdelaaGreatDoor
open Go.ChangeShapes Go.WideShapes Go.ChangeAt Go.RowKit
set_option linter.unusedVariables false
set_option maxRecDepth 100000
def isB0 (v:Value):Bool:=match v with | .int .u8 z=>decide (z=0) | _=>false
def isF (v:Value):Bool:=match v with | .bool b=>!b | _=>false
set_option maxRecDepth 100000 in
theorem ZB:((Z.toList.drop 1).take 65536).all isB0=true:=by kernel_rfl
set_option maxRecDepth 100000 in
theorem ZT:(Z.toList.drop 65537).all isF=true:=by kernel_rfl
theorem isB0_eq {v:Value} (h:isB0 v=true):v=.int .u8 0:=by
 unfold isB0 at h
 split at h
 ·rename_i z;rw [of_decide_eq_true h]
 ·cases h
theorem isF_eq {v:Value} (h:isF v=true):v=.bool false:=by
 unfold isF at h
 split at h
 ·rename_i b;cases b
  ·rfl
  ·cases h
 ·cases h
theorem Z_byte (i:Nat) (hi:i<65536):Z[1+i]?=some (.int .u8 0):=by
 have hs:Z.toList.length=73729:=by rw [Array.length_toList];exact Zsize
 have hl:1+i<Z.toList.length:=by omega
 have h:=List.all_eq_true.1 ZB (Z.toList[1+i]) (by
  rw [List.mem_iff_getElem?]
  refine ⟨i,?_⟩
  rw [List.getElem?_take_of_lt hi,List.getElem?_drop,List.getElem?_eq_getElem hl])
 rw [←Array.getElem?_toList,List.getElem?_eq_getElem hl,isB0_eq h]
theorem Z_tag (i:Nat) (hi:i<8192):Z[65537+i]?=some (.bool false):=by
 have hs:Z.toList.length=73729:=by rw [Array.length_toList];exact Zsize
 have hl:65537+i<Z.toList.length:=by omega
 have h:=List.all_eq_true.1 ZT (Z.toList[65537+i]) (by
  rw [List.mem_iff_getElem?]
  refine ⟨i,?_⟩
  rw [List.getElem?_drop,List.getElem?_eq_getElem hl])
 rw [←Array.getElem?_toList,List.getElem?_eq_getElem hl,isF_eq h]
theorem Rds.new:Rds Z1 (fun _=>0) (fun _=>false) where
 size:=Z1size
 made:=Z1_0
 bytes:=fun i hi=>by rw [Z1_at _ (by omega),Z_byte i hi];rfl
 tags:=fun i hi=>by rw [Z1_at _ (by omega),Z_tag i hi]
 lt:=fun _=>by omega
theorem mNew (w:World):Calls Tryz.prog 20 #[] w fun e w'=>e=.returned (.pointer (some ⟨w.heap.size,0,none⟩))∧Below w.heap.size w w'∧w'.heap.size=w.heap.size+1∧Mem w' w.heap.size (fun _=>0) (fun _=>false):=by
 refine (new7 w).mono ?_
 rintro _ w' ⟨rfl,h1,h2,h3⟩
 exact ⟨rfl,h1,h2,Z1,h3.1,Rds.new⟩
end Go.Proofs.YtnkoknfihhdelaaGreatDoor
