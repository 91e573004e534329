import Derived.Test.YtnkoknfihhdelaaGreatDoorZMKA
import Derived.Laws.StructEq
import Derived.ShutString
import Derived.ChangeOld
import Derived.Lib.SmallJoins
namespace Go.Proofs.YtnkoknfihhdelaaGreatDoor.Cp
open Go.ChangeShapes Go.WideShapes Go.ChangeAt Go.RowKit
set_option linter.unusedVariables false
theorem set7 {w w1:World} {k:Nat} (h:Below w.heap.size w w1) (hk:w.heap.size≤k) (v0 v1 v2 v3 v4 v5 v6:Value) :
  Below w.heap.size w (((((((w1.setCell ⟨k,0,none⟩ v0).setCell ⟨k,1,none⟩ v1).setCell ⟨k,2,none⟩ v2).setCell ⟨k,3,none⟩ v3).setCell ⟨k,4,none⟩ v4).setCell ⟨k,5,none⟩ v5).setCell ⟨k,6,none⟩ v6) :=
 ((((((h.setCell (p:=⟨k,0,none⟩) hk _).setCell (p:=⟨k,1,none⟩) hk _).setCell (p:=⟨k,2,none⟩) hk _).setCell (p:=⟨k,3,none⟩) hk _).setCell (p:=⟨k,4,none⟩) hk _).setCell (p:=⟨k,5,none⟩) hk _).setCell (p:=⟨k,6,none⟩) hk _
abbrev cp (g:Bool) (a p y e b t:Nat):Value:=.agg #[.bool g,.int .u32 (a:Int),.int .u8 (p:Int),.int .u8 (y:Int),.int .u8 (e:Int),.int .u16 (b:Int),.int .u16 (t:Int)]
end Go.Proofs.YtnkoknfihhdelaaGreatDoor.Cp
namespace Go.Proofs.YtnkoknfihhdelaaGreatDoor.Cp
open Go.ChangeShapes Go.WideShapes Go.ChangeAt Go.RowKit Go.Joins
set_option linter.unusedVariables false
set_option maxRecDepth 100000
theorem cells27:Tryz.prog.cellsOf 29=7:=by kernel_rfl
theorem cells25:Tryz.prog.cellsOf 27=3:=by kernel_rfl
theorem cells4:Tryz.prog.cellsOf 4=1:=by kernel_rfl
theorem cells5:Tryz.prog.cellsOf 5=1:=by kernel_rfl
theorem cells22:Tryz.prog.cellsOf 25=1:=by kernel_rfl
theorem cells23:Tryz.prog.cellsOf 22=1:=by kernel_rfl
theorem nat_u8 {n:Int} (h:(Lit.int .u8 n).wf=true):∃ k:Nat,n=(k:Int)∧k<256:=by
 have:=bounds_u8 h;exact ⟨n.toNat,by omega,by omega⟩
theorem nat_u16 {n:Int} (h:(Lit.int .u16 n).wf=true):∃ k:Nat,n=(k:Int)∧k<65536:=by
 have:=bounds_u16 h;exact ⟨n.toNat,by omega,by omega⟩
theorem nat_u32 {n:Int} (h:(Lit.int .u32 n).wf=true):∃ k:Nat,n=(k:Int)∧k<4294967296:=by
 have:=bounds_u32 h;exact ⟨n.toNat,by omega,by omega⟩
section
variable {H:Type} {enc:TypeId × Value→H} {W:World} {base:Nat} {spare:Nat→Bool} {held:Bool}
end
end Go.Proofs.YtnkoknfihhdelaaGreatDoor.Cp
