import Derived.Test.YtgmifaadlaigdaaGreatDoorOl
import Derived.Test.YtgmifaadlaigdaaGreatDoorOm
namespace Go.Proofs.YtgmifaadlaigdaaGreatDoor
open Go.ChangeShapes Go.WideShapes Go.ChangeAt Go.RowKit
theorem c9 (A B : Option Addr) (n c m d : Nat) (g : Nat → Mem) (x : Nat → Ix) (w : World) (hA : Ms w A n g) (hB : Is w B m x) (hz : Nz g n) (hn : n ≤ 1073741824) (hm : m ≤ 1073741824)
    (hx : lgN x m ≤ 16777216) (hb : endN g (begN x m) n ≤ 1099511627776) : Calls Tryz.prog 9 #[.slice A n c, .slice B m d] w (PutOut g x n m w) := by
  by_cases h : 0 < m
  · exact c9p A B n c m d g x w hA hB hz hn hm hx hb h
  · exact c9z A B n c m d g x w hA hB hz hn hm hx hb h
end Go.Proofs.YtgmifaadlaigdaaGreatDoor
