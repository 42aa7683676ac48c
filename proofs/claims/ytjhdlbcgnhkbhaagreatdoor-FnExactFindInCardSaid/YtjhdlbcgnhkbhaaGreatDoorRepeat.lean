/-
  slices.Repeat at one integer, up to 16 times: a new row of so many.
-/
import Derived.Test.YtjhdlbcgnhkbhaaGreatDoorBase
import Derived.Test.YtjhdlbcgnhkbhaaGreatDoorShelf
namespace Go.Proofs.YtjhdlbcgnhkbhaaGreatDoor
open Go.RowKit
end Go.Proofs.YtjhdlbcgnhkbhaaGreatDoor
