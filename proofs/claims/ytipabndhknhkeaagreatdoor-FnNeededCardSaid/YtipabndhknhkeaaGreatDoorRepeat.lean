/-
  slices.Repeat at one integer, up to 16 times: a new row of so many.
-/
import Derived.Test.YtipabndhknhkeaaGreatDoorBase
import Derived.Test.YtipabndhknhkeaaGreatDoorShelf
namespace Go.Proofs.YtipabndhknhkeaaGreatDoor
open Go.RowKit
end Go.Proofs.YtipabndhknhkeaaGreatDoor
