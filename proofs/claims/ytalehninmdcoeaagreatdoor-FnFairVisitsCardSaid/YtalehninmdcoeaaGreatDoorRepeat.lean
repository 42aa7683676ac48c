/-
  slices.Repeat at one integer, up to 16 times: a new row of so many.
-/
import Derived.Test.YtalehninmdcoeaaGreatDoorBase
import Derived.Test.YtalehninmdcoeaaGreatDoorShelf
namespace Go.Proofs.YtalehninmdcoeaaGreatDoor
open Go.RowKit
end Go.Proofs.YtalehninmdcoeaaGreatDoor
