/-
  The exact law of SameTable: the walk.
-/
import Derived.Test.YtipabndhknhkeaaGreatDoorLow
import Derived.Test.YtipabndhknhkeaaGreatDoorSame
import Derived.Test.YtipabndhknhkeaaGreatDoorBase
namespace Go.Proofs.YtipabndhknhkeaaGreatDoor
open Go.RowKit
end Go.Proofs.YtipabndhknhkeaaGreatDoor
