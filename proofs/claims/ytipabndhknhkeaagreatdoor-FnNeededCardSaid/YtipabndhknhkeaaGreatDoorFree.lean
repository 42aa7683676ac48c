/-
  NewTable of the program.
-/
import Derived.Test.YtipabndhknhkeaaGreatDoorBase
import Derived.Test.YtipabndhknhkeaaGreatDoorRepeat
namespace Go.Proofs.YtipabndhknhkeaaGreatDoor
open Go.RowKit
end Go.Proofs.YtipabndhknhkeaaGreatDoor
