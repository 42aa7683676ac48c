/-
  The exact law of SameTable: the walk.
-/
import Derived.Test.YtdoodkdlfkekmaaGreatDoorLow
import Derived.Test.YtdoodkdlfkekmaaGreatDoorSame
import Derived.Test.YtdoodkdlfkekmaaGreatDoorBase
namespace Go.Proofs.YtdoodkdlfkekmaaGreatDoor
open Go.RowKit
end Go.Proofs.YtdoodkdlfkekmaaGreatDoor
