/-
  The exact law of SameTable: the walk.
-/
import Derived.Test.YthjnhjpfhhnnlaaGreatDoorLawValid
import Derived.Test.YthjnhjpfhhnnlaaGreatDoorSame
import Derived.Test.YthjnhjpfhhnnlaaGreatDoorBase
namespace Go.Proofs.YthjnhjpfhhnnlaaGreatDoor
open Go.RowKit
end Go.Proofs.YthjnhjpfhhnnlaaGreatDoor
