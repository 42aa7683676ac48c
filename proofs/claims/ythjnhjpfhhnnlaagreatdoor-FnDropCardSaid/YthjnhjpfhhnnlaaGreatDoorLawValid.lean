/-
  The exact law of TableValid.
-/
import Derived.Test.YthjnhjpfhhnnlaaGreatDoorEqT
namespace Go.Proofs.YthjnhjpfhhnnlaaGreatDoor
open Go.RowKit
end Go.Proofs.YthjnhjpfhhnnlaaGreatDoor
