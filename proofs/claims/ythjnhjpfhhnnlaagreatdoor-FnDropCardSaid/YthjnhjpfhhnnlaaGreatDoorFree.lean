/-
  NewTable of the program.
-/
import Derived.Test.YthjnhjpfhhnnlaaGreatDoorBase
import Derived.Test.YthjnhjpfhhnnlaaGreatDoorRepeat
namespace Go.Proofs.YthjnhjpfhhnnlaaGreatDoor
open Go.RowKit
end Go.Proofs.YthjnhjpfhhnnlaaGreatDoor
