/-
  slices.Repeat at one integer, up to 16 times: a new row of so many.
-/
import Derived.Test.YthjnhjpfhhnnlaaGreatDoorBase
import Derived.Test.YthjnhjpfhhnnlaaGreatDoorShelf
namespace Go.Proofs.YthjnhjpfhhnnlaaGreatDoor
open Go.RowKit
end Go.Proofs.YthjnhjpfhhnnlaaGreatDoor
