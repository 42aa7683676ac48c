/-
  NewTable of the program.
-/
import Derived.Test.YtalehninmdcoeaaGreatDoorBase
import Derived.Test.YtalehninmdcoeaaGreatDoorRepeat
namespace Go.Proofs.YtalehninmdcoeaaGreatDoor
open Go.RowKit
end Go.Proofs.YtalehninmdcoeaaGreatDoor
