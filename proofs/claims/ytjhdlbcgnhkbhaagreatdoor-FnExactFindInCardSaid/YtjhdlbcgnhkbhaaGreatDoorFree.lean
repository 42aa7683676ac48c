/-
  NewTable of the program.
-/
import Derived.Test.YtjhdlbcgnhkbhaaGreatDoorBase
import Derived.Test.YtjhdlbcgnhkbhaaGreatDoorRepeat
namespace Go.Proofs.YtjhdlbcgnhkbhaaGreatDoor
open Go.RowKit
end Go.Proofs.YtjhdlbcgnhkbhaaGreatDoor
