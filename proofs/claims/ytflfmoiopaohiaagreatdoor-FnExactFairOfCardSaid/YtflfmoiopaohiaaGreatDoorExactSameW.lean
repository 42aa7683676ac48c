/-
  The exact law of SameTable: the walk.
-/
import Derived.Test.YtflfmoiopaohiaaGreatDoorLow
import Derived.Test.YtflfmoiopaohiaaGreatDoorSame
import Derived.Test.YtflfmoiopaohiaaGreatDoorBase
namespace Go.Proofs.YtflfmoiopaohiaaGreatDoor
open Go.RowKit
end Go.Proofs.YtflfmoiopaohiaaGreatDoor
