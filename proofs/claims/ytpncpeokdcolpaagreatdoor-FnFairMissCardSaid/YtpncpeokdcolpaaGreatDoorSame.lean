/-
  SameTable, of the program and of the model.
-/
import Derived.Test.YtpncpeokdcolpaaGreatDoorBase
import Derived.Test.YtpncpeokdcolpaaGreatDoorShelf
namespace Go.Proofs.YtpncpeokdcolpaaGreatDoor
open Go.RowKit
/-- The same Times, Plus and slots. -/
def sameB (S T : Tab) : Bool := decide (S.t = T.t) && (decide (S.p = T.p) && decide (S.zs = T.zs))

end Go.Proofs.YtpncpeokdcolpaaGreatDoor
