/-
  What chapter 2 draws as arguments: DrawRunAt.
-/
import Derived.Test.YtpncpeokdcolpaaGreatDoorDraws2All
import Derived.Test.YtpncpeokdcolpaaGreatDoorBase
namespace Go.Proofs.YtpncpeokdcolpaaGreatDoor
open Go.RowKit
end Go.Proofs.YtpncpeokdcolpaaGreatDoor
