/-
  What chapter 2's draws make: l2Draw.
-/
import Derived.Test.YtpncpeokdcolpaaSome2
import Derived.Test.YtpncpeokdcolpaaDraw5
import Derived.Test.YtpncpeokdcolpaaOpenC
namespace Go.Proofs.Ytpncpeokdcolpaa
open Go.RowKit
end Go.Proofs.Ytpncpeokdcolpaa
