/-
  What chapter 1's draws make: l1Word, DrawHomeOf.
-/
import Derived.Test.YtpncpeokdcolpaaDraw4
namespace Go.Proofs.Ytpncpeokdcolpaa
open Go.RowKit
end Go.Proofs.Ytpncpeokdcolpaa
