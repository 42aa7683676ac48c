/-
  The exact law of TableValid.
-/
import Derived.Test.YtpncpeokdcolpaaEqT
namespace Go.Proofs.Ytpncpeokdcolpaa
open Go.RowKit
end Go.Proofs.Ytpncpeokdcolpaa
