/-
  The exact law of TableValid.
-/
import Derived.Test.YthjnhjpfhhnnlaaEqT
namespace Go.Proofs.Ythjnhjpfhhnnlaa
open Go.RowKit
end Go.Proofs.Ythjnhjpfhhnnlaa
