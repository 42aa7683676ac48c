/-
  The exact law of TableValid.
-/
import Derived.Test.YtpbffdjiijpigaaEqT
namespace Go.Proofs.Ytpbffdjiijpigaa
open Go.RowKit
end Go.Proofs.Ytpbffdjiijpigaa
