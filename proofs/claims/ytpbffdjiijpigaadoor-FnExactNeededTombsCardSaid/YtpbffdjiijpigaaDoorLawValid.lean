/-
  The exact law of TableValid.
-/
import Derived.Test.YtpbffdjiijpigaaDoorEqT
namespace Go.Proofs.YtpbffdjiijpigaaDoor
open Go.RowKit
end Go.Proofs.YtpbffdjiijpigaaDoor
