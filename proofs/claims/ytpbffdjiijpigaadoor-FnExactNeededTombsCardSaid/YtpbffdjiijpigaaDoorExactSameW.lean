/-
  The exact law of SameTable: the walk.
-/
import Derived.Test.YtpbffdjiijpigaaDoorLawValid
import Derived.Test.YtpbffdjiijpigaaDoorSame
import Derived.Test.YtpbffdjiijpigaaDoorBase
namespace Go.Proofs.YtpbffdjiijpigaaDoor
open Go.RowKit
end Go.Proofs.YtpbffdjiijpigaaDoor
