/-
  The exact law of SameTable: the walk.
-/
import Derived.Test.YtpbffdjiijpigaaLawValid
import Derived.Test.YtpbffdjiijpigaaSame
import Derived.Test.YtpbffdjiijpigaaBase
namespace Go.Proofs.Ytpbffdjiijpigaa
open Go.RowKit
end Go.Proofs.Ytpbffdjiijpigaa
