/-
  The exact law of TableValid.
-/
import Derived.Test.YtojmjhojgfopaaaDoorEqT
namespace Go.Proofs.YtojmjhojgfopaaaDoor
open Go.RowKit
end Go.Proofs.YtojmjhojgfopaaaDoor
