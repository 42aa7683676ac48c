/-
  The exact law of TableValid.
-/
import Derived.Test.YtojmjhojgfopaaaEqT
namespace Go.Proofs.Ytojmjhojgfopaaa
open Go.RowKit
end Go.Proofs.Ytojmjhojgfopaaa
