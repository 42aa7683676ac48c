/-
  The exact law of TableValid.
-/
import Derived.Test.YtfkdandmedojpaaEqT
namespace Go.Proofs.Ytfkdandmedojpaa
open Go.RowKit
end Go.Proofs.Ytfkdandmedojpaa
