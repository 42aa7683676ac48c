/-
  The exact law of TableValid.
-/
import Derived.Test.YtjhdlbcgnhkbhaaEqT
namespace Go.Proofs.Ytjhdlbcgnhkbhaa
open Go.RowKit
end Go.Proofs.Ytjhdlbcgnhkbhaa
