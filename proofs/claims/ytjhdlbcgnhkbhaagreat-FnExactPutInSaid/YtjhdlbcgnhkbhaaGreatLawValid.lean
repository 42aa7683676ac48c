/-
  The exact law of TableValid.
-/
import Derived.Test.YtjhdlbcgnhkbhaaGreatEqT
namespace Go.Proofs.YtjhdlbcgnhkbhaaGreat
open Go.RowKit
end Go.Proofs.YtjhdlbcgnhkbhaaGreat
