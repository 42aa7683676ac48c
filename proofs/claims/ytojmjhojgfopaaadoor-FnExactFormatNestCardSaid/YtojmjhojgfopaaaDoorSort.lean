/-
  l1Sort: keys in order, each once.
-/
import Derived.Test.YtojmjhojgfopaaaDoorDraw2
import Derived.Test.YtojmjhojgfopaaaDoorMath
namespace Go.Proofs.YtojmjhojgfopaaaDoor
open Go.RowKit
end Go.Proofs.YtojmjhojgfopaaaDoor
