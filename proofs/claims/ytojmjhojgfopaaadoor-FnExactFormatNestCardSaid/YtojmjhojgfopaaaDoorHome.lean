/-
  Homes: HomeOf, wrap, l1Home.
-/
import Derived.Test.YtojmjhojgfopaaaDoorHomeL
namespace Go.Proofs.YtojmjhojgfopaaaDoor
open Go.RowKit
end Go.Proofs.YtojmjhojgfopaaaDoor
