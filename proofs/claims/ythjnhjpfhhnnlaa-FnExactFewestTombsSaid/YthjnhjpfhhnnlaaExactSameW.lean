/-
  The exact law of SameTable: the walk.
-/
import Derived.Test.YthjnhjpfhhnnlaaLawValid
import Derived.Test.YthjnhjpfhhnnlaaSame
import Derived.Test.YthjnhjpfhhnnlaaBase
namespace Go.Proofs.Ythjnhjpfhhnnlaa
open Go.RowKit
end Go.Proofs.Ythjnhjpfhhnnlaa
