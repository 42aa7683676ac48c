/-
  The exact law of SameTable: the walk.
-/
import Derived.Test.YtfkdandmedojpaaLawValid
import Derived.Test.YtfkdandmedojpaaSame
import Derived.Test.YtfkdandmedojpaaSix
namespace Go.Proofs.Ytfkdandmedojpaa
open Go.RowKit
end Go.Proofs.Ytfkdandmedojpaa
