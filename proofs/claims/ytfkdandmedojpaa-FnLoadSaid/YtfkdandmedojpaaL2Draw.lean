/-
  What chapter 2's draws make: l2Draw.
-/
import Derived.Test.YtfkdandmedojpaaSome2
import Derived.Test.YtfkdandmedojpaaDraw5
import Derived.Test.YtfkdandmedojpaaOpenC
namespace Go.Proofs.Ytfkdandmedojpaa
open Go.RowKit
end Go.Proofs.Ytfkdandmedojpaa
