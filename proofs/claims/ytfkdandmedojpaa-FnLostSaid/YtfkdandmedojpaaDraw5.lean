/-
  What chapter 1's draws make: l1Word, DrawHomeOf.
-/
import Derived.Test.YtfkdandmedojpaaDraw4
namespace Go.Proofs.Ytfkdandmedojpaa
open Go.RowKit
end Go.Proofs.Ytfkdandmedojpaa
