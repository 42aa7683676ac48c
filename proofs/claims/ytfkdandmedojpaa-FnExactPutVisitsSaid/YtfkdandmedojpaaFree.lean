/-
  NewTable of the program.
-/
import Derived.Test.YtfkdandmedojpaaFreeA
import Derived.Test.YtfkdandmedojpaaRepeat
namespace Go.Proofs.Ytfkdandmedojpaa
open Go.RowKit
end Go.Proofs.Ytfkdandmedojpaa
