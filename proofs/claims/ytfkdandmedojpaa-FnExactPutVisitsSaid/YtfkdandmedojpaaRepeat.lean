/-
  slices.Repeat at one integer, up to 16 times: a new row of so many.
-/
import Derived.Test.YtfkdandmedojpaaRow
import Derived.Test.YtfkdandmedojpaaShelf
namespace Go.Proofs.Ytfkdandmedojpaa
open Go.RowKit
end Go.Proofs.Ytfkdandmedojpaa
