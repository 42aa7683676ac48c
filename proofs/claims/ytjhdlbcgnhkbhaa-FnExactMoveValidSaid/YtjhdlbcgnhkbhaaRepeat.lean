/-
  slices.Repeat at one integer, up to 16 times: a new row of so many.
-/
import Derived.Test.YtjhdlbcgnhkbhaaBase
import Derived.Test.YtjhdlbcgnhkbhaaShelf
namespace Go.Proofs.Ytjhdlbcgnhkbhaa
open Go.RowKit
end Go.Proofs.Ytjhdlbcgnhkbhaa
