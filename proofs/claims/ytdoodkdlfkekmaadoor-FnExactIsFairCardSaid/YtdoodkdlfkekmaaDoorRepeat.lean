/-
  slices.Repeat at one integer, up to 16 times: a new row of so many.
-/
import Derived.Test.YtdoodkdlfkekmaaDoorBase
import Derived.Test.YtdoodkdlfkekmaaDoorShelf
namespace Go.Proofs.YtdoodkdlfkekmaaDoor
open Go.RowKit
end Go.Proofs.YtdoodkdlfkekmaaDoor
