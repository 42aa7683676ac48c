/-
  slices.Repeat at one integer, up to 16 times: a new row of so many.
-/
import Derived.Test.YtojmjhojgfopaaaDoorBase
import Derived.Test.YtojmjhojgfopaaaDoorShelf
namespace Go.Proofs.YtojmjhojgfopaaaDoor
open Go.RowKit
end Go.Proofs.YtojmjhojgfopaaaDoor
