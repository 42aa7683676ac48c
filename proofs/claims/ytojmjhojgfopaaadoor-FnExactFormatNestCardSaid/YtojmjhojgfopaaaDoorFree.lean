/-
  NewTable of the program.
-/
import Derived.Test.YtojmjhojgfopaaaDoorBase
import Derived.Test.YtojmjhojgfopaaaDoorRepeat
namespace Go.Proofs.YtojmjhojgfopaaaDoor
open Go.RowKit
end Go.Proofs.YtojmjhojgfopaaaDoor
