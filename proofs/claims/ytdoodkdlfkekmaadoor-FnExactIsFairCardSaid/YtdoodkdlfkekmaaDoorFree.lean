/-
  NewTable of the program.
-/
import Derived.Test.YtdoodkdlfkekmaaDoorBase
import Derived.Test.YtdoodkdlfkekmaaDoorRepeat
namespace Go.Proofs.YtdoodkdlfkekmaaDoor
open Go.RowKit
end Go.Proofs.YtdoodkdlfkekmaaDoor
