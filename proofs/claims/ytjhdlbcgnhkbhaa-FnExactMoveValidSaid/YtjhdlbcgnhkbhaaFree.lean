/-
  NewTable of the program.
-/
import Derived.Test.YtjhdlbcgnhkbhaaBase
import Derived.Test.YtjhdlbcgnhkbhaaRepeat
namespace Go.Proofs.Ytjhdlbcgnhkbhaa
open Go.RowKit
end Go.Proofs.Ytjhdlbcgnhkbhaa
