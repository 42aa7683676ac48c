/-
  The exact law of SameTable: the walk.
-/
import Derived.Test.YtohpacgpmkpeaaaLawValid
import Derived.Test.YtohpacgpmkpeaaaSame
import Derived.Test.YtohpacgpmkpeaaaSix
namespace Go.Proofs.Ytohpacgpmkpeaaa
open Go.RowKit
end Go.Proofs.Ytohpacgpmkpeaaa
