/-
  The exact law of TableValid.
-/
import Derived.Test.YtohpacgpmkpeaaaEqT
namespace Go.Proofs.Ytohpacgpmkpeaaa
open Go.RowKit
end Go.Proofs.Ytohpacgpmkpeaaa
