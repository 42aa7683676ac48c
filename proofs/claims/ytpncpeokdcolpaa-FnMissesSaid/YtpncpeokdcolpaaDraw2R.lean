/-
  What chapter 2 draws as arguments: DrawRunAt.
-/
import Derived.Test.YtpncpeokdcolpaaL2Draw
import Derived.Test.YtpncpeokdcolpaaBase
namespace Go.Proofs.Ytpncpeokdcolpaa
open Go.RowKit
end Go.Proofs.Ytpncpeokdcolpaa
